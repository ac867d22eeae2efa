/-
  HasInt of chapter 1's reference.
  loop.CheckBasin.
  The reference's Basin.
  loop.Basin.
  CheckPhase of the reference; Locks.
  The second of two errors.
  The reference's Locks.
  loop.falling.
  The reference's CheckRing.
  loop.CheckRing.
  The contract of bipole.bipoleref01.CheckRange.
  loop.Made: a new row, or the first error.
  The contract of bipole.check.Index.
  The contract of bipole.check.Range.
  The contract of bipole.whole.Remainder.
  Contracts: what is answered.
  Contracts: what is answered.
  THE SMALL WORLD: a loop that neither reads nor writes what lies below N goes the same way where tables are known there.
  A piece of code that leaves new blocks behind those that were there, as a step of each greater world.
  What closes the obligations of a way, told once.
-/
import Derived.Test.YtbkpnhbcihcgaaaGreatDoorGF2
import Derived.Test.YtbkpnhbcihcgaaaGreatDoorProg
section
set_option linter.all false
set_option maxRecDepth 1000000
open Go.RowKit
namespace Go.Proofs.YtbkpnhbcihcgaaaGreatDoor
open Mini
abbrev jl (l : List Value) (n : Nat) (r : List Value) : List Value := l ++ (List.replicate n (.chan none) ++ r)
abbrev GI := Nat → Nat → Int
theorem wnextK {i r : Nat} {k : Int} (h : (i : Int) + k = (r : Int)) (hb : (r : Int) ≤ 9223372036854775807) : Value.int .i64 (IntKind.i64.wrap (((i : Nat) : Int) + k)) = .int .i64 ((r : Nat) : Int) := by rw [h, IntWalk.i64_in _ (by omega)]
theorem wsubK {i r : Nat} {k : Int} (h : (i : Int) - k = (r : Int)) (hb : (r : Int) ≤ 9223372036854775807) : Value.int .i64 (IntKind.i64.wrap (((i : Nat) : Int) - k)) = .int .i64 ((r : Nat) : Int) := by rw [h, IntWalk.i64_in _ (by omega)]
theorem wsub1O {n : Nat} (h : 0 < n) (hn : (n : Int) ≤ 9223372036854775807) : IntKind.i64.wrap (((n : Nat) : Int) - (1 : Int)) = Int.ofNat (n - 1) := by rw [IntWalk.i64_in _ (by omega)]; show (n : Int) - 1 = ((n - 1 : Nat) : Int); omega
theorem kz {P : Prop} (h : P := by first | trivial | rfl | assumption | exact wnextK (by omega) (by omega) | exact wsubK (by omega) (by omega) | exact wsub1O (by omega) (by omega) | exact decide_eq_true (by omega) | exact decide_eq_false (by omega) | exact bne_iff_ne.2 (by assumption) | exact bne_eq_false_iff_eq.2 (by assumption) | exact beq_iff_eq.2 (by assumption) | exact beq_eq_false_iff_ne.2 (by assumption) | exact wnextW (by omega) | exact wsub1 (by omega) (by omega) | exact toNatO (by omega) | exact congrArg Bool.not (by assumption) | exact congrArg Bool.not (decide_eq_true (by omega)) | exact congrArg Bool.not (decide_eq_false (by omega)) | exact congrArg Bool.not (beq_iff_eq.2 (by assumption)) | exact congrArg Bool.not (beq_eq_false_iff_ne.2 (by assumption)) | exact beq_eq_false_iff_ne.2 (by omega) | exact beq_iff_eq.2 (by omega) | exact bne_iff_ne.2 (by omega) | exact bne_eq_false_iff_eq.2 (by omega) | omega) : P := h
theorem kq {P : Prop} (h : P := by
    repeat' (first | (with_reducible assumption) | exact (fun _ _ _ _ => rfl) | apply And.intro)
    all_goals exact kz) : P := h
theorem kr {P : Prop} (h : P := by
    repeat' (first | rfl | exact rows_nrm (fun i j hi hj => push_told hi hj) | exact rows_nrm (fun i j hi hj => set_told) | exact rows_nrm (fun i j hi hj => rfl) | refine congr (congrArg List.cons ?_) ?_)) : P := h
def KL (f : Nat → Bool) : List MObj → Prop
  | [] => True
  | o :: r => keepO f o ∧ KL f r
theorem KL.mem {f : Nat → Bool} : ∀ {L : List MObj}, KL f L → ∀ o, o ∈ L → keepO f o
  | [], _, o, ho => by cases ho
  | p :: r, h, o, ho => by
    rcases List.mem_cons.1 ho with rfl | ho
    · exact h.1
    · exact KL.mem h.2 o ho
theorem kF {f : FuncId} {fn : Func} {c : Code} {X : CallS} {args : Array Value} {v : Value} {L L2 : List MObj} {l : List Tok} {OB : Prop} {ms : List Nat} (hX : FOkS Tryz.prog X)
    (h : seenF' Tryz.prog fn 6 L.length ms (evK Tryz.prog X 1000 false c (startM fn args) (wS 6 L) ⟨l, True⟩) = some (v, L ++ L2, ⟨[], OB⟩)) (ho : OB) (hf : Tryz.prog.funcs[f]? = some fn := by kernel_rfl) (hb : fn.body = some c := by kernel_rfl) (ha : args.toList.all (keepB (below (6 + L.length)) 8) = true := by kernel_rfl)
    (hk : KL (below (6 + L.length)) L := by repeat' (first | exact trivial | rfl | exact fun i j => rfl | apply And.intro)) (hk2 : KL (below (6 + L.length + L2.length)) L2 := by repeat' (first | exact trivial | rfl | exact fun i j => rfl | apply And.intro)) (hv : keepB (below (6 + L.length + L2.length)) 8 v = true := by kernel_rfl) :
    SndF Tryz.prog f args (wS 6 L) v (wS 6 (L ++ L2)) ((2 ^ L.length - 1) * 2 ^ 6) 0 :=
  sndF_K (by kernel_rfl) hX (by kernel_rfl) hf hb h ho ha hk.mem hk2.mem hv
end Go.Proofs.YtbkpnhbcihcgaaaGreatDoor
end
section
namespace Go.Proofs.YtbkpnhbcihcgaaaGreatDoor
set_option linter.all false
namespace Mini
variable {P : Program} {rd : Option Nat} {s s1 s2 : St} {R W W1 W2 B B1 B2 : Nat}
theorem KT.snd2 {T : Tr} {a a2 : MA} {e : Exit} {N : Nat} {L L2 : List MObj} (h : KT P none T a.act (wS N L) e a2.act (wS N (L ++ L2)) B W) (hN : N = P.globals.size) (hB : N + L.length ≤ B) (hW : ∀ b, b < N + L.length → W.testBit b = false) (hd : a.defers = []) (hd2 : a2.defers = [])
    (hA : allKeep (N + L.length) a a.n = true) (hA2 : allKeep (N + L.length + L2.length) a2 a2.n = true) (hk : ∀ o, o ∈ L → keepO (below (N + L.length)) o) (hk2 : ∀ o, o ∈ L2 → keepO (below (N + L.length + L2.length)) o) : Snd P none T a.act (wS N L) e a2.act (wS N (L ++ L2)) ((2 ^ L.length - 1) * 2 ^ N) 0 := by
  have hn1 : (wS N L).next = N + L.length := wS_next N L
  have hR : ∀ b, N ≤ b → b < N + L.length → ((2 ^ L.length - 1) * 2 ^ N).testBit b = true := fun b h1 hb => by
    rw [Nat.testBit_mul_two_pow, Nat.testBit_two_pow_sub_one]
    simp only [Bool.and_eq_true, decide_eq_true_eq]
    omega
  have hn2 : (wS N (L ++ L2)).next = N + L.length + L2.length := by rw [wS_next, List.length_append]; omega
  have hold : ∀ b, b < N + L.length → (wS N (L ++ L2)).get b = (wS N L).get b := fun b hb => by
    rcases Nat.lt_or_ge b N with c | c
    · rw [wS_low _ _ c, wS_low _ _ c]
    · rw [show b = N + (b - N) from by omega, wS_get, wS_get, getD_app, if_pos (by omega)]
  refine ⟨⟨by rw [hn1, hn2]; omega, fun b hb _ => hold b (by rw [hn1] at hb; exact hb)⟩, fun n ro ρ C a' w Q hp har hQ => ?_⟩
  have hro : ro = none := by
    have := hp.round
    cases ro with
    | none => rfl
    | some x => exact this.elim
  let ρ0 : Ren := fun b => if b < N + L.length then ρ b else none
  have hρ0 : ∀ b, b < N + L.length → ρ0 b = ρ b := fun b hb => if_pos hb
  have hid : RenOk (fun b b' => b = b' ∧ b < N + L.length) ρ ρ0 := fun b b' M hb hM => by
    obtain ⟨rfl, hlt⟩ := hb
    rw [hρ0 b hlt]; exact hM
  have hNb0 : ∀ b, (wS N L).get b ≠ .hole → N ≤ b := fun b hb => by
    rcases Nat.lt_or_ge b N with c | c
    · exact absurd (wS_low N L c) hb
    · exact c
  have hCs : ∀ b, N ≤ b → b < N + L.length → C b = (wS N L).get b := fun b h1 hb => hp.agree b (by rw [or_bit, hR b h1 hb]; rfl) (by rw [hn1]; exact hb)
  have self : ∀ {m : Nat} {x : MA}, x.defers = [] → allKeep m x x.n = true → WA (fun b b' => b = b' ∧ b < m) x.act x.act := fun {m x} hx hk => wa_of rfl hx hx fun t ht => keep_wv (fun b hb => ⟨rfl, Nat.le_of_ble_eq_true hb⟩) 8 (allKeep_at hk ht)
  have hsim : Sim P none ρ0 a.act (wS N L) ro a' w := by
    refine ⟨fun g hg => ?_, by rw [hro]; trivial, fun b hb => if_neg (by rw [hn1] at hb; omega), ⟨fun b hb => ?_, fun b b' L1 L1' h1 h2 hq e1 e2 he => ?_⟩, (self hd hA).ar hid har⟩
    · obtain ⟨M, h1, h2⟩ := hp.glob g hg
      exact ⟨M, by rw [hρ0 g (by omega)]; exact h1, h2⟩
    · have hlt := St.lt_of_live hb
      rw [hn1] at hlt
      have hNb := hNb0 b hb
      have hne : C b ≠ .hole := by rw [hCs b hNb hlt]; exact hb
      obtain ⟨M, o', q1, q2, q3⟩ := hp.rel.1 b hne
      refine ⟨M, o', by rw [hρ0 b hlt]; exact q1, q2, ?_⟩
      rw [hCs b hNb hlt] at q3
      have hko : keepO (below (N + L.length)) ((wS N L).get b) := by
        rw [show b = N + (b - N) from by omega, wS_get]
        exact hk _ (getD_mem (by omega))
      exact (keep_wo (f := fun b b' => b = b' ∧ b < N + L.length) (fun b hb => ⟨rfl, Nat.le_of_ble_eq_true hb⟩) hko).2.2 ρ ρ0 hid M o' q3
    · have l1 := St.lt_of_live h1
      have l2 := St.lt_of_live h2
      rw [hn1] at l1 l2
      rw [hρ0 b l1] at e1
      rw [hρ0 b' l2] at e2
      exact hp.rel.2 b b' L1 L1' (by rw [hCs b (hNb0 b h1) l1]; exact h1) (by rw [hCs b' (hNb0 b' h2) l2]; exact h2) (by rw [hCs b (hNb0 b h1) l1, hCs b' (hNb0 b' h2) l2]; exact hq) e1 e2 he
  refine h n ro ρ0 a' w Q hsim fun ρ2 a2' w2 l2 s2' => ?_
  let ρ1 : Ren := fun b => if N + L.length ≤ b ∧ b < N + L.length + L2.length then ρ2 b else ρ b
  have hin : ∀ b, N + L.length ≤ b → b < N + L.length + L2.length → ρ1 b = ρ2 b := fun b h1 h2 => if_pos ⟨h1, h2⟩
  have hout : ∀ b, ¬ (N + L.length ≤ b ∧ b < N + L.length + L2.length) → ρ1 b = ρ b := fun b h1 => if_neg h1
  have h31 : ∀ b, b < N + L.length + L2.length → ρ1 b = ρ2 b := fun b hlt => by
    by_cases c : N + L.length ≤ b
    · exact hin b c hlt
    · rw [hout b (by omega), l2.keep b (by omega), hρ0 b (by omega)]
  have hid2 : RenOk (fun b b' => b = b' ∧ b < N + L.length + L2.length) ρ2 ρ1 := fun b b' M hb hM => by
    obtain ⟨rfl, hlt⟩ := hb
    rw [h31 b hlt]; exact hM
  have hframe : ∀ x, x < w.heap.size → w2.heap[x]? = w.heap[x]? := fun x hx => l2.frame x hx fun b M hb hlt _ => by
    rw [hn1] at hlt
    rw [hW b hlt] at hb; cases hb
  have hfree : ∀ b, N + L.length ≤ b → b < N + L.length + L2.length → ρ b = none ∧ C b = .hole := fun b h1 h2 => hp.free b (by rw [hn1]; exact h1) (by rw [hn2]; exact h2)
  have hnew : ∀ b M, N + L.length ≤ b → b < N + L.length + L2.length → ρ1 b = some M → w.heap.size ≤ M.blk := fun b M h1 h2 hM => by
    rw [hin b h1 h2] at hM
    rcases l2.fresh b M (by
      rcases Nat.lt_or_ge b B with c | c
      · rw [l2.keep b c, show ρ0 b = none from if_neg (by omega)] at hM; cases hM
      · exact c) hM with k | ⟨b0, L0, k1, k2, _⟩
    · exact k
    · rw [hn1] at k2
      rw [hW b0 k2] at k1; cases k1
  have hsub : ρ.le ρ1 := fun b M hM => by
    by_cases c : N + L.length ≤ b ∧ b < N + L.length + L2.length
    · rw [(hfree b c.1 c.2).1] at hM; cases hM
    · rw [hout b c]; exact hM
  have hpost : Post ρ (wS N L) (wS N (L ++ L2)) 0 w ρ1 w2 := by
    refine ⟨hsub, fun b hb => ?_, fun b M h1 h2 => ?_, l2.size, fun x hx _ => hframe x hx, l2.os, l2.tape, l2.output⟩
    · rw [hn1, hn2]
      by_cases c : N + L.length ≤ b ∧ b < N + L.length + L2.length
      · exact c
      · exact absurd (hout b c) hb
    · by_cases c : N + L.length ≤ b ∧ b < N + L.length + L2.length
      · exact .inl (hnew b M c.1 c.2 h2)
      · rw [hout b c, h1] at h2; cases h2
  have hupd : ∀ b, upd C (wS N L) (wS N (L ++ L2)) 0 b = if N + L.length ≤ b ∧ b < N + L.length + L2.length then (wS N (L ++ L2)).get b else C b := fun b => by
    unfold upd
    rw [hn1, hn2]
    by_cases c : N + L.length ≤ b ∧ b < N + L.length + L2.length
    · rw [if_pos (.inl c), if_pos c]
    · rw [if_neg (by rintro (k | k); exact c k; simp at k), if_neg c]
  have hwo : ∀ b, N + L.length ≤ b → b < N + L.length + L2.length → ∀ M o', OR ρ2 M ((wS N (L ++ L2)).get b) o' → OR ρ1 M ((wS N (L ++ L2)).get b) o' := fun b h1 h2 M o' ho' => by
    have hko : keepO (below (N + L.length + L2.length)) ((wS N (L ++ L2)).get b) := by
      rw [show b = N + (b - N) from by omega, wS_get, getD_app, if_neg (by omega)]
      exact hk2 _ (getD_mem (by omega))
    exact (keep_wo (f := fun b b' => b = b' ∧ b < N + L.length + L2.length) (fun b hb => ⟨rfl, Nat.le_of_ble_eq_true hb⟩) hko).2.2 ρ2 ρ1 hid2 M o' ho'
  have hrel : WRel ρ1 (upd C (wS N L) (wS N (L ++ L2)) 0) w2 := by
    refine ⟨fun b hb => ?_, fun b b' M M' h1 h2 hq e1 e2 he => ?_⟩
    · rw [hupd b] at hb ⊢
      by_cases c : N + L.length ≤ b ∧ b < N + L.length + L2.length
      · rw [if_pos c] at hb ⊢
        obtain ⟨M, o', q1, q2, q3⟩ := s2'.rel.1 b hb
        exact ⟨M, o', by rw [hin b c.1 c.2]; exact q1, q2, hwo b c.1 c.2 M o' q3⟩
      · rw [if_neg c] at hb ⊢
        obtain ⟨M, o', q1, q2, q3⟩ := hp.rel.1 b hb
        exact ⟨M, o', by rw [hout b c]; exact q1, (hframe _ (Array.getElem?_eq_some_iff.1 q2).1).trans q2, q3.mono hsub⟩
    · rw [hupd b] at h1 hq
      rw [hupd b'] at h2 hq
      by_cases c : N + L.length ≤ b ∧ b < N + L.length + L2.length
      · rw [if_pos c] at h1 hq
        by_cases c' : N + L.length ≤ b' ∧ b' < N + L.length + L2.length
        · rw [if_pos c'] at h2 hq
          rw [hin b c.1 c.2] at e1
          rw [hin b' c'.1 c'.2] at e2
          exact s2'.rel.2 b b' M M' h1 h2 hq e1 e2 he
        · rw [if_neg c'] at h2
          rw [hout b' c'] at e2
          have h3 := hnew b M c.1 c.2 e1
          obtain ⟨M2, o', q1, q2, q3⟩ := hp.rel.1 b' h2
          rw [e2] at q1
          cases q1
          have := (Array.getElem?_eq_some_iff.1 q2).1
          omega
      · rw [if_neg c] at h1 hq
        rw [hout b c] at e1
        by_cases c' : N + L.length ≤ b' ∧ b' < N + L.length + L2.length
        · rw [if_pos c'] at h2
          have h3 := hnew b' M' c'.1 c'.2 e2
          obtain ⟨M2, o', q1, q2, q3⟩ := hp.rel.1 b h1
          rw [e1] at q1
          cases q1
          have := (Array.getElem?_eq_some_iff.1 q2).1
          omega
        · rw [if_neg c'] at h2 hq
          rw [hout b' c'] at e2
          exact hp.rel.2 b b' M M' h1 h2 hq e1 e2 he
  exact hQ ρ1 a2' w2 hpost hrel ((self hd2 hA2).ar hid2 s2'.ar)
end Mini
end Go.Proofs.YtbkpnhbcihcgaaaGreatDoor
end
section
namespace Go.Proofs.YtbkpnhbcihcgaaaGreatDoor
set_option linter.all false
namespace Mini
variable {P : Program} {R : Nat}
theorem wT_get (T l : List MObj) {b : Nat} (h : T.length ≤ b) : (wS 0 (T ++ l)).get b = (wS T.length l).get b := by
  have e1 := wS_get 0 (T ++ l) b
  have e2 := wS_get T.length l (b - T.length)
  rw [Nat.zero_add] at e1
  rw [show T.length + (b - T.length) = b from by omega] at e2
  rw [e1, e2]
  simp only [List.getD_eq_getElem?_getD]
  rw [List.getElem?_append_right h]
def keepN (B : Nat) : Nat → Option Nat := fun b => if b < B then some b else none
theorem keepN_some {B b x : Nat} (h : keepN B b = some x) : b < B ∧ x = b := by
  unfold keepN at h
  split at h
  · rename_i hc; cases h; exact ⟨hc, rfl⟩
  · cases h
theorem keepN_lt {B b : Nat} (h : b < B) : keepN B b = some b := if_pos h
theorem Snd.tabs {tr : Tr} {A A1 : MA} {e : Exit} {T l0 l1 : List MObj} (hN : T.length = P.globals.size) (h : Snd P none tr A.act (wS T.length l0) e A1.act (wS T.length l1) R 0) (hl : l0.length ≤ l1.length)
    (hR : ∀ b, b < T.length → R.testBit b = false) (h0 : ∀ o, o ∈ l0 → keepO (below (T.length + l0.length)) o) (hk1 : ∀ o, o ∈ l1 → keepO (below (T.length + l1.length)) o) (hd : A.defers = []) (hd1 : A1.defers = [])
    (hA : allKeep (T.length + l0.length) A A.n = true) (hA1 : allKeep (T.length + l1.length) A1 A1.n = true) : Snd P none tr A.act (wS 0 (T ++ l0)) e A1.act (wS 0 (T ++ l1)) R 0 := by
  have hst := h.1
  have n0 : (wS T.length l0).next = T.length + l0.length := wS_next _ _
  have n1 : (wS T.length l1).next = T.length + l1.length := wS_next _ _
  have m0 : (wS 0 (T ++ l0)).next = T.length + l0.length := by rw [wS_next, List.length_append]; omega
  have m1 : (wS 0 (T ++ l1)).next = T.length + l1.length := by rw [wS_next, List.length_append]; omega
  have hb0 : ∀ {B b : Nat}, below B b = true → b < B := fun h => Nat.le_of_ble_eq_true h
  refine h.embed (ι := id) (κ := keepN (T.length + l1.length)) ⟨fun g hg => ⟨by rw [n0]; omega, rfl⟩, fun b hb => by rw [m0]; rw [n0] at hb; exact hb, fun b b' _ _ h => h, fun b _ h => h, fun b _ hw => by simp at hw, fun b hb hbit => ?_, ⟨by rw [m0, m1]; omega, fun b hb hw => ?_⟩, fun b hb => ?_, fun b x hb hx => ?_, fun b b' x h1 h2 => ?_, fun x hx hxw => by simp at hxw, fun x h1 h2 => ?_⟩ (.inl ⟨rfl, rfl⟩) ?_ ?_
  · have hb2 : T.length ≤ b := by
      rcases Nat.lt_or_ge b T.length with c | c
      · rw [or_bit, hR b c] at hbit; simp at hbit
      · exact c
    show WO _ ((wS 0 (T ++ l0)).get b) _
    rw [wT_get T l0 hb2]
    refine keep_wo (N := below (T.length + l0.length)) (fun x hx => ⟨by rw [n0]; exact hb0 hx, rfl⟩) ?_
    have e2 := wS_get T.length l0 (b - T.length)
    rw [show T.length + (b - T.length) = b from by omega] at e2
    rw [e2]
    exact h0 _ (getD_mem (by rw [n0] at hb; omega))
  · rw [m0] at hb
    rcases Nat.lt_or_ge b T.length with c | c
    · have e1 := wS_get 0 (T ++ l0) b
      have e2 := wS_get 0 (T ++ l1) b
      rw [Nat.zero_add] at e1 e2
      rw [e1, e2]
      simp only [List.getD_eq_getElem?_getD]
      rw [List.getElem?_append_left c, List.getElem?_append_left c]
    · rw [wT_get T l0 c, wT_get T l1 c]
      exact hst.2 b (by rw [n0]; exact hb) (by simp)
  · rw [n0] at hb
    exact keepN_lt (by omega)
  · rw [n0] at hb
    obtain ⟨hc, rfl⟩ := keepN_some hx
    exact ⟨by rw [m0]; exact hb, by rw [m1]; exact hc⟩
  · rw [← (keepN_some h1).2, ← (keepN_some h2).2]
  · rw [m0] at h1
    rw [m1] at h2
    refine .inr ⟨x, by rw [n0]; exact h1, by rw [n1]; exact h2, keepN_lt h2, ?_⟩
    rw [wT_get T l1 (by omega)]
    refine keep_wo (N := below (T.length + l1.length)) (fun y hy => keepN_lt (hb0 hy)) ?_
    have e2 := wS_get T.length l1 (x - T.length)
    rw [show T.length + (x - T.length) = x from by omega] at e2
    rw [e2]
    exact hk1 _ (getD_mem (by omega))
  · exact (fits_self hd hA).wa (fun x hx => ⟨by rw [n0]; exact hb0 hx, rfl⟩)
  · exact (fits_self hd1 hA1).wa (fun x hx => keepN_lt (hb0 hx))
end Mini
end Go.Proofs.YtbkpnhbcihcgaaaGreatDoor
end
section
set_option linter.all false
set_option maxRecDepth 1000000
open Go.RowKit
namespace Go.Proofs.YtbkpnhbcihcgaaaGreatDoor
open Mini
theorem gsz : Tryz.prog.globals.size = 6 := by kernel_rfl
theorem gfol : Tryz.prog.follows .mixedOrders = true := by kernel_rfl
theorem bl (w : World) : Holds Tryz.prog (noTabs 6) w := gsz ▸ noTabs_holds w

def ixE (a n : Int) : Int := if a < 0 ∨ n ≤ a then 10 else 0

def c_range : Con := ⟨96, [.int .i64, .int .i64, .int .i64], fun ns => match ns with | [n, lo, hi] => .int .i64 (Pl.cr n lo hi) | _ => .bool true, fun ns => match ns with | [n, lo, hi] => True | _ => True⟩
def c_rrange : Con := ⟨20, [.int .i64, .int .i64, .int .i64], fun ns => match ns with | [n, lo, hi] => .int .i64 (Pl.cr n lo hi) | _ => .bool true, fun ns => match ns with | [n, lo, hi] => True | _ => True⟩
def c_index : Con := ⟨103, [.int .i64, .int .i64], fun ns => match ns with | [a, n] => .int .i64 (ixE a n) | _ => .bool true, fun ns => match ns with | [a, n] => True | _ => True⟩
noncomputable def x_range : CallS := kAll []
noncomputable def range_e0 (n lo hi : Int) : Option OutS := evFS Tryz.prog x_range 1000 96 #[.int .i64 n, .int .i64 lo, .int .i64 hi] (noTabs 6) ⟨[1, 1, 1, 0, 1], True⟩
noncomputable def range_e1 (n lo hi : Int) : Option OutS := evFS Tryz.prog x_range 1000 96 #[.int .i64 n, .int .i64 lo, .int .i64 hi] (noTabs 6) ⟨[1, 1, 1, 0, 0], True⟩
noncomputable def range_e2 (n lo hi : Int) : Option OutS := evFS Tryz.prog x_range 1000 96 #[.int .i64 n, .int .i64 lo, .int .i64 hi] (noTabs 6) ⟨[0, 0, 0, 1, 1], True⟩
noncomputable def x_rrange : CallS := kAll []
noncomputable def rrange_e0 (n lo hi : Int) : Option OutS := evFS Tryz.prog x_rrange 1000 20 #[.int .i64 n, .int .i64 lo, .int .i64 hi] (noTabs 6) ⟨[0, 0, 0, 1, 1], True⟩
noncomputable def rrange_e1 (n lo hi : Int) : Option OutS := evFS Tryz.prog x_rrange 1000 20 #[.int .i64 n, .int .i64 lo, .int .i64 hi] (noTabs 6) ⟨[1, 1, 1, 0, 1], True⟩
noncomputable def rrange_e2 (n lo hi : Int) : Option OutS := evFS Tryz.prog x_rrange 1000 20 #[.int .i64 n, .int .i64 lo, .int .i64 hi] (noTabs 6) ⟨[1, 1, 1, 0, 0], True⟩
noncomputable def x_index : CallS := kAll []
noncomputable def index_e0 (a n : Int) : Option OutS := evFS Tryz.prog x_index 1000 103 #[.int .i64 a, .int .i64 n] (noTabs 6) ⟨[1, 1, 1, 0, 1], True⟩
noncomputable def index_e1 (a n : Int) : Option OutS := evFS Tryz.prog x_index 1000 103 #[.int .i64 a, .int .i64 n] (noTabs 6) ⟨[0, 0, 0, 1, 1], True⟩
noncomputable def index_e2 (a n : Int) : Option OutS := evFS Tryz.prog x_index 1000 103 #[.int .i64 a, .int .i64 n] (noTabs 6) ⟨[1, 1, 1, 0, 0], True⟩
end Go.Proofs.YtbkpnhbcihcgaaaGreatDoor
end
section
set_option linter.all false
set_option maxRecDepth 1000000
open Go.RowKit
namespace Go.Proofs.YtbkpnhbcihcgaaaGreatDoor
open Mini

theorem wi (x : Int) (h : -9223372036854775808 ≤ x ∧ x ≤ 9223372036854775807) : IntKind.i64.wrap x = x := IntWalk.i64_in _ (by omega)
theorem rem_eq (a n : Int) (h : 0 < n) : (a.tmod n + n).tmod n = a % n := by
  have h1 := Int.tmod_lt_of_pos a h
  have h2 := Int.lt_tmod_of_pos a h
  rw [Int.tmod_eq_emod_of_nonneg (by omega)]
  have h3 := Int.tmod_eq_emod (a := a) (b := n)
  rw [Int.add_emod_right]
  split at h3
  · rw [h3]; simp
  · rw [h3, show ((n.natAbs : Nat) : Int) = n from Int.natAbs_of_nonneg (by omega)]
    rw [← Int.add_emod_right (a % n - n) n, Int.sub_add_cancel, Int.emod_emod_of_dvd _ (Int.dvd_refl n)]

def c_rem : Con := ⟨106, [.int .i64, .int .i64], fun ns => match ns with | [a, n] => .int .i64 (a % n) | _ => .bool true, fun ns => match ns with | [a, n] => 0 < n ∧ n ≤ 1000000000 | _ => True⟩
noncomputable def x_rem : CallS := kAll []
noncomputable def rem_e0 (a n : Int) : Option OutS := evFS Tryz.prog x_rem 1000 106 #[.int .i64 a, .int .i64 n] (noTabs 6) ⟨[], True⟩
end Go.Proofs.YtbkpnhbcihcgaaaGreatDoor
end
section
set_option linter.all false
set_option maxRecDepth 1000000
set_option maxHeartbeats 2000000
open Go.RowKit
namespace Go.Proofs.YtbkpnhbcihcgaaaGreatDoor
open Mini

def rem_val (a n : Int) : Value := .int .i64 (a % n)
theorem rem_X : FOkS Tryz.prog x_rem := noXS_ok
theorem rem_args (a n : Int) : (#[.int .i64 a, .int .i64 n] : Array Value).toList.all (ground 8) = true := by kernel_rfl
def rem_c0 (a n : Int) : Bool := (n == (0 : Int))
def rem_w0 (a n : Int) : Value := .int .i64 (Int.tmod (IntKind.i64.wrap ((Int.tmod a n) + n)) n)
def rem_r0 (a n : Int) : Prop := ((True ∧ (rem_c0 a n = false)) ∧ (rem_c0 a n = false))
theorem rem_o0 (a n : Int) : obOf (rem_e0 a n) = rem_r0 a n := by kernel_rfl
theorem rem_v0 (a n : Int) : resOf (rem_e0 a n) = rem_w0 a n := by kernel_rfl
theorem rem_k0 (a n : Int) : cleanOf Tryz.prog.globals.size (rem_e0 a n) = true := by kernel_rfl
theorem rem_q0 (a n : Int) : rem_e0 a n = evFS Tryz.prog x_rem 1000 106 #[.int .i64 a, .int .i64 n] (noTabs 6) ⟨[], True⟩ := by
  delta rem_e0
  exact Eq.refl _
theorem rem_p0 (a n : Int) (h : rem_r0 a n) (w : World) : Calls Tryz.prog 106 #[.int .i64 a, .int .i64 n] w fun en w' => en = .returned (rem_w0 a n) ∧ Below w.heap.size w w' := by
  have hv := rem_v0 a n
  have hc := rem_k0 a n
  have he := rem_q0 a n
  have ho := rem_o0 a n
  generalize rem_e0 a n = r at *
  exact calls_way he gfol rem_X hv rfl (rem_args a n) hc ho h (bl w)
theorem rem_any (a n : Int) (hpre : 0 < n ∧ n ≤ 1000000000) (w : World) : Calls Tryz.prog 106 #[.int .i64 a, .int .i64 n] w fun en w' => en = .returned (rem_val a n) ∧ Below w.heap.size w w' := by
  have h1 := Int.tmod_lt_of_pos a hpre.1
  have h2 := Int.lt_tmod_of_pos a hpre.1
  have h0 : (rem_c0 a n = false) := by
    unfold rem_c0
    first | rfl | trivial | (simp; omega)
  unfold rem_c0 at h0
  have hp := rem_p0 a n ⟨⟨trivial, h0⟩, h0⟩ w
  have hv : rem_w0 a n = (rem_val a n) := by
    clear hp
    unfold rem_w0 rem_val
    rw [wi _ (by omega), rem_eq a n hpre.1]
  exact hv ▸ hp
theorem k_rem : ConOk Tryz.prog c_rem := fun ns hl => by
  have hl0 : ns.length = 2 := hl
  clear hl
  obtain ⟨a, ns0, rfl, hl1⟩ := len_cons hl0
  obtain ⟨n, ns1, rfl, hl2⟩ := len_cons hl1
  obtain rfl := len_nil hl2
  exact ⟨rfl, fun h w => rem_any a n h w⟩
end Go.Proofs.YtbkpnhbcihcgaaaGreatDoor
end
section
set_option linter.all false
set_option maxRecDepth 1000000
set_option maxHeartbeats 2000000
open Go.RowKit
namespace Go.Proofs.YtbkpnhbcihcgaaaGreatDoor
open Mini

def range_val (n lo hi : Int) : Value := .int .i64 (Pl.cr n lo hi)
theorem range_X : FOkS Tryz.prog x_range := noXS_ok
theorem range_args (n lo hi : Int) : (#[.int .i64 n, .int .i64 lo, .int .i64 hi] : Array Value).toList.all (ground 8) = true := by kernel_rfl
def range_c0 (n lo hi : Int) : Bool := (decide (n < lo))
def range_c1 (n lo hi : Int) : Bool := (decide (n > hi))
theorem range_g4 : (true = true) := by first | rfl | trivial | decide | omega
def range_w0 (n lo hi : Int) : Value := .int .i64 (3 : Int)
def range_r0 (n lo hi : Int) : Prop := (((((True ∧ (range_c0 n lo hi = false)) ∧ (range_c0 n lo hi = false)) ∧ (range_c0 n lo hi = false)) ∧ (range_c0 n lo hi = false)) ∧ (range_c1 n lo hi = true))
theorem range_o0 (n lo hi : Int) : obOf (range_e0 n lo hi) = range_r0 n lo hi := by kernel_rfl
theorem range_v0 (n lo hi : Int) : resOf (range_e0 n lo hi) = range_w0 n lo hi := by kernel_rfl
theorem range_k0 (n lo hi : Int) : cleanOf Tryz.prog.globals.size (range_e0 n lo hi) = true := by kernel_rfl
theorem range_q0 (n lo hi : Int) : range_e0 n lo hi = evFS Tryz.prog x_range 1000 96 #[.int .i64 n, .int .i64 lo, .int .i64 hi] (noTabs 6) ⟨[1, 1, 1, 0, 1], True⟩ := by
  delta range_e0
  exact Eq.refl _
theorem range_p0 (n lo hi : Int) (h : range_r0 n lo hi) (w : World) : Calls Tryz.prog 96 #[.int .i64 n, .int .i64 lo, .int .i64 hi] w fun en w' => en = .returned (range_w0 n lo hi) ∧ Below w.heap.size w w' := by
  have hv := range_v0 n lo hi
  have hc := range_k0 n lo hi
  have he := range_q0 n lo hi
  have ho := range_o0 n lo hi
  generalize range_e0 n lo hi = r at *
  exact calls_way he gfol range_X hv rfl (range_args n lo hi) hc ho h (bl w)
def range_w1 (n lo hi : Int) : Value := .int .i64 (0 : Int)
def range_r1 (n lo hi : Int) : Prop := (((((True ∧ (range_c0 n lo hi = false)) ∧ (range_c0 n lo hi = false)) ∧ (range_c0 n lo hi = false)) ∧ (range_c0 n lo hi = false)) ∧ (range_c1 n lo hi = false))
theorem range_o1 (n lo hi : Int) : obOf (range_e1 n lo hi) = range_r1 n lo hi := by kernel_rfl
theorem range_v1 (n lo hi : Int) : resOf (range_e1 n lo hi) = range_w1 n lo hi := by kernel_rfl
theorem range_k1 (n lo hi : Int) : cleanOf Tryz.prog.globals.size (range_e1 n lo hi) = true := by kernel_rfl
theorem range_q1 (n lo hi : Int) : range_e1 n lo hi = evFS Tryz.prog x_range 1000 96 #[.int .i64 n, .int .i64 lo, .int .i64 hi] (noTabs 6) ⟨[1, 1, 1, 0, 0], True⟩ := by
  delta range_e1
  exact Eq.refl _
theorem range_p1 (n lo hi : Int) (h : range_r1 n lo hi) (w : World) : Calls Tryz.prog 96 #[.int .i64 n, .int .i64 lo, .int .i64 hi] w fun en w' => en = .returned (range_w1 n lo hi) ∧ Below w.heap.size w w' := by
  have hv := range_v1 n lo hi
  have hc := range_k1 n lo hi
  have he := range_q1 n lo hi
  have ho := range_o1 n lo hi
  generalize range_e1 n lo hi = r at *
  exact calls_way he gfol range_X hv rfl (range_args n lo hi) hc ho h (bl w)
def range_w2 (n lo hi : Int) : Value := .int .i64 (3 : Int)
def range_r2 (n lo hi : Int) : Prop := (((((True ∧ (range_c0 n lo hi = true)) ∧ (range_c0 n lo hi = true)) ∧ (range_c0 n lo hi = true)) ∧ (range_c0 n lo hi = true)) ∧ ((true = true)))
theorem range_o2 (n lo hi : Int) : obOf (range_e2 n lo hi) = range_r2 n lo hi := by kernel_rfl
theorem range_v2 (n lo hi : Int) : resOf (range_e2 n lo hi) = range_w2 n lo hi := by kernel_rfl
theorem range_k2 (n lo hi : Int) : cleanOf Tryz.prog.globals.size (range_e2 n lo hi) = true := by kernel_rfl
theorem range_q2 (n lo hi : Int) : range_e2 n lo hi = evFS Tryz.prog x_range 1000 96 #[.int .i64 n, .int .i64 lo, .int .i64 hi] (noTabs 6) ⟨[0, 0, 0, 1, 1], True⟩ := by
  delta range_e2
  exact Eq.refl _
theorem range_p2 (n lo hi : Int) (h : range_r2 n lo hi) (w : World) : Calls Tryz.prog 96 #[.int .i64 n, .int .i64 lo, .int .i64 hi] w fun en w' => en = .returned (range_w2 n lo hi) ∧ Below w.heap.size w w' := by
  have hv := range_v2 n lo hi
  have hc := range_k2 n lo hi
  have he := range_q2 n lo hi
  have ho := range_o2 n lo hi
  generalize range_e2 n lo hi = r at *
  exact calls_way he gfol range_X hv rfl (range_args n lo hi) hc ho h (bl w)
theorem range_any (n lo hi : Int) (hpre : True) (w : World) : Calls Tryz.prog 96 #[.int .i64 n, .int .i64 lo, .int .i64 hi] w fun en w' => en = .returned (range_val n lo hi) ∧ Below w.heap.size w w' := by
  rcases Bool.eq_false_or_eq_true (range_c0 n lo hi) with h0 | h0
  ·
    unfold range_c0 at h0
    have hp := range_p2 n lo hi ⟨⟨⟨⟨⟨trivial, h0⟩, h0⟩, h0⟩, h0⟩, range_g4⟩ w
    have hv : range_w2 n lo hi = (range_val n lo hi) := by
      clear hp
      unfold range_w2 range_val
      (try simp only [Pl.cr, ixE, decide_eq_true_eq, decide_eq_false_iff_not] at *)
      first | rfl | grind
    exact hv ▸ hp
  ·
    unfold range_c0 at h0
    rcases Bool.eq_false_or_eq_true (range_c1 n lo hi) with h1 | h1
    ·
      unfold range_c1 at h1
      have hp := range_p0 n lo hi ⟨⟨⟨⟨⟨trivial, h0⟩, h0⟩, h0⟩, h0⟩, h1⟩ w
      have hv : range_w0 n lo hi = (range_val n lo hi) := by
        clear hp
        unfold range_w0 range_val
        (try simp only [Pl.cr, ixE, decide_eq_true_eq, decide_eq_false_iff_not] at *)
        first | rfl | grind
      exact hv ▸ hp
    ·
      unfold range_c1 at h1
      have hp := range_p1 n lo hi ⟨⟨⟨⟨⟨trivial, h0⟩, h0⟩, h0⟩, h0⟩, h1⟩ w
      have hv : range_w1 n lo hi = (range_val n lo hi) := by
        clear hp
        unfold range_w1 range_val
        (try simp only [Pl.cr, ixE, decide_eq_true_eq, decide_eq_false_iff_not] at *)
        first | rfl | grind
      exact hv ▸ hp
theorem k_range : ConOk Tryz.prog c_range := fun ns hl => by
  have hl0 : ns.length = 3 := hl
  clear hl
  obtain ⟨n, ns0, rfl, hl1⟩ := len_cons hl0
  obtain ⟨lo, ns1, rfl, hl2⟩ := len_cons hl1
  obtain ⟨hi, ns2, rfl, hl3⟩ := len_cons hl2
  obtain rfl := len_nil hl3
  exact ⟨rfl, fun h w => range_any n lo hi h w⟩
end Go.Proofs.YtbkpnhbcihcgaaaGreatDoor
end
section
set_option linter.all false
set_option maxRecDepth 1000000
set_option maxHeartbeats 2000000
open Go.RowKit
namespace Go.Proofs.YtbkpnhbcihcgaaaGreatDoor
open Mini

def index_val (a n : Int) : Value := .int .i64 (ixE a n)
theorem index_X : FOkS Tryz.prog x_index := noXS_ok
theorem index_args (a n : Int) : (#[.int .i64 a, .int .i64 n] : Array Value).toList.all (ground 8) = true := by kernel_rfl
def index_c0 (a n : Int) : Bool := (decide (a < (0 : Int)))
def index_c1 (a n : Int) : Bool := (decide (a ≥ n))
theorem index_g3 : (true = true) := by first | rfl | trivial | decide | omega
def index_w0 (a n : Int) : Value := .int .i64 (10 : Int)
def index_r0 (a n : Int) : Prop := (((((True ∧ (index_c0 a n = false)) ∧ (index_c0 a n = false)) ∧ (index_c0 a n = false)) ∧ (index_c0 a n = false)) ∧ (index_c1 a n = true))
theorem index_o0 (a n : Int) : obOf (index_e0 a n) = index_r0 a n := by kernel_rfl
theorem index_v0 (a n : Int) : resOf (index_e0 a n) = index_w0 a n := by kernel_rfl
theorem index_k0 (a n : Int) : cleanOf Tryz.prog.globals.size (index_e0 a n) = true := by kernel_rfl
theorem index_q0 (a n : Int) : index_e0 a n = evFS Tryz.prog x_index 1000 103 #[.int .i64 a, .int .i64 n] (noTabs 6) ⟨[1, 1, 1, 0, 1], True⟩ := by
  delta index_e0
  exact Eq.refl _
theorem index_p0 (a n : Int) (h : index_r0 a n) (w : World) : Calls Tryz.prog 103 #[.int .i64 a, .int .i64 n] w fun en w' => en = .returned (index_w0 a n) ∧ Below w.heap.size w w' := by
  have hv := index_v0 a n
  have hc := index_k0 a n
  have he := index_q0 a n
  have ho := index_o0 a n
  generalize index_e0 a n = r at *
  exact calls_way he gfol index_X hv rfl (index_args a n) hc ho h (bl w)
def index_w1 (a n : Int) : Value := .int .i64 (10 : Int)
def index_r1 (a n : Int) : Prop := (((((True ∧ (index_c0 a n = true)) ∧ (index_c0 a n = true)) ∧ (index_c0 a n = true)) ∧ (index_c0 a n = true)) ∧ ((true = true)))
theorem index_o1 (a n : Int) : obOf (index_e1 a n) = index_r1 a n := by kernel_rfl
theorem index_v1 (a n : Int) : resOf (index_e1 a n) = index_w1 a n := by kernel_rfl
theorem index_k1 (a n : Int) : cleanOf Tryz.prog.globals.size (index_e1 a n) = true := by kernel_rfl
theorem index_q1 (a n : Int) : index_e1 a n = evFS Tryz.prog x_index 1000 103 #[.int .i64 a, .int .i64 n] (noTabs 6) ⟨[0, 0, 0, 1, 1], True⟩ := by
  delta index_e1
  exact Eq.refl _
theorem index_p1 (a n : Int) (h : index_r1 a n) (w : World) : Calls Tryz.prog 103 #[.int .i64 a, .int .i64 n] w fun en w' => en = .returned (index_w1 a n) ∧ Below w.heap.size w w' := by
  have hv := index_v1 a n
  have hc := index_k1 a n
  have he := index_q1 a n
  have ho := index_o1 a n
  generalize index_e1 a n = r at *
  exact calls_way he gfol index_X hv rfl (index_args a n) hc ho h (bl w)
def index_w2 (a n : Int) : Value := .int .i64 (0 : Int)
def index_r2 (a n : Int) : Prop := (((((True ∧ (index_c0 a n = false)) ∧ (index_c0 a n = false)) ∧ (index_c0 a n = false)) ∧ (index_c0 a n = false)) ∧ (index_c1 a n = false))
theorem index_o2 (a n : Int) : obOf (index_e2 a n) = index_r2 a n := by kernel_rfl
theorem index_v2 (a n : Int) : resOf (index_e2 a n) = index_w2 a n := by kernel_rfl
theorem index_k2 (a n : Int) : cleanOf Tryz.prog.globals.size (index_e2 a n) = true := by kernel_rfl
theorem index_q2 (a n : Int) : index_e2 a n = evFS Tryz.prog x_index 1000 103 #[.int .i64 a, .int .i64 n] (noTabs 6) ⟨[1, 1, 1, 0, 0], True⟩ := by
  delta index_e2
  exact Eq.refl _
theorem index_p2 (a n : Int) (h : index_r2 a n) (w : World) : Calls Tryz.prog 103 #[.int .i64 a, .int .i64 n] w fun en w' => en = .returned (index_w2 a n) ∧ Below w.heap.size w w' := by
  have hv := index_v2 a n
  have hc := index_k2 a n
  have he := index_q2 a n
  have ho := index_o2 a n
  generalize index_e2 a n = r at *
  exact calls_way he gfol index_X hv rfl (index_args a n) hc ho h (bl w)
theorem index_any (a n : Int) (hpre : True) (w : World) : Calls Tryz.prog 103 #[.int .i64 a, .int .i64 n] w fun en w' => en = .returned (index_val a n) ∧ Below w.heap.size w w' := by
  rcases Bool.eq_false_or_eq_true (index_c0 a n) with h0 | h0
  ·
    unfold index_c0 at h0
    have hp := index_p1 a n ⟨⟨⟨⟨⟨trivial, h0⟩, h0⟩, h0⟩, h0⟩, index_g3⟩ w
    have hv : index_w1 a n = (index_val a n) := by
      clear hp
      unfold index_w1 index_val
      (try simp only [Pl.cr, ixE, decide_eq_true_eq, decide_eq_false_iff_not] at *)
      first | rfl | grind
    exact hv ▸ hp
  ·
    unfold index_c0 at h0
    rcases Bool.eq_false_or_eq_true (index_c1 a n) with h1 | h1
    ·
      unfold index_c1 at h1
      have hp := index_p0 a n ⟨⟨⟨⟨⟨trivial, h0⟩, h0⟩, h0⟩, h0⟩, h1⟩ w
      have hv : index_w0 a n = (index_val a n) := by
        clear hp
        unfold index_w0 index_val
        (try simp only [Pl.cr, ixE, decide_eq_true_eq, decide_eq_false_iff_not] at *)
        first | rfl | grind
      exact hv ▸ hp
    ·
      unfold index_c1 at h1
      have hp := index_p2 a n ⟨⟨⟨⟨⟨trivial, h0⟩, h0⟩, h0⟩, h0⟩, h1⟩ w
      have hv : index_w2 a n = (index_val a n) := by
        clear hp
        unfold index_w2 index_val
        (try simp only [Pl.cr, ixE, decide_eq_true_eq, decide_eq_false_iff_not] at *)
        first | rfl | grind
      exact hv ▸ hp
theorem k_index : ConOk Tryz.prog c_index := fun ns hl => by
  have hl0 : ns.length = 2 := hl
  clear hl
  obtain ⟨a, ns0, rfl, hl1⟩ := len_cons hl0
  obtain ⟨n, ns1, rfl, hl2⟩ := len_cons hl1
  obtain rfl := len_nil hl2
  exact ⟨rfl, fun h w => index_any a n h w⟩
end Go.Proofs.YtbkpnhbcihcgaaaGreatDoor
end
section
set_option linter.all false
set_option maxRecDepth 1000000
open Go.RowKit
namespace Go.Proofs.YtbkpnhbcihcgaaaGreatDoor
open Mini
noncomputable def maX : Code := loopOf Tryz.prog 66
noncomputable def maK : CallS := kAll [c_rem, c_range, c_index]
def maArgs (n p m : Int) : Array Value := #[.int .i64 n, .int .i64 p, .int .i64 m]
def mn (a b : Int) : Int := if b < a then b else a
def maUp (n : Nat) (p : Int) (i : Nat) : Int := IntKind.i64.wrap (p - (i : Int)) % (n : Int)
def maDn (n : Nat) (p : Int) (i : Nat) : Int := IntKind.i64.wrap ((i : Int) - p) % (n : Int)
def maV1 (n : Nat) (p m : Int) (i : Nat) : Int := IntKind.i64.wrap ((i : Int) + mn (maUp n p i) m) % (n : Int)
def maV2 (n : Nat) (p m : Int) (i : Nat) : Int := IntKind.i64.wrap ((i : Int) - mn (maDn n p i) m) % (n : Int)
def maV (n : Nat) (p m : Int) (i : Nat) : Int := if maUp n p i ≤ maDn n p i then maV1 n p m i else maV2 n p m i
def maW (n : Nat) (p m : Int) (i : Nat) : List Value := [.int .i64 (maV n p m i)]
def maZ : List Value := [.int .i64 0]
def maZ0 : Nat → Nat → Value := fun _ j => (#[.int .i64 0] : Array Value).getD j (.chan none)
def maL (n : Nat) (p m u1 u2 u3 : Int) (i : Nat) : List MObj := [.cells [.int .i64 u1, .int .i64 u2, .int .i64 u3] 26 false 0 false, .rows n 1 (fillG maZ (maW n p m) i) 3 false 0 false]
def maL0 (n : Nat) (u1 u2 u3 : Int) : List MObj := [.cells [.int .i64 u1, .int .i64 u2, .int .i64 u3] 26 false 0 false, .rows n 1 maZ0 3 false 0 false]
def maA (n : Nat) (p m : Int) (i : Nat) : MA := MA.ofL 67 [.int .i64 (n : Int), .int .i64 p, .int .i64 m, .chan none, .chan none, .chan none, .chan none, .chan none, .chan none, .slice (some ⟨7, 0, none⟩) n n, .chan none, .chan none, .chan none, .chan none, .chan none, .chan none, .chan none, .chan none, .chan none, .chan none, .chan none, .chan none, .chan none, .chan none, .chan none, .chan none, .chan none, .chan none, .int .i64 (n : Int), .int .i64 (i : Int), .chan none, .chan none, .chan none, .chan none, .chan none, .chan none, .chan none, .chan none, .chan none, .chan none, .chan none, .chan none, .chan none, .chan none, .chan none, .chan none, .chan none, .chan none, .chan none, .chan none, .chan none, .chan none, .chan none, .chan none, .chan none, .chan none, .chan none, .chan none, .chan none, .chan none, .chan none, .chan none, .chan none, .chan none, .chan none, .chan none, .chan none] []
def maE (n : Nat) : MA := MA.ofL 67 [.chan none, .chan none, .chan none, .chan none, .chan none, .chan none, .chan none, .chan none, .chan none, .slice (some ⟨7, 0, none⟩) n n, .chan none, .chan none, .chan none, .chan none, .chan none, .chan none, .chan none, .chan none, .chan none, .chan none, .chan none, .chan none, .chan none, .chan none, .chan none, .chan none, .chan none, .chan none, .chan none, .chan none, .chan none, .chan none, .chan none, .chan none, .chan none, .chan none, .chan none, .chan none, .chan none, .chan none, .chan none, .chan none, .chan none, .chan none, .chan none, .chan none, .chan none, .chan none, .chan none, .chan none, .chan none, .chan none, .chan none, .chan none, .chan none, .chan none, .chan none, .chan none, .chan none, .chan none, .chan none, .chan none, .chan none, .chan none, .chan none, .chan none, .chan none] []
def maU1 (n : Int) : Int := Pl.cr n 1 64
def maU2 (n p : Int) : Int := if p < 0 ∨ n ≤ p then 10 else 0
def maU3 (m : Int) : Int := Pl.cr m 1 64
noncomputable def maR1 (n : Nat) (p m : Int) (u1 u2 u3 : Int) (i : Nat) : Option OutCS := evCRS Tryz.prog maK 1000 none false maX (maA n p m i) (wS 6 (maL n p m u1 u2 u3 i)) ⟨[1, 1, .row i 0, .row i 0, .azz (.int .i64 ((i + 1 : Nat) : Int))], True⟩
noncomputable def maR2 (n : Nat) (p m : Int) (u1 u2 u3 : Int) (i : Nat) : Option OutCS := evCRS Tryz.prog maK 1000 none false maX (maA n p m i) (wS 6 (maL n p m u1 u2 u3 i)) ⟨[1, 0, .row i 0, .row i 0, .azz (.int .i64 ((i + 1 : Nat) : Int))], True⟩
noncomputable def maN (n : Nat) (p m : Int) (u1 u2 u3 : Int) (i : Nat) : Option OutCS := evCRS Tryz.prog maK 1000 none false maX (maA n p m i) (wS 6 (maL n p m u1 u2 u3 i)) ⟨[0], True⟩
noncomputable def maF_e1 (n p m : Int) : Option OutS := evFS Tryz.prog maK 1000 66 (maArgs n p m) (wS 6 []) ⟨[1, 0, 1, 1], True⟩
noncomputable def maF_e2 (n p m : Int) : Option OutS := evFS Tryz.prog maK 1000 66 (maArgs n p m) (wS 6 []) ⟨[1, 0, 0, 1, 1, 1, 1], True⟩
noncomputable def maF_e3 (n p m : Int) : Option OutS := evFS Tryz.prog maK 1000 66 (maArgs n p m) (wS 6 []) ⟨[1, 0, 0, 1, 1, 0, 1, 2, 1, 1], True⟩
noncomputable def maF_end (n : Nat) (p m : Int) : Option OutS := evFS Tryz.prog maK 1000 66 (maArgs n p m) (wS 6 []) ⟨[1, 0, 0, 1, 1, 0, 1, 2, 0, 0, 0, .row n 0, .lp 805306887 (maA n p m 0) 6 (maL0 n (maU1 n) (maU2 n p) (maU3 m)) (.exit 0) (maE n) (maL n p m (maU1 n) (maU2 n p) (maU3 m) n) 192 128], True⟩
theorem maK_ok : FOkS Tryz.prog maK := kAll_ok _ ⟨k_rem, k_range, k_index, trivial⟩
section
variable (n : Nat) (p m : Int) (u1 u2 u3 : Int) (i : Nat)
theorem maR1_eq : seenF 6 2 805306887 (maR1 n p m u1 u2 u3 i) = some (.normal, maA n p m (i + 1), [.cells [.int .i64 u1, .int .i64 u2, .int .i64 u3] 26 false 0 false, .rows n 1 (setRow (fillG maZ (maW n p m) i) i 0 [.int .i64 (maV1 n p m i)]) 3 false 0 false], 0, 128, ⟨[], ((((((((True ∧ ((decide ((((i : Nat)) : Int) < (((n : Nat)) : Int))) = true)) ∧ (((0 : Int) < (((n : Nat)) : Int)) ∧ ((((n : Nat)) : Int) ≤ (1000000000 : Int)))) ∧ (((0 : Int) < (((n : Nat)) : Int)) ∧ ((((n : Nat)) : Int) ≤ (1000000000 : Int)))) ∧ ((decide (((IntKind.i64.wrap (p - (((i : Nat)) : Int))) % (((n : Nat)) : Int)) ≤ ((IntKind.i64.wrap ((((i : Nat)) : Int) - p)) % (((n : Nat)) : Int)))) = true)) ∧ (((0 : Int) < (((n : Nat)) : Int)) ∧ ((((n : Nat)) : Int) ≤ (1000000000 : Int)))) ∧ (((((i : Nat)) : Int) = (Int.ofNat i)) ∧ (i < n))) ∧ (((0 + (i * 1)) = ((i * 1) + 0)) ∧ (i < n))) ∧ (((.int .i64 (IntKind.i64.wrap ((((i : Nat)) : Int) + (1 : Int)))) : Value) = (.int .i64 ((((i + 1) : Nat)) : Int))))⟩) := by kernel_rfl
theorem maR2_eq : seenF 6 2 805306887 (maR2 n p m u1 u2 u3 i) = some (.normal, maA n p m (i + 1), [.cells [.int .i64 u1, .int .i64 u2, .int .i64 u3] 26 false 0 false, .rows n 1 (setRow (fillG maZ (maW n p m) i) i 0 [.int .i64 (maV2 n p m i)]) 3 false 0 false], 0, 128, ⟨[], ((((((((True ∧ ((decide ((((i : Nat)) : Int) < (((n : Nat)) : Int))) = true)) ∧ (((0 : Int) < (((n : Nat)) : Int)) ∧ ((((n : Nat)) : Int) ≤ (1000000000 : Int)))) ∧ (((0 : Int) < (((n : Nat)) : Int)) ∧ ((((n : Nat)) : Int) ≤ (1000000000 : Int)))) ∧ ((decide (((IntKind.i64.wrap (p - (((i : Nat)) : Int))) % (((n : Nat)) : Int)) ≤ ((IntKind.i64.wrap ((((i : Nat)) : Int) - p)) % (((n : Nat)) : Int)))) = false)) ∧ (((0 : Int) < (((n : Nat)) : Int)) ∧ ((((n : Nat)) : Int) ≤ (1000000000 : Int)))) ∧ (((((i : Nat)) : Int) = (Int.ofNat i)) ∧ (i < n))) ∧ (((0 + (i * 1)) = ((i * 1) + 0)) ∧ (i < n))) ∧ (((.int .i64 (IntKind.i64.wrap ((((i : Nat)) : Int) + (1 : Int)))) : Value) = (.int .i64 ((((i + 1) : Nat)) : Int))))⟩) := by kernel_rfl
theorem maN_eq : seenF 6 2 512 (maN n p m u1 u2 u3 i) = some ((.exit (0 : Nat)), maE n, maL n p m u1 u2 u3 i, 0, 0, ⟨[], (True ∧ ((decide ((((i : Nat)) : Int) < (((n : Nat)) : Int))) = false))⟩) := by kernel_rfl
theorem maA_keep : allKeep (6 + 2) (maA n p m i) 67 = true := by kernel_rfl
theorem maL_keep : ∀ o, o ∈ maL n p m u1 u2 u3 i → keepO (below (6 + 2)) o := fun o ho => by
  simp only [maL, List.mem_cons, List.not_mem_nil, or_false] at ho
  rcases ho with rfl | rfl
  · rfl
  · exact fill_keep rfl (fun a => rfl)
theorem maL_set : [.cells [.int .i64 u1, .int .i64 u2, .int .i64 u3] 26 false 0 false, .rows n 1 (setRow (fillG maZ (maW n p m) i) i 0 (maW n p m i)) 3 false 0 false] = maL n p m u1 u2 u3 (i + 1) := by rw [fill_set (z := maZ) (w := maW n p m) (i := i) rfl]; rfl
theorem maZ0_eq : maZ0 = fillG maZ (maW n p m) 0 := by
  rw [← fill_zero maZ (maW n p m)]
  funext a j
  match j with
  | 0 => rfl
  | j + 1 =>
    simp [maZ0, maZ, List.getD, Array.getD]
theorem maL0_eq : maL0 n u1 u2 u3 = maL n p m u1 u2 u3 0 := by unfold maL0 maL; rw [maZ0_eq n p m]
variable {n i}
theorem ma_go (h0 : 0 < n) (hn : n ≤ 64) (hi : i < n) : SndC Tryz.prog none maX (maA n p m i).act (wS 6 (maL n p m u1 u2 u3 i)) .normal (maA n p m (i + 1)).act (wS 6 (maL n p m u1 u2 u3 (i + 1))) 192 128 := by
  by_cases hc : maUp n p i ≤ maDn n p i
  · have h := maR1_eq n p m u1 u2 u3 i
    rw [show [Value.int .i64 (maV1 n p m i)] = maW n p m i from by unfold maW maV; rw [if_pos hc], maL_set] at h
    refine wayF_ok smx maK_ok sng h ?_ rfl (maA_keep n p m i) (maL_keep n p m u1 u2 u3 i) (maL_keep n p m u1 u2 u3 (i + 1)) (fun k hk hw => ?_) (by exact (by decide : ∀ b, b < 6 → Nat.testBit 128 b = false)) (by exact (by decide : ∀ b, b < 8 → Nat.testBit 0 b = true → Nat.testBit 192 b = true)) (by exact (by decide : ∀ b, b < 8 → Nat.testBit 128 b = Nat.testBit 128 b))
    · repeat' apply And.intro
      all_goals first | trivial | rfl | exact decide_eq_true (by omega) | omega | exact decide_eq_true hc | exact wnextV hi (by omega)
    · match k, hk, hw with
      | 0, _, hw => exact absurd hw (by decide)
      | 1, _, hw => exact ⟨fun h => (by cases h), rfl⟩
  · have h := maR2_eq n p m u1 u2 u3 i
    rw [show [Value.int .i64 (maV2 n p m i)] = maW n p m i from by unfold maW maV; rw [if_neg hc], maL_set] at h
    refine wayF_ok smx maK_ok sng h ?_ rfl (maA_keep n p m i) (maL_keep n p m u1 u2 u3 i) (maL_keep n p m u1 u2 u3 (i + 1)) (fun k hk hw => ?_) (by exact (by decide : ∀ b, b < 6 → Nat.testBit 128 b = false)) (by exact (by decide : ∀ b, b < 8 → Nat.testBit 0 b = true → Nat.testBit 192 b = true)) (by exact (by decide : ∀ b, b < 8 → Nat.testBit 128 b = Nat.testBit 128 b))
    · repeat' apply And.intro
      all_goals first | trivial | rfl | exact decide_eq_true (by omega) | omega | exact decide_eq_false hc | exact wnextV hi (by omega)
    · match k, hk, hw with
      | 0, _, hw => exact absurd hw (by decide)
      | 1, _, hw => exact ⟨fun h => (by cases h), rfl⟩
theorem ma_end (hi : ¬ i < n) : SndC Tryz.prog none maX (maA n p m i).act (wS 6 (maL n p m u1 u2 u3 i)) (.exit 0) (maE n).act (wS 6 (maL n p m u1 u2 u3 i)) 192 128 :=
  (wayF_ok0 smx maK_ok sng (maN_eq n p m u1 u2 u3 i) ⟨trivial, decide_eq_false (by omega)⟩ rfl (maA_keep n p m i) (maL_keep n p m u1 u2 u3 i) (maL_keep n p m u1 u2 u3 i) (by exact (by decide : ∀ b, b < 8 → Nat.testBit 0 b = false)) (R2 := 192) (by exact (by decide : ∀ b, b < 8 → Nat.testBit 0 b = true → Nat.testBit 192 b = true))).wide (fun b hb => by rw [or_bit, hb]; rfl) (fun b hb => by simp at hb)
end
theorem ma_loop {n : Nat} (p m u1 u2 u3 : Int) (h0 : 0 < n) (hn : n ≤ 64) : SndC Tryz.prog none (.loop maX) (maA n p m 0).act (wS 6 (maL0 n u1 u2 u3)) (.exit 0) (maE n).act (wS 6 (maL n p m u1 u2 u3 n)) 192 128 := by
  rw [maL0_eq n p m u1 u2 u3]
  exact sndC_rounds (A := fun i => (maA n p m i).act) (S := fun i => wS 6 (maL n p m u1 u2 u3 i)) n (fun k hk => ma_go p m u1 u2 u3 h0 hn hk) (ma_end p m u1 u2 u3 (Nat.lt_irrefl n)) (by simp)
section
variable (n p m : Int) (k : Nat)
theorem maF_e1eq : maF_e1 n p m = some ((.tuple #[(.slice none (0 : Nat) (0 : Nat)), (.int .i64 (Pl.cr n (1 : Int) (64 : Int)))]), wldOf (maF_e1 n p m), 0, 0, ⟨[], (((((((True ∧ True) ∧ True) ∧ True) ∧ ((decide ((0 : Int) < (((3 : Nat)) : Int))) = true)) ∧ ((0 : Int) = (Int.ofNat 0))) ∧ (((Pl.cr n (1 : Int) (64 : Int)) != (0 : Int)) = true)) ∧ (((Pl.cr n (1 : Int) (64 : Int)) != (0 : Int)) = true))⟩) := by kernel_rfl
theorem maF_e2eq : maF_e2 n p m = some ((.tuple #[(.slice none (0 : Nat) (0 : Nat)), (.int .i64 (ixE p n))]), wldOf (maF_e2 n p m), 0, 0, ⟨[], ((((((((((True ∧ True) ∧ True) ∧ True) ∧ ((decide ((0 : Int) < (((3 : Nat)) : Int))) = true)) ∧ ((0 : Int) = (Int.ofNat 0))) ∧ (((Pl.cr n (1 : Int) (64 : Int)) != (0 : Int)) = false)) ∧ ((decide ((IntKind.i64.wrap ((0 : Int) + (1 : Int))) < (((3 : Nat)) : Int))) = true)) ∧ ((IntKind.i64.wrap ((0 : Int) + (1 : Int))) = (Int.ofNat 1))) ∧ (((ixE p n) != (0 : Int)) = true)) ∧ (((ixE p n) != (0 : Int)) = true))⟩) := by kernel_rfl
theorem maF_e3eq : maF_e3 n p m = some ((.tuple #[(.slice none (0 : Nat) (0 : Nat)), (.int .i64 (Pl.cr m (1 : Int) (64 : Int)))]), wldOf (maF_e3 n p m), 0, 0, ⟨[], (((((((((((((True ∧ True) ∧ True) ∧ True) ∧ ((decide ((0 : Int) < (((3 : Nat)) : Int))) = true)) ∧ ((0 : Int) = (Int.ofNat 0))) ∧ (((Pl.cr n (1 : Int) (64 : Int)) != (0 : Int)) = false)) ∧ ((decide ((IntKind.i64.wrap ((0 : Int) + (1 : Int))) < (((3 : Nat)) : Int))) = true)) ∧ ((IntKind.i64.wrap ((0 : Int) + (1 : Int))) = (Int.ofNat 1))) ∧ (((ixE p n) != (0 : Int)) = false)) ∧ ((decide ((IntKind.i64.wrap ((IntKind.i64.wrap ((0 : Int) + (1 : Int))) + (1 : Int))) < (((3 : Nat)) : Int))) = true)) ∧ ((IntKind.i64.wrap ((IntKind.i64.wrap ((0 : Int) + (1 : Int))) + (1 : Int))) = (Int.ofNat 2))) ∧ (((Pl.cr m (1 : Int) (64 : Int)) != (0 : Int)) = true)) ∧ (((Pl.cr m (1 : Int) (64 : Int)) != (0 : Int)) = true))⟩) := by kernel_rfl
end
section
variable (n : Nat) (p m : Int)
theorem maF_endeq : maF_end n p m = some ((.tuple #[(.slice (some ⟨7, 0, none⟩) n n), (.int .i64 (0 : Int))]), wldOf (maF_end n p m), 192, 128, ⟨[], ((((((((((((((((True ∧ True) ∧ True) ∧ True) ∧ ((decide ((0 : Int) < (((3 : Nat)) : Int))) = true)) ∧ ((0 : Int) = (Int.ofNat 0))) ∧ (((Pl.cr (((n : Nat)) : Int) (1 : Int) (64 : Int)) != (0 : Int)) = false)) ∧ ((decide ((IntKind.i64.wrap ((0 : Int) + (1 : Int))) < (((3 : Nat)) : Int))) = true)) ∧ ((IntKind.i64.wrap ((0 : Int) + (1 : Int))) = (Int.ofNat 1))) ∧ (((ixE p (((n : Nat)) : Int)) != (0 : Int)) = false)) ∧ ((decide ((IntKind.i64.wrap ((IntKind.i64.wrap ((0 : Int) + (1 : Int))) + (1 : Int))) < (((3 : Nat)) : Int))) = true)) ∧ ((IntKind.i64.wrap ((IntKind.i64.wrap ((0 : Int) + (1 : Int))) + (1 : Int))) = (Int.ofNat 2))) ∧ (((Pl.cr m (1 : Int) (64 : Int)) != (0 : Int)) = false)) ∧ ((decide ((IntKind.i64.wrap ((IntKind.i64.wrap ((IntKind.i64.wrap ((0 : Int) + (1 : Int))) + (1 : Int))) + (1 : Int))) < (((3 : Nat)) : Int))) = false)) ∧ (((0 : Int) != (0 : Int)) = false)) ∧ (((((n : Nat)) : Int) = (Int.ofNat n)) ∧ (((((n : Nat)) : Int) = (Int.ofNat n)) ∧ ((((((8 : Nat)) : Int) * (((n : Nat)) : Int)) ≤ (281474976710656 : Int)) ∧ (n ≤ (1048576 : Nat)))))) ∧ ((((maA n p m (0 : Nat)) = (maA n p m (0 : Nat))) ∧ ((8 = (6 + 2)) ∧ ((HAppend.hAppend (List.replicate (6 : Nat) MObj.hole) (maL0 n (maU1 (((n : Nat)) : Int)) (maU2 (((n : Nat)) : Int) p) (maU3 m))) = (HAppend.hAppend (List.replicate (6 : Nat) MObj.hole) (maL0 n (maU1 (((n : Nat)) : Int)) (maU2 (((n : Nat)) : Int) p) (maU3 m)))))) ∧ SndC Tryz.prog none (.loop maX) (maA n p m 0).act (wS 6 (maL0 n (maU1 n) (maU2 n p) (maU3 m))) (.exit 0) (maE n).act (wS 6 (maL n p m (maU1 n) (maU2 n p) (maU3 m) n)) 192 128))⟩) := by kernel_rfl
theorem maF_endo : (wldOf (maF_end n p m)).get 7 = .rows n 1 (fillG maZ (maW n p m) n) 3 false 0 false := by kernel_rfl
theorem maF_endn : Nat.ble (7 + 1) (wldOf (maF_end n p m)).next = true := by kernel_rfl
end
def maErr (n p m : Int) : Int := if maU1 n ≠ 0 then maU1 n else if maU2 n p ≠ 0 then maU2 n p else maU3 m
theorem no_keep {B : Nat} : ∀ o, o ∈ ([] : List MObj) → keepO (below B) o := fun o ho => by cases ho
theorem ma_err (n p m : Int) (hE : maErr n p m ≠ 0) : SndF Tryz.prog 66 (maArgs n p m) (wS 6 []) (.tuple #[.slice none 0 0, .int .i64 (maErr n p m)]) (wS 6 []) 0 0 := by
  have fin : ∀ {s01 : St} {R0 W0 : Nat}, SndF Tryz.prog 66 (maArgs n p m) (wS 6 []) (.tuple #[.slice none 0 0, .int .i64 (maErr n p m)]) s01 R0 W0 → (∀ b, b < 6 → W0.testBit b = false) → (∀ b, b < 6 → R0.testBit b = true → Nat.testBit 0 b = true) → SndF Tryz.prog 66 (maArgs n p m) (wS 6 []) (.tuple #[.slice none 0 0, .int .i64 (maErr n p m)]) (wS 6 []) 0 0 := fun h hW hR =>
    (SndF.tidy0 h sng no_keep hW (by kernel_rfl) rfl).mask hR (fun b _ => rfl)
  unfold maErr at hE fin ⊢
  by_cases hU1 : maU1 n = 0
  · rw [if_neg (by simpa using hU1)] at fin hE ⊢
    by_cases hU2 : maU2 n p = 0
    · rw [if_neg (by simpa using hU2)] at fin hE ⊢
      have hU3 := hE
      refine fin ((evFS_ok smx maK_ok 1000 _ _ _ _ _ _ _ _ _ (show evFS _ _ _ _ _ _ _ = _ from maF_e3eq n p m)).2 ?_) (by exact (by decide : ∀ b, b < 6 → Nat.testBit 0 b = false)) (by exact (by decide : ∀ b, b < 6 → Nat.testBit 0 b = true → Nat.testBit 0 b = true))
      repeat' (first | (with_reducible assumption) | apply And.intro)
      all_goals first | trivial | rfl | exact decide_eq_true (by omega) | exact decide_eq_false (by omega) | exact bne_eq_false_iff_eq.2 hU1 | exact bne_eq_false_iff_eq.2 hU2 | exact bne_eq_false_iff_eq.2 hU3 | exact bne_iff_ne.2 hU1 | exact bne_iff_ne.2 hU2 | exact bne_iff_ne.2 hU3 | omega | assumption
    · rw [if_pos (by simpa using hU2)] at fin ⊢
      refine fin ((evFS_ok smx maK_ok 1000 _ _ _ _ _ _ _ _ _ (show evFS _ _ _ _ _ _ _ = _ from maF_e2eq n p m)).2 ?_) (by exact (by decide : ∀ b, b < 6 → Nat.testBit 0 b = false)) (by exact (by decide : ∀ b, b < 6 → Nat.testBit 0 b = true → Nat.testBit 0 b = true))
      repeat' (first | (with_reducible assumption) | apply And.intro)
      all_goals first | trivial | rfl | exact decide_eq_true (by omega) | exact decide_eq_false (by omega) | exact bne_eq_false_iff_eq.2 hU1 | exact bne_eq_false_iff_eq.2 hU2 | exact bne_eq_false_iff_eq.2 hU3 | exact bne_iff_ne.2 hU1 | exact bne_iff_ne.2 hU2 | exact bne_iff_ne.2 hU3 | omega | assumption
  · rw [if_pos (by simpa using hU1)] at fin ⊢
    refine fin ((evFS_ok smx maK_ok 1000 _ _ _ _ _ _ _ _ _ (show evFS _ _ _ _ _ _ _ = _ from maF_e1eq n p m)).2 ?_) (by exact (by decide : ∀ b, b < 6 → Nat.testBit 0 b = false)) (by exact (by decide : ∀ b, b < 6 → Nat.testBit 0 b = true → Nat.testBit 0 b = true))
    repeat' (first | (with_reducible assumption) | apply And.intro)
    all_goals first | trivial | rfl | exact decide_eq_true (by omega) | exact decide_eq_false (by omega) | exact bne_eq_false_iff_eq.2 hU1 | exact bne_eq_false_iff_eq.2 hU2 | exact bne_eq_false_iff_eq.2 hU3 | exact bne_iff_ne.2 hU1 | exact bne_iff_ne.2 hU2 | exact bne_iff_ne.2 hU3 | omega | assumption
theorem ma_yes (n : Nat) (p m : Int) (hE : maErr n p m = 0) : SndF Tryz.prog 66 (maArgs n p m) (wS 6 []) (.tuple #[.slice (some ⟨6, 0, none⟩) n n, .int .i64 0]) (wS 6 [rowI 1 n (fun i _ => maV n p m i) 3 false 0 false]) 192 0 := by
  unfold maErr at hE
  by_cases hU1 : maU1 n = 0
  · rw [if_neg (by simpa using hU1)] at hE
    by_cases hU2 : maU2 n p = 0
    · rw [if_neg (by simpa using hU2)] at hE
      have hU3 := hE
      have hn : 1 ≤ (n : Int) ∧ (n : Int) ≤ 64 := by
        unfold maU1 Pl.cr at hU1
        split at hU1
        · cases hU1
        · omega
      have h2 := ma_loop p m (maU1 n) (maU2 n p) (maU3 m) (n := n) (by omega) (by omega)
      refine SndF.tidy (r := 7) (l := []) (o2 := rowI 1 n (fun i _ => maV n p m i) 3 false 0 false) ((evFS_ok smx maK_ok 1000 _ _ _ _ _ _ _ _ _ (show evFS _ _ _ _ _ _ _ = _ from maF_endeq n p m)).2 ?_) sng (by show 6 ≤ 7; decide) (Nat.le_of_ble_eq_true (maF_endn n p m)) (fun f => ?_) no_keep (by exact (by decide : ∀ b, b < 6 → Nat.testBit 128 b = false)) (by kernel_rfl) (fun f hf hr => wv_tuple (wvs_two (slice_wv hr) (ground_wv (n := 8) rfl)))
      · repeat' (first | (with_reducible assumption) | apply And.intro)
        all_goals first | trivial | rfl | exact decide_eq_true (by omega) | exact decide_eq_false (by omega) | exact bne_eq_false_iff_eq.2 hU1 | exact bne_eq_false_iff_eq.2 hU2 | exact bne_eq_false_iff_eq.2 hU3 | exact bne_iff_ne.2 hU1 | exact bne_iff_ne.2 hU2 | exact bne_iff_ne.2 hU3 | omega | assumption
      · rw [maF_endo]
        exact wo_rows (congrArg (fun l => MObj.cells l _ _ _ _) (rowsL_congr fun i j hi hj => by
          unfold fillG
          rw [if_pos hi]
          match j, hj with
          | 0, _ => rfl)) fun i j _ _ => rfl
    · rw [if_pos (by simpa using hU2)] at hE; exact absurd hE hU2
  · rw [if_pos (by simpa using hU1)] at hE; exact absurd hE hU1
def kMade : CallS := fun f xs s q => match decide (f = 66) with
  | true => match xs.toList with
    | [.int .i64 n, .int .i64 p, .int .i64 m] => match Nat.ble 6 s.next, q.rest with
      | true, .n d :: rest => match (d == 1) with
        | true => some (.tuple #[.slice (some ⟨s.next, 0, none⟩) n.toNat n.toNat, .int .i64 0], s.push (rowI 1 n.toNat (fun i _ => maV n.toNat p m i) 3 false 0 false), 0, 0, ⟨rest, q.ob ∧ maErr n p m = 0⟩)
        | false => some (.tuple #[.slice none 0 0, .int .i64 (maErr n p m)], s, 0, 0, ⟨rest, q.ob ∧ maErr n p m ≠ 0⟩)
      | _, _ => none
    | _ => none
  | false => none
theorem kMade_ok : FOkS Tryz.prog kMade := fun f xs s q u s1 R W q1 he => by
  unfold kMade at he
  split at he
  · rename_i hf
    have hf := of_decide_eq_true hf
    subst hf
    split at he
    · rename_i n p m hx
      have hxs : xs = #[.int .i64 n, .int .i64 p, .int .i64 m] := by apply Array.ext'; exact hx
      subst hxs
      split at he
      · rename_i d rest hb hq0
        have hb := Nat.le_of_ble_eq_true hb
        split at he
        · cases he
          refine ⟨fun hq => hq.1, fun hq => ?_⟩
          have hE := hq.2
          have hn : (n.toNat : Int) = n := by
            unfold maErr at hE
            split at hE
            · exact absurd hE (by assumption)
            · rename_i h1
              have h1 : maU1 n = 0 := by simpa using h1
              unfold maU1 Pl.cr at h1
              split at h1
              · cases h1
              · omega
          have h := ma_yes n.toNat p m (by rw [hn]; exact hE)
          rw [hn] at h
          exact SndF.rowsNew (N := 6) (bs := []) (s0 := wS 6 []) (o1 := rowI 1 n.toNat (fun i _ => maV n.toNat p m i) 3 false 0 false) sng h rfl (fun x hx => by cases hx) (by simp) hb (fun x hx h2 => absurd hx (by
            have hz := (by decide : ∀ b, b < 6 → Nat.testBit 192 b = false) x (by simpa using h2)
            rw [hz]; simp)) (fun x hx => by cases hx) (fun f j hj => absurd hj (by simp)) (fun f _ _ => ⟨rfl, fun i v u e1 e2 => by
            have e : v = u := Option.some.inj (e1.symm.trans e2)
            subst e
            match i, e1 with
            | 0, e1 => simp [maArgs] at e1; subst e1; exact ground_wv (n := 8) rfl
            | 1, e1 => simp [maArgs] at e1; subst e1; exact ground_wv (n := 8) rfl
            | 2, e1 => simp [maArgs] at e1; subst e1; exact ground_wv (n := 8) rfl
            | i + 3, e1 => simp [maArgs] at e1⟩) (fun f _ hf hn => ⟨wv_tuple (wvs_two (slice_wv hn) (ground_wv (n := 8) rfl)), keep_wo (N := fun _ => false) (fun b hb => by cases hb) (rowI_keep _ _ _ _ _ _ _)⟩)
        · cases he
          refine ⟨fun hq => hq.1, fun hq => ?_⟩
          exact SndF.rows (N := 6) (bs := []) (s0 := wS 6 []) sng (ma_err n p m hq.2) rfl rfl (fun x hx => by cases hx) (by simp) hb (fun x hx h2 => by simp at hx) (fun x hx => by cases hx) (fun f j hj => absurd hj (by simp)) (fun f _ _ => ⟨rfl, fun i v u e1 e2 => by
            have e : v = u := Option.some.inj (e1.symm.trans e2)
            subst e
            match i, e1 with
            | 0, e1 => simp [maArgs] at e1; subst e1; exact ground_wv (n := 8) rfl
            | 1, e1 => simp [maArgs] at e1; subst e1; exact ground_wv (n := 8) rfl
            | 2, e1 => simp [maArgs] at e1; subst e1; exact ground_wv (n := 8) rfl
            | i + 3, e1 => simp [maArgs] at e1⟩)
      · cases he
    · cases he
  · cases he
end Go.Proofs.YtbkpnhbcihcgaaaGreatDoor
end
section
set_option linter.all false
set_option maxRecDepth 1000000
set_option maxHeartbeats 2000000
open Go.RowKit
namespace Go.Proofs.YtbkpnhbcihcgaaaGreatDoor
open Mini

def rrange_val (n lo hi : Int) : Value := .int .i64 (Pl.cr n lo hi)
theorem rrange_X : FOkS Tryz.prog x_rrange := noXS_ok
theorem rrange_args (n lo hi : Int) : (#[.int .i64 n, .int .i64 lo, .int .i64 hi] : Array Value).toList.all (ground 8) = true := by kernel_rfl
def rrange_c0 (n lo hi : Int) : Bool := (decide (n < lo))
theorem rrange_g1 : (true = true) := by first | rfl | trivial | decide | omega
def rrange_c1 (n lo hi : Int) : Bool := (decide (n > hi))
def rrange_w0 (n lo hi : Int) : Value := .int .i64 (3 : Int)
def rrange_r0 (n lo hi : Int) : Prop := (((((True ∧ (rrange_c0 n lo hi = true)) ∧ (rrange_c0 n lo hi = true)) ∧ (rrange_c0 n lo hi = true)) ∧ (rrange_c0 n lo hi = true)) ∧ ((true = true)))
theorem rrange_o0 (n lo hi : Int) : obOf (rrange_e0 n lo hi) = rrange_r0 n lo hi := by kernel_rfl
theorem rrange_v0 (n lo hi : Int) : resOf (rrange_e0 n lo hi) = rrange_w0 n lo hi := by kernel_rfl
theorem rrange_k0 (n lo hi : Int) : cleanOf Tryz.prog.globals.size (rrange_e0 n lo hi) = true := by kernel_rfl
theorem rrange_q0 (n lo hi : Int) : rrange_e0 n lo hi = evFS Tryz.prog x_rrange 1000 20 #[.int .i64 n, .int .i64 lo, .int .i64 hi] (noTabs 6) ⟨[0, 0, 0, 1, 1], True⟩ := by
  delta rrange_e0
  exact Eq.refl _
theorem rrange_p0 (n lo hi : Int) (h : rrange_r0 n lo hi) (w : World) : Calls Tryz.prog 20 #[.int .i64 n, .int .i64 lo, .int .i64 hi] w fun en w' => en = .returned (rrange_w0 n lo hi) ∧ Below w.heap.size w w' := by
  have hv := rrange_v0 n lo hi
  have hc := rrange_k0 n lo hi
  have he := rrange_q0 n lo hi
  have ho := rrange_o0 n lo hi
  generalize rrange_e0 n lo hi = r at *
  exact calls_way he gfol rrange_X hv rfl (rrange_args n lo hi) hc ho h (bl w)
def rrange_w1 (n lo hi : Int) : Value := .int .i64 (3 : Int)
def rrange_r1 (n lo hi : Int) : Prop := (((((True ∧ (rrange_c0 n lo hi = false)) ∧ (rrange_c0 n lo hi = false)) ∧ (rrange_c0 n lo hi = false)) ∧ (rrange_c0 n lo hi = false)) ∧ (rrange_c1 n lo hi = true))
theorem rrange_o1 (n lo hi : Int) : obOf (rrange_e1 n lo hi) = rrange_r1 n lo hi := by kernel_rfl
theorem rrange_v1 (n lo hi : Int) : resOf (rrange_e1 n lo hi) = rrange_w1 n lo hi := by kernel_rfl
theorem rrange_k1 (n lo hi : Int) : cleanOf Tryz.prog.globals.size (rrange_e1 n lo hi) = true := by kernel_rfl
theorem rrange_q1 (n lo hi : Int) : rrange_e1 n lo hi = evFS Tryz.prog x_rrange 1000 20 #[.int .i64 n, .int .i64 lo, .int .i64 hi] (noTabs 6) ⟨[1, 1, 1, 0, 1], True⟩ := by
  delta rrange_e1
  exact Eq.refl _
theorem rrange_p1 (n lo hi : Int) (h : rrange_r1 n lo hi) (w : World) : Calls Tryz.prog 20 #[.int .i64 n, .int .i64 lo, .int .i64 hi] w fun en w' => en = .returned (rrange_w1 n lo hi) ∧ Below w.heap.size w w' := by
  have hv := rrange_v1 n lo hi
  have hc := rrange_k1 n lo hi
  have he := rrange_q1 n lo hi
  have ho := rrange_o1 n lo hi
  generalize rrange_e1 n lo hi = r at *
  exact calls_way he gfol rrange_X hv rfl (rrange_args n lo hi) hc ho h (bl w)
def rrange_w2 (n lo hi : Int) : Value := .int .i64 (0 : Int)
def rrange_r2 (n lo hi : Int) : Prop := (((((True ∧ (rrange_c0 n lo hi = false)) ∧ (rrange_c0 n lo hi = false)) ∧ (rrange_c0 n lo hi = false)) ∧ (rrange_c0 n lo hi = false)) ∧ (rrange_c1 n lo hi = false))
theorem rrange_o2 (n lo hi : Int) : obOf (rrange_e2 n lo hi) = rrange_r2 n lo hi := by kernel_rfl
theorem rrange_v2 (n lo hi : Int) : resOf (rrange_e2 n lo hi) = rrange_w2 n lo hi := by kernel_rfl
theorem rrange_k2 (n lo hi : Int) : cleanOf Tryz.prog.globals.size (rrange_e2 n lo hi) = true := by kernel_rfl
theorem rrange_q2 (n lo hi : Int) : rrange_e2 n lo hi = evFS Tryz.prog x_rrange 1000 20 #[.int .i64 n, .int .i64 lo, .int .i64 hi] (noTabs 6) ⟨[1, 1, 1, 0, 0], True⟩ := by
  delta rrange_e2
  exact Eq.refl _
theorem rrange_p2 (n lo hi : Int) (h : rrange_r2 n lo hi) (w : World) : Calls Tryz.prog 20 #[.int .i64 n, .int .i64 lo, .int .i64 hi] w fun en w' => en = .returned (rrange_w2 n lo hi) ∧ Below w.heap.size w w' := by
  have hv := rrange_v2 n lo hi
  have hc := rrange_k2 n lo hi
  have he := rrange_q2 n lo hi
  have ho := rrange_o2 n lo hi
  generalize rrange_e2 n lo hi = r at *
  exact calls_way he gfol rrange_X hv rfl (rrange_args n lo hi) hc ho h (bl w)
theorem rrange_any (n lo hi : Int) (hpre : True) (w : World) : Calls Tryz.prog 20 #[.int .i64 n, .int .i64 lo, .int .i64 hi] w fun en w' => en = .returned (rrange_val n lo hi) ∧ Below w.heap.size w w' := by
  rcases Bool.eq_false_or_eq_true (rrange_c0 n lo hi) with h0 | h0
  ·
    unfold rrange_c0 at h0
    have hp := rrange_p0 n lo hi ⟨⟨⟨⟨⟨trivial, h0⟩, h0⟩, h0⟩, h0⟩, rrange_g1⟩ w
    have hv : rrange_w0 n lo hi = (rrange_val n lo hi) := by
      clear hp
      unfold rrange_w0 rrange_val
      (try simp only [Pl.cr, ixE, decide_eq_true_eq, decide_eq_false_iff_not] at *)
      first | rfl | grind
    exact hv ▸ hp
  ·
    unfold rrange_c0 at h0
    rcases Bool.eq_false_or_eq_true (rrange_c1 n lo hi) with h1 | h1
    ·
      unfold rrange_c1 at h1
      have hp := rrange_p1 n lo hi ⟨⟨⟨⟨⟨trivial, h0⟩, h0⟩, h0⟩, h0⟩, h1⟩ w
      have hv : rrange_w1 n lo hi = (rrange_val n lo hi) := by
        clear hp
        unfold rrange_w1 rrange_val
        (try simp only [Pl.cr, ixE, decide_eq_true_eq, decide_eq_false_iff_not] at *)
        first | rfl | grind
      exact hv ▸ hp
    ·
      unfold rrange_c1 at h1
      have hp := rrange_p2 n lo hi ⟨⟨⟨⟨⟨trivial, h0⟩, h0⟩, h0⟩, h0⟩, h1⟩ w
      have hv : rrange_w2 n lo hi = (rrange_val n lo hi) := by
        clear hp
        unfold rrange_w2 rrange_val
        (try simp only [Pl.cr, ixE, decide_eq_true_eq, decide_eq_false_iff_not] at *)
        first | rfl | grind
      exact hv ▸ hp
theorem k_rrange : ConOk Tryz.prog c_rrange := fun ns hl => by
  have hl0 : ns.length = 3 := hl
  clear hl
  obtain ⟨n, ns0, rfl, hl1⟩ := len_cons hl0
  obtain ⟨lo, ns1, rfl, hl2⟩ := len_cons hl1
  obtain ⟨hi, ns2, rfl, hl3⟩ := len_cons hl2
  obtain rfl := len_nil hl3
  exact ⟨rfl, fun h w => rrange_any n lo hi h w⟩
end Go.Proofs.YtbkpnhbcihcgaaaGreatDoor
end
section
set_option linter.all false
set_option maxRecDepth 1000000
open Go.RowKit
namespace Go.Proofs.YtbkpnhbcihcgaaaGreatDoor
open Mini
noncomputable section
variable (n : Nat) (c : Nat) (g : GI) (e : TypeId) (opn : Bool) (sz : Nat) (ro : Bool) (i10 : Nat) (jj : Nat)
noncomputable def ceX : Code := loopAt Tryz.prog 115 0
noncomputable def ceK : CallS := kAll [c_range, c_rrange, c_index]
def ceA (g : GI) (e : TypeId) (opn : Bool) (sz : Nat) (ro : Bool) (i10 : Nat) : MA := MA.ofL 21 (jl [.chan none, .func (.func 105) #[] #[.pointer (some ⟨7, 0, none⟩)]] 6 (jl [.slice (some ⟨6, 0, none⟩) n c, .int .i64 ((n : Nat) : Int), .int .i64 ((i10 : Nat) : Int)] 10 [])) []
abbrev yb0 : List MObj := [.rows n 1 (fun i j => .int .i64 (g i j)) e opn sz ro, .cells [.slice (some ⟨6, 0, none⟩) n c] 94 false 0 false]
def ceL (i10 : Nat) : List MObj := (yb0 n c g e opn sz ro)
abbrev yb1 := Pl.cr (g i10 0) (0 : Int) (((n - 1) : Nat) : Int)
noncomputable def cer0 : Option OutCS := evK Tryz.prog ceK 1000 false ceX (ceA n c g e opn sz ro i10) (wS 6 (ceL n c g e opn sz ro i10)) ⟨[1, .row i10 0, .row i10 0, .azz (.int .i64 (yb1 n g i10)), .azz (.int .i64 ((n : Nat) : Int)), .azz (.int .i64 (((n - 1) : Nat) : Int)), 0, .azz (.int .i64 ((i10 + 1 : Nat) : Int))], True⟩
noncomputable def cer1 : Option OutCS := evK Tryz.prog ceK 1000 false ceX (ceA n c g e opn sz ro i10) (wS 6 (ceL n c g e opn sz ro i10)) ⟨[1, .row i10 0, .row i10 0, .azz (.int .i64 (yb1 n g i10)), .azz (.int .i64 ((n : Nat) : Int)), .azz (.int .i64 (((n - 1) : Nat) : Int)), 1], True⟩
def cer1E (c : Nat) (g : GI) (e : TypeId) (opn : Bool) (sz : Nat) (ro : Bool) (i10 : Nat) : MA := MA.ofL 21 (jl [] 4 (jl [.int .i64 (yb1 n g i10)] 16 [])) []
noncomputable def cer2 : Option OutCS := evK Tryz.prog ceK 1000 false ceX (ceA n c g e opn sz ro i10) (wS 6 (ceL n c g e opn sz ro i10)) ⟨[0], True⟩
def cer2E (n : Nat) (c : Nat) (g : GI) (e : TypeId) (opn : Bool) (sz : Nat) (ro : Bool) (i10 : Nat) : MA := MA.ofL 21 (jl [] 21 []) []
def ceArgs (g : GI) (e : TypeId) (opn : Bool) (sz : Nat) (ro : Bool) : Array Value := #[.slice (some ⟨6, 0, none⟩) n c]
def ceS (c : Nat) (g : GI) (e : TypeId) (opn : Bool) (sz : Nat) (ro : Bool) : List MObj := [.rows n 1 (fun i j => .int .i64 (g i j)) e opn sz ro]
noncomputable abbrev yb2 := bodyOf Tryz.prog 60
noncomputable abbrev yb3 := startM Tryz.f60 (ceArgs n c g e opn sz ro)
abbrev yb4 := wS 6 (ceS n c g e opn sz ro)
noncomputable def cef0 : Option OutCS := evK Tryz.prog ceK 1000 false yb2 (yb3 n c g e opn sz ro) (yb4 n c g e opn sz ro) ⟨[1], True⟩
noncomputable def cef1 : Option OutCS := evK Tryz.prog ceK 1000 false yb2 (yb3 n c g e opn sz ro) (yb4 n c g e opn sz ro) ⟨[0, 1], True⟩
noncomputable def cef2 : Option OutCS := evK Tryz.prog ceK 1000 false yb2 (yb3 n c g e opn sz ro) (yb4 n c g e opn sz ro) ⟨[0, 0, .lp 1794 (ceA n c g e opn sz ro 0) 6 (ceL n c g e opn sz ro 0) .ret (cer1E n c g e opn sz ro jj) (ceL n c g e opn sz ro 0) 192 0], True⟩
noncomputable def cef3 : Option OutCS := evK Tryz.prog ceK 1000 false yb2 (yb3 n c g e opn sz ro) (yb4 n c g e opn sz ro) ⟨[0, 0, .lp 1794 (ceA n c g e opn sz ro 0) 6 (ceL n c g e opn sz ro 0) (.exit 0) (cer2E n c g e opn sz ro n) (ceL n c g e opn sz ro 0) 192 0], True⟩
theorem ceK_ok : FOkS Tryz.prog ceK := kAll_ok _ ⟨k_range, k_rrange, k_index, trivial⟩
abbrev yb5 := decide ((((i10 : Nat)) : Int) < (((n : Nat)) : Int))
abbrev yb6 := Pl.cr (g i10 0) (0 : Int) ((((n - 1) : Nat)) : Int)
abbrev yb7 := ((((((True ∧ ((yb5 n i10) = true)) ∧ (((((i10 : Nat)) : Int) = (Int.ofNat i10)) ∧ (i10 < n))) ∧ (((0 + (i10 * 1)) = ((i10 * 1) + 0)) ∧ (i10 < n))) ∧ (((.int .i64 (((n : Nat)) : Int)) : Value) = (.int .i64 (((n : Nat)) : Int)))) ∧ (((.int .i64 (IntKind.i64.wrap ((((n : Nat)) : Int) - (1 : Int)))) : Value) = (.int .i64 ((((n - 1) : Nat)) : Int)))) ∧ True) ∧ (((.int .i64 (yb6 n g i10)) : Value) = (.int .i64 (yb6 n g i10)))
abbrev yb8 := (yb6 n g i10) != (0 : Int)
theorem cer0_eq : seenK 6 2 [] 1794 0 (cer0 n c g e opn sz ro i10) = some (.normal, ceA n c g e opn sz ro (i10 + 1), (yb0 n c g e opn sz ro), 0, ⟨[], (((yb7 n g i10) ∧ ((yb8 n g i10) = false)) ∧ (((.int .i64 (IntKind.i64.wrap ((((i10 : Nat)) : Int) + (1 : Int)))) : Value) = (.int .i64 ((((i10 + 1) : Nat)) : Int))))⟩) := by kernel_rfl
theorem cer0_k (hx : 0 < n ∧ (n : Int) ≤ 9223372036854775807) (h0 : ((i10 : Nat) : Int) < ((n : Nat) : Int)) (h1 : (yb1 n g i10) = (0 : Int)) : KC Tryz.prog none ceX (ceA n c g e opn sz ro i10).act (wS 6 (ceL n c g e opn sz ro i10)) .normal (ceA n c g e opn sz ro (i10 + 1)).act (wS 6 (ceL n c g e opn sz ro (i10 + 1))) 8 0 :=
  seenK_ok smx ceK_ok sng (cer0_eq n c g e opn sz ro i10) kq
theorem cer1_eq : seenK 6 2 [] 16 0 (cer1 n c g e opn sz ro i10) = some (.ret, cer1E n c g e opn sz ro i10, (yb0 n c g e opn sz ro), 0, ⟨[], ((yb7 n g i10) ∧ ((yb8 n g i10) = true))⟩) := by kernel_rfl
abbrev yb9 := wS 6 (yb0 n c g e opn sz ro)
theorem cer1_k (hx : 0 < n ∧ (n : Int) ≤ 9223372036854775807) (h0 : ((i10 : Nat) : Int) < ((n : Nat) : Int)) (h1 : (yb1 n g i10) ≠ (0 : Int)) : KC Tryz.prog none ceX (ceA n c g e opn sz ro i10).act (wS 6 (ceL n c g e opn sz ro i10)) .ret (cer1E n c g e opn sz ro i10).act (yb9 n c g e opn sz ro) 8 0 :=
  seenK_ok smx ceK_ok sng (cer1_eq n c g e opn sz ro i10) kq
theorem cer2_eq : seenK 6 2 [] 0 0 (cer2 n c g e opn sz ro i10) = some ((.exit 0), cer2E n c g e opn sz ro i10, (yb0 n c g e opn sz ro), 0, ⟨[], (True ∧ ((yb5 n i10) = false))⟩) := by kernel_rfl
theorem cer2_k (hx : 0 < n ∧ (n : Int) ≤ 9223372036854775807) (h0 : ¬ ((i10 : Nat) : Int) < ((n : Nat) : Int)) : KC Tryz.prog none ceX (ceA n c g e opn sz ro i10).act (wS 6 (ceL n c g e opn sz ro i10)) (.exit 0) (cer2E n c g e opn sz ro i10).act (yb9 n c g e opn sz ro) 8 0 :=
  seenK_ok smx ceK_ok sng (cer2_eq n c g e opn sz ro i10) kq
abbrev yb10 := Pl.cr (g jj 0) (0 : Int) ((n - 1 : Nat) : Int)
abbrev yb11 := wS 6 (ceL n c g e opn sz ro 0)
theorem ce_ret (hx : 0 < n ∧ (n : Int) ≤ 9223372036854775807) (hj : jj < n) (h1 : ∀ i, i < jj → (Pl.cr (g i 0) (0 : Int) ((n - 1 : Nat) : Int)) = 0) (h2 : (yb10 n g jj) ≠ 0) : KC Tryz.prog none (.loop ceX) (ceA n c g e opn sz ro 0).act (yb11 n c g e opn sz ro) .ret (cer1E n c g e opn sz ro jj).act (yb9 n c g e opn sz ro) 8 0 := by
  exact K_rounds (A := fun i => (ceA n c g e opn sz ro i).act) (S := fun i => wS 6 (ceL n c g e opn sz ro i)) (jj) (fun i hi => cer0_k n c g e opn sz ro i hx (by omega) (h1 i hi)) (cer1_k n c g e opn sz ro jj hx (by omega) h2) (by simp)
theorem ce_ret_s (hx : 0 < n ∧ (n : Int) ≤ 9223372036854775807) (hj : jj < n) (h1 : ∀ i, i < jj → (Pl.cr (g i 0) (0 : Int) ((n - 1 : Nat) : Int)) = 0) (h2 : (yb10 n g jj) ≠ 0) : SndC Tryz.prog none (.loop ceX) (ceA n c g e opn sz ro 0).act (yb11 n c g e opn sz ro) .ret (cer1E n c g e opn sz ro jj).act (yb11 n c g e opn sz ro) 192 0 :=
  KT.snd (a := ceA n c g e opn sz ro 0) (a2 := cer1E n c g e opn sz ro jj) (L := ceL n c g e opn sz ro 0) (ce_ret n c g e opn sz ro jj hx hj h1 h2) sng (Nat.le_refl _) (fun b _ => by simp) rfl rfl (by kernel_rfl) (by kernel_rfl) (fun o ho => by
    simp only [ceL, List.mem_cons, List.not_mem_nil, or_false] at ho
    rcases ho with rfl | rfl
    all_goals first | rfl | exact fun i j => rfl)
theorem ce_all  (hx : 0 < n ∧ (n : Int) ≤ 9223372036854775807) (h1 : ∀ i, i < n → (Pl.cr (g i 0) (0 : Int) ((n - 1 : Nat) : Int)) = 0) : KC Tryz.prog none (.loop ceX) (ceA n c g e opn sz ro 0).act (yb11 n c g e opn sz ro) (.exit 0) (cer2E n c g e opn sz ro n).act (yb9 n c g e opn sz ro) 8 0 := by
  exact K_rounds (A := fun i => (ceA n c g e opn sz ro i).act) (S := fun i => wS 6 (ceL n c g e opn sz ro i)) (n) (fun i hi => cer0_k n c g e opn sz ro i hx (by omega) (h1 i hi)) (cer2_k n c g e opn sz ro n hx (by omega)) (by simp)
theorem ce_all_s  (hx : 0 < n ∧ (n : Int) ≤ 9223372036854775807) (h1 : ∀ i, i < n → (Pl.cr (g i 0) (0 : Int) ((n - 1 : Nat) : Int)) = 0) : SndC Tryz.prog none (.loop ceX) (ceA n c g e opn sz ro 0).act (yb11 n c g e opn sz ro) (.exit 0) (cer2E n c g e opn sz ro n).act (yb11 n c g e opn sz ro) 192 0 :=
  KT.snd (a := ceA n c g e opn sz ro 0) (a2 := cer2E n c g e opn sz ro n) (L := ceL n c g e opn sz ro 0) (ce_all n c g e opn sz ro hx h1) sng (Nat.le_refl _) (fun b _ => by simp) rfl rfl (by kernel_rfl) (by kernel_rfl) (fun o ho => by
    simp only [ceL, List.mem_cons, List.not_mem_nil, or_false] at ho
    rcases ho with rfl | rfl
    all_goals first | rfl | exact fun i j => rfl)
theorem cef0_eq : seenF' Tryz.prog Tryz.f60 6 1 [] (cef0 n c g e opn sz ro) = some (.int .i64 (12 : Int), ceS n c g e opn sz ro ++ [], ⟨[], (True ∧ (((((n : Nat)) : Int) == (0 : Int)) = true))⟩) := by kernel_rfl
theorem cef0_s (h0 : ((n : Nat) : Int) = (0 : Int)) : SndF Tryz.prog 60 (ceArgs n c g e opn sz ro) (yb4 n c g e opn sz ro) (.int .i64 (12 : Int)) (yb4 n c g e opn sz ro) 64 0 :=
  kF (L := ceS n c g e opn sz ro) (L2 := []) (ms := []) ceK_ok (cef0_eq n c g e opn sz ro) kq
abbrev yb12 := True ∧ (((((n : Nat)) : Int) == (0 : Int)) = false)
abbrev yb13 := decide ((((n : Nat)) : Int) > (64 : Int))
theorem cef1_eq : seenF' Tryz.prog Tryz.f60 6 1 [] (cef1 n c g e opn sz ro) = some (.int .i64 (5 : Int), ceS n c g e opn sz ro ++ [], ⟨[], ((yb12 n) ∧ ((yb13 n) = true))⟩) := by kernel_rfl
theorem cef1_s (h0 : ((n : Nat) : Int) ≠ (0 : Int)) (h1 : (64 : Int) < ((n : Nat) : Int)) : SndF Tryz.prog 60 (ceArgs n c g e opn sz ro) (yb4 n c g e opn sz ro) (.int .i64 (5 : Int)) (yb4 n c g e opn sz ro) 64 0 :=
  kF (L := ceS n c g e opn sz ro) (L2 := []) (ms := []) ceK_ok (cef1_eq n c g e opn sz ro) kq
abbrev yb14 := Pl.cr (g jj 0) (0 : Int) (((n - 1) : Nat) : Int)
abbrev yb15 := (yb12 n) ∧ ((yb13 n) = false)
abbrev yb16 := HAppend.hAppend (List.replicate (6 : Nat) MObj.hole) (ceL n c g e opn sz ro (0 : Nat))
abbrev yb17 := ((ceA n c g e opn sz ro (0 : Nat)) = (ceA n c g e opn sz ro (0 : Nat))) ∧ ((8 = (6 + 2)) ∧ ((yb16 n c g e opn sz ro) = (yb16 n c g e opn sz ro)))
theorem cef2_eq : seenF' Tryz.prog Tryz.f60 6 1 [] (cef2 n c g e opn sz ro jj) = some (.int .i64 (yb14 n g jj), ceS n c g e opn sz ro ++ [], ⟨[], ((yb15 n) ∧ ((yb17 n c g e opn sz ro) ∧ SndC Tryz.prog none (.loop ceX) (ceA n c g e opn sz ro 0).act (yb11 n c g e opn sz ro) .ret (cer1E n c g e opn sz ro jj).act (yb11 n c g e opn sz ro) 192 0))⟩) := by kernel_rfl
theorem cef2_s (h0 : ((n : Nat) : Int) ≠ (0 : Int)) (h1 : ¬ (64 : Int) < ((n : Nat) : Int)) (l0 : SndC Tryz.prog none (.loop ceX) (ceA n c g e opn sz ro 0).act (yb11 n c g e opn sz ro) .ret (cer1E n c g e opn sz ro jj).act (yb11 n c g e opn sz ro) 192 0) : SndF Tryz.prog 60 (ceArgs n c g e opn sz ro) (yb4 n c g e opn sz ro) (.int .i64 (yb14 n g jj)) (yb4 n c g e opn sz ro) 64 0 :=
  kF (L := ceS n c g e opn sz ro) (L2 := []) (ms := []) ceK_ok (cef2_eq n c g e opn sz ro jj) kq
theorem cef3_eq : seenF' Tryz.prog Tryz.f60 6 1 [] (cef3 n c g e opn sz ro) = some (.int .i64 (0 : Int), ceS n c g e opn sz ro ++ [], ⟨[], ((yb15 n) ∧ ((yb17 n c g e opn sz ro) ∧ SndC Tryz.prog none (.loop ceX) (ceA n c g e opn sz ro 0).act (yb11 n c g e opn sz ro) (.exit 0) (cer2E n c g e opn sz ro n).act (yb11 n c g e opn sz ro) 192 0))⟩) := by kernel_rfl
theorem cef3_s (h0 : ((n : Nat) : Int) ≠ (0 : Int)) (h1 : ¬ (64 : Int) < ((n : Nat) : Int)) (l0 : SndC Tryz.prog none (.loop ceX) (ceA n c g e opn sz ro 0).act (yb11 n c g e opn sz ro) (.exit 0) (cer2E n c g e opn sz ro n).act (yb11 n c g e opn sz ro) 192 0) : SndF Tryz.prog 60 (ceArgs n c g e opn sz ro) (yb4 n c g e opn sz ro) (.int .i64 (0 : Int)) (yb4 n c g e opn sz ro) 64 0 :=
  kF (L := ceS n c g e opn sz ro) (L2 := []) (ms := []) ceK_ok (cef3_eq n c g e opn sz ro) kq
def crV : Int := if n = 0 then 12 else if 64 < n then 5 else feN (fun i => Pl.cr (g i 0) 0 ((n - 1 : Nat) : Int)) n 0
theorem cr_sndF (hn : (n : Int) ≤ 9223372036854775807) : SndF Tryz.prog 60 (ceArgs n c g e opn sz ro) (wS 6 (ceS n c g e opn sz ro)) (.int .i64 (crV n g)) (wS 6 (ceS n c g e opn sz ro)) 64 0 := by
  unfold crV
  by_cases h0 : n = 0
  · rw [if_pos h0]; exact cef0_s n c g e opn sz ro (by omega)
  · rw [if_neg h0]
    by_cases h1 : 64 < n
    · rw [if_pos h1]; exact cef1_s n c g e opn sz ro (by omega) (by omega)
    · rw [if_neg h1]
      rcases first_or (p := fun i => Pl.cr (g i 0) 0 ((n - 1 : Nat) : Int) ≠ 0) (fun _ => inferInstance) n with h2 | ⟨j, hj, h2, h3⟩
      · have h4 : ∀ i, i < n → Pl.cr (g i 0) 0 ((n - 1 : Nat) : Int) = 0 := fun i hi => Decidable.not_not.1 (h2 i hi)
        rw [feN_all fun k _ hk => h4 k (by omega)]
        exact cef3_s n c g e opn sz ro (by omega) (by omega) (ce_all_s n c g e opn sz ro ⟨by omega, hn⟩ h4)
      · have h4 : ∀ i, i < j → Pl.cr (g i 0) 0 ((n - 1 : Nat) : Int) = 0 := fun i hi => Decidable.not_not.1 (h3 i hi)
        rw [feN_first (Nat.zero_le j) (by omega) (fun k _ hk => h4 k hk) h2]
        exact cef2_s n c g e opn sz ro j (by omega) (by omega) (ce_ret_s n c g e opn sz ro j ⟨by omega, hn⟩ hj h4 h2)
def kCr : CallS := fun f xs s q => match decide (f = 60) with
  | true => match xs.toList with
    | [.slice (some ⟨b, 0, none⟩) n c] => match Nat.ble 6 b, rowK 1 .i64 s b n with
      | true, some (g, _, _, _, _, p) => some (.int .i64 (crV n g), s, 2 ^ b, 0, ⟨q.rest, q.ob ∧ (p ∧ ((n : Int) ≤ 9223372036854775807))⟩)
      | _, _ => none
    | _ => none
  | false => none
theorem kCr_ok : FOkS Tryz.prog kCr := fun f xs s q u s1 R W q1 he => by
  unfold kCr at he
  split at he
  · rename_i hf
    have hf := of_decide_eq_true hf
    subst hf
    split at he
    · rename_i b n c hx0
      split at he
      · rename_i g e opn sz ro p hb hr
        have hb := Nat.le_of_ble_eq_true hb
        have hxs : xs = #[.slice (some ⟨b, 0, none⟩) n c] := by apply Array.ext'; exact hx0
        subst hxs
        cases he
        refine ⟨fun hq => hq.1, fun hq => ?_⟩
        obtain ⟨hp, hx⟩ := hq.2
        obtain ⟨l1, w1⟩ := rowK_wo hr hp
        exact SndF.row (N := 6) sng (cr_sndF n c g e opn sz ro hx) rfl hb l1 w1 (fun f _ hf => wvs_one (slice_wv hf))
      · cases he
    · cases he
  · cases he
end
end Go.Proofs.YtbkpnhbcihcgaaaGreatDoor
end
section
set_option linter.all false
set_option maxRecDepth 1000000
open Go.RowKit
namespace Go.Proofs.YtbkpnhbcihcgaaaGreatDoor
open Mini
noncomputable section
variable (n : Nat) (c : Nat) (g : GI) (e : TypeId) (opn : Bool) (sz : Nat) (ro : Bool) (i7 : Nat) (jj : Nat)
noncomputable def cnX : Code := loopAt Tryz.prog 78 0
noncomputable def cnK : CallS := kAll [c_range, c_rrange, c_index]
def cnA (g : GI) (e : TypeId) (opn : Bool) (sz : Nat) (ro : Bool) (i7 : Nat) : MA := MA.ofL 25 (jl [.slice (some ⟨6, 0, none⟩) n c, .int .i64 (0 : Int), .int .i64 (((n - 1) : Nat) : Int)] 4 (jl [.int .i64 ((i7 : Nat) : Int)] 17 [])) []
abbrev yc0 : List MObj := [.rows n 1 (fun i j => .int .i64 (g i j)) e opn sz ro]
def cnL (c : Nat) (g : GI) (e : TypeId) (opn : Bool) (sz : Nat) (ro : Bool) (i7 : Nat) : List MObj := (yc0 n g e opn sz ro)
noncomputable def cnr0 : Option OutCS := evK Tryz.prog cnK 1000 false cnX (cnA n c g e opn sz ro i7) (wS 6 (cnL n c g e opn sz ro i7)) ⟨[1, .row i7 0, .row i7 0, 0, .azz (.int .i64 ((i7 + 1 : Nat) : Int))], True⟩
noncomputable def cnr1 : Option OutCS := evK Tryz.prog cnK 1000 false cnX (cnA n c g e opn sz ro i7) (wS 6 (cnL n c g e opn sz ro i7)) ⟨[1, .row i7 0, .row i7 0, 1], True⟩
abbrev yc1 := Pl.cr (g i7 0) (0 : Int) (((n - 1) : Nat) : Int)
def cnr1E (c : Nat) (g : GI) (e : TypeId) (opn : Bool) (sz : Nat) (ro : Bool) (i7 : Nat) : MA := MA.ofL 25 (jl [] 6 (jl [.int .i64 (yc1 n g i7)] 18 [])) []
noncomputable def cnr2 : Option OutCS := evK Tryz.prog cnK 1000 false cnX (cnA n c g e opn sz ro i7) (wS 6 (cnL n c g e opn sz ro i7)) ⟨[0], True⟩
def cnr2E (n : Nat) (c : Nat) (g : GI) (e : TypeId) (opn : Bool) (sz : Nat) (ro : Bool) (i7 : Nat) : MA := MA.ofL 25 (jl [] 25 []) []
def cnArgs (g : GI) (e : TypeId) (opn : Bool) (sz : Nat) (ro : Bool) : Array Value := #[.slice (some ⟨6, 0, none⟩) n c]
def cnS (c : Nat) (g : GI) (e : TypeId) (opn : Bool) (sz : Nat) (ro : Bool) : List MObj := (yc0 n g e opn sz ro)
noncomputable abbrev yc2 := bodyOf Tryz.prog 61
noncomputable abbrev yc3 := startM Tryz.f61 (cnArgs n c g e opn sz ro)
abbrev yc4 := wS 6 (cnS n c g e opn sz ro)
noncomputable def cnf0 : Option OutCS := evK Tryz.prog cnK 1000 false yc2 (yc3 n c g e opn sz ro) (yc4 n c g e opn sz ro) ⟨[1], True⟩
noncomputable def cnf1 : Option OutCS := evK Tryz.prog cnK 1000 false yc2 (yc3 n c g e opn sz ro) (yc4 n c g e opn sz ro) ⟨[0, 1], True⟩
noncomputable def cnf2 : Option OutCS := evK Tryz.prog cnK 1000 false yc2 (yc3 n c g e opn sz ro) (yc4 n c g e opn sz ro) ⟨[0, 0, .azz (.int .i64 ((n : Nat) : Int)), .azz (.int .i64 (((n - 1) : Nat) : Int)), .lp 135 (cnA n c g e opn sz ro 0) 6 (cnL n c g e opn sz ro 0) .ret (cnr1E n c g e opn sz ro jj) (cnL n c g e opn sz ro 0) 64 0], True⟩
noncomputable def cnf3 : Option OutCS := evK Tryz.prog cnK 1000 false yc2 (yc3 n c g e opn sz ro) (yc4 n c g e opn sz ro) ⟨[0, 0, .azz (.int .i64 ((n : Nat) : Int)), .azz (.int .i64 (((n - 1) : Nat) : Int)), .lp 135 (cnA n c g e opn sz ro 0) 6 (cnL n c g e opn sz ro 0) (.exit 0) (cnr2E n c g e opn sz ro n) (cnL n c g e opn sz ro 0) 64 0], True⟩
theorem cnK_ok : FOkS Tryz.prog cnK := kAll_ok _ ⟨k_range, k_rrange, k_index, trivial⟩
abbrev yc5 := decide ((((i7 : Nat)) : Int) < (((n : Nat)) : Int))
abbrev yc6 := (((True ∧ ((yc5 n i7) = true)) ∧ (((((i7 : Nat)) : Int) = (Int.ofNat i7)) ∧ (i7 < n))) ∧ (((0 + (i7 * 1)) = ((i7 * 1) + 0)) ∧ (i7 < n))) ∧ True
abbrev yc7 := (Pl.cr (g i7 0) (0 : Int) ((((n - 1) : Nat)) : Int)) != (0 : Int)
theorem cnr0_eq : seenK 6 1 [] 135 0 (cnr0 n c g e opn sz ro i7) = some (.normal, cnA n c g e opn sz ro (i7 + 1), (yc0 n g e opn sz ro), 0, ⟨[], (((yc6 n i7) ∧ ((yc7 n g i7) = false)) ∧ (((.int .i64 (IntKind.i64.wrap ((((i7 : Nat)) : Int) + (1 : Int)))) : Value) = (.int .i64 ((((i7 + 1) : Nat)) : Int))))⟩) := by kernel_rfl
theorem cnr0_k (hx : 0 < n ∧ (n : Int) ≤ 9223372036854775807) (h0 : ((i7 : Nat) : Int) < ((n : Nat) : Int)) (h1 : (yc1 n g i7) = (0 : Int)) : KC Tryz.prog none cnX (cnA n c g e opn sz ro i7).act (wS 6 (cnL n c g e opn sz ro i7)) .normal (cnA n c g e opn sz ro (i7 + 1)).act (wS 6 (cnL n c g e opn sz ro (i7 + 1))) 7 0 :=
  seenK_ok smx cnK_ok sng (cnr0_eq n c g e opn sz ro i7) kq
theorem cnr1_eq : seenK 6 1 [] 64 0 (cnr1 n c g e opn sz ro i7) = some (.ret, cnr1E n c g e opn sz ro i7, (yc0 n g e opn sz ro), 0, ⟨[], ((yc6 n i7) ∧ ((yc7 n g i7) = true))⟩) := by kernel_rfl
abbrev yc8 := wS 6 (yc0 n g e opn sz ro)
theorem cnr1_k (hx : 0 < n ∧ (n : Int) ≤ 9223372036854775807) (h0 : ((i7 : Nat) : Int) < ((n : Nat) : Int)) (h1 : (yc1 n g i7) ≠ (0 : Int)) : KC Tryz.prog none cnX (cnA n c g e opn sz ro i7).act (wS 6 (cnL n c g e opn sz ro i7)) .ret (cnr1E n c g e opn sz ro i7).act (yc8 n g e opn sz ro) 7 0 :=
  seenK_ok smx cnK_ok sng (cnr1_eq n c g e opn sz ro i7) kq
theorem cnr2_eq : seenK 6 1 [] 0 0 (cnr2 n c g e opn sz ro i7) = some ((.exit 0), cnr2E n c g e opn sz ro i7, (yc0 n g e opn sz ro), 0, ⟨[], (True ∧ ((yc5 n i7) = false))⟩) := by kernel_rfl
theorem cnr2_k (hx : 0 < n ∧ (n : Int) ≤ 9223372036854775807) (h0 : ¬ ((i7 : Nat) : Int) < ((n : Nat) : Int)) : KC Tryz.prog none cnX (cnA n c g e opn sz ro i7).act (wS 6 (cnL n c g e opn sz ro i7)) (.exit 0) (cnr2E n c g e opn sz ro i7).act (yc8 n g e opn sz ro) 7 0 :=
  seenK_ok smx cnK_ok sng (cnr2_eq n c g e opn sz ro i7) kq
abbrev yc9 := Pl.cr (g jj 0) (0 : Int) ((n - 1 : Nat) : Int)
abbrev yc10 := wS 6 (cnL n c g e opn sz ro 0)
theorem cn_ret (hx : 0 < n ∧ (n : Int) ≤ 9223372036854775807) (hj : jj < n) (h1 : ∀ i, i < jj → (Pl.cr (g i 0) (0 : Int) ((n - 1 : Nat) : Int)) = 0) (h2 : (yc9 n g jj) ≠ 0) : KC Tryz.prog none (.loop cnX) (cnA n c g e opn sz ro 0).act (yc10 n c g e opn sz ro) .ret (cnr1E n c g e opn sz ro jj).act (yc8 n g e opn sz ro) 7 0 := by
  exact K_rounds (A := fun i => (cnA n c g e opn sz ro i).act) (S := fun i => wS 6 (cnL n c g e opn sz ro i)) (jj) (fun i hi => cnr0_k n c g e opn sz ro i hx (by omega) (h1 i hi)) (cnr1_k n c g e opn sz ro jj hx (by omega) h2) (by simp)
theorem cn_ret_s (hx : 0 < n ∧ (n : Int) ≤ 9223372036854775807) (hj : jj < n) (h1 : ∀ i, i < jj → (Pl.cr (g i 0) (0 : Int) ((n - 1 : Nat) : Int)) = 0) (h2 : (yc9 n g jj) ≠ 0) : SndC Tryz.prog none (.loop cnX) (cnA n c g e opn sz ro 0).act (yc10 n c g e opn sz ro) .ret (cnr1E n c g e opn sz ro jj).act (yc10 n c g e opn sz ro) 64 0 :=
  KT.snd (a := cnA n c g e opn sz ro 0) (a2 := cnr1E n c g e opn sz ro jj) (L := cnL n c g e opn sz ro 0) (cn_ret n c g e opn sz ro jj hx hj h1 h2) sng (Nat.le_refl _) (fun b _ => by simp) rfl rfl (by kernel_rfl) (by kernel_rfl) (fun o ho => by
    simp only [cnL, List.mem_cons, List.not_mem_nil, or_false] at ho
    rcases ho with rfl
    all_goals first | rfl | exact fun i j => rfl)
theorem cn_all  (hx : 0 < n ∧ (n : Int) ≤ 9223372036854775807) (h1 : ∀ i, i < n → (Pl.cr (g i 0) (0 : Int) ((n - 1 : Nat) : Int)) = 0) : KC Tryz.prog none (.loop cnX) (cnA n c g e opn sz ro 0).act (yc10 n c g e opn sz ro) (.exit 0) (cnr2E n c g e opn sz ro n).act (yc8 n g e opn sz ro) 7 0 := by
  exact K_rounds (A := fun i => (cnA n c g e opn sz ro i).act) (S := fun i => wS 6 (cnL n c g e opn sz ro i)) (n) (fun i hi => cnr0_k n c g e opn sz ro i hx (by omega) (h1 i hi)) (cnr2_k n c g e opn sz ro n hx (by omega)) (by simp)
theorem cn_all_s  (hx : 0 < n ∧ (n : Int) ≤ 9223372036854775807) (h1 : ∀ i, i < n → (Pl.cr (g i 0) (0 : Int) ((n - 1 : Nat) : Int)) = 0) : SndC Tryz.prog none (.loop cnX) (cnA n c g e opn sz ro 0).act (yc10 n c g e opn sz ro) (.exit 0) (cnr2E n c g e opn sz ro n).act (yc10 n c g e opn sz ro) 64 0 :=
  KT.snd (a := cnA n c g e opn sz ro 0) (a2 := cnr2E n c g e opn sz ro n) (L := cnL n c g e opn sz ro 0) (cn_all n c g e opn sz ro hx h1) sng (Nat.le_refl _) (fun b _ => by simp) rfl rfl (by kernel_rfl) (by kernel_rfl) (fun o ho => by
    simp only [cnL, List.mem_cons, List.not_mem_nil, or_false] at ho
    rcases ho with rfl
    all_goals first | rfl | exact fun i j => rfl)
theorem cnf0_eq : seenF' Tryz.prog Tryz.f61 6 1 [] (cnf0 n c g e opn sz ro) = some (.int .i64 (12 : Int), cnS n c g e opn sz ro ++ [], ⟨[], (True ∧ (((((n : Nat)) : Int) == (0 : Int)) = true))⟩) := by kernel_rfl
theorem cnf0_s (h0 : ((n : Nat) : Int) = (0 : Int)) : SndF Tryz.prog 61 (cnArgs n c g e opn sz ro) (yc4 n c g e opn sz ro) (.int .i64 (12 : Int)) (yc4 n c g e opn sz ro) 64 0 :=
  kF (L := cnS n c g e opn sz ro) (L2 := []) (ms := []) cnK_ok (cnf0_eq n c g e opn sz ro) kq
abbrev yc11 := True ∧ (((((n : Nat)) : Int) == (0 : Int)) = false)
abbrev yc12 := decide ((((n : Nat)) : Int) > (64 : Int))
theorem cnf1_eq : seenF' Tryz.prog Tryz.f61 6 1 [] (cnf1 n c g e opn sz ro) = some (.int .i64 (5 : Int), cnS n c g e opn sz ro ++ [], ⟨[], ((yc11 n) ∧ ((yc12 n) = true))⟩) := by kernel_rfl
theorem cnf1_s (h0 : ((n : Nat) : Int) ≠ (0 : Int)) (h1 : (64 : Int) < ((n : Nat) : Int)) : SndF Tryz.prog 61 (cnArgs n c g e opn sz ro) (yc4 n c g e opn sz ro) (.int .i64 (5 : Int)) (yc4 n c g e opn sz ro) 64 0 :=
  kF (L := cnS n c g e opn sz ro) (L2 := []) (ms := []) cnK_ok (cnf1_eq n c g e opn sz ro) kq
abbrev yc13 := Pl.cr (g jj 0) (0 : Int) (((n - 1) : Nat) : Int)
abbrev yc14 := (((yc11 n) ∧ ((yc12 n) = false)) ∧ (((.int .i64 (((n : Nat)) : Int)) : Value) = (.int .i64 (((n : Nat)) : Int)))) ∧ (((.int .i64 (IntKind.i64.wrap ((((n : Nat)) : Int) - (1 : Int)))) : Value) = (.int .i64 ((((n - 1) : Nat)) : Int)))
abbrev yc15 := HAppend.hAppend (List.replicate (6 : Nat) MObj.hole) (cnL n c g e opn sz ro (0 : Nat))
abbrev yc16 := ((cnA n c g e opn sz ro (0 : Nat)) = (cnA n c g e opn sz ro (0 : Nat))) ∧ ((7 = (6 + 1)) ∧ ((yc15 n c g e opn sz ro) = (yc15 n c g e opn sz ro)))
theorem cnf2_eq : seenF' Tryz.prog Tryz.f61 6 1 [] (cnf2 n c g e opn sz ro jj) = some (.int .i64 (yc13 n g jj), cnS n c g e opn sz ro ++ [], ⟨[], ((yc14 n) ∧ ((yc16 n c g e opn sz ro) ∧ SndC Tryz.prog none (.loop cnX) (cnA n c g e opn sz ro 0).act (yc10 n c g e opn sz ro) .ret (cnr1E n c g e opn sz ro jj).act (yc10 n c g e opn sz ro) 64 0))⟩) := by kernel_rfl
theorem cnf2_s (h0 : ((n : Nat) : Int) ≠ (0 : Int)) (h1 : ¬ (64 : Int) < ((n : Nat) : Int)) (l0 : SndC Tryz.prog none (.loop cnX) (cnA n c g e opn sz ro 0).act (yc10 n c g e opn sz ro) .ret (cnr1E n c g e opn sz ro jj).act (yc10 n c g e opn sz ro) 64 0) : SndF Tryz.prog 61 (cnArgs n c g e opn sz ro) (yc4 n c g e opn sz ro) (.int .i64 (yc13 n g jj)) (yc4 n c g e opn sz ro) 64 0 :=
  kF (L := cnS n c g e opn sz ro) (L2 := []) (ms := []) cnK_ok (cnf2_eq n c g e opn sz ro jj) kq
theorem cnf3_eq : seenF' Tryz.prog Tryz.f61 6 1 [] (cnf3 n c g e opn sz ro) = some (.int .i64 (0 : Int), cnS n c g e opn sz ro ++ [], ⟨[], ((yc14 n) ∧ ((yc16 n c g e opn sz ro) ∧ SndC Tryz.prog none (.loop cnX) (cnA n c g e opn sz ro 0).act (yc10 n c g e opn sz ro) (.exit 0) (cnr2E n c g e opn sz ro n).act (yc10 n c g e opn sz ro) 64 0))⟩) := by kernel_rfl
theorem cnf3_s (h0 : ((n : Nat) : Int) ≠ (0 : Int)) (h1 : ¬ (64 : Int) < ((n : Nat) : Int)) (l0 : SndC Tryz.prog none (.loop cnX) (cnA n c g e opn sz ro 0).act (yc10 n c g e opn sz ro) (.exit 0) (cnr2E n c g e opn sz ro n).act (yc10 n c g e opn sz ro) 64 0) : SndF Tryz.prog 61 (cnArgs n c g e opn sz ro) (yc4 n c g e opn sz ro) (.int .i64 (0 : Int)) (yc4 n c g e opn sz ro) 64 0 :=
  kF (L := cnS n c g e opn sz ro) (L2 := []) (ms := []) cnK_ok (cnf3_eq n c g e opn sz ro) kq
theorem rcr_sndF (hn : (n : Int) ≤ 9223372036854775807) : SndF Tryz.prog 61 (cnArgs n c g e opn sz ro) (wS 6 (cnS n c g e opn sz ro)) (.int .i64 (crV n g)) (wS 6 (cnS n c g e opn sz ro)) 64 0 := by
  unfold crV
  by_cases h0 : n = 0
  · rw [if_pos h0]; exact cnf0_s n c g e opn sz ro (by omega)
  · rw [if_neg h0]
    by_cases h1 : 64 < n
    · rw [if_pos h1]; exact cnf1_s n c g e opn sz ro (by omega) (by omega)
    · rw [if_neg h1]
      rcases first_or (p := fun i => Pl.cr (g i 0) 0 ((n - 1 : Nat) : Int) ≠ 0) (fun _ => inferInstance) n with h2 | ⟨j, hj, h2, h3⟩
      · have h4 : ∀ i, i < n → Pl.cr (g i 0) 0 ((n - 1 : Nat) : Int) = 0 := fun i hi => Decidable.not_not.1 (h2 i hi)
        rw [feN_all fun k _ hk => h4 k (by omega)]
        exact cnf3_s n c g e opn sz ro (by omega) (by omega) (cn_all_s n c g e opn sz ro ⟨by omega, hn⟩ h4)
      · have h4 : ∀ i, i < j → Pl.cr (g i 0) 0 ((n - 1 : Nat) : Int) = 0 := fun i hi => Decidable.not_not.1 (h3 i hi)
        rw [feN_first (Nat.zero_le j) (by omega) (fun k _ hk => h4 k hk) h2]
        exact cnf2_s n c g e opn sz ro j (by omega) (by omega) (cn_ret_s n c g e opn sz ro j ⟨by omega, hn⟩ hj h4 h2)
def kRCr : CallS := fun f xs s q => match decide (f = 61) with
  | true => match xs.toList with
    | [.slice (some ⟨b, 0, none⟩) n c] => match Nat.ble 6 b, rowK 1 .i64 s b n with
      | true, some (g, _, _, _, _, p) => some (.int .i64 (crV n g), s, 2 ^ b, 0, ⟨q.rest, q.ob ∧ (p ∧ ((n : Int) ≤ 9223372036854775807))⟩)
      | _, _ => none
    | _ => none
  | false => none
theorem kRCr_ok : FOkS Tryz.prog kRCr := fun f xs s q u s1 R W q1 he => by
  unfold kRCr at he
  split at he
  · rename_i hf
    have hf := of_decide_eq_true hf
    subst hf
    split at he
    · rename_i b n c hx0
      split at he
      · rename_i g e opn sz ro p hb hr
        have hb := Nat.le_of_ble_eq_true hb
        have hxs : xs = #[.slice (some ⟨b, 0, none⟩) n c] := by apply Array.ext'; exact hx0
        subst hxs
        cases he
        refine ⟨fun hq => hq.1, fun hq => ?_⟩
        obtain ⟨hp, hx⟩ := hq.2
        obtain ⟨l1, w1⟩ := rowK_wo hr hp
        exact SndF.row (N := 6) sng (rcr_sndF n c g e opn sz ro hx) rfl hb l1 w1 (fun f _ hf => wvs_one (slice_wv hf))
      · cases he
    · cases he
  · cases he
end
end Go.Proofs.YtbkpnhbcihcgaaaGreatDoor
end
section
set_option linter.all false
set_option maxRecDepth 1000000
open Go.RowKit
namespace Go.Proofs.YtbkpnhbcihcgaaaGreatDoor
open Mini
noncomputable section
variable (n : Nat) (c : Nat) (g : GI) (e : TypeId) (opn : Bool) (sz : Nat) (ro : Bool) (fr : Int) (ph : Int) (a8 : Int) (i13 : Nat) (jj : Nat)
def itR (g : GI) (fr : Int) : Nat → Int
  | 0 => fr
  | k + 1 => g (Int.toNat (itR g fr k)) 0
theorem itR_in {n : Nat} {g : Nat → Nat → Int} {fr : Int} (hg : ∀ i, i < n → 0 ≤ g i 0 ∧ g i 0 < (n : Int)) (hf : 0 ≤ fr ∧ fr < (n : Int)) : ∀ k, 0 ≤ itR g fr k ∧ itR g fr k < (n : Int)
  | 0 => hf
  | k + 1 => hg _ (by have := itR_in hg hf k; omega)
theorem itR_add (g : GI) (fr : Int) (i : Nat) : ∀ d, itR g fr (i + d) = itR g (itR g fr i) d
  | 0 => rfl
  | d + 1 => by rw [show i + (d + 1) = (i + d) + 1 from by omega]; show g (Int.toNat (itR g fr (i + d))) 0 = _; rw [itR_add g fr i d]; rfl
theorem pigeon : ∀ (m : Nat) (f : Nat → Nat), (∀ k, k ≤ m → f k < m) → ∃ i j, i < j ∧ j ≤ m ∧ f i = f j
  | 0, f, h => absurd (h 0 (Nat.le_refl _)) (by omega)
  | m + 1, f, h => by
    by_cases c : ∃ i, i < m + 1 ∧ f i = f (m + 1)
    · obtain ⟨i, h1, h2⟩ := c
      exact ⟨i, m + 1, h1, Nat.le_refl _, h2⟩
    · have hne : ∀ k, k ≤ m → f k ≠ f (m + 1) := fun k hk e => c ⟨k, by omega, e⟩
      have h0 := h (m + 1) (Nat.le_refl _)
      obtain ⟨i, j, h1, h2, h3⟩ := pigeon m (fun k => if f (m + 1) < f k then f k - 1 else f k) (fun k hk => by
        have := h k (by omega)
        have := hne k hk
        show (if f (m + 1) < f k then f k - 1 else f k) < m
        split <;> omega)
      refine ⟨i, j, h1, by omega, ?_⟩
      have a1 := hne i (by omega)
      have a2 := hne j h2
      have h3 : (if f (m + 1) < f i then f i - 1 else f i) = (if f (m + 1) < f j then f j - 1 else f j) := h3
      split at h3 <;> split at h3 <;> omega
theorem itR_far {n : Nat} {g : Nat → Nat → Int} {fr ph : Int} (hg : ∀ i, i < n → 0 ≤ g i 0 ∧ g i 0 < (n : Int)) (hf : 0 ≤ fr ∧ fr < (n : Int)) (h : ∀ k, k < n → itR g fr k ≠ ph) : itR g fr n ≠ ph := fun he => by
  have hin := itR_in hg hf
  have hn : 0 < n := by omega
  have hph := hin n
  rw [he] at hph
  obtain ⟨i, j, h1, h2, h3⟩ := pigeon (n - 1) (fun k => if ph < itR g fr k then Int.toNat (itR g fr k) - 1 else Int.toNat (itR g fr k)) (fun k hk => by
    have a := hin k
    have b := h k (by omega)
    show (if ph < itR g fr k then Int.toNat (itR g fr k) - 1 else Int.toNat (itR g fr k)) < n - 1
    split <;> omega)
  have h3 : (if ph < itR g fr i then Int.toNat (itR g fr i) - 1 else Int.toNat (itR g fr i)) = (if ph < itR g fr j then Int.toNat (itR g fr j) - 1 else Int.toNat (itR g fr j)) := h3
  have a1 := hin i
  have a2 := hin j
  have b1 := h i (by omega)
  have b2 := h j (by omega)
  have e : itR g fr i = itR g fr j := by split at h3 <;> split at h3 <;> omega
  have e1 := itR_add g fr j (n - j)
  rw [show j + (n - j) = n from by omega, he, ← e, ← itR_add g fr i (n - j)] at e1
  exact h (i + (n - j)) (by omega) e1.symm
def fallN : Nat := firstI (fun k => decide (itR g fr k = ph)) n 0
def fallB : Bool := decide (fallN n g fr ph < n)
def fallC : Int := if fallN n g fr ph < n then ((fallN n g fr ph : Nat) : Int) else 0
def fallV : Value := .tuple #[.int .i64 (fallC n g fr ph), .bool (fallB n g fr ph)]
theorem fl_some {n : Nat} {g : Nat → Nat → Int} {fr ph : Int} {j : Nat} (hj : j < n) (h1 : ∀ i, i < j → itR g fr i ≠ ph) (h2 : itR g fr j = ph) : fallC n g fr ph = ((j : Nat) : Int) ∧ fallB n g fr ph = true := by
  have e : fallN n g fr ph = j := firstI_some (Nat.zero_le _) (by omega) (fun k _ hk => decide_eq_false (h1 k hk)) (decide_eq_true h2)
  unfold fallC fallB
  rw [e, if_pos hj]
  exact ⟨rfl, decide_eq_true hj⟩
theorem fl_none {n : Nat} {g : Nat → Nat → Int} {fr ph : Int} (h1 : ∀ i, i < n → itR g fr i ≠ ph) : fallC n g fr ph = 0 ∧ fallB n g fr ph = false := by
  have e : fallN n g fr ph = 0 + n := firstI_none fun k _ hk => decide_eq_false (h1 k (by omega))
  unfold fallC fallB
  rw [e, if_neg (by omega)]
  exact ⟨rfl, decide_eq_false (by omega)⟩
noncomputable def flX : Code := loopAt Tryz.prog 104 0
noncomputable def flK : CallS := noXS
def flA (g : GI) (e : TypeId) (opn : Bool) (sz : Nat) (ro : Bool) (fr : Int) (ph : Int) (a8 : Int) (i13 : Nat) : MA := MA.ofL 25 (jl [.slice (some ⟨6, 0, none⟩) n c, .chan none, .int .i64 ph] 5 (jl [.int .i64 a8, .chan none, .chan none, .chan none, .int .i64 ((n : Nat) : Int), .int .i64 ((i13 : Nat) : Int)] 11 [])) []
abbrev yd0 : List MObj := [.rows n 1 (fun i j => .int .i64 (g i j)) e opn sz ro]
def flL (c : Nat) (g : GI) (e : TypeId) (opn : Bool) (sz : Nat) (ro : Bool) (fr : Int) (ph : Int) (a8 : Int) (i13 : Nat) : List MObj := (yd0 n g e opn sz ro)
noncomputable def flr0 : Option OutCS := evK Tryz.prog flK 1000 false flX (flA n c g e opn sz ro fr ph a8 i13) (wS 6 (flL n c g e opn sz ro fr ph a8 i13)) ⟨[1, 1], True⟩
def flr0E (n : Nat) (c : Nat) (g : GI) (e : TypeId) (opn : Bool) (sz : Nat) (ro : Bool) (fr : Int) (ph : Int) (a8 : Int) (i13 : Nat) : MA := MA.ofL 25 (jl [] 6 (jl [.int .i64 ((i13 : Nat) : Int), .bool true] 17 [])) []
noncomputable def flr1 : Option OutCS := evK Tryz.prog flK 1000 false flX (flA n c g e opn sz ro fr ph a8 i13) (wS 6 (flL n c g e opn sz ro fr ph a8 i13)) ⟨[1, 0, .row (Int.toNat a8) 0, .row (Int.toNat a8) 0, .azz (.int .i64 ((i13 + 1 : Nat) : Int))], True⟩
noncomputable def flr2 : Option OutCS := evK Tryz.prog flK 1000 false flX (flA n c g e opn sz ro fr ph a8 i13) (wS 6 (flL n c g e opn sz ro fr ph a8 i13)) ⟨[0], True⟩
def flr2E (n : Nat) (c : Nat) (g : GI) (e : TypeId) (opn : Bool) (sz : Nat) (ro : Bool) (fr : Int) (ph : Int) (a8 : Int) (i13 : Nat) : MA := MA.ofL 25 (jl [] 25 []) []
def flArgs (g : GI) (e : TypeId) (opn : Bool) (sz : Nat) (ro : Bool) (fr : Int) (ph : Int) : Array Value := #[.slice (some ⟨6, 0, none⟩) n c, .int .i64 fr, .int .i64 ph]
def flS (c : Nat) (g : GI) (e : TypeId) (opn : Bool) (sz : Nat) (ro : Bool) (fr : Int) (ph : Int) : List MObj := (yd0 n g e opn sz ro)
noncomputable abbrev yd1 := bodyOf Tryz.prog 104
noncomputable def flf0 : Option OutCS := evK Tryz.prog flK 1000 false yd1 (startM Tryz.f104 (flArgs n c g e opn sz ro fr ph)) (wS 6 (flS n c g e opn sz ro fr ph)) ⟨[.lp 12549 (flA n c g e opn sz ro fr ph fr 0) 6 (flL n c g e opn sz ro fr ph fr 0) .ret (flr0E n c g e opn sz ro fr ph (itR g fr jj) jj) (yd0 n g e opn sz ro) 7 0], True⟩
noncomputable def flf1 : Option OutCS := evK Tryz.prog flK 1000 false yd1 (startM Tryz.f104 (flArgs n c g e opn sz ro fr ph)) (wS 6 (flS n c g e opn sz ro fr ph)) ⟨[.lp 12549 (flA n c g e opn sz ro fr ph fr 0) 6 (flL n c g e opn sz ro fr ph fr 0) (.exit 0) (flr2E n c g e opn sz ro fr ph (itR g fr n) n) (yd0 n g e opn sz ro) 7 0], True⟩
theorem flK_ok : FOkS Tryz.prog flK := noXS_ok
abbrev yd2 := decide ((((i13 : Nat)) : Int) < (((n : Nat)) : Int))
abbrev yd3 := True ∧ ((yd2 n i13) = true)
theorem flr0_eq : seenK 6 1 [] 192 0 (flr0 n c g e opn sz ro fr ph a8 i13) = some (.ret, flr0E n c g e opn sz ro fr ph a8 i13, (yd0 n g e opn sz ro), 0, ⟨[], ((yd3 n i13) ∧ ((a8 == ph) = true))⟩) := by kernel_rfl
abbrev yd4 := wS 6 (yd0 n g e opn sz ro)
theorem flr0_k (hx : (n : Int) ≤ 9223372036854775807 ∧ 0 ≤ a8 ∧ a8 < (n : Int)) (h0 : ((i13 : Nat) : Int) < ((n : Nat) : Int)) (h1 : a8 = ph) : KC Tryz.prog none flX (flA n c g e opn sz ro fr ph a8 i13).act (wS 6 (flL n c g e opn sz ro fr ph a8 i13)) .ret (flr0E n c g e opn sz ro fr ph a8 i13).act (yd4 n g e opn sz ro) 7 0 :=
  seenK_ok smx flK_ok sng (flr0_eq n c g e opn sz ro fr ph a8 i13) kq
theorem flr1_eq : seenK 6 1 [] 12549 0 (flr1 n c g e opn sz ro fr ph a8 i13) = some (.normal, flA n c g e opn sz ro fr ph (g (Int.toNat a8) 0) (i13 + 1), (yd0 n g e opn sz ro), 0, ⟨[], (((((yd3 n i13) ∧ ((a8 == ph) = false)) ∧ ((a8 = (Int.ofNat (Int.toNat a8))) ∧ ((Int.toNat a8) < n))) ∧ (((0 + ((Int.toNat a8) * 1)) = (((Int.toNat a8) * 1) + 0)) ∧ ((Int.toNat a8) < n))) ∧ (((.int .i64 (IntKind.i64.wrap ((((i13 : Nat)) : Int) + (1 : Int)))) : Value) = (.int .i64 ((((i13 + 1) : Nat)) : Int))))⟩) := by kernel_rfl
theorem flr1_k (hx : (n : Int) ≤ 9223372036854775807 ∧ 0 ≤ a8 ∧ a8 < (n : Int)) (h0 : ((i13 : Nat) : Int) < ((n : Nat) : Int)) (h1 : a8 ≠ ph) : KC Tryz.prog none flX (flA n c g e opn sz ro fr ph a8 i13).act (wS 6 (flL n c g e opn sz ro fr ph a8 i13)) .normal (flA n c g e opn sz ro fr ph (g (Int.toNat a8) 0) (i13 + 1)).act (wS 6 (flL n c g e opn sz ro fr ph (g (Int.toNat a8) 0) (i13 + 1))) 7 0 :=
  seenK_ok smx flK_ok sng (flr1_eq n c g e opn sz ro fr ph a8 i13) kq
theorem flr2_eq : seenK 6 1 [] 0 0 (flr2 n c g e opn sz ro fr ph a8 i13) = some ((.exit 0), flr2E n c g e opn sz ro fr ph a8 i13, (yd0 n g e opn sz ro), 0, ⟨[], (True ∧ ((yd2 n i13) = false))⟩) := by kernel_rfl
theorem flr2_k (hx : (n : Int) ≤ 9223372036854775807 ∧ 0 ≤ a8 ∧ a8 < (n : Int)) (h0 : ¬ ((i13 : Nat) : Int) < ((n : Nat) : Int)) : KC Tryz.prog none flX (flA n c g e opn sz ro fr ph a8 i13).act (wS 6 (flL n c g e opn sz ro fr ph a8 i13)) (.exit 0) (flr2E n c g e opn sz ro fr ph a8 i13).act (yd4 n g e opn sz ro) 7 0 :=
  seenK_ok smx flK_ok sng (flr2_eq n c g e opn sz ro fr ph a8 i13) kq
abbrev yd5 := HAppend.hAppend (List.replicate (6 : Nat) MObj.hole) (flL n c g e opn sz ro fr ph fr (0 : Nat))
abbrev yd6 := ((flA n c g e opn sz ro fr ph fr (0 : Nat)) = (flA n c g e opn sz ro fr ph fr (0 : Nat))) ∧ ((7 = (6 + 1)) ∧ ((yd5 n c g e opn sz ro fr ph) = (yd5 n c g e opn sz ro fr ph)))
theorem flf0_eq : seenF' Tryz.prog Tryz.f104 6 1 [] (flf0 n c g e opn sz ro fr ph jj) = some (.tuple #[.int .i64 ((jj : Nat) : Int), .bool true], flS n c g e opn sz ro fr ph ++ [], ⟨[], (True ∧ ((yd6 n c g e opn sz ro fr ph) ∧ KC Tryz.prog none (.loop flX) (flA n c g e opn sz ro fr ph fr 0).act (wS 6 (flL n c g e opn sz ro fr ph fr 0)) .ret (flr0E n c g e opn sz ro fr ph (itR g fr jj) jj).act (yd4 n g e opn sz ro) 7 0))⟩) := by kernel_rfl
theorem flf0_s (l0 : KC Tryz.prog none (.loop flX) (flA n c g e opn sz ro fr ph fr 0).act (wS 6 (flL n c g e opn sz ro fr ph fr 0)) .ret (flr0E n c g e opn sz ro fr ph (itR g fr jj) jj).act (yd4 n g e opn sz ro) 7 0) : SndF Tryz.prog 104 (flArgs n c g e opn sz ro fr ph) (wS 6 (flS n c g e opn sz ro fr ph)) (.tuple #[.int .i64 ((jj : Nat) : Int), .bool true]) (wS 6 (flS n c g e opn sz ro fr ph)) 64 0 :=
  kF (L := flS n c g e opn sz ro fr ph) (L2 := []) (ms := []) flK_ok (flf0_eq n c g e opn sz ro fr ph jj) kq
theorem flf1_eq : seenF' Tryz.prog Tryz.f104 6 1 [] (flf1 n c g e opn sz ro fr ph) = some (.tuple #[.int .i64 (0 : Int), .bool false], flS n c g e opn sz ro fr ph ++ [], ⟨[], (True ∧ ((yd6 n c g e opn sz ro fr ph) ∧ KC Tryz.prog none (.loop flX) (flA n c g e opn sz ro fr ph fr 0).act (wS 6 (flL n c g e opn sz ro fr ph fr 0)) (.exit 0) (flr2E n c g e opn sz ro fr ph (itR g fr n) n).act (yd4 n g e opn sz ro) 7 0))⟩) := by kernel_rfl
theorem flf1_s (l0 : KC Tryz.prog none (.loop flX) (flA n c g e opn sz ro fr ph fr 0).act (wS 6 (flL n c g e opn sz ro fr ph fr 0)) (.exit 0) (flr2E n c g e opn sz ro fr ph (itR g fr n) n).act (yd4 n g e opn sz ro) 7 0) : SndF Tryz.prog 104 (flArgs n c g e opn sz ro fr ph) (wS 6 (flS n c g e opn sz ro fr ph)) (.tuple #[.int .i64 (0 : Int), .bool false]) (wS 6 (flS n c g e opn sz ro fr ph)) 64 0 :=
  kF (L := flS n c g e opn sz ro fr ph) (L2 := []) (ms := []) flK_ok (flf1_eq n c g e opn sz ro fr ph) kq
theorem fl_ret (hg : ∀ i, i < n → 0 ≤ g i 0 ∧ g i 0 < (n : Int)) (hf : 0 ≤ fr ∧ fr < (n : Int)) (hn : (n : Int) ≤ 9223372036854775807) (hj : jj < n) (h1 : ∀ i, i < jj → itR g fr i ≠ ph) (h2 : itR g fr jj = ph) : KC Tryz.prog none (.loop flX) (flA n c g e opn sz ro fr ph fr 0).act (wS 6 (flL n c g e opn sz ro fr ph fr 0)) .ret (flr0E n c g e opn sz ro fr ph (itR g fr jj) jj).act (yd4 n g e opn sz ro) 7 0 := by
  have hi2 := itR_in hg hf
  exact K_rounds (A := fun i => (flA n c g e opn sz ro fr ph (itR g fr i) i).act) (S := fun i => wS 6 (flL n c g e opn sz ro fr ph (itR g fr i) i)) (jj) (fun i hi => flr1_k n c g e opn sz ro fr ph (itR g fr i) i ⟨hn, hi2 i⟩ (by omega) (h1 i hi)) (flr0_k n c g e opn sz ro fr ph (itR g fr jj) jj ⟨hn, hi2 jj⟩ (by omega) h2) (by simp)
theorem fl_all  (hg : ∀ i, i < n → 0 ≤ g i 0 ∧ g i 0 < (n : Int)) (hf : 0 ≤ fr ∧ fr < (n : Int)) (hn : (n : Int) ≤ 9223372036854775807) (h1 : ∀ i, i < n → itR g fr i ≠ ph) : KC Tryz.prog none (.loop flX) (flA n c g e opn sz ro fr ph fr 0).act (wS 6 (flL n c g e opn sz ro fr ph fr 0)) (.exit 0) (flr2E n c g e opn sz ro fr ph (itR g fr n) n).act (yd4 n g e opn sz ro) 7 0 := by
  have hi2 := itR_in hg hf
  exact K_rounds (A := fun i => (flA n c g e opn sz ro fr ph (itR g fr i) i).act) (S := fun i => wS 6 (flL n c g e opn sz ro fr ph (itR g fr i) i)) (n) (fun i hi => flr1_k n c g e opn sz ro fr ph (itR g fr i) i ⟨hn, hi2 i⟩ (by omega) (h1 i hi)) (flr2_k n c g e opn sz ro fr ph (itR g fr n) n ⟨hn, hi2 n⟩ (by omega)) (by simp)
theorem fl_sndF (hg : ∀ i, i < n → 0 ≤ g i 0 ∧ g i 0 < (n : Int)) (hf : 0 ≤ fr ∧ fr < (n : Int)) (hn : (n : Int) ≤ 9223372036854775807) : SndF Tryz.prog 104 (flArgs n c g e opn sz ro fr ph) (wS 6 (flS n c g e opn sz ro fr ph)) (fallV n g fr ph) (wS 6 (flS n c g e opn sz ro fr ph)) 64 0 := by
  unfold fallV
  rcases first_or (p := fun i => itR g fr i = ph) (fun _ => inferInstance) n with h2 | ⟨j, hj, h2, h3⟩
  · obtain ⟨e1, e2⟩ := fl_none h2
    rw [e1, e2]; exact flf1_s n c g e opn sz ro fr ph (fl_all n c g e opn sz ro fr ph hg hf hn h2)
  · obtain ⟨e1, e2⟩ := fl_some hj h3 h2
    rw [e1, e2]; exact flf0_s n c g e opn sz ro fr ph j (fl_ret n c g e opn sz ro fr ph j hg hf hn hj h3 h2)
def kFl : CallS := fun f xs s q => match decide (f = 104) with
  | true => match xs.toList with
    | [.slice (some ⟨b, 0, none⟩) n c, .int .i64 fr, .int .i64 ph] => match Nat.ble 6 b, rowK 1 .i64 s b n with
      | true, some (g, _, _, _, _, p) => some (fallV n g fr ph, s, 2 ^ b, 0, ⟨q.rest, q.ob ∧ (p ∧ ((∀ i, i < n → 0 ≤ g i 0 ∧ g i 0 < (n : Int)) ∧ (0 ≤ fr ∧ fr < (n : Int)) ∧ (n : Int) ≤ 9223372036854775807))⟩)
      | _, _ => none
    | _ => none
  | false => none
theorem kFl_ok : FOkS Tryz.prog kFl := fun f xs s q u s1 R W q1 he => by
  unfold kFl at he
  split at he
  · rename_i hf
    have hf := of_decide_eq_true hf
    subst hf
    split at he
    · rename_i b n c fr ph hx0
      split at he
      · rename_i g e opn sz ro p hb hr
        have hb := Nat.le_of_ble_eq_true hb
        have hxs : xs = #[.slice (some ⟨b, 0, none⟩) n c, .int .i64 fr, .int .i64 ph] := by apply Array.ext'; exact hx0
        subst hxs
        cases he
        refine ⟨fun hq => hq.1, fun hq => ?_⟩
        obtain ⟨hp, hx⟩ := hq.2
        obtain ⟨l1, w1⟩ := rowK_wo hr hp
        exact SndF.row (N := 6) sng (fl_sndF n c g e opn sz ro fr ph hx.1 hx.2.1 hx.2.2) rfl hb l1 w1 (fun f _ hf => wvs_three (slice_wv hf) (ground_wv (n := 8) rfl) (ground_wv (n := 8) rfl))
      · cases he
    · cases he
  · cases he
end
end Go.Proofs.YtbkpnhbcihcgaaaGreatDoor
end
section
set_option linter.all false
set_option maxRecDepth 1000000
open Go.RowKit
namespace Go.Proofs.YtbkpnhbcihcgaaaGreatDoor
open Mini
noncomputable section
variable (n : Nat) (c : Nat) (g : GI) (e : TypeId) (opn : Bool) (sz : Nat) (ro : Bool) (fr : Int) (ph : Int) (a8 : Int) (i9 : Nat) (jj : Nat)
noncomputable def rlX : Code := loopAt Tryz.prog 59 0
noncomputable def rlK : CallS := noXS
def rlA (g : GI) (e : TypeId) (opn : Bool) (sz : Nat) (ro : Bool) (fr : Int) (ph : Int) (a8 : Int) (i9 : Nat) : MA := MA.ofL 25 (jl [.slice (some ⟨6, 0, none⟩) n c, .chan none, .int .i64 ph] 5 (jl [.int .i64 a8, .int .i64 ((i9 : Nat) : Int)] 15 [])) []
abbrev yi0 : List MObj := [.rows n 1 (fun i j => .int .i64 (g i j)) e opn sz ro]
def rlL (c : Nat) (g : GI) (e : TypeId) (opn : Bool) (sz : Nat) (ro : Bool) (fr : Int) (ph : Int) (a8 : Int) (i9 : Nat) : List MObj := (yi0 n g e opn sz ro)
noncomputable def rlr0 : Option OutCS := evK Tryz.prog rlK 1000 false rlX (rlA n c g e opn sz ro fr ph a8 i9) (wS 6 (rlL n c g e opn sz ro fr ph a8 i9)) ⟨[0], True⟩
def rlr0E (n : Nat) (c : Nat) (g : GI) (e : TypeId) (opn : Bool) (sz : Nat) (ro : Bool) (fr : Int) (ph : Int) (a8 : Int) (i9 : Nat) : MA := MA.ofL 25 (jl [] 25 []) []
noncomputable def rlr1 : Option OutCS := evK Tryz.prog rlK 1000 false rlX (rlA n c g e opn sz ro fr ph a8 i9) (wS 6 (rlL n c g e opn sz ro fr ph a8 i9)) ⟨[1, 1], True⟩
def rlr1E (n : Nat) (c : Nat) (g : GI) (e : TypeId) (opn : Bool) (sz : Nat) (ro : Bool) (fr : Int) (ph : Int) (a8 : Int) (i9 : Nat) : MA := MA.ofL 25 (jl [] 6 (jl [.int .i64 ((i9 : Nat) : Int), .bool true] 17 [])) []
noncomputable def rlr2 : Option OutCS := evK Tryz.prog rlK 1000 false rlX (rlA n c g e opn sz ro fr ph a8 i9) (wS 6 (rlL n c g e opn sz ro fr ph a8 i9)) ⟨[1, 0, .row (Int.toNat a8) 0, .row (Int.toNat a8) 0, .azz (.int .i64 ((i9 + 1 : Nat) : Int))], True⟩
def rlArgs (g : GI) (e : TypeId) (opn : Bool) (sz : Nat) (ro : Bool) (fr : Int) (ph : Int) : Array Value := #[.slice (some ⟨6, 0, none⟩) n c, .int .i64 fr, .int .i64 ph]
def rlS (c : Nat) (g : GI) (e : TypeId) (opn : Bool) (sz : Nat) (ro : Bool) (fr : Int) (ph : Int) : List MObj := (yi0 n g e opn sz ro)
noncomputable abbrev yi1 := bodyOf Tryz.prog 59
noncomputable def rlf0 : Option OutCS := evK Tryz.prog rlK 1000 false yi1 (startM Tryz.f59 (rlArgs n c g e opn sz ro fr ph)) (wS 6 (rlS n c g e opn sz ro fr ph)) ⟨[.lp 773 (rlA n c g e opn sz ro fr ph fr 0) 6 (rlL n c g e opn sz ro fr ph fr 0) .ret (rlr1E n c g e opn sz ro fr ph (itR g fr jj) jj) (yi0 n g e opn sz ro) 7 0], True⟩
abbrev yi2 := rlr0E n c g e opn sz ro fr ph (itR g fr (n + 1)) (n + 1)
noncomputable def rlf1 : Option OutCS := evK Tryz.prog rlK 1000 false yi1 (startM Tryz.f59 (rlArgs n c g e opn sz ro fr ph)) (wS 6 (rlS n c g e opn sz ro fr ph)) ⟨[.lp 773 (rlA n c g e opn sz ro fr ph fr 0) 6 (rlL n c g e opn sz ro fr ph fr 0) (.exit 0) (yi2 n c g e opn sz ro fr ph) (yi0 n g e opn sz ro) 7 0], True⟩
theorem rlK_ok : FOkS Tryz.prog rlK := noXS_ok
abbrev yi3 := decide ((((i9 : Nat)) : Int) ≤ (((n : Nat)) : Int))
theorem rlr0_eq : seenK 6 1 [] 0 0 (rlr0 n c g e opn sz ro fr ph a8 i9) = some ((.exit 0), rlr0E n c g e opn sz ro fr ph a8 i9, (yi0 n g e opn sz ro), 0, ⟨[], (True ∧ ((yi3 n i9) = false))⟩) := by kernel_rfl
abbrev yi4 := wS 6 (yi0 n g e opn sz ro)
theorem rlr0_k (hx : (n : Int) ≤ 1048576 ∧ 0 ≤ a8 ∧ a8 < (n : Int)) (h0 : ((n : Nat) : Int) < ((i9 : Nat) : Int)) : KC Tryz.prog none rlX (rlA n c g e opn sz ro fr ph a8 i9).act (wS 6 (rlL n c g e opn sz ro fr ph a8 i9)) (.exit 0) (rlr0E n c g e opn sz ro fr ph a8 i9).act (yi4 n g e opn sz ro) 7 0 :=
  seenK_ok smx rlK_ok sng (rlr0_eq n c g e opn sz ro fr ph a8 i9) kq
abbrev yi5 := True ∧ ((yi3 n i9) = true)
theorem rlr1_eq : seenK 6 1 [] 192 0 (rlr1 n c g e opn sz ro fr ph a8 i9) = some (.ret, rlr1E n c g e opn sz ro fr ph a8 i9, (yi0 n g e opn sz ro), 0, ⟨[], ((yi5 n i9) ∧ ((a8 == ph) = true))⟩) := by kernel_rfl
theorem rlr1_k (hx : (n : Int) ≤ 1048576 ∧ 0 ≤ a8 ∧ a8 < (n : Int)) (h0 : ¬ ((n : Nat) : Int) < ((i9 : Nat) : Int)) (h1 : a8 = ph) : KC Tryz.prog none rlX (rlA n c g e opn sz ro fr ph a8 i9).act (wS 6 (rlL n c g e opn sz ro fr ph a8 i9)) .ret (rlr1E n c g e opn sz ro fr ph a8 i9).act (yi4 n g e opn sz ro) 7 0 :=
  seenK_ok smx rlK_ok sng (rlr1_eq n c g e opn sz ro fr ph a8 i9) kq
theorem rlr2_eq : seenK 6 1 [] 773 0 (rlr2 n c g e opn sz ro fr ph a8 i9) = some (.normal, rlA n c g e opn sz ro fr ph (g (Int.toNat a8) 0) (i9 + 1), (yi0 n g e opn sz ro), 0, ⟨[], (((((yi5 n i9) ∧ ((a8 == ph) = false)) ∧ ((a8 = (Int.ofNat (Int.toNat a8))) ∧ ((Int.toNat a8) < n))) ∧ (((0 + ((Int.toNat a8) * 1)) = (((Int.toNat a8) * 1) + 0)) ∧ ((Int.toNat a8) < n))) ∧ (((.int .i64 (IntKind.i64.wrap ((((i9 : Nat)) : Int) + (1 : Int)))) : Value) = (.int .i64 ((((i9 + 1) : Nat)) : Int))))⟩) := by kernel_rfl
theorem rlr2_k (hx : (n : Int) ≤ 1048576 ∧ 0 ≤ a8 ∧ a8 < (n : Int)) (h0 : ¬ ((n : Nat) : Int) < ((i9 : Nat) : Int)) (h1 : a8 ≠ ph) : KC Tryz.prog none rlX (rlA n c g e opn sz ro fr ph a8 i9).act (wS 6 (rlL n c g e opn sz ro fr ph a8 i9)) .normal (rlA n c g e opn sz ro fr ph (g (Int.toNat a8) 0) (i9 + 1)).act (wS 6 (rlL n c g e opn sz ro fr ph (g (Int.toNat a8) 0) (i9 + 1))) 7 0 :=
  seenK_ok smx rlK_ok sng (rlr2_eq n c g e opn sz ro fr ph a8 i9) kq
abbrev yi6 := HAppend.hAppend (List.replicate (6 : Nat) MObj.hole) (rlL n c g e opn sz ro fr ph fr (0 : Nat))
abbrev yi7 := ((rlA n c g e opn sz ro fr ph fr (0 : Nat)) = (rlA n c g e opn sz ro fr ph fr (0 : Nat))) ∧ ((7 = (6 + 1)) ∧ ((yi6 n c g e opn sz ro fr ph) = (yi6 n c g e opn sz ro fr ph)))
theorem rlf0_eq : seenF' Tryz.prog Tryz.f59 6 1 [] (rlf0 n c g e opn sz ro fr ph jj) = some (.tuple #[.int .i64 ((jj : Nat) : Int), .bool true], rlS n c g e opn sz ro fr ph ++ [], ⟨[], (True ∧ ((yi7 n c g e opn sz ro fr ph) ∧ KC Tryz.prog none (.loop rlX) (rlA n c g e opn sz ro fr ph fr 0).act (wS 6 (rlL n c g e opn sz ro fr ph fr 0)) .ret (rlr1E n c g e opn sz ro fr ph (itR g fr jj) jj).act (yi4 n g e opn sz ro) 7 0))⟩) := by kernel_rfl
theorem rlf0_s (l0 : KC Tryz.prog none (.loop rlX) (rlA n c g e opn sz ro fr ph fr 0).act (wS 6 (rlL n c g e opn sz ro fr ph fr 0)) .ret (rlr1E n c g e opn sz ro fr ph (itR g fr jj) jj).act (yi4 n g e opn sz ro) 7 0) : SndF Tryz.prog 59 (rlArgs n c g e opn sz ro fr ph) (wS 6 (rlS n c g e opn sz ro fr ph)) (.tuple #[.int .i64 ((jj : Nat) : Int), .bool true]) (wS 6 (rlS n c g e opn sz ro fr ph)) 64 0 :=
  kF (L := rlS n c g e opn sz ro fr ph) (L2 := []) (ms := []) rlK_ok (rlf0_eq n c g e opn sz ro fr ph jj) kq
theorem rlf1_eq : seenF' Tryz.prog Tryz.f59 6 1 [] (rlf1 n c g e opn sz ro fr ph) = some (.tuple #[.int .i64 (0 : Int), .bool false], rlS n c g e opn sz ro fr ph ++ [], ⟨[], (True ∧ ((yi7 n c g e opn sz ro fr ph) ∧ KC Tryz.prog none (.loop rlX) (rlA n c g e opn sz ro fr ph fr 0).act (wS 6 (rlL n c g e opn sz ro fr ph fr 0)) (.exit 0) (yi2 n c g e opn sz ro fr ph).act (yi4 n g e opn sz ro) 7 0))⟩) := by kernel_rfl
theorem rlf1_s (l0 : KC Tryz.prog none (.loop rlX) (rlA n c g e opn sz ro fr ph fr 0).act (wS 6 (rlL n c g e opn sz ro fr ph fr 0)) (.exit 0) (yi2 n c g e opn sz ro fr ph).act (yi4 n g e opn sz ro) 7 0) : SndF Tryz.prog 59 (rlArgs n c g e opn sz ro fr ph) (wS 6 (rlS n c g e opn sz ro fr ph)) (.tuple #[.int .i64 (0 : Int), .bool false]) (wS 6 (rlS n c g e opn sz ro fr ph)) 64 0 :=
  kF (L := rlS n c g e opn sz ro fr ph) (L2 := []) (ms := []) rlK_ok (rlf1_eq n c g e opn sz ro fr ph) kq
theorem rl_ret (hg : ∀ i, i < n → 0 ≤ g i 0 ∧ g i 0 < (n : Int)) (hf : 0 ≤ fr ∧ fr < (n : Int)) (hn : n ≤ 1048576) (hj : jj < n) (h1 : ∀ i, i < jj → itR g fr i ≠ ph) (h2 : itR g fr jj = ph) : KC Tryz.prog none (.loop rlX) (rlA n c g e opn sz ro fr ph fr 0).act (wS 6 (rlL n c g e opn sz ro fr ph fr 0)) .ret (rlr1E n c g e opn sz ro fr ph (itR g fr jj) jj).act (yi4 n g e opn sz ro) 7 0 := by
  have hi2 := itR_in hg hf
  exact K_rounds (A := fun i => (rlA n c g e opn sz ro fr ph (itR g fr i) i).act) (S := fun i => wS 6 (rlL n c g e opn sz ro fr ph (itR g fr i) i)) (jj) (fun i hi => rlr2_k n c g e opn sz ro fr ph (itR g fr i) i ⟨by omega, hi2 i⟩ (by omega) (h1 i hi)) (rlr1_k n c g e opn sz ro fr ph (itR g fr jj) jj ⟨by omega, hi2 jj⟩ (by omega) h2) (by simp)
theorem rl_all  (hg : ∀ i, i < n → 0 ≤ g i 0 ∧ g i 0 < (n : Int)) (hf : 0 ≤ fr ∧ fr < (n : Int)) (hn : n ≤ 1048576) (h1 : ∀ i, i < n → itR g fr i ≠ ph) : KC Tryz.prog none (.loop rlX) (rlA n c g e opn sz ro fr ph fr 0).act (wS 6 (rlL n c g e opn sz ro fr ph fr 0)) (.exit 0) (rlr0E n c g e opn sz ro fr ph (itR g fr (n + 1)) (n + 1)).act (wS 6 [.rows n 1 (fun i j => .int .i64 (g i j)) e opn sz ro]) 7 0 := by
  have hi2 := itR_in hg hf
  exact K_rounds (A := fun i => (rlA n c g e opn sz ro fr ph (itR g fr i) i).act) (S := fun i => wS 6 (rlL n c g e opn sz ro fr ph (itR g fr i) i)) ((n + 1)) (fun i hi => rlr2_k n c g e opn sz ro fr ph (itR g fr i) i ⟨by omega, hi2 i⟩ (by omega) (by rcases Nat.lt_or_ge i n with c | c; exact h1 i c; rw [show i = n from by omega]; exact itR_far hg hf h1)) (rlr0_k n c g e opn sz ro fr ph (itR g fr (n + 1)) (n + 1) ⟨by omega, hi2 (n + 1)⟩ (by omega)) (by simp)
theorem rl_sndF (hg : ∀ i, i < n → 0 ≤ g i 0 ∧ g i 0 < (n : Int)) (hf : 0 ≤ fr ∧ fr < (n : Int)) (hn : n ≤ 1048576) : SndF Tryz.prog 59 (rlArgs n c g e opn sz ro fr ph) (wS 6 (rlS n c g e opn sz ro fr ph)) (fallV n g fr ph) (wS 6 (rlS n c g e opn sz ro fr ph)) 64 0 := by
  unfold fallV
  rcases first_or (p := fun i => itR g fr i = ph) (fun _ => inferInstance) n with h2 | ⟨j, hj, h2, h3⟩
  · obtain ⟨e1, e2⟩ := fl_none h2
    rw [e1, e2]; exact rlf1_s n c g e opn sz ro fr ph (rl_all n c g e opn sz ro fr ph hg hf hn h2)
  · obtain ⟨e1, e2⟩ := fl_some hj h3 h2
    rw [e1, e2]; exact rlf0_s n c g e opn sz ro fr ph j (rl_ret n c g e opn sz ro fr ph j hg hf hn hj h3 h2)
def kRl : CallS := fun f xs s q => match decide (f = 59) with
  | true => match xs.toList with
    | [.slice (some ⟨b, 0, none⟩) n c, .int .i64 fr, .int .i64 ph] => match Nat.ble 6 b, rowK 1 .i64 s b n with
      | true, some (g, _, _, _, _, p) => some (fallV n g fr ph, s, 2 ^ b, 0, ⟨q.rest, q.ob ∧ (p ∧ ((∀ i, i < n → 0 ≤ g i 0 ∧ g i 0 < (n : Int)) ∧ (0 ≤ fr ∧ fr < (n : Int)) ∧ n ≤ 1048576))⟩)
      | _, _ => none
    | _ => none
  | false => none
theorem kRl_ok : FOkS Tryz.prog kRl := fun f xs s q u s1 R W q1 he => by
  unfold kRl at he
  split at he
  · rename_i hf
    have hf := of_decide_eq_true hf
    subst hf
    split at he
    · rename_i b n c fr ph hx0
      split at he
      · rename_i g e opn sz ro p hb hr
        have hb := Nat.le_of_ble_eq_true hb
        have hxs : xs = #[.slice (some ⟨b, 0, none⟩) n c, .int .i64 fr, .int .i64 ph] := by apply Array.ext'; exact hx0
        subst hxs
        cases he
        refine ⟨fun hq => hq.1, fun hq => ?_⟩
        obtain ⟨hp, hx⟩ := hq.2
        obtain ⟨l1, w1⟩ := rowK_wo hr hp
        exact SndF.row (N := 6) sng (rl_sndF n c g e opn sz ro fr ph hx.1 hx.2.1 hx.2.2) rfl hb l1 w1 (fun f _ hf => wvs_three (slice_wv hf) (ground_wv (n := 8) rfl) (ground_wv (n := 8) rfl))
      · cases he
    · cases he
  · cases he
end
end Go.Proofs.YtbkpnhbcihcgaaaGreatDoor
end
section
set_option linter.all false
set_option maxRecDepth 1000000
open Go.RowKit
namespace Go.Proofs.YtbkpnhbcihcgaaaGreatDoor
open Mini
def th2 (a b : Int) : Int := if a = 0 then b else a
end Go.Proofs.YtbkpnhbcihcgaaaGreatDoor
end
section
set_option linter.all false
set_option maxRecDepth 1000000
open Go.RowKit
namespace Go.Proofs.YtbkpnhbcihcgaaaGreatDoor
open Mini
noncomputable section
variable (n : Nat) (c : Nat) (g : GI) (e : TypeId) (opn : Bool) (sz : Nat) (ro : Bool) (fr : Int) (ph : Int)
noncomputable def cpK : CallS := bothX kCr (bothX kRCr (bothX kFl (bothX kRl (kAll [c_range, c_rrange, c_index]))))
def cpArgs (g : GI) (e : TypeId) (opn : Bool) (sz : Nat) (ro : Bool) (ph : Int) : Array Value := #[.slice (some ⟨6, 0, none⟩) n c, .int .i64 ph]
def cpS (c : Nat) (g : GI) (e : TypeId) (opn : Bool) (sz : Nat) (ro : Bool) (ph : Int) : List MObj := [.rows n 1 (fun i j => .int .i64 (g i j)) e opn sz ro]
noncomputable abbrev ye0 := bodyOf Tryz.prog 57
noncomputable abbrev ye1 := startM Tryz.f57 (cpArgs n c g e opn sz ro ph)
abbrev ye2 := wS 6 (cpS n c g e opn sz ro ph)
noncomputable def cpf0 : Option OutCS := evK Tryz.prog cpK 1000 false ye0 (ye1 n c g e opn sz ro ph) (ye2 n c g e opn sz ro ph) ⟨[0, 0, 0, 0, 0, 1, 1], True⟩
noncomputable def cpf1 : Option OutCS := evK Tryz.prog cpK 1000 false ye0 (ye1 n c g e opn sz ro ph) (ye2 n c g e opn sz ro ph) ⟨[0, 1, 1, 1, 1, 0, 0], True⟩
noncomputable def cpf2 : Option OutCS := evK Tryz.prog cpK 1000 false ye0 (ye1 n c g e opn sz ro ph) (ye2 n c g e opn sz ro ph) ⟨[0, 1, 1, 1, 1, 0, 1], True⟩
noncomputable def cpf3 : Option OutCS := evK Tryz.prog cpK 1000 false ye0 (ye1 n c g e opn sz ro ph) (ye2 n c g e opn sz ro ph) ⟨[1], True⟩
def lkArgs (g : GI) (e : TypeId) (opn : Bool) (sz : Nat) (ro : Bool) (fr : Int) (ph : Int) : Array Value := #[.slice (some ⟨6, 0, none⟩) n c, .int .i64 fr, .int .i64 ph]
def lkS (c : Nat) (g : GI) (e : TypeId) (opn : Bool) (sz : Nat) (ro : Bool) (fr : Int) (ph : Int) : List MObj := [.rows n 1 (fun i j => .int .i64 (g i j)) e opn sz ro]
noncomputable abbrev ye3 := bodyOf Tryz.prog 55
noncomputable abbrev ye4 := startM Tryz.f55 (lkArgs n c g e opn sz ro fr ph)
abbrev ye5 := wS 6 (lkS n c g e opn sz ro fr ph)
noncomputable def lkf0 : Option OutCS := evK Tryz.prog cpK 1000 false ye3 (ye4 n c g e opn sz ro fr ph) (ye5 n c g e opn sz ro fr ph) ⟨[1, 0, 0, 1, 1, 0, 1, 2, 0, 0, 0, 0], True⟩
noncomputable def lkf1 : Option OutCS := evK Tryz.prog cpK 1000 false ye3 (ye4 n c g e opn sz ro fr ph) (ye5 n c g e opn sz ro fr ph) ⟨[1, 0, 0, 1, 1, 0, 1, 2, 0, 0, 0, 1], True⟩
noncomputable def lkf2 : Option OutCS := evK Tryz.prog cpK 1000 false ye3 (ye4 n c g e opn sz ro fr ph) (ye5 n c g e opn sz ro fr ph) ⟨[1, 0, 0, 1, 1, 0, 1, 2, 1, 1], True⟩
noncomputable def lkf3 : Option OutCS := evK Tryz.prog cpK 1000 false ye3 (ye4 n c g e opn sz ro fr ph) (ye5 n c g e opn sz ro fr ph) ⟨[1, 0, 0, 1, 1, 1, 1], True⟩
noncomputable def lkf4 : Option OutCS := evK Tryz.prog cpK 1000 false ye3 (ye4 n c g e opn sz ro fr ph) (ye5 n c g e opn sz ro fr ph) ⟨[1, 0, 1, 1], True⟩
theorem cpK_ok : FOkS Tryz.prog cpK := bothX_ok kCr_ok (bothX_ok kRCr_ok (bothX_ok kFl_ok (bothX_ok kRl_ok (kAll_ok _ ⟨k_range, k_rrange, k_index, trivial⟩))))
abbrev ye6 := (n = n) ∧ (∀ (i : Nat), ((i < n) → (∀ (j : Nat), ((j < (1 : Nat)) → ((Value.int .i64 (g i j)) = (Value.int .i64 (gI (Value.int .i64 (g i j)))))))))
abbrev ye7 := (((n : Nat)) : Int) ≤ (9223372036854775807 : Int)
abbrev ye8 := True ∧ ((ye6 n g) ∧ (ye7 n))
abbrev ye9 := fun (i : Nat) => (fun (j : Nat) => (gI (Value.int .i64 (g i j))))
abbrev ye10 := (crV n (ye9 g)) != (0 : Int)
abbrev ye11 := (ye10 n g) = false
abbrev ye12 := (ye8 n g) ∧ (ye11 n g)
abbrev ye13 := (decide (ph < (0 : Int))) = true
theorem cpf0_eq : seenF' Tryz.prog Tryz.f57 6 1 [] (cpf0 n c g e opn sz ro ph) = some (.int .i64 (10 : Int), cpS n c g e opn sz ro ph ++ [], ⟨[], (((((((ye12 n g) ∧ (ye13 ph)) ∧ (ye13 ph)) ∧ (ye13 ph)) ∧ (ye13 ph)) ∧ (ye13 ph)) ∧ (true = true))⟩) := by kernel_rfl
theorem cpf0_s (hx : (n : Int) ≤ 9223372036854775807) (h0 : (crV n g) = (0 : Int)) (h1 : ph < (0 : Int)) : SndF Tryz.prog 57 (cpArgs n c g e opn sz ro ph) (ye2 n c g e opn sz ro ph) (.int .i64 (10 : Int)) (ye2 n c g e opn sz ro ph) 64 0 :=
  kF (L := cpS n c g e opn sz ro ph) (L2 := []) (ms := []) cpK_ok (cpf0_eq n c g e opn sz ro ph) kq
abbrev ye14 := (decide (ph < (0 : Int))) = false
abbrev ye15 := (((((ye12 n g) ∧ (ye14 ph)) ∧ (ye14 ph)) ∧ (ye14 ph)) ∧ (ye14 ph)) ∧ (ye14 ph)
theorem cpf1_eq : seenF' Tryz.prog Tryz.f57 6 1 [] (cpf1 n c g e opn sz ro ph) = some (.int .i64 (0 : Int), cpS n c g e opn sz ro ph ++ [], ⟨[], ((ye15 n g ph) ∧ ((decide (ph ≥ (((n : Nat)) : Int))) = false))⟩) := by kernel_rfl
theorem cpf1_s (hx : (n : Int) ≤ 9223372036854775807) (h0 : (crV n g) = (0 : Int)) (h1 : ¬ ph < (0 : Int)) (h2 : ph < ((n : Nat) : Int)) : SndF Tryz.prog 57 (cpArgs n c g e opn sz ro ph) (ye2 n c g e opn sz ro ph) (.int .i64 (0 : Int)) (ye2 n c g e opn sz ro ph) 64 0 :=
  kF (L := cpS n c g e opn sz ro ph) (L2 := []) (ms := []) cpK_ok (cpf1_eq n c g e opn sz ro ph) kq
theorem cpf2_eq : seenF' Tryz.prog Tryz.f57 6 1 [] (cpf2 n c g e opn sz ro ph) = some (.int .i64 (10 : Int), cpS n c g e opn sz ro ph ++ [], ⟨[], ((ye15 n g ph) ∧ ((decide (ph ≥ (((n : Nat)) : Int))) = true))⟩) := by kernel_rfl
theorem cpf2_s (hx : (n : Int) ≤ 9223372036854775807) (h0 : (crV n g) = (0 : Int)) (h1 : ¬ ph < (0 : Int)) (h2 : ¬ ph < ((n : Nat) : Int)) : SndF Tryz.prog 57 (cpArgs n c g e opn sz ro ph) (ye2 n c g e opn sz ro ph) (.int .i64 (10 : Int)) (ye2 n c g e opn sz ro ph) 64 0 :=
  kF (L := cpS n c g e opn sz ro ph) (L2 := []) (ms := []) cpK_ok (cpf2_eq n c g e opn sz ro ph) kq
abbrev ye16 := (ye10 n g) = true
theorem cpf3_eq : seenF' Tryz.prog Tryz.f57 6 1 [] (cpf3 n c g e opn sz ro ph) = some (.int .i64 (crV n g), cpS n c g e opn sz ro ph ++ [], ⟨[], ((ye8 n g) ∧ (ye16 n g))⟩) := by kernel_rfl
theorem cpf3_s (hx : (n : Int) ≤ 9223372036854775807) (h0 : (crV n g) ≠ (0 : Int)) : SndF Tryz.prog 57 (cpArgs n c g e opn sz ro ph) (ye2 n c g e opn sz ro ph) (.int .i64 (crV n g)) (ye2 n c g e opn sz ro ph) 64 0 :=
  kF (L := cpS n c g e opn sz ro ph) (L2 := []) (ms := []) cpK_ok (cpf3_eq n c g e opn sz ro ph) kq
abbrev ye17 := ((((ye8 n g) ∧ True) ∧ True) ∧ ((decide ((0 : Int) < (((3 : Nat)) : Int))) = true)) ∧ ((0 : Int) = (Int.ofNat 0))
abbrev ye18 := (((ye17 n g) ∧ (ye11 n g)) ∧ ((decide ((IntKind.i64.wrap ((0 : Int) + (1 : Int))) < (((3 : Nat)) : Int))) = true)) ∧ ((IntKind.i64.wrap ((0 : Int) + (1 : Int))) = (Int.ofNat 1))
abbrev ye19 := (ixE fr (((n : Nat)) : Int)) != (0 : Int)
abbrev ye20 := IntKind.i64.wrap ((IntKind.i64.wrap ((0 : Int) + (1 : Int))) + (1 : Int))
abbrev ye21 := (((ye18 n g) ∧ ((ye19 n fr) = false)) ∧ ((decide (ye20 < (((3 : Nat)) : Int))) = true)) ∧ (ye20 = (Int.ofNat 2))
abbrev ye22 := (ixE ph (((n : Nat)) : Int)) != (0 : Int)
abbrev ye23 := ((((ye21 n g fr) ∧ ((ye22 n ph) = false)) ∧ ((decide ((IntKind.i64.wrap (ye20 + (1 : Int))) < (((3 : Nat)) : Int))) = false)) ∧ (((0 : Int) != (0 : Int)) = false)) ∧ ((ye6 n g) ∧ ((∀ (i : Nat), ((i < n) → (((0 : Int) ≤ (gI (Value.int .i64 (g i 0)))) ∧ ((gI (Value.int .i64 (g i 0))) < (((n : Nat)) : Int))))) ∧ ((((0 : Int) ≤ fr) ∧ (fr < (((n : Nat)) : Int))) ∧ (ye7 n))))
abbrev ye24 := Bool.not (fallB n (ye9 g) fr ph)
theorem lkf0_eq : seenF' Tryz.prog Tryz.f55 6 1 [] (lkf0 n c g e opn sz ro fr ph) = some (.tuple #[.int .i64 (fallC n g fr ph), .int .i64 (0 : Int)], lkS n c g e opn sz ro fr ph ++ [], ⟨[], ((ye23 n g fr ph) ∧ ((ye24 n g fr ph) = false))⟩) := by kernel_rfl
abbrev ye25 := crV n g = 0 ∧ ixE fr ((n : Nat) : Int) = 0
abbrev ye26 := ∀ i, i < n → 0 ≤ g i 0 ∧ g i 0 < (n : Int)
abbrev ye27 := ixE fr ((n : Nat) : Int)
abbrev ye28 := ixE ph ((n : Nat) : Int)
theorem lkf0_s (hg : (ye25 n g fr) → (ye26 n g) ∧ (0 ≤ fr ∧ fr < (n : Int))) (hn : (n : Int) ≤ 9223372036854775807) (h0 : (crV n g) = (0 : Int)) (h1 : (ye27 n fr) = (0 : Int)) (h2 : (ye28 n ph) = (0 : Int)) (h3 : (fallB n g fr ph) = true) : SndF Tryz.prog 55 (lkArgs n c g e opn sz ro fr ph) (ye5 n c g e opn sz ro fr ph) (.tuple #[.int .i64 (fallC n g fr ph), .int .i64 (0 : Int)]) (ye5 n c g e opn sz ro fr ph) 64 0 :=
  sndF_K (L := lkS n c g e opn sz ro fr ph) (L2 := []) (ms := []) smx cpK_ok sng (by kernel_rfl) (by kernel_rfl) (lkf0_eq n c g e opn sz ro fr ph) (by
    repeat' (first | (with_reducible assumption) | exact (fun _ _ _ _ => rfl) | exact (hg ⟨by assumption, by assumption⟩).1 | exact (hg ⟨by assumption, by assumption⟩).2 | apply And.intro)
    all_goals exact kz) (by kernel_rfl) (fun o ho => by
      simp only [lkS, List.mem_cons, List.not_mem_nil, or_false] at ho
      rcases ho with rfl
      all_goals first | rfl | exact fun i j => rfl) (fun o ho => by cases ho) (by kernel_rfl)
theorem lkf1_eq : seenF' Tryz.prog Tryz.f55 6 1 [] (lkf1 n c g e opn sz ro fr ph) = some (.tuple #[.int .i64 (0 : Int), .int .i64 (7 : Int)], lkS n c g e opn sz ro fr ph ++ [], ⟨[], ((ye23 n g fr ph) ∧ ((ye24 n g fr ph) = true))⟩) := by kernel_rfl
theorem lkf1_s (hg : (ye25 n g fr) → (ye26 n g) ∧ (0 ≤ fr ∧ fr < (n : Int))) (hn : (n : Int) ≤ 9223372036854775807) (h0 : (crV n g) = (0 : Int)) (h1 : (ye27 n fr) = (0 : Int)) (h2 : (ye28 n ph) = (0 : Int)) (h3 : (fallB n g fr ph) = false) : SndF Tryz.prog 55 (lkArgs n c g e opn sz ro fr ph) (ye5 n c g e opn sz ro fr ph) (.tuple #[.int .i64 (0 : Int), .int .i64 (7 : Int)]) (ye5 n c g e opn sz ro fr ph) 64 0 :=
  sndF_K (L := lkS n c g e opn sz ro fr ph) (L2 := []) (ms := []) smx cpK_ok sng (by kernel_rfl) (by kernel_rfl) (lkf1_eq n c g e opn sz ro fr ph) (by
    repeat' (first | (with_reducible assumption) | exact (fun _ _ _ _ => rfl) | exact (hg ⟨by assumption, by assumption⟩).1 | exact (hg ⟨by assumption, by assumption⟩).2 | apply And.intro)
    all_goals exact kz) (by kernel_rfl) (fun o ho => by
      simp only [lkS, List.mem_cons, List.not_mem_nil, or_false] at ho
      rcases ho with rfl
      all_goals first | rfl | exact fun i j => rfl) (fun o ho => by cases ho) (by kernel_rfl)
abbrev ye29 := (ye22 n ph) = true
theorem lkf2_eq : seenF' Tryz.prog Tryz.f55 6 1 [] (lkf2 n c g e opn sz ro fr ph) = some (.tuple #[.int .i64 (0 : Int), .int .i64 (ye28 n ph)], lkS n c g e opn sz ro fr ph ++ [], ⟨[], (((ye21 n g fr) ∧ (ye29 n ph)) ∧ (ye29 n ph))⟩) := by kernel_rfl
theorem lkf2_s (hg : (ye25 n g fr) → (ye26 n g) ∧ (0 ≤ fr ∧ fr < (n : Int))) (hn : (n : Int) ≤ 9223372036854775807) (h0 : (crV n g) = (0 : Int)) (h1 : (ye27 n fr) = (0 : Int)) (h2 : (ye28 n ph) ≠ (0 : Int)) : SndF Tryz.prog 55 (lkArgs n c g e opn sz ro fr ph) (ye5 n c g e opn sz ro fr ph) (.tuple #[.int .i64 (0 : Int), .int .i64 (ye28 n ph)]) (ye5 n c g e opn sz ro fr ph) 64 0 :=
  sndF_K (L := lkS n c g e opn sz ro fr ph) (L2 := []) (ms := []) smx cpK_ok sng (by kernel_rfl) (by kernel_rfl) (lkf2_eq n c g e opn sz ro fr ph) (by
    repeat' (first | (with_reducible assumption) | exact (fun _ _ _ _ => rfl) | exact (hg ⟨by assumption, by assumption⟩).1 | exact (hg ⟨by assumption, by assumption⟩).2 | apply And.intro)
    all_goals exact kz) (by kernel_rfl) (fun o ho => by
      simp only [lkS, List.mem_cons, List.not_mem_nil, or_false] at ho
      rcases ho with rfl
      all_goals first | rfl | exact fun i j => rfl) (fun o ho => by cases ho) (by kernel_rfl)
abbrev ye30 := (ye19 n fr) = true
theorem lkf3_eq : seenF' Tryz.prog Tryz.f55 6 1 [] (lkf3 n c g e opn sz ro fr ph) = some (.tuple #[.int .i64 (0 : Int), .int .i64 (ye27 n fr)], lkS n c g e opn sz ro fr ph ++ [], ⟨[], (((ye18 n g) ∧ (ye30 n fr)) ∧ (ye30 n fr))⟩) := by kernel_rfl
theorem lkf3_s (hg : (ye25 n g fr) → (ye26 n g) ∧ (0 ≤ fr ∧ fr < (n : Int))) (hn : (n : Int) ≤ 9223372036854775807) (h0 : (crV n g) = (0 : Int)) (h1 : (ye27 n fr) ≠ (0 : Int)) : SndF Tryz.prog 55 (lkArgs n c g e opn sz ro fr ph) (ye5 n c g e opn sz ro fr ph) (.tuple #[.int .i64 (0 : Int), .int .i64 (ye27 n fr)]) (ye5 n c g e opn sz ro fr ph) 64 0 :=
  sndF_K (L := lkS n c g e opn sz ro fr ph) (L2 := []) (ms := []) smx cpK_ok sng (by kernel_rfl) (by kernel_rfl) (lkf3_eq n c g e opn sz ro fr ph) (by
    repeat' (first | (with_reducible assumption) | exact (fun _ _ _ _ => rfl) | exact (hg ⟨by assumption, by assumption⟩).1 | exact (hg ⟨by assumption, by assumption⟩).2 | apply And.intro)
    all_goals exact kz) (by kernel_rfl) (fun o ho => by
      simp only [lkS, List.mem_cons, List.not_mem_nil, or_false] at ho
      rcases ho with rfl
      all_goals first | rfl | exact fun i j => rfl) (fun o ho => by cases ho) (by kernel_rfl)
theorem lkf4_eq : seenF' Tryz.prog Tryz.f55 6 1 [] (lkf4 n c g e opn sz ro fr ph) = some (.tuple #[.int .i64 (0 : Int), .int .i64 (crV n g)], lkS n c g e opn sz ro fr ph ++ [], ⟨[], (((ye17 n g) ∧ (ye16 n g)) ∧ (ye16 n g))⟩) := by kernel_rfl
theorem lkf4_s (hg : (ye25 n g fr) → (ye26 n g) ∧ (0 ≤ fr ∧ fr < (n : Int))) (hn : (n : Int) ≤ 9223372036854775807) (h0 : (crV n g) ≠ (0 : Int)) : SndF Tryz.prog 55 (lkArgs n c g e opn sz ro fr ph) (ye5 n c g e opn sz ro fr ph) (.tuple #[.int .i64 (0 : Int), .int .i64 (crV n g)]) (ye5 n c g e opn sz ro fr ph) 64 0 :=
  sndF_K (L := lkS n c g e opn sz ro fr ph) (L2 := []) (ms := []) smx cpK_ok sng (by kernel_rfl) (by kernel_rfl) (lkf4_eq n c g e opn sz ro fr ph) (by
    repeat' (first | (with_reducible assumption) | exact (fun _ _ _ _ => rfl) | exact (hg ⟨by assumption, by assumption⟩).1 | exact (hg ⟨by assumption, by assumption⟩).2 | apply And.intro)
    all_goals exact kz) (by kernel_rfl) (fun o ho => by
      simp only [lkS, List.mem_cons, List.not_mem_nil, or_false] at ho
      rcases ho with rfl
      all_goals first | rfl | exact fun i j => rfl) (fun o ho => by cases ho) (by kernel_rfl)
theorem crV_ok {n : Nat} {g : Nat → Nat → Int} (h : crV n g = 0) : (0 < n ∧ n ≤ 64) ∧ ∀ i, i < n → 0 ≤ g i 0 ∧ g i 0 < (n : Int) := by
  unfold crV at h
  split at h
  · exact absurd h (by decide)
  · split at h
    · exact absurd h (by decide)
    · refine ⟨by omega, fun i hi => ?_⟩
      have := feN_zero h i hi
      simp only [Pl.cr] at this
      split at this <;> omega
theorem ixE_ok {a n : Int} (h : ixE a n = 0) : 0 ≤ a ∧ a < n := by
  unfold ixE at h
  split at h <;> omega
theorem cp_sndF (hn : (n : Int) ≤ 9223372036854775807) : SndF Tryz.prog 57 (cpArgs n c g e opn sz ro ph) (ye2 n c g e opn sz ro ph) (.int .i64 (th2 (crV n g) (ixE ph n))) (ye2 n c g e opn sz ro ph) 64 0 := by
  unfold th2
  by_cases h0 : crV n g = 0
  · rw [if_pos h0]
    unfold ixE
    by_cases h1 : ph < 0
    · rw [if_pos (.inl h1)]; exact cpf0_s n c g e opn sz ro ph hn h0 h1
    · by_cases h2 : ph < (n : Int)
      · rw [if_neg (by omega)]; exact cpf1_s n c g e opn sz ro ph hn h0 h1 h2
      · rw [if_pos (.inr (by omega))]; exact cpf2_s n c g e opn sz ro ph hn h0 h1 h2
  · rw [if_neg h0]; exact cpf3_s n c g e opn sz ro ph hn h0
def lkE : Int := th2 (th2 (crV n g) (ixE fr n)) (ixE ph n)
def lkV : Value := if lkE n g fr ph = 0 then (if fallB n g fr ph = true then .tuple #[.int .i64 (fallC n g fr ph), .int .i64 0] else .tuple #[.int .i64 0, .int .i64 7]) else .tuple #[.int .i64 0, .int .i64 (lkE n g fr ph)]
theorem lk_sndF (hn : (n : Int) ≤ 9223372036854775807) : SndF Tryz.prog 55 (lkArgs n c g e opn sz ro fr ph) (wS 6 (lkS n c g e opn sz ro fr ph)) (lkV n g fr ph) (wS 6 (lkS n c g e opn sz ro fr ph)) 64 0 := by
  have hg : (crV n g = 0 ∧ ixE fr ((n : Nat) : Int) = 0) → (∀ i, i < n → 0 ≤ g i 0 ∧ g i 0 < (n : Int)) ∧ (0 ≤ fr ∧ fr < (n : Int)) := fun h => ⟨(crV_ok h.1).2, ixE_ok h.2⟩
  unfold lkV lkE th2
  by_cases h0 : crV n g = 0
  · rw [if_pos h0]
    by_cases h1 : ixE fr (n : Int) = 0
    · rw [if_pos h1]
      by_cases h2 : ixE ph (n : Int) = 0
      · rw [if_pos h2]
        by_cases h3 : fallB n g fr ph = true
        · rw [if_pos h3]; exact lkf0_s n c g e opn sz ro fr ph hg hn h0 h1 h2 h3
        · rw [if_neg h3]; exact lkf1_s n c g e opn sz ro fr ph hg hn h0 h1 h2 (by simpa using h3)
      · rw [if_neg h2]; exact lkf2_s n c g e opn sz ro fr ph hg hn h0 h1 h2
    · rw [if_neg h1, if_neg h1]; exact lkf3_s n c g e opn sz ro fr ph hg hn h0 h1
  · rw [if_neg h0, if_neg h0, if_neg h0]; exact lkf4_s n c g e opn sz ro fr ph hg hn h0
def lkC : Int := if lkE n g fr ph = 0 then (if fallB n g fr ph = true then fallC n g fr ph else 0) else 0
def lkX : Int := if lkE n g fr ph = 0 then (if fallB n g fr ph = true then 0 else 7) else lkE n g fr ph
theorem lkV_eq : lkV n g fr ph = .tuple #[.int .i64 (lkC n g fr ph), .int .i64 (lkX n g fr ph)] := by
  unfold lkV lkC lkX
  split
  · split <;> rfl
  · rfl
def kLk : CallS := fun f xs s q => match decide (f = 55) with
  | true => match xs.toList with
    | [.slice (some ⟨b, 0, none⟩) n c, .int .i64 fr, .int .i64 ph] => match Nat.ble 6 b, rowK 1 .i64 s b n with
      | true, some (g, _, _, _, _, p) => some (.tuple #[.int .i64 (lkC n g fr ph), .int .i64 (lkX n g fr ph)], s, 2 ^ b, 0, ⟨q.rest, q.ob ∧ (p ∧ ((n : Int) ≤ 9223372036854775807))⟩)
      | _, _ => none
    | _ => none
  | false => none
theorem kLk_ok : FOkS Tryz.prog kLk := fun f xs s q u s1 R W q1 he => by
  unfold kLk at he
  split at he
  · rename_i hf
    have hf := of_decide_eq_true hf
    subst hf
    split at he
    · rename_i b n c fr ph hx0
      split at he
      · rename_i g e opn sz ro p hb hr
        have hb := Nat.le_of_ble_eq_true hb
        have hxs : xs = #[.slice (some ⟨b, 0, none⟩) n c, .int .i64 fr, .int .i64 ph] := by apply Array.ext'; exact hx0
        subst hxs
        cases he
        refine ⟨fun hq => hq.1, fun hq => ?_⟩
        obtain ⟨hp, hx⟩ := hq.2
        obtain ⟨l1, w1⟩ := rowK_wo hr hp
        exact SndF.row (N := 6) sng (lkV_eq n g fr ph ▸ lk_sndF n c g e opn sz ro fr ph hx) rfl hb l1 w1 (fun f _ hf => wvs_three (slice_wv hf) (ground_wv (n := 8) rfl) (ground_wv (n := 8) rfl))
      · cases he
    · cases he
  · cases he
def kCp : CallS := fun f xs s q => match decide (f = 57) with
  | true => match xs.toList with
    | [.slice (some ⟨b, 0, none⟩) n c, .int .i64 ph] => match Nat.ble 6 b, rowK 1 .i64 s b n with
      | true, some (g, _, _, _, _, p) => some (.int .i64 (th2 (crV n g) (ixE ph n)), s, 2 ^ b, 0, ⟨q.rest, q.ob ∧ (p ∧ ((n : Int) ≤ 9223372036854775807))⟩)
      | _, _ => none
    | _ => none
  | false => none
theorem kCp_ok : FOkS Tryz.prog kCp := fun f xs s q u s1 R W q1 he => by
  unfold kCp at he
  split at he
  · rename_i hf
    have hf := of_decide_eq_true hf
    subst hf
    split at he
    · rename_i b n c ph hx0
      split at he
      · rename_i g e opn sz ro p hb hr
        have hb := Nat.le_of_ble_eq_true hb
        have hxs : xs = #[.slice (some ⟨b, 0, none⟩) n c, .int .i64 ph] := by apply Array.ext'; exact hx0
        subst hxs
        cases he
        refine ⟨fun hq => hq.1, fun hq => ?_⟩
        obtain ⟨hp, hx⟩ := hq.2
        obtain ⟨l1, w1⟩ := rowK_wo hr hp
        exact SndF.row (N := 6) sng (cp_sndF n c g e opn sz ro ph hx) rfl hb l1 w1 (fun f _ hf => wvs_two (slice_wv hf) (ground_wv (n := 8) rfl))
      · cases he
    · cases he
  · cases he
end
end Go.Proofs.YtbkpnhbcihcgaaaGreatDoor
end
section
set_option linter.all false
set_option maxRecDepth 1000000
open Go.RowKit
namespace Go.Proofs.YtbkpnhbcihcgaaaGreatDoor
open Mini
noncomputable section
variable (n : Nat) (c : Nat) (g : GI) (e : TypeId) (opn : Bool) (sz : Nat) (ro : Bool) (ph : Int) (i24 : Nat) (g2 : GI) (m7 : Nat) (mm : Nat)
def basQ : Nat → Bool := fun k => fallB n g ((k : Nat) : Int) ph
def basN : Nat := cntF (basQ n g ph) n
def basG : Nat → Nat → Int := selG (basQ n g ph) (fun k => ((k : Nat) : Int)) n
theorem basN_pos {n : Nat} {g : Nat → Nat → Int} {ph : Int} (hp : 0 ≤ ph ∧ ph < (n : Int)) : ∃ m, basN n g ph = m + 1 := by
  have h : basQ n g ph (Int.toNat ph) = true := by
    have e : ((Int.toNat ph : Nat) : Int) = ph := Int.toNat_of_nonneg hp.1
    show fallB n g ((Int.toNat ph : Nat) : Int) ph = true
    rw [e]
    exact (fl_some (j := 0) (by omega) (fun i hi => absurd hi (by omega)) rfl).2
  have := cntF_pos h n (by omega)
  exact ⟨basN n g ph - 1, by unfold basN; omega⟩
noncomputable def baX : Code := loopAt Tryz.prog 53 0
noncomputable def baK : CallS := bothX kCr (bothX kRCr (bothX kFl (bothX kRl (kAll [c_range, c_rrange, c_index]))))
abbrev yf0 := jl [.int .i64 ((n : Nat) : Int), .int .i64 ((i24 : Nat) : Int)] 16 []
def baA (g : GI) (e : TypeId) (opn : Bool) (sz : Nat) (ro : Bool) (ph : Int) (i24 : Nat) : MA := MA.ofL 41 (jl [.slice (some ⟨6, 0, none⟩) n c, .int .i64 ph] 5 (jl [.slice none 0 0] 15 (yf0 n i24))) []
abbrev yf1 := ixE ph ((n : Nat) : Int)
abbrev yf2 : List MObj := [.rows n 1 (fun i j => .int .i64 (g i j)) e opn sz ro, .cells [.int .i64 (crV n g), .int .i64 (yf1 n ph)] 26 false 0 false]
def baL (c : Nat) (g : GI) (e : TypeId) (opn : Bool) (sz : Nat) (ro : Bool) (ph : Int) (i24 : Nat) : List MObj := (yf2 n g e opn sz ro ph)
def baA1 (g : GI) (e : TypeId) (opn : Bool) (sz : Nat) (ro : Bool) (ph : Int) (i24 : Nat) (g2 : GI) (m7 : Nat) : MA := MA.ofL 41 (jl [.slice (some ⟨6, 0, none⟩) n c, .int .i64 ph] 5 (jl [.slice (some ⟨8, 0, none⟩) (m7 + 1) (m7 + 1)] 15 (yf0 n i24))) []
abbrev yf3 : List MObj := [.rows n 1 (fun i j => .int .i64 (g i j)) e opn sz ro, .cells [.int .i64 (crV n g), .int .i64 (yf1 n ph)] 26 false 0 false, .rows (m7 + 1) 1 (fun i j => .int .i64 (g2 i j)) 3 true 1 false]
def baL1 (c : Nat) (g : GI) (e : TypeId) (opn : Bool) (sz : Nat) (ro : Bool) (ph : Int) (i24 : Nat) (g2 : GI) (m7 : Nat) : List MObj := (yf3 n g e opn sz ro ph g2 m7)
noncomputable def bar0 : Option OutCS := evK Tryz.prog baK 1000 false baX (baA n c g e opn sz ro ph i24) (wS 6 (baL n c g e opn sz ro ph i24)) ⟨[1, 1, .azz (.slice (some ⟨9, 0, none⟩) 1 1), .azz (.int .i64 ((i24 + 1 : Nat) : Int))], True⟩
noncomputable def bar1 : Option OutCS := evK Tryz.prog baK 1000 false baX (baA n c g e opn sz ro ph i24) (wS 6 (baL n c g e opn sz ro ph i24)) ⟨[1, 0, .azz (.int .i64 ((i24 + 1 : Nat) : Int))], True⟩
noncomputable def bar3 : Option OutCS := evK Tryz.prog baK 1000 false baX (baA1 n c g e opn sz ro ph i24 g2 m7) (wS 6 (baL1 n c g e opn sz ro ph i24 g2 m7)) ⟨[1, 1, .row 0 0, .azz (.int .i64 ((i24 + 1 : Nat) : Int))], True⟩
noncomputable def bar4 : Option OutCS := evK Tryz.prog baK 1000 false baX (baA1 n c g e opn sz ro ph i24 g2 m7) (wS 6 (baL1 n c g e opn sz ro ph i24 g2 m7)) ⟨[1, 0, .azz (.int .i64 ((i24 + 1 : Nat) : Int))], True⟩
noncomputable def bar5 : Option OutCS := evK Tryz.prog baK 1000 false baX (baA1 n c g e opn sz ro ph i24 g2 m7) (wS 6 (baL1 n c g e opn sz ro ph i24 g2 m7)) ⟨[0], True⟩
def bar5E (n : Nat) (c : Nat) (g : GI) (e : TypeId) (opn : Bool) (sz : Nat) (ro : Bool) (ph : Int) (i24 : Nat) (g2 : GI) (m7 : Nat) : MA := MA.ofL 41 (jl [] 7 (jl [.slice (some ⟨8, 0, none⟩) (m7 + 1) (m7 + 1)] 33 [])) []
def baAA (i : Nat) (c' : Nat) (G : GI) : MA := match c' with
  | 0 => baA n c g e opn sz ro ph i
  | m + 1 => baA1 n c g e opn sz ro ph i G m
def baLL (i : Nat) (c' : Nat) (G : GI) : List MObj := match c' with
  | 0 => baL n c g e opn sz ro ph i
  | m + 1 => baL1 n c g e opn sz ro ph i G m
def baQ (c : Nat) (g : GI) (e : TypeId) (opn : Bool) (sz : Nat) (ro : Bool) (ph : Int) : Nat → Bool := fun k => fallB n g ((k : Nat) : Int) ph
def baV : Nat → Int := fun k => ((k : Nat) : Int)
def baArgs (g : GI) (e : TypeId) (opn : Bool) (sz : Nat) (ro : Bool) (ph : Int) : Array Value := #[.slice (some ⟨6, 0, none⟩) n c, .int .i64 ph]
def baS (c : Nat) (g : GI) (e : TypeId) (opn : Bool) (sz : Nat) (ro : Bool) (ph : Int) : List MObj := [.rows n 1 (fun i j => .int .i64 (g i j)) e opn sz ro]
noncomputable abbrev yf4 := bodyOf Tryz.prog 53
noncomputable abbrev yf5 := startM Tryz.f53 (baArgs n c g e opn sz ro ph)
abbrev yf6 := bar5E n c g e opn sz ro ph n (selG (baQ n c g e opn sz ro ph) baV n) mm
abbrev yf7 : List MObj := [.rows n 1 (fun i j => .int .i64 (g i j)) e opn sz ro, .cells [.int .i64 (crV n g), .int .i64 (yf1 n ph)] 26 false 0 false, .rows (mm + 1) 1 (fun i j => .int .i64 ((selG (baQ n c g e opn sz ro ph) baV n) i j)) 3 true 1 false]
noncomputable def baf0 : Option OutCS := evK Tryz.prog baK 1000 false yf4 (yf5 n c g e opn sz ro ph) (wS 6 (baS n c g e opn sz ro ph)) ⟨[1, 0, 0, 1, 1, 0, 0, 0, .lp 25165955 (baA n c g e opn sz ro ph 0) 6 (baL n c g e opn sz ro ph 0) (.exit 0) (yf6 n c g e opn sz ro ph mm) (yf7 n c g e opn sz ro ph mm) 8 256], True⟩
noncomputable def baf1 : Option OutCS := evK Tryz.prog baK 1000 false yf4 (yf5 n c g e opn sz ro ph) (wS 6 (baS n c g e opn sz ro ph)) ⟨[1, 0, 0, 1, 1, 1, 1], True⟩
noncomputable def baf2 : Option OutCS := evK Tryz.prog baK 1000 false yf4 (yf5 n c g e opn sz ro ph) (wS 6 (baS n c g e opn sz ro ph)) ⟨[1, 0, 1, 1], True⟩
theorem baK_ok : FOkS Tryz.prog baK := bothX_ok kCr_ok (bothX_ok kRCr_ok (bothX_ok kFl_ok (bothX_ok kRl_ok (kAll_ok _ ⟨k_range, k_rrange, k_index, trivial⟩))))
abbrev yf8 := fun i j => ([((i24 : Nat) : Int)] : List Int).getD (i * 1 + j) 0
abbrev yf9 : List MObj := [.rows n 1 (fun i j => .int .i64 (g i j)) e opn sz ro, .cells [.int .i64 (crV n g), .int .i64 (yf1 n ph)] 26 false 0 false, .cells [.int .i64 ((i24 : Nat) : Int)] 3 true 1 false]
abbrev yf10 := (((i24 : Nat)) : Int) < (((n : Nat)) : Int)
abbrev yf11 := decide (yf10 n i24)
abbrev yf12 := (n = n) ∧ (∀ (i : Nat), ((i < n) → (∀ (j : Nat), ((j < (1 : Nat)) → ((Value.int .i64 (g i j)) = (Value.int .i64 (gI (Value.int .i64 (g i j)))))))))
abbrev yf13 := (((n : Nat)) : Int) ≤ (9223372036854775807 : Int)
abbrev yf14 := (True ∧ ((yf11 n i24) = true)) ∧ ((yf12 n g) ∧ ((∀ (i : Nat), ((i < n) → (((0 : Int) ≤ (gI (Value.int .i64 (g i 0)))) ∧ ((gI (Value.int .i64 (g i 0))) < (((n : Nat)) : Int))))) ∧ ((((0 : Int) ≤ (((i24 : Nat)) : Int)) ∧ (yf10 n i24)) ∧ (yf13 n))))
abbrev yf15 := fun (i : Nat) => (fun (j : Nat) => (gI (Value.int .i64 (g i j))))
abbrev yf16 := fallB n (yf15 g) (((i24 : Nat)) : Int) ph
abbrev yf17 := (yf14 n g i24) ∧ ((yf16 n g ph i24) = true)
abbrev yf18 := ((.int .i64 (IntKind.i64.wrap ((((i24 : Nat)) : Int) + (1 : Int)))) : Value) = (.int .i64 ((((i24 + 1) : Nat)) : Int))
theorem bar0_eq : seenK 6 2 [9] 25165955 256 (bar0 n c g e opn sz ro ph i24) = some (.normal, baA1 n c g e opn sz ro ph (i24 + 1) (yf8 i24) 0, (yf9 n g e opn sz ro ph i24), 256, ⟨[], (((yf17 n g ph i24) ∧ (((.slice (some ⟨9, 0, none⟩) 1 1) : Value) = (.slice (some ⟨9, 0, none⟩) (1 : Nat) (1 : Nat)))) ∧ (yf18 i24))⟩) := by kernel_rfl
abbrev yf19 := fallB n g ((i24 : Nat) : Int) ph
theorem bar0_k (hg : ∀ i, i < n → 0 ≤ g i 0 ∧ g i 0 < (n : Int)) (hf : ((i24 : Nat) : Int) ≤ (n : Int)) (hn : n ≤ 1048576) (h0 : ((i24 : Nat) : Int) < ((n : Nat) : Int)) (h1 : (yf19 n g ph i24) = true) : KC Tryz.prog none baX (baA n c g e opn sz ro ph i24).act (wS 6 (baL n c g e opn sz ro ph i24)) .normal (baA1 n c g e opn sz ro ph (i24 + 1) (yf8 i24) 0).act (wS 6 (baL1 n c g e opn sz ro ph (i24 + 1) (yf8 i24) 0)) 8 256 := by
  refine KT.toldAs (L := (yf9 n g e opn sz ro ph i24)) ?_ (by
    simp only [List.map_cons, List.map_nil, baL, baL1]
    all_goals exact kr)
  exact seenK_ok smx baK_ok sng (bar0_eq n c g e opn sz ro ph i24) kq
abbrev yf20 := ((yf14 n g i24) ∧ ((yf16 n g ph i24) = false)) ∧ (yf18 i24)
theorem bar1_eq : seenK 6 2 [] 25165955 256 (bar1 n c g e opn sz ro ph i24) = some (.normal, baA n c g e opn sz ro ph (i24 + 1), (yf2 n g e opn sz ro ph), 256, ⟨[], (yf20 n g ph i24)⟩) := by kernel_rfl
theorem bar1_k (hg : ∀ i, i < n → 0 ≤ g i 0 ∧ g i 0 < (n : Int)) (hf : ((i24 : Nat) : Int) ≤ (n : Int)) (hn : n ≤ 1048576) (h0 : ((i24 : Nat) : Int) < ((n : Nat) : Int)) (h1 : (yf19 n g ph i24) = false) : KC Tryz.prog none baX (baA n c g e opn sz ro ph i24).act (wS 6 (baL n c g e opn sz ro ph i24)) .normal (baA n c g e opn sz ro ph (i24 + 1)).act (wS 6 (baL n c g e opn sz ro ph (i24 + 1))) 8 256 :=
  seenK_ok smx baK_ok sng (bar1_eq n c g e opn sz ro ph i24) kq
abbrev yf21 := True ∧ ((yf11 n i24) = false)
abbrev yf22 := pushI (m7 + 1) g2 [((i24 : Nat) : Int)]
abbrev yf23 : List MObj := [.rows n 1 (fun i j => .int .i64 (g i j)) e opn sz ro, .cells [.int .i64 (crV n g), .int .i64 (yf1 n ph)] 26 false 0 false, .rows (m7 + 2) 1 (fun i j => tellV (invN 8 [10]) 8 ((pushRow (m7 + 1) 1 (fun i j => .int .i64 (g2 i j)) [.int .i64 ((i24 : Nat) : Int)]) i j)) 3 true 1 false]
theorem bar3_eq : seenK 6 2 [10] 25165955 256 (bar3 n c g e opn sz ro ph i24 g2 m7) = some (.normal, baA1 n c g e opn sz ro ph (i24 + 1) (yf22 i24 g2 m7) (m7 + 1), (yf23 n g e opn sz ro ph i24 g2 m7), 256, ⟨[], (((yf17 n g ph i24) ∧ (((m7 + 1) = (m7 + 1)) ∧ (((m7 + 1) = (m7 + 1)) ∧ ((((m7 + 1) + 1) * 8) ≤ (140737488355328 : Nat))))) ∧ (yf18 i24))⟩) := by kernel_rfl
theorem bar3_k (hg : ∀ i, i < n → 0 ≤ g i 0 ∧ g i 0 < (n : Int)) (hf : ((i24 : Nat) : Int) ≤ (n : Int)) (hn : n ≤ 1048576) (hm : m7 + 1 ≤ i24) (h0 : ((i24 : Nat) : Int) < ((n : Nat) : Int)) (h1 : (yf19 n g ph i24) = true) : KC Tryz.prog none baX (baA1 n c g e opn sz ro ph i24 g2 m7).act (wS 6 (baL1 n c g e opn sz ro ph i24 g2 m7)) .normal (baA1 n c g e opn sz ro ph (i24 + 1) (yf22 i24 g2 m7) (m7 + 1)).act (wS 6 (baL1 n c g e opn sz ro ph (i24 + 1) (yf22 i24 g2 m7) (m7 + 1))) 8 256 := by
  refine KT.toldAs (L := (yf23 n g e opn sz ro ph i24 g2 m7)) ?_ (by
    simp only [List.map_cons, List.map_nil, baL, baL1]
    all_goals exact kr)
  exact seenK_ok smx baK_ok sng (bar3_eq n c g e opn sz ro ph i24 g2 m7) kq
theorem bar4_eq : seenK 6 2 [8] 25165955 256 (bar4 n c g e opn sz ro ph i24 g2 m7) = some (.normal, baA1 n c g e opn sz ro ph (i24 + 1) g2 m7, (yf3 n g e opn sz ro ph g2 m7), 256, ⟨[], (yf20 n g ph i24)⟩) := by kernel_rfl
theorem bar4_k (hg : ∀ i, i < n → 0 ≤ g i 0 ∧ g i 0 < (n : Int)) (hf : ((i24 : Nat) : Int) ≤ (n : Int)) (hn : n ≤ 1048576) (hm : m7 + 1 ≤ i24) (h0 : ((i24 : Nat) : Int) < ((n : Nat) : Int)) (h1 : (yf19 n g ph i24) = false) : KC Tryz.prog none baX (baA1 n c g e opn sz ro ph i24 g2 m7).act (wS 6 (baL1 n c g e opn sz ro ph i24 g2 m7)) .normal (baA1 n c g e opn sz ro ph (i24 + 1) g2 m7).act (wS 6 (baL1 n c g e opn sz ro ph (i24 + 1) g2 m7)) 8 256 := by
  refine KT.toldAs (L := (yf3 n g e opn sz ro ph g2 m7)) ?_ (by
    simp only [List.map_cons, List.map_nil, baL, baL1]
    all_goals exact kr)
  exact seenK_ok smx baK_ok sng (bar4_eq n c g e opn sz ro ph i24 g2 m7) kq
theorem bar5_eq : seenK 6 2 [8] 128 256 (bar5 n c g e opn sz ro ph i24 g2 m7) = some ((.exit 0), bar5E n c g e opn sz ro ph i24 g2 m7, (yf3 n g e opn sz ro ph g2 m7), 256, ⟨[], (yf21 n i24)⟩) := by kernel_rfl
theorem bar5_k (hg : ∀ i, i < n → 0 ≤ g i 0 ∧ g i 0 < (n : Int)) (hf : ((i24 : Nat) : Int) ≤ (n : Int)) (hn : n ≤ 1048576) (hm : m7 + 1 ≤ i24) (h0 : ¬ ((i24 : Nat) : Int) < ((n : Nat) : Int)) : KC Tryz.prog none baX (baA1 n c g e opn sz ro ph i24 g2 m7).act (wS 6 (baL1 n c g e opn sz ro ph i24 g2 m7)) (.exit 0) (bar5E n c g e opn sz ro ph i24 g2 m7).act (wS 6 (yf3 n g e opn sz ro ph g2 m7)) 8 256 := by
  refine KT.toldAs (L := (yf3 n g e opn sz ro ph g2 m7)) ?_ (by
    simp only [List.map_cons, List.map_nil, baL, baL1]
    all_goals exact kr)
  exact seenK_ok smx baK_ok sng (bar5_eq n c g e opn sz ro ph i24 g2 m7) kq
theorem ba_yes (hg : ∀ i, i < n → 0 ≤ g i 0 ∧ g i 0 < (n : Int)) (hn : n ≤ 1048576) {i : Nat} (c' : Nat) (G : GI) (hc : c' ≤ i) (hi : i < n) (hq : baQ n c g e opn sz ro ph i = true) : KC Tryz.prog none baX (baAA n c g e opn sz ro ph i c' G).act (wS 6 (baLL n c g e opn sz ro ph i c' G)) .normal (baAA n c g e opn sz ro ph (i + 1) (c' + 1) (growI c' G (baV i))).act (wS 6 (baLL n c g e opn sz ro ph (i + 1) (c' + 1) (growI c' G (baV i)))) 8 256 := by
  cases c' with
  | zero => exact bar0_k n c g e opn sz ro ph i hg (by omega) hn (by omega) hq
  | succ m => exact bar3_k n c g e opn sz ro ph i G m hg (by omega) hn hc (by omega) hq
theorem ba_no (hg : ∀ i, i < n → 0 ≤ g i 0 ∧ g i 0 < (n : Int)) (hn : n ≤ 1048576) {i : Nat} (c' : Nat) (G : GI) (hc : c' ≤ i) (hi : i < n) (hq : baQ n c g e opn sz ro ph i = false) : KC Tryz.prog none baX (baAA n c g e opn sz ro ph i c' G).act (wS 6 (baLL n c g e opn sz ro ph i c' G)) .normal (baAA n c g e opn sz ro ph (i + 1) c' G).act (wS 6 (baLL n c g e opn sz ro ph (i + 1) c' G)) 8 256 := by
  cases c' with
  | zero => exact bar1_k n c g e opn sz ro ph i hg (by omega) hn (by omega) hq
  | succ m => exact bar4_k n c g e opn sz ro ph i G m hg (by omega) hn hc (by omega) hq
theorem ba_loop (hg : ∀ i, i < n → 0 ≤ g i 0 ∧ g i 0 < (n : Int)) (hn : n ≤ 1048576) (mm : Nat) (hm : cntF (baQ n c g e opn sz ro ph) n = mm + 1) : KC Tryz.prog none (.loop baX) (baA n c g e opn sz ro ph 0).act (wS 6 (baL n c g e opn sz ro ph 0)) (.exit 0) (bar5E n c g e opn sz ro ph n (selG (baQ n c g e opn sz ro ph) baV n) mm).act (wS 6 [.rows n 1 (fun i j => .int .i64 (g i j)) e opn sz ro, .cells [.int .i64 (crV n g), .int .i64 (ixE ph ((n : Nat) : Int))] 26 false 0 false, .rows (mm + 1) 1 (fun i j => .int .i64 ((selG (baQ n c g e opn sz ro ph) baV n) i j)) 3 true 1 false]) 8 256 := by
  refine K_rounds (A := fun i => (baAA n c g e opn sz ro ph i (cntF (baQ n c g e opn sz ro ph) i) (selG (baQ n c g e opn sz ro ph) baV i)).act) (S := fun i => wS 6 (baLL n c g e opn sz ro ph i (cntF (baQ n c g e opn sz ro ph) i) (selG (baQ n c g e opn sz ro ph) baV i))) n (fun i hi => ?_) ?_ (by simp)
  · cases hq : baQ n c g e opn sz ro ph i with
    | true =>
      simp only [cntF_yes hq, selG_yes hq]
      exact ba_yes n c g e opn sz ro ph hg hn _ _ (cntF_le _ i) hi hq
    | false =>
      simp only [cntF_no hq, selG_no hq]
      exact ba_no n c g e opn sz ro ph hg hn _ _ (cntF_le _ i) hi hq
  · simp only [hm]
    exact bar5_k n c g e opn sz ro ph n (selG (baQ n c g e opn sz ro ph) baV n) mm hg (by omega) hn (hm ▸ cntF_le _ n) (by omega)
abbrev yf24 : List MObj := [.rows (mm + 1) 1 (fun i j => .int .i64 ((selG (baQ n c g e opn sz ro ph) baV n) i j)) 3 true 1 false]
abbrev yf25 := (((True ∧ ((yf12 n g) ∧ (yf13 n))) ∧ True) ∧ ((decide ((0 : Int) < (((2 : Nat)) : Int))) = true)) ∧ ((0 : Int) = (Int.ofNat 0))
abbrev yf26 := (crV n (yf15 g)) != (0 : Int)
abbrev yf27 := (((yf25 n g) ∧ ((yf26 n g) = false)) ∧ ((decide ((IntKind.i64.wrap ((0 : Int) + (1 : Int))) < (((2 : Nat)) : Int))) = true)) ∧ ((IntKind.i64.wrap ((0 : Int) + (1 : Int))) = (Int.ofNat 1))
abbrev yf28 := (ixE ph (((n : Nat)) : Int)) != (0 : Int)
abbrev yf29 := HAppend.hAppend (List.replicate (6 : Nat) MObj.hole) (baL n c g e opn sz ro ph (0 : Nat))
abbrev yf30 := wS 6 (yf7 n c g e opn sz ro ph mm)
theorem baf0_eq : seenF' Tryz.prog Tryz.f53 6 1 [8] (baf0 n c g e opn sz ro ph mm) = some (.tuple #[.slice (some ⟨7, 0, none⟩) (mm + 1) (mm + 1), .int .i64 (0 : Int)], baS n c g e opn sz ro ph ++ (yf24 n c g e opn sz ro ph mm), ⟨[], (((((yf27 n g) ∧ ((yf28 n ph) = false)) ∧ ((decide ((IntKind.i64.wrap ((IntKind.i64.wrap ((0 : Int) + (1 : Int))) + (1 : Int))) < (((2 : Nat)) : Int))) = false)) ∧ (((0 : Int) != (0 : Int)) = false)) ∧ ((((baA n c g e opn sz ro ph (0 : Nat)) = (baA n c g e opn sz ro ph (0 : Nat))) ∧ ((8 = (6 + 2)) ∧ ((yf29 n c g e opn sz ro ph) = (yf29 n c g e opn sz ro ph)))) ∧ KC Tryz.prog none (.loop baX) (baA n c g e opn sz ro ph 0).act (wS 6 (baL n c g e opn sz ro ph 0)) (.exit 0) (yf6 n c g e opn sz ro ph mm).act (yf30 n c g e opn sz ro ph mm) 8 256))⟩) := by kernel_rfl
theorem baf0_s (hx : (n : Int) ≤ 9223372036854775807) (h0 : (crV n g) = (0 : Int)) (h1 : (yf1 n ph) = (0 : Int)) (l0 : KC Tryz.prog none (.loop baX) (baA n c g e opn sz ro ph 0).act (wS 6 (baL n c g e opn sz ro ph 0)) (.exit 0) (yf6 n c g e opn sz ro ph mm).act (yf30 n c g e opn sz ro ph mm) 8 256) : SndF Tryz.prog 53 (baArgs n c g e opn sz ro ph) (wS 6 (baS n c g e opn sz ro ph)) (.tuple #[.slice (some ⟨7, 0, none⟩) (mm + 1) (mm + 1), .int .i64 (0 : Int)]) (wS 6 (baS n c g e opn sz ro ph ++ (yf24 n c g e opn sz ro ph mm))) 64 0 :=
  kF (L := baS n c g e opn sz ro ph) (L2 := (yf24 n c g e opn sz ro ph mm)) (ms := [8]) baK_ok (baf0_eq n c g e opn sz ro ph mm) kq
abbrev yf31 := (yf28 n ph) = true
theorem baf1_eq : seenF' Tryz.prog Tryz.f53 6 1 [] (baf1 n c g e opn sz ro ph) = some (.tuple #[.slice none 0 0, .int .i64 (yf1 n ph)], baS n c g e opn sz ro ph ++ [], ⟨[], (((yf27 n g) ∧ (yf31 n ph)) ∧ (yf31 n ph))⟩) := by kernel_rfl
theorem baf1_s (hx : (n : Int) ≤ 9223372036854775807) (h0 : (crV n g) = (0 : Int)) (h1 : (yf1 n ph) ≠ (0 : Int)) : SndF Tryz.prog 53 (baArgs n c g e opn sz ro ph) (wS 6 (baS n c g e opn sz ro ph)) (.tuple #[.slice none 0 0, .int .i64 (yf1 n ph)]) (wS 6 (baS n c g e opn sz ro ph)) 64 0 :=
  kF (L := baS n c g e opn sz ro ph) (L2 := []) (ms := []) baK_ok (baf1_eq n c g e opn sz ro ph) kq
abbrev yf32 := (yf26 n g) = true
theorem baf2_eq : seenF' Tryz.prog Tryz.f53 6 1 [] (baf2 n c g e opn sz ro ph) = some (.tuple #[.slice none 0 0, .int .i64 (crV n g)], baS n c g e opn sz ro ph ++ [], ⟨[], (((yf25 n g) ∧ (yf32 n g)) ∧ (yf32 n g))⟩) := by kernel_rfl
theorem baf2_s (hx : (n : Int) ≤ 9223372036854775807) (h0 : (crV n g) ≠ (0 : Int)) : SndF Tryz.prog 53 (baArgs n c g e opn sz ro ph) (wS 6 (baS n c g e opn sz ro ph)) (.tuple #[.slice none 0 0, .int .i64 (crV n g)]) (wS 6 (baS n c g e opn sz ro ph)) 64 0 :=
  kF (L := baS n c g e opn sz ro ph) (L2 := []) (ms := []) baK_ok (baf2_eq n c g e opn sz ro ph) kq
theorem ba_sndF1 (hn : n ≤ 1048576) (h0 : crV n g = 0) (h1 : ixE ph (n : Int) = 0) : SndF Tryz.prog 53 (baArgs n c g e opn sz ro ph) (wS 6 (baS n c g e opn sz ro ph)) (.tuple #[.slice (some ⟨7, 0, none⟩) (basN n g ph) (basN n g ph), .int .i64 0]) (wS 6 (baS n c g e opn sz ro ph ++ [.rows (basN n g ph) 1 (fun i j => .int .i64 (basG n g ph i j)) 3 true 1 false])) 64 0 := by
  obtain ⟨m, hm⟩ := basN_pos (g := g) (ixE_ok h1)
  have hg := (crV_ok h0).2
  rw [hm]
  exact baf0_s n c g e opn sz ro ph m (by omega) h0 h1 (ba_loop n c g e opn sz ro ph hg hn m hm)
theorem ba_sndF0 (hn : n ≤ 1048576) (h : th2 (crV n g) (ixE ph n) ≠ 0) : SndF Tryz.prog 53 (baArgs n c g e opn sz ro ph) (wS 6 (baS n c g e opn sz ro ph)) (.tuple #[.slice none 0 0, .int .i64 (th2 (crV n g) (ixE ph n))]) (wS 6 (baS n c g e opn sz ro ph)) 64 0 := by
  unfold th2 at h ⊢
  by_cases h0 : crV n g = 0
  · rw [if_pos h0] at h ⊢; exact baf1_s n c g e opn sz ro ph (by omega) h0 h
  · rw [if_neg h0]; exact baf2_s n c g e opn sz ro ph (by omega) h0
def kBa : CallS := fun f xs s q => match decide (f = 53) with
  | true => match xs.toList, q.rest with
    | [.slice (some ⟨b, 0, none⟩) n c, .int .i64 ph], .n d :: rest => match Nat.ble 6 b, rowK 1 .i64 s b n, (d == 1) with
      | true, some (g, _, _, _, _, p), true => some (.tuple #[.slice (some ⟨s.next, 0, none⟩) (basN n g ph) (basN n g ph), .int .i64 0], s.push (.rows (basN n g ph) 1 (fun i j => .int .i64 (basG n g ph i j)) 3 true 1 false), 2 ^ b, 0, ⟨rest, q.ob ∧ (p ∧ (n ≤ 1048576 ∧ crV n g = 0 ∧ ixE ph (n : Int) = 0))⟩)
      | true, some (g, _, _, _, _, p), false => some (.tuple #[.slice none 0 0, .int .i64 (th2 (crV n g) (ixE ph n))], s, 2 ^ b, 0, ⟨rest, q.ob ∧ (p ∧ (n ≤ 1048576 ∧ th2 (crV n g) (ixE ph n) ≠ 0))⟩)
      | _, _, _ => none
    | _, _ => none
  | false => none
theorem kBa_ok : FOkS Tryz.prog kBa := fun f xs s q u s1 R W q1 he => by
  unfold kBa at he
  split at he
  · rename_i hf
    have hf := of_decide_eq_true hf
    subst hf
    split at he
    · rename_i b n c ph d rest hx0 hrest
      have hxs : xs = #[.slice (some ⟨b, 0, none⟩) n c, .int .i64 ph] := by apply Array.ext'; exact hx0
      subst hxs
      split at he
      · rename_i g e opn sz ro p hb hr hd
        have hb := Nat.le_of_ble_eq_true hb
        cases he
        refine ⟨fun hq => hq.1, fun hq => ?_⟩
        obtain ⟨hp, hx⟩ := hq.2
        obtain ⟨l1, w1⟩ := rowK_wo hr hp
        refine SndF.rowsNew (N := 6) (bs := [b]) (s0 := wS 6 [rowI 1 n g e opn sz ro]) (o1 := .rows (basN n g ph) 1 (fun i j => .int .i64 (basG n g ph i j)) 3 true 1 false) sng (ba_sndF1 n c g e opn sz ro ph hx.1 hx.2.1 hx.2.2) rfl (fun x hx => ?_) (by simp) (by omega) (fun x hx _ => ?_) (fun x hx => ?_) (fun f j hj => ?_) (fun f hl hf => wvs_two (slice_wv (hf 0 (by simp))) (ground_wv (n := 8) rfl)) (fun f _ hf hn => ⟨wv_tuple (wvs_two (slice_wv hn) (ground_wv (n := 8) rfl)), keep_wo (N := fun _ => false) (fun b hb => by cases hb) (fun i j => rfl)⟩)
        · simp at hx; subst hx; omega
        · rcases Nat.lt_or_ge x 6 with k | k
          · have hz := (by decide : ∀ b, b < 6 → Nat.testBit 64 b = false) x k
            rw [hz] at hx; cases hx
          · exact k
        · simp at hx; subst hx; exact bit_self _
        · match j, hj with
          | 0, _ => exact w1 f
      · rename_i g e opn sz ro p hb hr hd
        have hb := Nat.le_of_ble_eq_true hb
        cases he
        refine ⟨fun hq => hq.1, fun hq => ?_⟩
        obtain ⟨hp, hx⟩ := hq.2
        obtain ⟨l1, w1⟩ := rowK_wo hr hp
        exact SndF.row (N := 6) sng (ba_sndF0 n c g e opn sz ro ph hx.1 hx.2) (by kernel_rfl) hb l1 w1 (fun f _ hf => wvs_two (slice_wv hf) (ground_wv (n := 8) rfl))
      · cases he
    · cases he
  · cases he
end
end Go.Proofs.YtbkpnhbcihcgaaaGreatDoor
end
section
set_option linter.all false
set_option maxRecDepth 1000000
open Go.RowKit
namespace Go.Proofs.YtbkpnhbcihcgaaaGreatDoor
open Mini
noncomputable section
variable (n : Nat) (c : Nat) (g : GI) (e : TypeId) (opn : Bool) (sz : Nat) (ro : Bool) (ph : Int) (i6 : Nat) (g1 : GI) (m5 : Nat) (mm : Nat)
end
end Go.Proofs.YtbkpnhbcihcgaaaGreatDoor
end
section
set_option linter.all false
set_option maxRecDepth 1000000
open Go.RowKit
namespace Go.Proofs.YtbkpnhbcihcgaaaGreatDoor
open Mini
noncomputable section
variable (n : Nat) (c : Nat) (g : GI) (e : TypeId) (opn : Bool) (sz : Nat) (ro : Bool) (m : Nat) (c2 : Nat) (h : GI) (e2 : TypeId) (opn2 : Bool) (sz2 : Nat) (ro2 : Bool) (ph : Int) (i30 : Nat) (jj : Nat)
def cbE (i : Nat) : Int := if ((i : Nat) : Int) = ph then (if h i 0 = 0 then 0 else 19) else (if 0 < h i 0 ∧ h (Int.toNat (g i 0)) 0 < h i 0 then 0 else 19)
theorem cbE_at {g h : Nat → Nat → Int} {ph : Int} {i : Nat} (hq : cbE g h ph i = 0) : (((i : Nat) : Int) = ph ∧ h i 0 = 0) ∨ (((i : Nat) : Int) ≠ ph ∧ 0 < h i 0 ∧ h (Int.toNat (g i 0)) 0 < h i 0) := by
  unfold cbE at hq
  split at hq
  · rename_i c
    split at hq
    · rename_i d; exact .inl ⟨c, d⟩
    · exact absurd hq (by decide)
  · rename_i c
    split at hq
    · rename_i d; exact .inr ⟨c, d.1, d.2⟩
    · exact absurd hq (by decide)
theorem cbE_no {g h : Nat → Nat → Int} {ph : Int} {i : Nat} (hq : cbE g h ph i ≠ 0) : cbE g h ph i = 19 ∧ ((((i : Nat) : Int) = ph ∧ h i 0 ≠ 0) ∨ (((i : Nat) : Int) ≠ ph ∧ ¬ (0 < h i 0 ∧ h (Int.toNat (g i 0)) 0 < h i 0))) := by
  unfold cbE at hq ⊢
  split at hq
  · rename_i c
    rw [if_pos c]
    split at hq
    · exact absurd rfl hq
    · rename_i d; rw [if_neg d]; exact ⟨rfl, .inl ⟨c, d⟩⟩
  · rename_i c
    rw [if_neg c]
    split at hq
    · exact absurd rfl hq
    · rename_i d; rw [if_neg d]; exact ⟨rfl, .inr ⟨c, d⟩⟩
def cbV : Int := th2 (th2 (crV n g) (ixE ph n)) (if m = n then feN (cbE g h ph) n 0 else 2)
noncomputable def cbX : Code := loopAt Tryz.prog 56 0
noncomputable def cbK : CallS := bothX kCp (bothX kCr (bothX kRCr (bothX kFl (bothX kRl (kAll [c_range, c_rrange, c_index])))))
def cbA (g : GI) (e : TypeId) (opn : Bool) (sz : Nat) (ro : Bool) (m : Nat) (c2 : Nat) (h : GI) (e2 : TypeId) (opn2 : Bool) (sz2 : Nat) (ro2 : Bool) (ph : Int) (i30 : Nat) : MA := MA.ofL 67 (jl [.slice (some ⟨6, 0, none⟩) n c, .int .i64 ph, .slice (some ⟨7, 0, none⟩) m c2] 25 (jl [.slice (some ⟨7, 0, none⟩) m c2, .int .i64 ((m : Nat) : Int), .int .i64 ((i30 : Nat) : Int)] 36 [])) []
abbrev yg0 := ixE ph ((n : Nat) : Int)
abbrev yg1 : List MObj := [.rows n 1 (fun i j => .int .i64 (g i j)) e opn sz ro, .rows m 1 (fun i j => .int .i64 (h i j)) e2 opn2 sz2 ro2, .cells [.int .i64 (crV n g), .int .i64 (yg0 n ph)] 26 false 0 false]
def cbL (c : Nat) (g : GI) (e : TypeId) (opn : Bool) (sz : Nat) (ro : Bool) (m : Nat) (c2 : Nat) (h : GI) (e2 : TypeId) (opn2 : Bool) (sz2 : Nat) (ro2 : Bool) (ph : Int) (i30 : Nat) : List MObj := (yg1 n g e opn sz ro m h e2 opn2 sz2 ro2 ph)
noncomputable def cbr0 : Option OutCS := evK Tryz.prog cbK 1000 false cbX (cbA n c g e opn sz ro m c2 h e2 opn2 sz2 ro2 ph i30) (wS 6 (cbL n c g e opn sz ro m c2 h e2 opn2 sz2 ro2 ph i30)) ⟨[1, .row i30 0, .row i30 0, 0, 0, 0, 0, 0, 0, 0, 0, 0, 0, 0, 0, 0, 1, 1, 1, 1, 1, 1, 0, .azz (.int .i64 ((i30 + 1 : Nat) : Int))], True⟩
noncomputable def cbr1 : Option OutCS := evK Tryz.prog cbK 1000 false cbX (cbA n c g e opn sz ro m c2 h e2 opn2 sz2 ro2 ph i30) (wS 6 (cbL n c g e opn sz ro m c2 h e2 opn2 sz2 ro2 ph i30)) ⟨[1, .row i30 0, .row i30 0, 0, 0, 0, 0, 0, 0, 0, 0, 0, 0, 0, 0, 0, 1, 1, 1, 1, 1, 1, 1], True⟩
abbrev yg2 := jl [] 6 (jl [.int .i64 (19 : Int)] 60 [])
def cbr1E (n : Nat) (c : Nat) (g : GI) (e : TypeId) (opn : Bool) (sz : Nat) (ro : Bool) (m : Nat) (c2 : Nat) (h : GI) (e2 : TypeId) (opn2 : Bool) (sz2 : Nat) (ro2 : Bool) (ph : Int) (i30 : Nat) : MA := MA.ofL 67 yg2 []
noncomputable def cbr2 : Option OutCS := evK Tryz.prog cbK 1000 false cbX (cbA n c g e opn sz ro m c2 h e2 opn2 sz2 ro2 ph i30) (wS 6 (cbL n c g e opn sz ro m c2 h e2 opn2 sz2 ro2 ph i30)) ⟨[1, .row i30 0, .row i30 0, 1, 1, 1, 1, 1, 1, 1, .row i30 0, 1, .row i30 0, 1, .row (Int.toNat (g i30 0)) 0, 1, .row (Int.toNat (g i30 0)) 0, 1, 1, 1, 0, 0, 0, 0, 0, 0, 0, .azz (.int .i64 ((i30 + 1 : Nat) : Int))], True⟩
noncomputable def cbr3 : Option OutCS := evK Tryz.prog cbK 1000 false cbX (cbA n c g e opn sz ro m c2 h e2 opn2 sz2 ro2 ph i30) (wS 6 (cbL n c g e opn sz ro m c2 h e2 opn2 sz2 ro2 ph i30)) ⟨[1, .row i30 0, .row i30 0, 1, 1, 1, 1, 1, 1, 1, .row i30 0, 1, .row i30 0, 1, .row (Int.toNat (g i30 0)) 0, 1, .row (Int.toNat (g i30 0)) 0, 1, 1, 1, 0, 0, 0, 1, 1, 1, 1], True⟩
def cbr3E (n : Nat) (c : Nat) (g : GI) (e : TypeId) (opn : Bool) (sz : Nat) (ro : Bool) (m : Nat) (c2 : Nat) (h : GI) (e2 : TypeId) (opn2 : Bool) (sz2 : Nat) (ro2 : Bool) (ph : Int) (i30 : Nat) : MA := MA.ofL 67 yg2 []
noncomputable def cbr4 : Option OutCS := evK Tryz.prog cbK 1000 false cbX (cbA n c g e opn sz ro m c2 h e2 opn2 sz2 ro2 ph i30) (wS 6 (cbL n c g e opn sz ro m c2 h e2 opn2 sz2 ro2 ph i30)) ⟨[1, .row i30 0, .row i30 0, 1, 1, 1, 0, 0, 0, 0, 0, 0, 0, 0, 0, 0, 0, 0, 0, 1, 1, 1, 1], True⟩
def cbr4E (n : Nat) (c : Nat) (g : GI) (e : TypeId) (opn : Bool) (sz : Nat) (ro : Bool) (m : Nat) (c2 : Nat) (h : GI) (e2 : TypeId) (opn2 : Bool) (sz2 : Nat) (ro2 : Bool) (ph : Int) (i30 : Nat) : MA := MA.ofL 67 yg2 []
noncomputable def cbr5 : Option OutCS := evK Tryz.prog cbK 1000 false cbX (cbA n c g e opn sz ro m c2 h e2 opn2 sz2 ro2 ph i30) (wS 6 (cbL n c g e opn sz ro m c2 h e2 opn2 sz2 ro2 ph i30)) ⟨[0], True⟩
def cbr5E (n : Nat) (c : Nat) (g : GI) (e : TypeId) (opn : Bool) (sz : Nat) (ro : Bool) (m : Nat) (c2 : Nat) (h : GI) (e2 : TypeId) (opn2 : Bool) (sz2 : Nat) (ro2 : Bool) (ph : Int) (i30 : Nat) : MA := MA.ofL 67 (jl [] 67 []) []
def cbArgs (g : GI) (e : TypeId) (opn : Bool) (sz : Nat) (ro : Bool) (m : Nat) (c2 : Nat) (h : GI) (e2 : TypeId) (opn2 : Bool) (sz2 : Nat) (ro2 : Bool) (ph : Int) : Array Value := #[.slice (some ⟨6, 0, none⟩) n c, .int .i64 ph, .slice (some ⟨7, 0, none⟩) m c2]
def cbS (c : Nat) (g : GI) (e : TypeId) (opn : Bool) (sz : Nat) (ro : Bool) (m : Nat) (c2 : Nat) (h : GI) (e2 : TypeId) (opn2 : Bool) (sz2 : Nat) (ro2 : Bool) (ph : Int) : List MObj := [.rows n 1 (fun i j => .int .i64 (g i j)) e opn sz ro, .rows m 1 (fun i j => .int .i64 (h i j)) e2 opn2 sz2 ro2]
noncomputable abbrev yg3 := bodyOf Tryz.prog 56
noncomputable abbrev yg4 := startM Tryz.f56 (cbArgs n c g e opn sz ro m c2 h e2 opn2 sz2 ro2 ph)
noncomputable def cbf0 : Option OutCS := evK Tryz.prog cbK 1000 false yg3 (yg4 n c g e opn sz ro m c2 h e2 opn2 sz2 ro2 ph) (wS 6 (cbS n c g e opn sz ro m c2 h e2 opn2 sz2 ro2 ph)) ⟨[1, 0, 0, 1, 1, 0, 0, 0, 0, .lp 1879048199 (cbA n c g e opn sz ro m c2 h e2 opn2 sz2 ro2 ph 0) 6 (cbL n c g e opn sz ro m c2 h e2 opn2 sz2 ro2 ph 0) .ret (cbr1E n c g e opn sz ro m c2 h e2 opn2 sz2 ro2 ph jj) (yg1 n g e opn sz ro m h e2 opn2 sz2 ro2 ph) 9 0], True⟩
noncomputable def cbf1 : Option OutCS := evK Tryz.prog cbK 1000 false yg3 (yg4 n c g e opn sz ro m c2 h e2 opn2 sz2 ro2 ph) (wS 6 (cbS n c g e opn sz ro m c2 h e2 opn2 sz2 ro2 ph)) ⟨[1, 0, 0, 1, 1, 0, 0, 0, 0, .lp 1879048199 (cbA n c g e opn sz ro m c2 h e2 opn2 sz2 ro2 ph 0) 6 (cbL n c g e opn sz ro m c2 h e2 opn2 sz2 ro2 ph 0) (.exit 0) (cbr5E n c g e opn sz ro m c2 h e2 opn2 sz2 ro2 ph n) (yg1 n g e opn sz ro m h e2 opn2 sz2 ro2 ph) 9 0], True⟩
noncomputable def cbf2 : Option OutCS := evK Tryz.prog cbK 1000 false yg3 (yg4 n c g e opn sz ro m c2 h e2 opn2 sz2 ro2 ph) (wS 6 (cbS n c g e opn sz ro m c2 h e2 opn2 sz2 ro2 ph)) ⟨[1, 0, 0, 1, 1, 0, 0, 0, 1], True⟩
noncomputable def cbf3 : Option OutCS := evK Tryz.prog cbK 1000 false yg3 (yg4 n c g e opn sz ro m c2 h e2 opn2 sz2 ro2 ph) (wS 6 (cbS n c g e opn sz ro m c2 h e2 opn2 sz2 ro2 ph)) ⟨[1, 0, 0, 1, 1, 1, 1], True⟩
noncomputable def cbf4 : Option OutCS := evK Tryz.prog cbK 1000 false yg3 (yg4 n c g e opn sz ro m c2 h e2 opn2 sz2 ro2 ph) (wS 6 (cbS n c g e opn sz ro m c2 h e2 opn2 sz2 ro2 ph)) ⟨[1, 0, 1, 1], True⟩
theorem cbK_ok : FOkS Tryz.prog cbK := bothX_ok kCp_ok (bothX_ok kCr_ok (bothX_ok kRCr_ok (bothX_ok kFl_ok (bothX_ok kRl_ok (kAll_ok _ ⟨k_range, k_rrange, k_index, trivial⟩)))))
abbrev yg5 := decide ((((i30 : Nat)) : Int) < (((m : Nat)) : Int))
abbrev yg6 := (((i30 : Nat)) : Int) = (Int.ofNat i30)
abbrev yg7 := ((True ∧ ((yg5 m i30) = true)) ∧ ((yg6 i30) ∧ (i30 < m))) ∧ (((0 + (i30 * 1)) = ((i30 * 1) + 0)) ∧ (i30 < m))
abbrev yg8 := ((((i30 : Nat)) : Int) != ph) = false
abbrev yg9 := ((((i30 : Nat)) : Int) == ph) = true
abbrev yg10 := (((((((((((((((((((yg7 m i30) ∧ (yg8 ph i30)) ∧ (yg8 ph i30)) ∧ (yg8 ph i30)) ∧ (false = false)) ∧ (false = false)) ∧ (false = false)) ∧ (false = false)) ∧ (false = false)) ∧ (false = false)) ∧ (false = false)) ∧ (false = false)) ∧ (false = false)) ∧ (false = false)) ∧ (yg9 ph i30)) ∧ (yg9 ph i30)) ∧ (yg9 ph i30)) ∧ ((Bool.not false) = true)) ∧ ((Bool.not false) = true)) ∧ ((Bool.not false) = true)
abbrev yg11 := ((.int .i64 (IntKind.i64.wrap ((((i30 : Nat)) : Int) + (1 : Int)))) : Value) = (.int .i64 ((((i30 + 1) : Nat)) : Int))
theorem cbr0_eq : seenK 6 3 [] 1879048199 0 (cbr0 n c g e opn sz ro m c2 h e2 opn2 sz2 ro2 ph i30) = some (.normal, cbA n c g e opn sz ro m c2 h e2 opn2 sz2 ro2 ph (i30 + 1), (yg1 n g e opn sz ro m h e2 opn2 sz2 ro2 ph), 0, ⟨[], (((yg10 m ph i30) ∧ ((Bool.not ((h i30 0) == (0 : Int))) = false)) ∧ (yg11 i30))⟩) := by kernel_rfl
theorem cbr0_k (hgi : i30 < n → 0 ≤ g i30 0 ∧ g i30 0 < (n : Int)) (hmn : m = n) (hn : n ≤ 1048576) (h0 : ((i30 : Nat) : Int) < ((m : Nat) : Int)) (h1 : ((i30 : Nat) : Int) = ph) (h2 : (h i30 0) = (0 : Int)) : KC Tryz.prog none cbX (cbA n c g e opn sz ro m c2 h e2 opn2 sz2 ro2 ph i30).act (wS 6 (cbL n c g e opn sz ro m c2 h e2 opn2 sz2 ro2 ph i30)) .normal (cbA n c g e opn sz ro m c2 h e2 opn2 sz2 ro2 ph (i30 + 1)).act (wS 6 (cbL n c g e opn sz ro m c2 h e2 opn2 sz2 ro2 ph (i30 + 1))) 9 0 :=
  seenK_ok smx cbK_ok sng (cbr0_eq n c g e opn sz ro m c2 h e2 opn2 sz2 ro2 ph i30) kq
theorem cbr1_eq : seenK 6 3 [] 64 0 (cbr1 n c g e opn sz ro m c2 h e2 opn2 sz2 ro2 ph i30) = some (.ret, cbr1E n c g e opn sz ro m c2 h e2 opn2 sz2 ro2 ph i30, (yg1 n g e opn sz ro m h e2 opn2 sz2 ro2 ph), 0, ⟨[], ((yg10 m ph i30) ∧ ((Bool.not ((h i30 0) == (0 : Int))) = true))⟩) := by kernel_rfl
abbrev yg12 := wS 6 (yg1 n g e opn sz ro m h e2 opn2 sz2 ro2 ph)
theorem cbr1_k (hgi : i30 < n → 0 ≤ g i30 0 ∧ g i30 0 < (n : Int)) (hmn : m = n) (hn : n ≤ 1048576) (h0 : ((i30 : Nat) : Int) < ((m : Nat) : Int)) (h1 : ((i30 : Nat) : Int) = ph) (h2 : (h i30 0) ≠ (0 : Int)) : KC Tryz.prog none cbX (cbA n c g e opn sz ro m c2 h e2 opn2 sz2 ro2 ph i30).act (wS 6 (cbL n c g e opn sz ro m c2 h e2 opn2 sz2 ro2 ph i30)) .ret (cbr1E n c g e opn sz ro m c2 h e2 opn2 sz2 ro2 ph i30).act (yg12 n g e opn sz ro m h e2 opn2 sz2 ro2 ph) 9 0 :=
  seenK_ok smx cbK_ok sng (cbr1_eq n c g e opn sz ro m c2 h e2 opn2 sz2 ro2 ph i30) kq
abbrev yg13 := ((((i30 : Nat)) : Int) != ph) = true
abbrev yg14 := (((yg7 m i30) ∧ (yg13 ph i30)) ∧ (yg13 ph i30)) ∧ (yg13 ph i30)
abbrev yg15 := (decide ((h i30 0) > (0 : Int))) = true
abbrev yg16 := ((((i30 : Nat)) : Int) == ph) = false
abbrev yg17 := (((((((((((((((((yg14 m ph i30) ∧ (yg15 h i30)) ∧ (yg15 h i30)) ∧ (yg15 h i30)) ∧ (yg15 h i30)) ∧ ((yg6 i30) ∧ (i30 < n))) ∧ (yg15 h i30)) ∧ (((0 + (i30 * 1)) = ((i30 * 1) + 0)) ∧ (i30 < n))) ∧ (yg15 h i30)) ∧ (((g i30 0) = (Int.ofNat (Int.toNat (g i30 0)))) ∧ ((Int.toNat (g i30 0)) < m))) ∧ (yg15 h i30)) ∧ (((0 + ((Int.toNat (g i30 0)) * 1)) = (((Int.toNat (g i30 0)) * 1) + 0)) ∧ ((Int.toNat (g i30 0)) < m))) ∧ (yg15 h i30)) ∧ (yg15 h i30)) ∧ (yg15 h i30)) ∧ (yg16 ph i30)) ∧ (yg16 ph i30)) ∧ (yg16 ph i30)
abbrev yg18 := Bool.not (decide ((h (Int.toNat (g i30 0)) 0) < (h i30 0)))
abbrev yg19 := (yg18 g h i30) = false
theorem cbr2_eq : seenK 6 3 [] 1879048199 0 (cbr2 n c g e opn sz ro m c2 h e2 opn2 sz2 ro2 ph i30) = some (.normal, cbA n c g e opn sz ro m c2 h e2 opn2 sz2 ro2 ph (i30 + 1), (yg1 n g e opn sz ro m h e2 opn2 sz2 ro2 ph), 0, ⟨[], ((((((yg17 n g m h ph i30) ∧ (yg19 g h i30)) ∧ (yg19 g h i30)) ∧ (yg19 g h i30)) ∧ (false = false)) ∧ (yg11 i30))⟩) := by kernel_rfl
theorem cbr2_k (hgi : i30 < n → 0 ≤ g i30 0 ∧ g i30 0 < (n : Int)) (hmn : m = n) (hn : n ≤ 1048576) (h0 : ((i30 : Nat) : Int) < ((m : Nat) : Int)) (h1 : ((i30 : Nat) : Int) ≠ ph) (h2 : (0 : Int) < (h i30 0)) (h3 : (h (Int.toNat (g i30 0)) 0) < (h i30 0)) : KC Tryz.prog none cbX (cbA n c g e opn sz ro m c2 h e2 opn2 sz2 ro2 ph i30).act (wS 6 (cbL n c g e opn sz ro m c2 h e2 opn2 sz2 ro2 ph i30)) .normal (cbA n c g e opn sz ro m c2 h e2 opn2 sz2 ro2 ph (i30 + 1)).act (wS 6 (cbL n c g e opn sz ro m c2 h e2 opn2 sz2 ro2 ph (i30 + 1))) 9 0 :=
  seenK_ok smx cbK_ok sng (cbr2_eq n c g e opn sz ro m c2 h e2 opn2 sz2 ro2 ph i30) kq
abbrev yg20 := (yg18 g h i30) = true
theorem cbr3_eq : seenK 6 3 [] 64 0 (cbr3 n c g e opn sz ro m c2 h e2 opn2 sz2 ro2 ph i30) = some (.ret, cbr3E n c g e opn sz ro m c2 h e2 opn2 sz2 ro2 ph i30, (yg1 n g e opn sz ro m h e2 opn2 sz2 ro2 ph), 0, ⟨[], (((((yg17 n g m h ph i30) ∧ (yg20 g h i30)) ∧ (yg20 g h i30)) ∧ (yg20 g h i30)) ∧ ((Bool.not false) = true))⟩) := by kernel_rfl
theorem cbr3_k (hgi : i30 < n → 0 ≤ g i30 0 ∧ g i30 0 < (n : Int)) (hmn : m = n) (hn : n ≤ 1048576) (h0 : ((i30 : Nat) : Int) < ((m : Nat) : Int)) (h1 : ((i30 : Nat) : Int) ≠ ph) (h2 : (0 : Int) < (h i30 0)) (h3 : ¬ (h (Int.toNat (g i30 0)) 0) < (h i30 0)) : KC Tryz.prog none cbX (cbA n c g e opn sz ro m c2 h e2 opn2 sz2 ro2 ph i30).act (wS 6 (cbL n c g e opn sz ro m c2 h e2 opn2 sz2 ro2 ph i30)) .ret (cbr3E n c g e opn sz ro m c2 h e2 opn2 sz2 ro2 ph i30).act (yg12 n g e opn sz ro m h e2 opn2 sz2 ro2 ph) 9 0 :=
  seenK_ok smx cbK_ok sng (cbr3_eq n c g e opn sz ro m c2 h e2 opn2 sz2 ro2 ph i30) kq
abbrev yg21 := (decide ((h i30 0) > (0 : Int))) = false
theorem cbr4_eq : seenK 6 3 [] 64 0 (cbr4 n c g e opn sz ro m c2 h e2 opn2 sz2 ro2 ph i30) = some (.ret, cbr4E n c g e opn sz ro m c2 h e2 opn2 sz2 ro2 ph i30, (yg1 n g e opn sz ro m h e2 opn2 sz2 ro2 ph), 0, ⟨[], ((((((((((((((((((yg14 m ph i30) ∧ (yg21 h i30)) ∧ (yg21 h i30)) ∧ (yg21 h i30)) ∧ (yg21 h i30)) ∧ (yg21 h i30)) ∧ (yg21 h i30)) ∧ (yg21 h i30)) ∧ (yg21 h i30)) ∧ (yg21 h i30)) ∧ (yg21 h i30)) ∧ (yg16 ph i30)) ∧ (yg16 ph i30)) ∧ (yg16 ph i30)) ∧ ((Bool.not false) = true)) ∧ ((Bool.not false) = true)) ∧ ((Bool.not false) = true)) ∧ ((Bool.not false) = true))⟩) := by kernel_rfl
theorem cbr4_k (hgi : i30 < n → 0 ≤ g i30 0 ∧ g i30 0 < (n : Int)) (hmn : m = n) (hn : n ≤ 1048576) (h0 : ((i30 : Nat) : Int) < ((m : Nat) : Int)) (h1 : ((i30 : Nat) : Int) ≠ ph) (h2 : ¬ (0 : Int) < (h i30 0)) : KC Tryz.prog none cbX (cbA n c g e opn sz ro m c2 h e2 opn2 sz2 ro2 ph i30).act (wS 6 (cbL n c g e opn sz ro m c2 h e2 opn2 sz2 ro2 ph i30)) .ret (cbr4E n c g e opn sz ro m c2 h e2 opn2 sz2 ro2 ph i30).act (yg12 n g e opn sz ro m h e2 opn2 sz2 ro2 ph) 9 0 :=
  seenK_ok smx cbK_ok sng (cbr4_eq n c g e opn sz ro m c2 h e2 opn2 sz2 ro2 ph i30) kq
theorem cbr5_eq : seenK 6 3 [] 0 0 (cbr5 n c g e opn sz ro m c2 h e2 opn2 sz2 ro2 ph i30) = some ((.exit 0), cbr5E n c g e opn sz ro m c2 h e2 opn2 sz2 ro2 ph i30, (yg1 n g e opn sz ro m h e2 opn2 sz2 ro2 ph), 0, ⟨[], (True ∧ ((yg5 m i30) = false))⟩) := by kernel_rfl
theorem cbr5_k (hgi : i30 < n → 0 ≤ g i30 0 ∧ g i30 0 < (n : Int)) (hmn : m = n) (hn : n ≤ 1048576) (h0 : ¬ ((i30 : Nat) : Int) < ((m : Nat) : Int)) : KC Tryz.prog none cbX (cbA n c g e opn sz ro m c2 h e2 opn2 sz2 ro2 ph i30).act (wS 6 (cbL n c g e opn sz ro m c2 h e2 opn2 sz2 ro2 ph i30)) (.exit 0) (cbr5E n c g e opn sz ro m c2 h e2 opn2 sz2 ro2 ph i30).act (yg12 n g e opn sz ro m h e2 opn2 sz2 ro2 ph) 9 0 :=
  seenK_ok smx cbK_ok sng (cbr5_eq n c g e opn sz ro m c2 h e2 opn2 sz2 ro2 ph i30) kq
theorem cb_go (hg : ∀ i, i < n → 0 ≤ g i 0 ∧ g i 0 < (n : Int)) (hmn : m = n) (hn : n ≤ 1048576) {i : Nat} (hi : i < n) (hq : cbE g h ph i = 0) : KC Tryz.prog none cbX (cbA n c g e opn sz ro m c2 h e2 opn2 sz2 ro2 ph i).act (wS 6 (cbL n c g e opn sz ro m c2 h e2 opn2 sz2 ro2 ph i)) .normal (cbA n c g e opn sz ro m c2 h e2 opn2 sz2 ro2 ph (i + 1)).act (wS 6 (cbL n c g e opn sz ro m c2 h e2 opn2 sz2 ro2 ph (i + 1))) 9 0 := by
  rcases cbE_at hq with ⟨c1, d1⟩ | ⟨c1, d1, d2⟩
  · exact cbr0_k n c g e opn sz ro m c2 h e2 opn2 sz2 ro2 ph i (hg i) hmn hn (by omega) c1 d1
  · exact cbr2_k n c g e opn sz ro m c2 h e2 opn2 sz2 ro2 ph i (hg i) hmn hn (by omega) c1 d1 d2
theorem cb_bad (hg : ∀ i, i < n → 0 ≤ g i 0 ∧ g i 0 < (n : Int)) (hmn : m = n) (hn : n ≤ 1048576) {i : Nat} (hi : i < n) (hq : cbE g h ph i ≠ 0) : KC Tryz.prog none cbX (cbA n c g e opn sz ro m c2 h e2 opn2 sz2 ro2 ph i).act (wS 6 (cbL n c g e opn sz ro m c2 h e2 opn2 sz2 ro2 ph i)) .ret (cbr1E n c g e opn sz ro m c2 h e2 opn2 sz2 ro2 ph i).act (wS 6 (cbL n c g e opn sz ro m c2 h e2 opn2 sz2 ro2 ph i)) 9 0 := by
  obtain ⟨_, hq⟩ := cbE_no hq
  rcases hq with ⟨c1, d1⟩ | ⟨c1, d1⟩
  · exact cbr1_k n c g e opn sz ro m c2 h e2 opn2 sz2 ro2 ph i (hg i) hmn hn (by omega) c1 d1
  · by_cases d2 : 0 < h i 0
    · exact cbr3_k n c g e opn sz ro m c2 h e2 opn2 sz2 ro2 ph i (hg i) hmn hn (by omega) c1 d2 (fun k => d1 ⟨d2, k⟩)
    · exact cbr4_k n c g e opn sz ro m c2 h e2 opn2 sz2 ro2 ph i (hg i) hmn hn (by omega) c1 d2
theorem cb_ret (hg : ∀ i, i < n → 0 ≤ g i 0 ∧ g i 0 < (n : Int)) (hmn : m = n) (hn : n ≤ 1048576) (j : Nat) (hj : j < n) (h1 : ∀ i, i < j → cbE g h ph i = 0) (h2 : cbE g h ph j ≠ 0) : KC Tryz.prog none (.loop cbX) (cbA n c g e opn sz ro m c2 h e2 opn2 sz2 ro2 ph 0).act (wS 6 (cbL n c g e opn sz ro m c2 h e2 opn2 sz2 ro2 ph 0)) .ret (cbr1E n c g e opn sz ro m c2 h e2 opn2 sz2 ro2 ph j).act (wS 6 (cbL n c g e opn sz ro m c2 h e2 opn2 sz2 ro2 ph j)) 9 0 :=
  K_rounds (A := fun i => (cbA n c g e opn sz ro m c2 h e2 opn2 sz2 ro2 ph i).act) (S := fun i => wS 6 (cbL n c g e opn sz ro m c2 h e2 opn2 sz2 ro2 ph i)) j (fun i hi => cb_go n c g e opn sz ro m c2 h e2 opn2 sz2 ro2 ph hg hmn hn (by omega) (h1 i hi)) (cb_bad n c g e opn sz ro m c2 h e2 opn2 sz2 ro2 ph hg hmn hn hj h2) (by simp)
theorem cb_all (hg : ∀ i, i < n → 0 ≤ g i 0 ∧ g i 0 < (n : Int)) (hmn : m = n) (hn : n ≤ 1048576) (h1 : ∀ i, i < n → cbE g h ph i = 0) : KC Tryz.prog none (.loop cbX) (cbA n c g e opn sz ro m c2 h e2 opn2 sz2 ro2 ph 0).act (wS 6 (cbL n c g e opn sz ro m c2 h e2 opn2 sz2 ro2 ph 0)) (.exit 0) (cbr5E n c g e opn sz ro m c2 h e2 opn2 sz2 ro2 ph n).act (wS 6 (cbL n c g e opn sz ro m c2 h e2 opn2 sz2 ro2 ph n)) 9 0 :=
  K_rounds (A := fun i => (cbA n c g e opn sz ro m c2 h e2 opn2 sz2 ro2 ph i).act) (S := fun i => wS 6 (cbL n c g e opn sz ro m c2 h e2 opn2 sz2 ro2 ph i)) n (fun i hi => cb_go n c g e opn sz ro m c2 h e2 opn2 sz2 ro2 ph hg hmn hn hi (h1 i hi)) (cbr5_k n c g e opn sz ro m c2 h e2 opn2 sz2 ro2 ph n (fun k => absurd k (Nat.lt_irrefl n)) hmn hn (by omega)) (by simp)
abbrev yg22 := (((True ∧ (((n = n) ∧ (∀ (i : Nat), ((i < n) → (∀ (j : Nat), ((j < (1 : Nat)) → ((Value.int .i64 (g i j)) = (Value.int .i64 (gI (Value.int .i64 (g i j)))))))))) ∧ ((((n : Nat)) : Int) ≤ (9223372036854775807 : Int)))) ∧ True) ∧ ((decide ((0 : Int) < (((2 : Nat)) : Int))) = true)) ∧ ((0 : Int) = (Int.ofNat 0))
abbrev yg23 := (crV n (fun (i : Nat) => (fun (j : Nat) => (gI (Value.int .i64 (g i j)))))) != (0 : Int)
abbrev yg24 := (((yg22 n g) ∧ ((yg23 n g) = false)) ∧ ((decide ((IntKind.i64.wrap ((0 : Int) + (1 : Int))) < (((2 : Nat)) : Int))) = true)) ∧ ((IntKind.i64.wrap ((0 : Int) + (1 : Int))) = (Int.ofNat 1))
abbrev yg25 := (ixE ph (((n : Nat)) : Int)) != (0 : Int)
abbrev yg26 := (((yg24 n g) ∧ ((yg25 n ph) = false)) ∧ ((decide ((IntKind.i64.wrap ((IntKind.i64.wrap ((0 : Int) + (1 : Int))) + (1 : Int))) < (((2 : Nat)) : Int))) = false)) ∧ (((0 : Int) != (0 : Int)) = false)
abbrev yg27 := (((m : Nat)) : Int) != (((n : Nat)) : Int)
abbrev yg28 := (yg26 n g ph) ∧ ((yg27 n m) = false)
abbrev yg29 := ((cbA n c g e opn sz ro m c2 h e2 opn2 sz2 ro2 ph (0 : Nat)) = (cbA n c g e opn sz ro m c2 h e2 opn2 sz2 ro2 ph (0 : Nat))) ∧ ((9 = (6 + 3)) ∧ ((HAppend.hAppend (List.replicate (6 : Nat) MObj.hole) (cbL n c g e opn sz ro m c2 h e2 opn2 sz2 ro2 ph (0 : Nat))) = (HAppend.hAppend (List.replicate (6 : Nat) MObj.hole) (cbL n c g e opn sz ro m c2 h e2 opn2 sz2 ro2 ph (0 : Nat)))))
theorem cbf0_eq : seenF' Tryz.prog Tryz.f56 6 2 [] (cbf0 n c g e opn sz ro m c2 h e2 opn2 sz2 ro2 ph jj) = some (.int .i64 (19 : Int), cbS n c g e opn sz ro m c2 h e2 opn2 sz2 ro2 ph ++ [], ⟨[], ((yg28 n g m ph) ∧ ((yg29 n c g e opn sz ro m c2 h e2 opn2 sz2 ro2 ph) ∧ KC Tryz.prog none (.loop cbX) (cbA n c g e opn sz ro m c2 h e2 opn2 sz2 ro2 ph 0).act (wS 6 (cbL n c g e opn sz ro m c2 h e2 opn2 sz2 ro2 ph 0)) .ret (cbr1E n c g e opn sz ro m c2 h e2 opn2 sz2 ro2 ph jj).act (yg12 n g e opn sz ro m h e2 opn2 sz2 ro2 ph) 9 0))⟩) := by kernel_rfl
theorem cbf0_s (hx : (n : Int) ≤ 1048576) (h0 : (crV n g) = (0 : Int)) (h1 : (yg0 n ph) = (0 : Int)) (h2 : ((m : Nat) : Int) = ((n : Nat) : Int)) (l0 : KC Tryz.prog none (.loop cbX) (cbA n c g e opn sz ro m c2 h e2 opn2 sz2 ro2 ph 0).act (wS 6 (cbL n c g e opn sz ro m c2 h e2 opn2 sz2 ro2 ph 0)) .ret (cbr1E n c g e opn sz ro m c2 h e2 opn2 sz2 ro2 ph jj).act (yg12 n g e opn sz ro m h e2 opn2 sz2 ro2 ph) 9 0) : SndF Tryz.prog 56 (cbArgs n c g e opn sz ro m c2 h e2 opn2 sz2 ro2 ph) (wS 6 (cbS n c g e opn sz ro m c2 h e2 opn2 sz2 ro2 ph)) (.int .i64 (19 : Int)) (wS 6 (cbS n c g e opn sz ro m c2 h e2 opn2 sz2 ro2 ph)) 192 0 :=
  kF (L := cbS n c g e opn sz ro m c2 h e2 opn2 sz2 ro2 ph) (L2 := []) (ms := []) cbK_ok (cbf0_eq n c g e opn sz ro m c2 h e2 opn2 sz2 ro2 ph jj) kq
theorem cbf1_eq : seenF' Tryz.prog Tryz.f56 6 2 [] (cbf1 n c g e opn sz ro m c2 h e2 opn2 sz2 ro2 ph) = some (.int .i64 (0 : Int), cbS n c g e opn sz ro m c2 h e2 opn2 sz2 ro2 ph ++ [], ⟨[], ((yg28 n g m ph) ∧ ((yg29 n c g e opn sz ro m c2 h e2 opn2 sz2 ro2 ph) ∧ KC Tryz.prog none (.loop cbX) (cbA n c g e opn sz ro m c2 h e2 opn2 sz2 ro2 ph 0).act (wS 6 (cbL n c g e opn sz ro m c2 h e2 opn2 sz2 ro2 ph 0)) (.exit 0) (cbr5E n c g e opn sz ro m c2 h e2 opn2 sz2 ro2 ph n).act (yg12 n g e opn sz ro m h e2 opn2 sz2 ro2 ph) 9 0))⟩) := by kernel_rfl
theorem cbf1_s (hx : (n : Int) ≤ 1048576) (h0 : (crV n g) = (0 : Int)) (h1 : (yg0 n ph) = (0 : Int)) (h2 : ((m : Nat) : Int) = ((n : Nat) : Int)) (l0 : KC Tryz.prog none (.loop cbX) (cbA n c g e opn sz ro m c2 h e2 opn2 sz2 ro2 ph 0).act (wS 6 (cbL n c g e opn sz ro m c2 h e2 opn2 sz2 ro2 ph 0)) (.exit 0) (cbr5E n c g e opn sz ro m c2 h e2 opn2 sz2 ro2 ph n).act (yg12 n g e opn sz ro m h e2 opn2 sz2 ro2 ph) 9 0) : SndF Tryz.prog 56 (cbArgs n c g e opn sz ro m c2 h e2 opn2 sz2 ro2 ph) (wS 6 (cbS n c g e opn sz ro m c2 h e2 opn2 sz2 ro2 ph)) (.int .i64 (0 : Int)) (wS 6 (cbS n c g e opn sz ro m c2 h e2 opn2 sz2 ro2 ph)) 192 0 :=
  kF (L := cbS n c g e opn sz ro m c2 h e2 opn2 sz2 ro2 ph) (L2 := []) (ms := []) cbK_ok (cbf1_eq n c g e opn sz ro m c2 h e2 opn2 sz2 ro2 ph) kq
theorem cbf2_eq : seenF' Tryz.prog Tryz.f56 6 2 [] (cbf2 n c g e opn sz ro m c2 h e2 opn2 sz2 ro2 ph) = some (.int .i64 (2 : Int), cbS n c g e opn sz ro m c2 h e2 opn2 sz2 ro2 ph ++ [], ⟨[], ((yg26 n g ph) ∧ ((yg27 n m) = true))⟩) := by kernel_rfl
theorem cbf2_s (hx : (n : Int) ≤ 1048576) (h0 : (crV n g) = (0 : Int)) (h1 : (yg0 n ph) = (0 : Int)) (h2 : ((m : Nat) : Int) ≠ ((n : Nat) : Int)) : SndF Tryz.prog 56 (cbArgs n c g e opn sz ro m c2 h e2 opn2 sz2 ro2 ph) (wS 6 (cbS n c g e opn sz ro m c2 h e2 opn2 sz2 ro2 ph)) (.int .i64 (2 : Int)) (wS 6 (cbS n c g e opn sz ro m c2 h e2 opn2 sz2 ro2 ph)) 192 0 :=
  kF (L := cbS n c g e opn sz ro m c2 h e2 opn2 sz2 ro2 ph) (L2 := []) (ms := []) cbK_ok (cbf2_eq n c g e opn sz ro m c2 h e2 opn2 sz2 ro2 ph) kq
abbrev yg30 := (yg25 n ph) = true
theorem cbf3_eq : seenF' Tryz.prog Tryz.f56 6 2 [] (cbf3 n c g e opn sz ro m c2 h e2 opn2 sz2 ro2 ph) = some (.int .i64 (yg0 n ph), cbS n c g e opn sz ro m c2 h e2 opn2 sz2 ro2 ph ++ [], ⟨[], (((yg24 n g) ∧ (yg30 n ph)) ∧ (yg30 n ph))⟩) := by kernel_rfl
theorem cbf3_s (hx : (n : Int) ≤ 1048576) (h0 : (crV n g) = (0 : Int)) (h1 : (yg0 n ph) ≠ (0 : Int)) : SndF Tryz.prog 56 (cbArgs n c g e opn sz ro m c2 h e2 opn2 sz2 ro2 ph) (wS 6 (cbS n c g e opn sz ro m c2 h e2 opn2 sz2 ro2 ph)) (.int .i64 (yg0 n ph)) (wS 6 (cbS n c g e opn sz ro m c2 h e2 opn2 sz2 ro2 ph)) 192 0 :=
  kF (L := cbS n c g e opn sz ro m c2 h e2 opn2 sz2 ro2 ph) (L2 := []) (ms := []) cbK_ok (cbf3_eq n c g e opn sz ro m c2 h e2 opn2 sz2 ro2 ph) kq
abbrev yg31 := (yg23 n g) = true
theorem cbf4_eq : seenF' Tryz.prog Tryz.f56 6 2 [] (cbf4 n c g e opn sz ro m c2 h e2 opn2 sz2 ro2 ph) = some (.int .i64 (crV n g), cbS n c g e opn sz ro m c2 h e2 opn2 sz2 ro2 ph ++ [], ⟨[], (((yg22 n g) ∧ (yg31 n g)) ∧ (yg31 n g))⟩) := by kernel_rfl
theorem cbf4_s (hx : (n : Int) ≤ 1048576) (h0 : (crV n g) ≠ (0 : Int)) : SndF Tryz.prog 56 (cbArgs n c g e opn sz ro m c2 h e2 opn2 sz2 ro2 ph) (wS 6 (cbS n c g e opn sz ro m c2 h e2 opn2 sz2 ro2 ph)) (.int .i64 (crV n g)) (wS 6 (cbS n c g e opn sz ro m c2 h e2 opn2 sz2 ro2 ph)) 192 0 :=
  kF (L := cbS n c g e opn sz ro m c2 h e2 opn2 sz2 ro2 ph) (L2 := []) (ms := []) cbK_ok (cbf4_eq n c g e opn sz ro m c2 h e2 opn2 sz2 ro2 ph) kq
theorem cb_sndF (hn : n ≤ 1048576) : SndF Tryz.prog 56 (cbArgs n c g e opn sz ro m c2 h e2 opn2 sz2 ro2 ph) (wS 6 (cbS n c g e opn sz ro m c2 h e2 opn2 sz2 ro2 ph)) (.int .i64 (cbV n g m h ph)) (wS 6 (cbS n c g e opn sz ro m c2 h e2 opn2 sz2 ro2 ph)) 192 0 := by
  have hx : (n : Int) ≤ 1048576 := by omega
  unfold cbV
  by_cases hq : th2 (crV n g) (ixE ph n) = 0
  · have hc : crV n g = 0 ∧ ixE ph (n : Int) = 0 := by
      unfold th2 at hq
      split at hq
      · exact ⟨by assumption, hq⟩
      · exact absurd hq (by assumption)
    have hg := (crV_ok hc.1).2
    rw [show ∀ b, th2 (th2 (crV n g) (ixE ph n)) b = b from fun b => if_pos hq]
    by_cases h2 : m = n
    · rw [if_pos h2]
      rcases first_or (p := fun i => cbE g h ph i ≠ 0) (fun _ => inferInstance) n with k | ⟨j, hj, k1, k2⟩
      · have k4 : ∀ i, i < n → cbE g h ph i = 0 := fun i hi => Decidable.not_not.1 (k i hi)
        rw [feN_all fun i _ hi => k4 i (by omega)]
        exact cbf1_s n c g e opn sz ro m c2 h e2 opn2 sz2 ro2 ph hx hc.1 hc.2 (by omega) (cb_all n c g e opn sz ro m c2 h e2 opn2 sz2 ro2 ph hg h2 hn k4)
      · have k4 : ∀ i, i < j → cbE g h ph i = 0 := fun i hi => Decidable.not_not.1 (k2 i hi)
        rw [feN_first (Nat.zero_le j) (by omega) (fun i _ hi => k4 i hi) k1, (cbE_no k1).1]
        exact cbf0_s n c g e opn sz ro m c2 h e2 opn2 sz2 ro2 ph j hx hc.1 hc.2 (by omega) (cb_ret n c g e opn sz ro m c2 h e2 opn2 sz2 ro2 ph hg h2 hn j hj k4 k1)
    · rw [if_neg h2]
      exact cbf2_s n c g e opn sz ro m c2 h e2 opn2 sz2 ro2 ph hx hc.1 hc.2 (by omega)
  · rw [show ∀ b, th2 (th2 (crV n g) (ixE ph n)) b = th2 (crV n g) (ixE ph n) from fun b => if_neg hq]
    unfold th2 at hq ⊢
    by_cases h0 : crV n g = 0
    · rw [if_pos h0] at hq ⊢; exact cbf3_s n c g e opn sz ro m c2 h e2 opn2 sz2 ro2 ph hx h0 hq
    · rw [if_neg h0]; exact cbf4_s n c g e opn sz ro m c2 h e2 opn2 sz2 ro2 ph hx h0
def kCb : CallS := fun f xs s q => match decide (f = 56) with
  | true => match xs.toList with
    | [.slice (some ⟨b, 0, none⟩) n c, .int .i64 ph, .slice (some ⟨b2, 0, none⟩) m c2] => match Nat.ble 6 b, Nat.ble 6 b2, Nat.beq b b2, rowK 1 .i64 s b n, rowK 1 .i64 s b2 m with
      | true, true, false, some (g, _, _, _, _, p), some (h, _, _, _, _, p2) => some (.int .i64 (cbV n g m h ph), s, 2 ^ b ||| 2 ^ b2, 0, ⟨q.rest, q.ob ∧ (p ∧ p2 ∧ (n ≤ 1048576))⟩)
      | _, _, _, _, _ => none
    | _ => none
  | false => none
theorem kCb_ok : FOkS Tryz.prog kCb := fun f xs s q u s1 R W q1 he => by
  unfold kCb at he
  split at he
  · rename_i hf
    have hf := of_decide_eq_true hf
    subst hf
    split at he
    · rename_i b n c ph b2 m c2 hx0
      have hxs : xs = #[.slice (some ⟨b, 0, none⟩) n c, .int .i64 ph, .slice (some ⟨b2, 0, none⟩) m c2] := by apply Array.ext'; exact hx0
      subst hxs
      split at he
      · rename_i g e opn sz ro p h e2 opn2 sz2 ro2 p2 h1 h2 h3 h4 h5
        cases he
        refine ⟨fun hq => hq.1, fun hq => ?_⟩
        obtain ⟨k1, k2, hx⟩ := hq.2
        obtain ⟨l1, w1⟩ := rowK_wo h4 k1
        obtain ⟨l2, w2⟩ := rowK_wo h5 k2
        have b1 := Nat.le_of_ble_eq_true h1
        have b3 := Nat.le_of_ble_eq_true h2
        have hne : b ≠ b2 := fun e => by rw [e, Nat.beq_refl] at h3; cases h3
        refine SndF.rows (N := 6) (bs := [b, b2]) (s0 := wS 6 [rowI 1 n g e opn sz ro, rowI 1 m h e2 opn2 sz2 ro2]) sng (cb_sndF n c g e opn sz ro m c2 h e2 opn2 sz2 ro2 ph hx) rfl rfl (fun x hx => ?_) (by simp [hne]) (by omega) (fun x hx _ => ?_) (fun x hx => ?_) (fun f j hj => ?_) (fun f _ hf => ?_)
        · simp at hx
          rcases hx with rfl | rfl <;> omega
        · rcases Nat.lt_or_ge x 6 with k | k
          · have hz := (by decide : ∀ b, b < 6 → Nat.testBit 192 b = false) x k
            rw [hz] at hx; cases hx
          · exact k
        · simp at hx
          rcases hx with rfl | rfl <;> simp [or_bit, bit_self]
        · match j, hj with
          | 0, _ => exact w1 f
          | 1, _ => exact w2 f
        · exact wvs_three (slice_wv (hf 0 (by simp))) (ground_wv (n := 8) rfl) (slice_wv (hf 1 (by simp)))
      · cases he
    · cases he
  · cases he
end
end Go.Proofs.YtbkpnhbcihcgaaaGreatDoor
end
section
set_option linter.all false
set_option maxRecDepth 1000000
open Go.RowKit
namespace Go.Proofs.YtbkpnhbcihcgaaaGreatDoor
open Mini
noncomputable section
variable (n : Nat) (c : Nat) (g : GI) (e : TypeId) (opn : Bool) (sz : Nat) (ro : Bool) (x : Int) (i5 : Nat) (jj : Nat)
noncomputable def hiX : Code := loopAt Tryz.prog 67 0
noncomputable def hiK : CallS := noXS
def hiA (g : GI) (e : TypeId) (opn : Bool) (sz : Nat) (ro : Bool) (x : Int) (i5 : Nat) : MA := MA.ofL 18 (jl [.slice (some ⟨6, 0, none⟩) n c, .int .i64 x, .chan none, .chan none, .chan none, .int .i64 ((i5 : Nat) : Int)] 12 []) []
abbrev yk0 : List MObj := [.rows n 1 (fun i j => .int .i64 (g i j)) e opn sz ro]
def hiL (c : Nat) (g : GI) (e : TypeId) (opn : Bool) (sz : Nat) (ro : Bool) (x : Int) (i5 : Nat) : List MObj := (yk0 n g e opn sz ro)
noncomputable def hir0 : Option OutCS := evK Tryz.prog hiK 1000 false hiX (hiA n c g e opn sz ro x i5) (wS 6 (hiL n c g e opn sz ro x i5)) ⟨[1, .row i5 0, .row i5 0, 1], True⟩
def hir0E (n : Nat) (c : Nat) (g : GI) (e : TypeId) (opn : Bool) (sz : Nat) (ro : Bool) (x : Int) (i5 : Nat) : MA := MA.ofL 18 (jl [] 4 (jl [.bool true] 13 [])) []
noncomputable def hir1 : Option OutCS := evK Tryz.prog hiK 1000 false hiX (hiA n c g e opn sz ro x i5) (wS 6 (hiL n c g e opn sz ro x i5)) ⟨[1, .row i5 0, .row i5 0, 0, .azz (.int .i64 ((i5 + 1 : Nat) : Int))], True⟩
noncomputable def hir2 : Option OutCS := evK Tryz.prog hiK 1000 false hiX (hiA n c g e opn sz ro x i5) (wS 6 (hiL n c g e opn sz ro x i5)) ⟨[0], True⟩
def hir2E (n : Nat) (c : Nat) (g : GI) (e : TypeId) (opn : Bool) (sz : Nat) (ro : Bool) (x : Int) (i5 : Nat) : MA := MA.ofL 18 (jl [] 18 []) []
def hiArgs (g : GI) (e : TypeId) (opn : Bool) (sz : Nat) (ro : Bool) (x : Int) : Array Value := #[.slice (some ⟨6, 0, none⟩) n c, .int .i64 x]
def hiS (c : Nat) (g : GI) (e : TypeId) (opn : Bool) (sz : Nat) (ro : Bool) (x : Int) : List MObj := (yk0 n g e opn sz ro)
noncomputable abbrev yk1 := bodyOf Tryz.prog 67
noncomputable abbrev yk2 := startM Tryz.f67 (hiArgs n c g e opn sz ro x)
noncomputable def hif0 : Option OutCS := evK Tryz.prog hiK 1000 false yk1 (yk2 n c g e opn sz ro x) (wS 6 (hiS n c g e opn sz ro x)) ⟨[.lp 35 (hiA n c g e opn sz ro x 0) 6 (hiL n c g e opn sz ro x 0) .ret (hir0E n c g e opn sz ro x jj) (yk0 n g e opn sz ro) 7 0], True⟩
noncomputable def hif1 : Option OutCS := evK Tryz.prog hiK 1000 false yk1 (yk2 n c g e opn sz ro x) (wS 6 (hiS n c g e opn sz ro x)) ⟨[.lp 35 (hiA n c g e opn sz ro x 0) 6 (hiL n c g e opn sz ro x 0) (.exit 0) (hir2E n c g e opn sz ro x n) (yk0 n g e opn sz ro) 7 0], True⟩
theorem hiK_ok : FOkS Tryz.prog hiK := noXS_ok
abbrev yk3 := decide ((((i5 : Nat)) : Int) < (((n : Nat)) : Int))
abbrev yk4 := ((True ∧ ((yk3 n i5) = true)) ∧ (((((i5 : Nat)) : Int) = (Int.ofNat i5)) ∧ (i5 < n))) ∧ (((0 + (i5 * 1)) = ((i5 * 1) + 0)) ∧ (i5 < n))
theorem hir0_eq : seenK 6 1 [] 16 0 (hir0 n c g e opn sz ro x i5) = some (.ret, hir0E n c g e opn sz ro x i5, (yk0 n g e opn sz ro), 0, ⟨[], ((yk4 n i5) ∧ (((g i5 0) == x) = true))⟩) := by kernel_rfl
abbrev yk5 := wS 6 (yk0 n g e opn sz ro)
theorem hir0_k (hx : (n : Int) ≤ 9223372036854775807) (h0 : ((i5 : Nat) : Int) < ((n : Nat) : Int)) (h1 : (g i5 0) = x) : KC Tryz.prog none hiX (hiA n c g e opn sz ro x i5).act (wS 6 (hiL n c g e opn sz ro x i5)) .ret (hir0E n c g e opn sz ro x i5).act (yk5 n g e opn sz ro) 7 0 :=
  seenK_ok smx hiK_ok sng (hir0_eq n c g e opn sz ro x i5) kq
theorem hir1_eq : seenK 6 1 [] 35 0 (hir1 n c g e opn sz ro x i5) = some (.normal, hiA n c g e opn sz ro x (i5 + 1), (yk0 n g e opn sz ro), 0, ⟨[], (((yk4 n i5) ∧ (((g i5 0) == x) = false)) ∧ (((.int .i64 (IntKind.i64.wrap ((((i5 : Nat)) : Int) + (1 : Int)))) : Value) = (.int .i64 ((((i5 + 1) : Nat)) : Int))))⟩) := by kernel_rfl
theorem hir1_k (hx : (n : Int) ≤ 9223372036854775807) (h0 : ((i5 : Nat) : Int) < ((n : Nat) : Int)) (h1 : (g i5 0) ≠ x) : KC Tryz.prog none hiX (hiA n c g e opn sz ro x i5).act (wS 6 (hiL n c g e opn sz ro x i5)) .normal (hiA n c g e opn sz ro x (i5 + 1)).act (wS 6 (hiL n c g e opn sz ro x (i5 + 1))) 7 0 :=
  seenK_ok smx hiK_ok sng (hir1_eq n c g e opn sz ro x i5) kq
theorem hir2_eq : seenK 6 1 [] 0 0 (hir2 n c g e opn sz ro x i5) = some ((.exit 0), hir2E n c g e opn sz ro x i5, (yk0 n g e opn sz ro), 0, ⟨[], (True ∧ ((yk3 n i5) = false))⟩) := by kernel_rfl
theorem hir2_k (hx : (n : Int) ≤ 9223372036854775807) (h0 : ¬ ((i5 : Nat) : Int) < ((n : Nat) : Int)) : KC Tryz.prog none hiX (hiA n c g e opn sz ro x i5).act (wS 6 (hiL n c g e opn sz ro x i5)) (.exit 0) (hir2E n c g e opn sz ro x i5).act (yk5 n g e opn sz ro) 7 0 :=
  seenK_ok smx hiK_ok sng (hir2_eq n c g e opn sz ro x i5) kq
theorem hi_ret (hx : (n : Int) ≤ 9223372036854775807) (hj : jj < n) (h1 : ∀ i, i < jj → g i 0 ≠ x) (h2 : g jj 0 = x) : KC Tryz.prog none (.loop hiX) (hiA n c g e opn sz ro x 0).act (wS 6 (hiL n c g e opn sz ro x 0)) .ret (hir0E n c g e opn sz ro x jj).act (yk5 n g e opn sz ro) 7 0 := by
  exact K_rounds (A := fun i => (hiA n c g e opn sz ro x i).act) (S := fun i => wS 6 (hiL n c g e opn sz ro x i)) (jj) (fun i hi => hir1_k n c g e opn sz ro x i hx (by omega) (h1 i hi)) (hir0_k n c g e opn sz ro x jj hx (by omega) h2) (by simp)
theorem hi_all  (hx : (n : Int) ≤ 9223372036854775807) (h1 : ∀ i, i < n → g i 0 ≠ x) : KC Tryz.prog none (.loop hiX) (hiA n c g e opn sz ro x 0).act (wS 6 (hiL n c g e opn sz ro x 0)) (.exit 0) (hir2E n c g e opn sz ro x n).act (yk5 n g e opn sz ro) 7 0 := by
  exact K_rounds (A := fun i => (hiA n c g e opn sz ro x i).act) (S := fun i => wS 6 (hiL n c g e opn sz ro x i)) (n) (fun i hi => hir1_k n c g e opn sz ro x i hx (by omega) (h1 i hi)) (hir2_k n c g e opn sz ro x n hx (by omega)) (by simp)
abbrev yk6 := HAppend.hAppend (List.replicate (6 : Nat) MObj.hole) (hiL n c g e opn sz ro x (0 : Nat))
abbrev yk7 := ((hiA n c g e opn sz ro x (0 : Nat)) = (hiA n c g e opn sz ro x (0 : Nat))) ∧ ((7 = (6 + 1)) ∧ ((yk6 n c g e opn sz ro x) = (yk6 n c g e opn sz ro x)))
theorem hif0_eq : seenF' Tryz.prog Tryz.f67 6 1 [] (hif0 n c g e opn sz ro x jj) = some (.bool true, hiS n c g e opn sz ro x ++ [], ⟨[], (True ∧ ((yk7 n c g e opn sz ro x) ∧ KC Tryz.prog none (.loop hiX) (hiA n c g e opn sz ro x 0).act (wS 6 (hiL n c g e opn sz ro x 0)) .ret (hir0E n c g e opn sz ro x jj).act (yk5 n g e opn sz ro) 7 0))⟩) := by kernel_rfl
theorem hif0_s (l0 : KC Tryz.prog none (.loop hiX) (hiA n c g e opn sz ro x 0).act (wS 6 (hiL n c g e opn sz ro x 0)) .ret (hir0E n c g e opn sz ro x jj).act (yk5 n g e opn sz ro) 7 0) : SndF Tryz.prog 67 (hiArgs n c g e opn sz ro x) (wS 6 (hiS n c g e opn sz ro x)) (.bool true) (wS 6 (hiS n c g e opn sz ro x)) 64 0 :=
  kF (L := hiS n c g e opn sz ro x) (L2 := []) (ms := []) hiK_ok (hif0_eq n c g e opn sz ro x jj) kq
theorem hif1_eq : seenF' Tryz.prog Tryz.f67 6 1 [] (hif1 n c g e opn sz ro x) = some (.bool false, hiS n c g e opn sz ro x ++ [], ⟨[], (True ∧ ((yk7 n c g e opn sz ro x) ∧ KC Tryz.prog none (.loop hiX) (hiA n c g e opn sz ro x 0).act (wS 6 (hiL n c g e opn sz ro x 0)) (.exit 0) (hir2E n c g e opn sz ro x n).act (yk5 n g e opn sz ro) 7 0))⟩) := by kernel_rfl
theorem hif1_s (l0 : KC Tryz.prog none (.loop hiX) (hiA n c g e opn sz ro x 0).act (wS 6 (hiL n c g e opn sz ro x 0)) (.exit 0) (hir2E n c g e opn sz ro x n).act (yk5 n g e opn sz ro) 7 0) : SndF Tryz.prog 67 (hiArgs n c g e opn sz ro x) (wS 6 (hiS n c g e opn sz ro x)) (.bool false) (wS 6 (hiS n c g e opn sz ro x)) 64 0 :=
  kF (L := hiS n c g e opn sz ro x) (L2 := []) (ms := []) hiK_ok (hif1_eq n c g e opn sz ro x) kq
def hasB : Bool := decide (firstI (fun k => decide (g k 0 = x)) n 0 < n)
theorem hasB_yes {n : Nat} {g : Nat → Nat → Int} {x : Int} {j : Nat} (hj : j < n) (h2 : g j 0 = x) : hasB n g x = true := by
  rcases first_or (p := fun i => g i 0 = x) (fun _ => inferInstance) n with h3 | ⟨k, hk, h3, h4⟩
  · exact absurd h2 (h3 j hj)
  · have e : firstI (fun k => decide (g k 0 = x)) n 0 = k := firstI_some (Nat.zero_le _) (by omega) (fun i _ hi => decide_eq_false (h4 i hi)) (decide_eq_true h3)
    unfold hasB; rw [e]; exact decide_eq_true hk
theorem hasB_no {n : Nat} {g : Nat → Nat → Int} {x : Int} (h1 : ∀ i, i < n → g i 0 ≠ x) : hasB n g x = false := by
  have e : firstI (fun k => decide (g k 0 = x)) n 0 = 0 + n := firstI_none fun k _ hk => decide_eq_false (h1 k (by omega))
  unfold hasB; rw [e]; exact decide_eq_false (by omega)
theorem hi_sndF (hn : (n : Int) ≤ 9223372036854775807) : SndF Tryz.prog 67 (hiArgs n c g e opn sz ro x) (wS 6 (hiS n c g e opn sz ro x)) (.bool (hasB n g x)) (wS 6 (hiS n c g e opn sz ro x)) 64 0 := by
  rcases first_or (p := fun i => g i 0 = x) (fun _ => inferInstance) n with h2 | ⟨j, hj, h2, h3⟩
  · rw [hasB_no h2]
    exact hif1_s n c g e opn sz ro x (hi_all n c g e opn sz ro x hn h2)
  · rw [hasB_yes hj h2]
    exact hif0_s n c g e opn sz ro x j (hi_ret n c g e opn sz ro x j hn hj h3 h2)
def kHi : CallS := fun f xs s q => match decide (f = 67) with
  | true => match xs.toList with
    | [.slice (some ⟨b, 0, none⟩) n c, .int .i64 x] => match Nat.ble 6 b, rowK 1 .i64 s b n with
      | true, some (g, _, _, _, _, p) => some (.bool (hasB n g x), s, 2 ^ b, 0, ⟨q.rest, q.ob ∧ (p ∧ ((n : Int) ≤ 9223372036854775807))⟩)
      | _, _ => none
    | _ => none
  | false => none
theorem kHi_ok : FOkS Tryz.prog kHi := fun f xs s q u s1 R W q1 he => by
  unfold kHi at he
  split at he
  · rename_i hf
    have hf := of_decide_eq_true hf
    subst hf
    split at he
    · rename_i b n c x hx0
      split at he
      · rename_i g e opn sz ro p hb hr
        have hb := Nat.le_of_ble_eq_true hb
        have hxs : xs = #[.slice (some ⟨b, 0, none⟩) n c, .int .i64 x] := by apply Array.ext'; exact hx0
        subst hxs
        cases he
        refine ⟨fun hq => hq.1, fun hq => ?_⟩
        obtain ⟨hp, hx⟩ := hq.2
        obtain ⟨l1, w1⟩ := rowK_wo hr hp
        exact SndF.row (N := 6) sng (hi_sndF n c g e opn sz ro x hx) rfl hb l1 w1 (fun f _ hf => wvs_two (slice_wv hf) (ground_wv (n := 8) rfl))
      · cases he
    · cases he
  · cases he
end
end Go.Proofs.YtbkpnhbcihcgaaaGreatDoor
end
