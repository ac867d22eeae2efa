/-
  check.Each with the limits of coefficients.
  The reference's CheckPoly.
  loop.CheckPoly.
  The second of two errors.
  The contract of bipole.check.Index.
  The contract of bipole.bipoleref01.CheckRange.
  The contract of bipole.check.Range.
  Contracts: what is answered.
  Sums and products of both, known.
  The reference's product.
  loop.product.
  The reference's sum.
  loop.sum.
  What closes the obligations of a way, told once.
-/
import Derived.Test.YtbkpnhbcihcgaaaGreatDoorGP2
import Derived.Test.YtbkpnhbcihcgaaaGreatDoorProg
section
set_option linter.all false
set_option maxRecDepth 1000000
open Go.RowKit
namespace Go.Proofs.YtbkpnhbcihcgaaaGreatDoor
open Mini
abbrev jl (l : List Value) (n : Nat) (r : List Value) : List Value := l ++ (List.replicate n (.chan none) ++ r)
abbrev GI := Nat → Nat → Int
theorem wnextK {i r : Nat} {k : Int} (h : (i : Int) + k = (r : Int)) (hb : (r : Int) ≤ 9223372036854775807) : Value.int .i64 (IntKind.i64.wrap (((i : Nat) : Int) + k)) = .int .i64 ((r : Nat) : Int) := by rw [h, IntWalk.i64_in _ (by omega)]
theorem wsubK {i r : Nat} {k : Int} (h : (i : Int) - k = (r : Int)) (hb : (r : Int) ≤ 9223372036854775807) : Value.int .i64 (IntKind.i64.wrap (((i : Nat) : Int) - k)) = .int .i64 ((r : Nat) : Int) := by rw [h, IntWalk.i64_in _ (by omega)]
theorem wsub1O {n : Nat} (h : 0 < n) (hn : (n : Int) ≤ 9223372036854775807) : IntKind.i64.wrap (((n : Nat) : Int) - (1 : Int)) = Int.ofNat (n - 1) := by rw [IntWalk.i64_in _ (by omega)]; show (n : Int) - 1 = ((n - 1 : Nat) : Int); omega
theorem kz {P : Prop} (h : P := by first | trivial | rfl | assumption | exact wnextK (by omega) (by omega) | exact wsubK (by omega) (by omega) | exact wsub1O (by omega) (by omega) | exact decide_eq_true (by omega) | exact decide_eq_false (by omega) | exact bne_iff_ne.2 (by assumption) | exact bne_eq_false_iff_eq.2 (by assumption) | exact beq_iff_eq.2 (by assumption) | exact beq_eq_false_iff_ne.2 (by assumption) | exact wnextW (by omega) | exact wsub1 (by omega) (by omega) | exact toNatO (by omega) | exact congrArg Bool.not (by assumption) | exact congrArg Bool.not (decide_eq_true (by omega)) | exact congrArg Bool.not (decide_eq_false (by omega)) | exact congrArg Bool.not (beq_iff_eq.2 (by assumption)) | exact congrArg Bool.not (beq_eq_false_iff_ne.2 (by assumption)) | exact beq_eq_false_iff_ne.2 (by omega) | exact beq_iff_eq.2 (by omega) | exact bne_iff_ne.2 (by omega) | exact bne_eq_false_iff_eq.2 (by omega) | omega) : P := h
theorem kq {P : Prop} (h : P := by
    repeat' (first | (with_reducible assumption) | exact (fun _ _ _ _ => rfl) | apply And.intro)
    all_goals exact kz) : P := h
theorem kr {P : Prop} (h : P := by
    repeat' (first | rfl | exact rows_nrm (fun i j hi hj => push_told hi hj) | exact rows_nrm (fun i j hi hj => set_told) | exact rows_nrm (fun i j hi hj => rfl) | refine congr (congrArg List.cons ?_) ?_)) : P := h
def KL (f : Nat → Bool) : List MObj → Prop
  | [] => True
  | o :: r => keepO f o ∧ KL f r
theorem KL.mem {f : Nat → Bool} : ∀ {L : List MObj}, KL f L → ∀ o, o ∈ L → keepO f o
  | [], _, o, ho => by cases ho
  | p :: r, h, o, ho => by
    rcases List.mem_cons.1 ho with rfl | ho
    · exact h.1
    · exact KL.mem h.2 o ho
theorem kF {f : FuncId} {fn : Func} {c : Code} {X : CallS} {args : Array Value} {v : Value} {L L2 : List MObj} {l : List Tok} {OB : Prop} {ms : List Nat} (hX : FOkS Tryz.prog X)
    (h : seenF' Tryz.prog fn 6 L.length ms (evK Tryz.prog X 1000 false c (startM fn args) (wS 6 L) ⟨l, True⟩) = some (v, L ++ L2, ⟨[], OB⟩)) (ho : OB) (hf : Tryz.prog.funcs[f]? = some fn := by kernel_rfl) (hb : fn.body = some c := by kernel_rfl) (ha : args.toList.all (keepB (below (6 + L.length)) 8) = true := by kernel_rfl)
    (hk : KL (below (6 + L.length)) L := by repeat' (first | exact trivial | rfl | exact fun i j => rfl | apply And.intro)) (hk2 : KL (below (6 + L.length + L2.length)) L2 := by repeat' (first | exact trivial | rfl | exact fun i j => rfl | apply And.intro)) (hv : keepB (below (6 + L.length + L2.length)) 8 v = true := by kernel_rfl) :
    SndF Tryz.prog f args (wS 6 L) v (wS 6 (L ++ L2)) ((2 ^ L.length - 1) * 2 ^ 6) 0 :=
  sndF_K (by kernel_rfl) hX (by kernel_rfl) hf hb h ho ha hk.mem hk2.mem hv
end Go.Proofs.YtbkpnhbcihcgaaaGreatDoor
end
section
set_option linter.all false
set_option maxRecDepth 1000000
open Go.RowKit
namespace Go.Proofs.YtbkpnhbcihcgaaaGreatDoor
open Mini
noncomputable section
variable (n : Nat) (c : Nat) (g : GI) (e : TypeId) (opn : Bool) (sz : Nat) (ro : Bool) (m : Nat) (c2 : Nat) (h : GI) (e2 : TypeId) (opn2 : Bool) (sz2 : Nat) (ro2 : Bool) (G : GI) (i8 : Nat) (i20 : Nat) (g3 : GI) (tt : Nat) (a : GI) (b : GI)
def addR (a b : GI) : Nat → GI
  | 0 => a
  | i + 1 => setI (addR a b i) i 0 [(IntKind.i64.wrap ((addR a b i i 0) + (b i 0)))]
theorem addR_hi (a b : GI) : ∀ k i, k ≤ i → addR a b k i 0 = a i 0
  | 0, _, _ => rfl
  | k + 1, i, h => by
    show setI _ _ _ _ i 0 = _
    unfold setI
    rw [if_neg (by omega)]
    exact addR_hi a b k i (by omega)
theorem addR_lo (a b : GI) : ∀ k i, i < k → addR a b k i 0 = IntKind.i64.wrap (a i 0 + b i 0)
  | k + 1, i, h => by
    show setI _ _ _ _ i 0 = _
    unfold setI
    by_cases e : i = k
    · subst e
      rw [if_pos (by simp)]
      simp [addR_hi a b i i (Nat.le_refl _)]
    · rw [if_neg (by omega)]
      exact addR_lo a b k i (by omega)
def trN (G : GI) : Nat → Nat
  | 0 => 0
  | k + 1 => if G k 0 = 0 then trN G k else k + 1
theorem trN_le (G : GI) : ∀ k, trN G k ≤ k
  | 0 => Nat.le_refl _
  | k + 1 => by unfold trN; split; exact Nat.le_succ_of_le (trN_le G k); exact Nat.le_refl _
theorem trN_zero (G : GI) : ∀ k i, trN G k ≤ i → i < k → G i 0 = 0
  | k + 1, i, h1, h2 => by
    unfold trN at h1
    split at h1
    · rename_i hz
      by_cases e : i = k
      · subst e; exact hz
      · exact trN_zero G k i h1 (by omega)
    · omega
theorem trN_last (G : GI) : ∀ k, 0 < trN G k → G (trN G k - 1) 0 ≠ 0
  | k + 1, h => by
    unfold trN at h ⊢
    split at h
    · rename_i hz; rw [if_pos hz]; exact trN_last G k h
    · rename_i hz; rw [if_neg hz]; exact hz
theorem trN_congr {G H : GI} : ∀ k, (∀ i, i < k → G i 0 = H i 0) → trN G k = trN H k
  | 0, _ => rfl
  | k + 1, h => by unfold trN; rw [h k (by omega), trN_congr k fun i hi => h i (by omega)]
theorem wsub1N {n : Nat} (h : 0 < n) (hn : (n : Int) ≤ 9223372036854775807) : Value.int .i64 (IntKind.i64.wrap (((n : Nat) : Int) - (1 : Int))) = .int .i64 ((n - 1 : Nat) : Int) := by rw [IntWalk.i64_in _ (by omega)]; exact congrArg _ (by omega)
noncomputable def suaX : Code := loopAt Tryz.prog 75 0
noncomputable def suaK : CallS := noXS
def suaA (c : Nat) (g : GI) (e : TypeId) (opn : Bool) (sz : Nat) (ro : Bool) (m : Nat) (c2 : Nat) (h : GI) (e2 : TypeId) (opn2 : Bool) (sz2 : Nat) (ro2 : Bool) (i20 : Nat) (g3 : GI) : MA := MA.ofL 50 (jl [] 5 (jl [.slice (some ⟨9, 0, none⟩) n n] 12 (jl [.slice (some ⟨7, 0, none⟩) m c2, .int .i64 ((m : Nat) : Int), .int .i64 ((i20 : Nat) : Int)] 29 []))) []
abbrev sA0 : List MObj := [.rows n 1 (fun i j => .int .i64 (g i j)) e opn sz ro, .rows m 1 (fun i j => .int .i64 (h i j)) e2 opn2 sz2 ro2, .cells [] 3 false 0 false, .rows n 1 (fun i j => .int .i64 (g3 i j)) 3 true 1 false]
def suaL (c : Nat) (g : GI) (e : TypeId) (opn : Bool) (sz : Nat) (ro : Bool) (m : Nat) (c2 : Nat) (h : GI) (e2 : TypeId) (opn2 : Bool) (sz2 : Nat) (ro2 : Bool) (i20 : Nat) (g3 : GI) : List MObj := (sA0 n g e opn sz ro m h e2 opn2 sz2 ro2 g3)
noncomputable def suar0 : Option OutCS := evK Tryz.prog suaK 1000 false suaX (suaA n c g e opn sz ro m c2 h e2 opn2 sz2 ro2 i20 g3) (wS 6 (suaL n c g e opn sz ro m c2 h e2 opn2 sz2 ro2 i20 g3)) ⟨[1, .row i20 0, .row i20 0, .row i20 0, .row i20 0, .row i20 0, .row i20 0, .azz (.int .i64 ((i20 + 1 : Nat) : Int))], True⟩
noncomputable def suar1 : Option OutCS := evK Tryz.prog suaK 1000 false suaX (suaA n c g e opn sz ro m c2 h e2 opn2 sz2 ro2 i20 g3) (wS 6 (suaL n c g e opn sz ro m c2 h e2 opn2 sz2 ro2 i20 g3)) ⟨[0], True⟩
def suar1E (c : Nat) (g : GI) (e : TypeId) (opn : Bool) (sz : Nat) (ro : Bool) (m : Nat) (c2 : Nat) (h : GI) (e2 : TypeId) (opn2 : Bool) (sz2 : Nat) (ro2 : Bool) (i20 : Nat) (g3 : GI) : MA := MA.ofL 50 (jl [] 5 (jl [.slice (some ⟨9, 0, none⟩) n n] 44 [])) []
noncomputable def subX : Code := loopAt Tryz.prog 75 1
noncomputable def subK : CallS := noXS
abbrev sA1 := jl [] 5 (jl [.slice (some ⟨9, 0, none⟩) n n, .chan none, .chan none, .int .i64 ((i8 : Nat) : Int)] 41 [])
def subA (c : Nat) (g : GI) (e : TypeId) (opn : Bool) (sz : Nat) (ro : Bool) (m : Nat) (c2 : Nat) (h : GI) (e2 : TypeId) (opn2 : Bool) (sz2 : Nat) (ro2 : Bool) (G : GI) (i8 : Nat) : MA := MA.ofL 50 (sA1 n i8) []
abbrev sA2 : List MObj := [.rows n 1 (fun i j => .int .i64 (g i j)) e opn sz ro, .rows m 1 (fun i j => .int .i64 (h i j)) e2 opn2 sz2 ro2, .cells [] 3 false 0 false, .rows n 1 (fun i j => .int .i64 (G i j)) 3 true 1 false]
def subL (c : Nat) (g : GI) (e : TypeId) (opn : Bool) (sz : Nat) (ro : Bool) (m : Nat) (c2 : Nat) (h : GI) (e2 : TypeId) (opn2 : Bool) (sz2 : Nat) (ro2 : Bool) (G : GI) (i8 : Nat) : List MObj := (sA2 n g e opn sz ro m h e2 opn2 sz2 ro2 G)
noncomputable def subr0 : Option OutCS := evK Tryz.prog subK 1000 false subX (subA n c g e opn sz ro m c2 h e2 opn2 sz2 ro2 G i8) (wS 6 (subL n c g e opn sz ro m c2 h e2 opn2 sz2 ro2 G i8)) ⟨[1, 1, 1, .azz (.int .i64 (((i8 - 1) : Nat) : Int)), 1, .row (i8 - 1) 0, 1, .row (i8 - 1) 0, 1, 1, 1, .azz (.int .i64 (((i8 - 1) : Nat) : Int))], True⟩
noncomputable def subr1 : Option OutCS := evK Tryz.prog subK 1000 false subX (subA n c g e opn sz ro m c2 h e2 opn2 sz2 ro2 G i8) (wS 6 (subL n c g e opn sz ro m c2 h e2 opn2 sz2 ro2 G i8)) ⟨[1, 1, 1, .azz (.int .i64 (((i8 - 1) : Nat) : Int)), 1, .row (i8 - 1) 0, 1, .row (i8 - 1) 0, 1, 1, 0], True⟩
def subr1E (c : Nat) (g : GI) (e : TypeId) (opn : Bool) (sz : Nat) (ro : Bool) (m : Nat) (c2 : Nat) (h : GI) (e2 : TypeId) (opn2 : Bool) (sz2 : Nat) (ro2 : Bool) (G : GI) (i8 : Nat) : MA := MA.ofL 50 (sA1 n i8) []
noncomputable def subr2 : Option OutCS := evK Tryz.prog subK 1000 false subX (subA n c g e opn sz ro m c2 h e2 opn2 sz2 ro2 G i8) (wS 6 (subL n c g e opn sz ro m c2 h e2 opn2 sz2 ro2 G i8)) ⟨[0, 0, 0, 0, 0, 0, 0, 0], True⟩
def subr2E (c : Nat) (g : GI) (e : TypeId) (opn : Bool) (sz : Nat) (ro : Bool) (m : Nat) (c2 : Nat) (h : GI) (e2 : TypeId) (opn2 : Bool) (sz2 : Nat) (ro2 : Bool) (G : GI) (i8 : Nat) : MA := MA.ofL 50 (sA1 n i8) []
noncomputable def suK : CallS := noXS
def suArgs (g : GI) (e : TypeId) (opn : Bool) (sz : Nat) (ro : Bool) (m : Nat) (c2 : Nat) (h : GI) (e2 : TypeId) (opn2 : Bool) (sz2 : Nat) (ro2 : Bool) : Array Value := #[.slice (some ⟨6, 0, none⟩) n c, .slice (some ⟨7, 0, none⟩) m c2]
abbrev sA3 : List MObj := [.rows n 1 (fun i j => .int .i64 (g i j)) e opn sz ro, .rows m 1 (fun i j => .int .i64 (h i j)) e2 opn2 sz2 ro2]
def suS (c : Nat) (g : GI) (e : TypeId) (opn : Bool) (sz : Nat) (ro : Bool) (m : Nat) (c2 : Nat) (h : GI) (e2 : TypeId) (opn2 : Bool) (sz2 : Nat) (ro2 : Bool) : List MObj := (sA3 n g e opn sz ro m h e2 opn2 sz2 ro2)
noncomputable abbrev sA4 := bodyOf Tryz.prog 75
abbrev sA5 := suar1E n c g e opn sz ro m c2 h e2 opn2 sz2 ro2 m (addR g h m)
abbrev sA6 : List MObj := [.rows n 1 (fun i j => .int .i64 (g i j)) e opn sz ro, .rows m 1 (fun i j => .int .i64 (h i j)) e2 opn2 sz2 ro2, .cells [] 3 false 0 false, .rows n 1 (fun i j => .int .i64 ((addR g h m) i j)) 3 true 1 false]
abbrev sA7 := subA n c g e opn sz ro m c2 h e2 opn2 sz2 ro2 (addR g h m) n
noncomputable def suf0 : Option OutCS := evK Tryz.prog suK 1000 false sA4 (startM Tryz.f75 (suArgs n c g e opn sz ro m c2 h e2 opn2 sz2 ro2)) (wS 6 (suS n c g e opn sz ro m c2 h e2 opn2 sz2 ro2)) ⟨[0, 0, .row 0 0, .lp 1835040 (suaA n c g e opn sz ro m c2 h e2 opn2 sz2 ro2 0 g) 6 (suaL n c g e opn sz ro m c2 h e2 opn2 sz2 ro2 0 g) (.exit 0) (sA5 n c g e opn sz ro m c2 h e2 opn2 sz2 ro2) (sA6 n g e opn sz ro m h e2 opn2 sz2 ro2) 10 512, .lp 288 (sA7 n c g e opn sz ro m c2 h e2 opn2 sz2 ro2) 6 (subL n c g e opn sz ro m c2 h e2 opn2 sz2 ro2 (addR g h m) n) (.exit 2) (subr1E n c g e opn sz ro m c2 h e2 opn2 sz2 ro2 (addR g h m) tt) (sA6 n g e opn sz ro m h e2 opn2 sz2 ro2) 10 0, .row tt 0], True⟩
noncomputable def suf1 : Option OutCS := evK Tryz.prog suK 1000 false sA4 (startM Tryz.f75 (suArgs n c g e opn sz ro m c2 h e2 opn2 sz2 ro2)) (wS 6 (suS n c g e opn sz ro m c2 h e2 opn2 sz2 ro2)) ⟨[0, 0, .row 0 0, .lp 1835040 (suaA n c g e opn sz ro m c2 h e2 opn2 sz2 ro2 0 g) 6 (suaL n c g e opn sz ro m c2 h e2 opn2 sz2 ro2 0 g) (.exit 0) (sA5 n c g e opn sz ro m c2 h e2 opn2 sz2 ro2) (sA6 n g e opn sz ro m h e2 opn2 sz2 ro2) 10 512, .lp 288 (sA7 n c g e opn sz ro m c2 h e2 opn2 sz2 ro2) 6 (subL n c g e opn sz ro m c2 h e2 opn2 sz2 ro2 (addR g h m) n) (.exit 2) (subr2E n c g e opn sz ro m c2 h e2 opn2 sz2 ro2 (addR g h m) tt) (sA6 n g e opn sz ro m h e2 opn2 sz2 ro2) 10 0, .row tt 0], True⟩
noncomputable def svaX : Code := loopAt Tryz.prog 75 0
noncomputable def svaK : CallS := noXS
def svaA (g : GI) (e : TypeId) (opn : Bool) (sz : Nat) (ro : Bool) (m : Nat) (c2 : Nat) (h : GI) (e2 : TypeId) (opn2 : Bool) (sz2 : Nat) (ro2 : Bool) (i20 : Nat) (g3 : GI) : MA := MA.ofL 50 (jl [] 5 (jl [.slice (some ⟨9, 0, none⟩) m m] 12 (jl [.slice (some ⟨6, 0, none⟩) n c, .int .i64 ((n : Nat) : Int), .int .i64 ((i20 : Nat) : Int)] 29 []))) []
abbrev sA8 : List MObj := [.rows n 1 (fun i j => .int .i64 (g i j)) e opn sz ro, .rows m 1 (fun i j => .int .i64 (h i j)) e2 opn2 sz2 ro2, .cells [] 3 false 0 false, .rows m 1 (fun i j => .int .i64 (g3 i j)) 3 true 1 false]
def svaL (c : Nat) (g : GI) (e : TypeId) (opn : Bool) (sz : Nat) (ro : Bool) (m : Nat) (c2 : Nat) (h : GI) (e2 : TypeId) (opn2 : Bool) (sz2 : Nat) (ro2 : Bool) (i20 : Nat) (g3 : GI) : List MObj := (sA8 n g e opn sz ro m h e2 opn2 sz2 ro2 g3)
noncomputable def svar0 : Option OutCS := evK Tryz.prog svaK 1000 false svaX (svaA n c g e opn sz ro m c2 h e2 opn2 sz2 ro2 i20 g3) (wS 6 (svaL n c g e opn sz ro m c2 h e2 opn2 sz2 ro2 i20 g3)) ⟨[1, .row i20 0, .row i20 0, .row i20 0, .row i20 0, .row i20 0, .row i20 0, .azz (.int .i64 ((i20 + 1 : Nat) : Int))], True⟩
noncomputable def svar1 : Option OutCS := evK Tryz.prog svaK 1000 false svaX (svaA n c g e opn sz ro m c2 h e2 opn2 sz2 ro2 i20 g3) (wS 6 (svaL n c g e opn sz ro m c2 h e2 opn2 sz2 ro2 i20 g3)) ⟨[0], True⟩
def svar1E (n : Nat) (c : Nat) (g : GI) (e : TypeId) (opn : Bool) (sz : Nat) (ro : Bool) (m : Nat) (c2 : Nat) (h : GI) (e2 : TypeId) (opn2 : Bool) (sz2 : Nat) (ro2 : Bool) (i20 : Nat) (g3 : GI) : MA := MA.ofL 50 (jl [] 5 (jl [.slice (some ⟨9, 0, none⟩) m m] 44 [])) []
noncomputable def svbX : Code := loopAt Tryz.prog 75 1
noncomputable def svbK : CallS := noXS
abbrev sA9 := jl [] 5 (jl [.slice (some ⟨9, 0, none⟩) m m, .chan none, .chan none, .int .i64 ((i8 : Nat) : Int)] 41 [])
def svbA (n : Nat) (c : Nat) (g : GI) (e : TypeId) (opn : Bool) (sz : Nat) (ro : Bool) (m : Nat) (c2 : Nat) (h : GI) (e2 : TypeId) (opn2 : Bool) (sz2 : Nat) (ro2 : Bool) (G : GI) (i8 : Nat) : MA := MA.ofL 50 (sA9 m i8) []
abbrev sA10 : List MObj := [.rows n 1 (fun i j => .int .i64 (g i j)) e opn sz ro, .rows m 1 (fun i j => .int .i64 (h i j)) e2 opn2 sz2 ro2, .cells [] 3 false 0 false, .rows m 1 (fun i j => .int .i64 (G i j)) 3 true 1 false]
def svbL (c : Nat) (g : GI) (e : TypeId) (opn : Bool) (sz : Nat) (ro : Bool) (m : Nat) (c2 : Nat) (h : GI) (e2 : TypeId) (opn2 : Bool) (sz2 : Nat) (ro2 : Bool) (G : GI) (i8 : Nat) : List MObj := (sA10 n g e opn sz ro m h e2 opn2 sz2 ro2 G)
noncomputable def svbr0 : Option OutCS := evK Tryz.prog svbK 1000 false svbX (svbA n c g e opn sz ro m c2 h e2 opn2 sz2 ro2 G i8) (wS 6 (svbL n c g e opn sz ro m c2 h e2 opn2 sz2 ro2 G i8)) ⟨[1, 1, 1, .azz (.int .i64 (((i8 - 1) : Nat) : Int)), 1, .row (i8 - 1) 0, 1, .row (i8 - 1) 0, 1, 1, 1, .azz (.int .i64 (((i8 - 1) : Nat) : Int))], True⟩
noncomputable def svbr1 : Option OutCS := evK Tryz.prog svbK 1000 false svbX (svbA n c g e opn sz ro m c2 h e2 opn2 sz2 ro2 G i8) (wS 6 (svbL n c g e opn sz ro m c2 h e2 opn2 sz2 ro2 G i8)) ⟨[1, 1, 1, .azz (.int .i64 (((i8 - 1) : Nat) : Int)), 1, .row (i8 - 1) 0, 1, .row (i8 - 1) 0, 1, 1, 0], True⟩
def svbr1E (n : Nat) (c : Nat) (g : GI) (e : TypeId) (opn : Bool) (sz : Nat) (ro : Bool) (m : Nat) (c2 : Nat) (h : GI) (e2 : TypeId) (opn2 : Bool) (sz2 : Nat) (ro2 : Bool) (G : GI) (i8 : Nat) : MA := MA.ofL 50 (sA9 m i8) []
noncomputable def svbr2 : Option OutCS := evK Tryz.prog svbK 1000 false svbX (svbA n c g e opn sz ro m c2 h e2 opn2 sz2 ro2 G i8) (wS 6 (svbL n c g e opn sz ro m c2 h e2 opn2 sz2 ro2 G i8)) ⟨[0, 0, 0, 0, 0, 0, 0, 0], True⟩
def svbr2E (n : Nat) (c : Nat) (g : GI) (e : TypeId) (opn : Bool) (sz : Nat) (ro : Bool) (m : Nat) (c2 : Nat) (h : GI) (e2 : TypeId) (opn2 : Bool) (sz2 : Nat) (ro2 : Bool) (G : GI) (i8 : Nat) : MA := MA.ofL 50 (sA9 m i8) []
noncomputable def svK : CallS := noXS
def svArgs (g : GI) (e : TypeId) (opn : Bool) (sz : Nat) (ro : Bool) (m : Nat) (c2 : Nat) (h : GI) (e2 : TypeId) (opn2 : Bool) (sz2 : Nat) (ro2 : Bool) : Array Value := #[.slice (some ⟨6, 0, none⟩) n c, .slice (some ⟨7, 0, none⟩) m c2]
def svS (c : Nat) (g : GI) (e : TypeId) (opn : Bool) (sz : Nat) (ro : Bool) (m : Nat) (c2 : Nat) (h : GI) (e2 : TypeId) (opn2 : Bool) (sz2 : Nat) (ro2 : Bool) : List MObj := (sA3 n g e opn sz ro m h e2 opn2 sz2 ro2)
abbrev sA11 := svar1E n c g e opn sz ro m c2 h e2 opn2 sz2 ro2 n (addR h g n)
abbrev sA12 : List MObj := [.rows n 1 (fun i j => .int .i64 (g i j)) e opn sz ro, .rows m 1 (fun i j => .int .i64 (h i j)) e2 opn2 sz2 ro2, .cells [] 3 false 0 false, .rows m 1 (fun i j => .int .i64 ((addR h g n) i j)) 3 true 1 false]
abbrev sA13 := svbA n c g e opn sz ro m c2 h e2 opn2 sz2 ro2 (addR h g n) m
noncomputable def svf0 : Option OutCS := evK Tryz.prog svK 1000 false sA4 (startM Tryz.f75 (svArgs n c g e opn sz ro m c2 h e2 opn2 sz2 ro2)) (wS 6 (svS n c g e opn sz ro m c2 h e2 opn2 sz2 ro2)) ⟨[1, 0, .row 0 0, .lp 1835040 (svaA n c g e opn sz ro m c2 h e2 opn2 sz2 ro2 0 h) 6 (svaL n c g e opn sz ro m c2 h e2 opn2 sz2 ro2 0 h) (.exit 0) (sA11 n c g e opn sz ro m c2 h e2 opn2 sz2 ro2) (sA12 n g e opn sz ro m h e2 opn2 sz2 ro2) 10 512, .lp 288 (sA13 n c g e opn sz ro m c2 h e2 opn2 sz2 ro2) 6 (svbL n c g e opn sz ro m c2 h e2 opn2 sz2 ro2 (addR h g n) m) (.exit 2) (svbr1E n c g e opn sz ro m c2 h e2 opn2 sz2 ro2 (addR h g n) tt) (sA12 n g e opn sz ro m h e2 opn2 sz2 ro2) 10 0, .row tt 0], True⟩
noncomputable def svf1 : Option OutCS := evK Tryz.prog svK 1000 false sA4 (startM Tryz.f75 (svArgs n c g e opn sz ro m c2 h e2 opn2 sz2 ro2)) (wS 6 (svS n c g e opn sz ro m c2 h e2 opn2 sz2 ro2)) ⟨[1, 0, .row 0 0, .lp 1835040 (svaA n c g e opn sz ro m c2 h e2 opn2 sz2 ro2 0 h) 6 (svaL n c g e opn sz ro m c2 h e2 opn2 sz2 ro2 0 h) (.exit 0) (sA11 n c g e opn sz ro m c2 h e2 opn2 sz2 ro2) (sA12 n g e opn sz ro m h e2 opn2 sz2 ro2) 10 512, .lp 288 (sA13 n c g e opn sz ro m c2 h e2 opn2 sz2 ro2) 6 (svbL n c g e opn sz ro m c2 h e2 opn2 sz2 ro2 (addR h g n) m) (.exit 2) (svbr2E n c g e opn sz ro m c2 h e2 opn2 sz2 ro2 (addR h g n) tt) (sA12 n g e opn sz ro m h e2 opn2 sz2 ro2) 10 0, .row tt 0], True⟩
theorem suaK_ok : FOkS Tryz.prog suaK := noXS_ok
abbrev sA14 := setI g3 i20 0 [(IntKind.i64.wrap ((g3 i20 0) + (h i20 0)))]
abbrev sA15 : List MObj := [.rows n 1 (fun i j => .int .i64 (g i j)) e opn sz ro, .rows m 1 (fun i j => .int .i64 (h i j)) e2 opn2 sz2 ro2, .cells [] 3 false 0 false, .rows n 1 (fun i j => tellV (invN 10 []) 8 ((setRow (fun i j => .int .i64 (g3 i j)) i20 0 [.int .i64 (IntKind.i64.wrap ((g3 i20 0) + (h i20 0)))]) i j)) 3 true 1 false]
abbrev sA16 := decide ((((i20 : Nat)) : Int) < (((m : Nat)) : Int))
abbrev sA17 := (((i20 : Nat)) : Int) = (Int.ofNat i20)
abbrev sA18 := (sA17 i20) ∧ (i20 < m)
abbrev sA19 := ((0 + (i20 * 1)) = ((i20 * 1) + 0)) ∧ (i20 < m)
abbrev sA20 := (sA17 i20) ∧ (i20 < n)
abbrev sA21 := ((0 + (i20 * 1)) = ((i20 * 1) + 0)) ∧ (i20 < n)
abbrev sA22 := ((.int .i64 (IntKind.i64.wrap ((((i20 : Nat)) : Int) + (1 : Int)))) : Value) = (.int .i64 ((((i20 + 1) : Nat)) : Int))
theorem suar0_eq : seenK 6 4 [] 1835040 512 (suar0 n c g e opn sz ro m c2 h e2 opn2 sz2 ro2 i20 g3) = some (.normal, suaA n c g e opn sz ro m c2 h e2 opn2 sz2 ro2 (i20 + 1) (sA14 h i20 g3), (sA15 n g e opn sz ro m h e2 opn2 sz2 ro2 i20 g3), 512, ⟨[], ((((((((True ∧ ((sA16 m i20) = true)) ∧ (sA18 m i20)) ∧ (sA19 m i20)) ∧ (sA20 n i20)) ∧ (sA21 n i20)) ∧ (sA20 n i20)) ∧ (sA21 n i20)) ∧ (sA22 i20))⟩) := by kernel_rfl
theorem suar0_k (hx : m ≤ n ∧ (n : Int) ≤ 9223372036854775807) (h0 : ((i20 : Nat) : Int) < ((m : Nat) : Int)) : KC Tryz.prog none suaX (suaA n c g e opn sz ro m c2 h e2 opn2 sz2 ro2 i20 g3).act (wS 6 (suaL n c g e opn sz ro m c2 h e2 opn2 sz2 ro2 i20 g3)) .normal (suaA n c g e opn sz ro m c2 h e2 opn2 sz2 ro2 (i20 + 1) (sA14 h i20 g3)).act (wS 6 (suaL n c g e opn sz ro m c2 h e2 opn2 sz2 ro2 (i20 + 1) (sA14 h i20 g3))) 10 512 := by
  refine KT.toldAs (L := (sA15 n g e opn sz ro m h e2 opn2 sz2 ro2 i20 g3)) ?_ (by
    simp only [List.map_cons, List.map_nil, suaL]
    all_goals exact kr)
  exact seenK_ok smx suaK_ok sng (suar0_eq n c g e opn sz ro m c2 h e2 opn2 sz2 ro2 i20 g3) kq
theorem suar1_eq : seenK 6 4 [] 32 512 (suar1 n c g e opn sz ro m c2 h e2 opn2 sz2 ro2 i20 g3) = some ((.exit 0), suar1E n c g e opn sz ro m c2 h e2 opn2 sz2 ro2 i20 g3, (sA0 n g e opn sz ro m h e2 opn2 sz2 ro2 g3), 512, ⟨[], (True ∧ ((sA16 m i20) = false))⟩) := by kernel_rfl
theorem suar1_k (hx : m ≤ n ∧ (n : Int) ≤ 9223372036854775807) (h0 : ¬ ((i20 : Nat) : Int) < ((m : Nat) : Int)) : KC Tryz.prog none suaX (suaA n c g e opn sz ro m c2 h e2 opn2 sz2 ro2 i20 g3).act (wS 6 (suaL n c g e opn sz ro m c2 h e2 opn2 sz2 ro2 i20 g3)) (.exit 0) (suar1E n c g e opn sz ro m c2 h e2 opn2 sz2 ro2 i20 g3).act (wS 6 (sA0 n g e opn sz ro m h e2 opn2 sz2 ro2 g3)) 10 512 :=
  seenK_ok smx suaK_ok sng (suar1_eq n c g e opn sz ro m c2 h e2 opn2 sz2 ro2 i20 g3) kq
abbrev sA23 := wS 6 (sA6 n g e opn sz ro m h e2 opn2 sz2 ro2)
theorem sua_all  (hx : m ≤ n ∧ (n : Int) ≤ 9223372036854775807) : KC Tryz.prog none (.loop suaX) (suaA n c g e opn sz ro m c2 h e2 opn2 sz2 ro2 0 g).act (wS 6 (suaL n c g e opn sz ro m c2 h e2 opn2 sz2 ro2 0 g)) (.exit 0) (sA5 n c g e opn sz ro m c2 h e2 opn2 sz2 ro2).act (sA23 n g e opn sz ro m h e2 opn2 sz2 ro2) 10 512 := by
  exact K_rounds (A := fun i => (suaA n c g e opn sz ro m c2 h e2 opn2 sz2 ro2 i (addR g h i)).act) (S := fun i => wS 6 (suaL n c g e opn sz ro m c2 h e2 opn2 sz2 ro2 i (addR g h i))) (m) (fun i hi => suar0_k n c g e opn sz ro m c2 h e2 opn2 sz2 ro2 i (addR g h i) hx (by omega)) (suar1_k n c g e opn sz ro m c2 h e2 opn2 sz2 ro2 m (addR g h m) hx (by omega)) (by simp)
theorem subK_ok : FOkS Tryz.prog subK := noXS_ok
abbrev sA24 := decide ((((i8 : Nat)) : Int) > (0 : Int))
abbrev sA25 := (sA24 i8) = true
abbrev sA26 := ((.int .i64 (IntKind.i64.wrap ((((i8 : Nat)) : Int) - (1 : Int)))) : Value) = (.int .i64 ((((i8 - 1) : Nat)) : Int))
abbrev sA27 := ((((True ∧ (sA25 i8)) ∧ (sA25 i8)) ∧ (sA25 i8)) ∧ (sA26 i8)) ∧ (sA25 i8)
abbrev sA28 := ((((i8 - 1) : Nat)) : Int) = (Int.ofNat (i8 - 1))
abbrev sA29 := (0 + ((i8 - 1) * 1)) = (((i8 - 1) * 1) + 0)
abbrev sA30 := (((((sA27 i8) ∧ ((sA28 i8) ∧ ((i8 - 1) < n))) ∧ (sA25 i8)) ∧ ((sA29 i8) ∧ ((i8 - 1) < n))) ∧ (sA25 i8)) ∧ (sA25 i8)
theorem subr0_eq : seenK 6 4 [] 288 0 (subr0 n c g e opn sz ro m c2 h e2 opn2 sz2 ro2 G i8) = some (.normal, subA n c g e opn sz ro m c2 h e2 opn2 sz2 ro2 G (i8 - 1), (sA2 n g e opn sz ro m h e2 opn2 sz2 ro2 G), 0, ⟨[], (((sA30 n i8) ∧ (((G (i8 - 1) 0) == (0 : Int)) = true)) ∧ (sA26 i8))⟩) := by kernel_rfl
theorem subr0_k (hx : i8 ≤ n ∧ (n : Int) ≤ 9223372036854775807) (h0 : (0 : Int) < ((i8 : Nat) : Int)) (h1 : (G (i8 - 1) 0) = (0 : Int)) : KC Tryz.prog none subX (subA n c g e opn sz ro m c2 h e2 opn2 sz2 ro2 G i8).act (wS 6 (subL n c g e opn sz ro m c2 h e2 opn2 sz2 ro2 G i8)) .normal (subA n c g e opn sz ro m c2 h e2 opn2 sz2 ro2 G (i8 - 1)).act (wS 6 (subL n c g e opn sz ro m c2 h e2 opn2 sz2 ro2 G (i8 - 1))) 10 0 :=
  seenK_ok smx subK_ok sng (subr0_eq n c g e opn sz ro m c2 h e2 opn2 sz2 ro2 G i8) kq
theorem subr1_eq : seenK 6 4 [] 288 0 (subr1 n c g e opn sz ro m c2 h e2 opn2 sz2 ro2 G i8) = some ((.exit 2), subr1E n c g e opn sz ro m c2 h e2 opn2 sz2 ro2 G i8, (sA2 n g e opn sz ro m h e2 opn2 sz2 ro2 G), 0, ⟨[], ((sA30 n i8) ∧ (((G (i8 - 1) 0) == (0 : Int)) = false))⟩) := by kernel_rfl
abbrev sA31 := wS 6 (sA2 n g e opn sz ro m h e2 opn2 sz2 ro2 G)
theorem subr1_k (hx : i8 ≤ n ∧ (n : Int) ≤ 9223372036854775807) (h0 : (0 : Int) < ((i8 : Nat) : Int)) (h1 : (G (i8 - 1) 0) ≠ (0 : Int)) : KC Tryz.prog none subX (subA n c g e opn sz ro m c2 h e2 opn2 sz2 ro2 G i8).act (wS 6 (subL n c g e opn sz ro m c2 h e2 opn2 sz2 ro2 G i8)) (.exit 2) (subr1E n c g e opn sz ro m c2 h e2 opn2 sz2 ro2 G i8).act (sA31 n g e opn sz ro m h e2 opn2 sz2 ro2 G) 10 0 :=
  seenK_ok smx subK_ok sng (subr1_eq n c g e opn sz ro m c2 h e2 opn2 sz2 ro2 G i8) kq
abbrev sA32 := (sA24 i8) = false
abbrev sA33 := (((((((True ∧ (sA32 i8)) ∧ (sA32 i8)) ∧ (sA32 i8)) ∧ (sA32 i8)) ∧ (sA32 i8)) ∧ (sA32 i8)) ∧ (sA32 i8)) ∧ (false = false)
theorem subr2_eq : seenK 6 4 [] 288 0 (subr2 n c g e opn sz ro m c2 h e2 opn2 sz2 ro2 G i8) = some ((.exit 2), subr2E n c g e opn sz ro m c2 h e2 opn2 sz2 ro2 G i8, (sA2 n g e opn sz ro m h e2 opn2 sz2 ro2 G), 0, ⟨[], (sA33 i8)⟩) := by kernel_rfl
theorem subr2_k (hx : i8 ≤ n ∧ (n : Int) ≤ 9223372036854775807) (h0 : ¬ (0 : Int) < ((i8 : Nat) : Int)) : KC Tryz.prog none subX (subA n c g e opn sz ro m c2 h e2 opn2 sz2 ro2 G i8).act (wS 6 (subL n c g e opn sz ro m c2 h e2 opn2 sz2 ro2 G i8)) (.exit 2) (subr2E n c g e opn sz ro m c2 h e2 opn2 sz2 ro2 G i8).act (sA31 n g e opn sz ro m h e2 opn2 sz2 ro2 G) 10 0 :=
  seenK_ok smx subK_ok sng (subr2_eq n c g e opn sz ro m c2 h e2 opn2 sz2 ro2 G i8) kq
theorem sub_pos (ht : tt ≤ n) (hb : (n : Int) ≤ 9223372036854775807) (hz : ∀ i, tt ≤ i → i < n → G i 0 = 0) (h0 : 0 < tt) (hl : G (tt - 1) 0 ≠ 0) : KC Tryz.prog none (.loop subX) (subA n c g e opn sz ro m c2 h e2 opn2 sz2 ro2 G n).act (wS 6 (subL n c g e opn sz ro m c2 h e2 opn2 sz2 ro2 G n)) (.exit 2) (subr1E n c g e opn sz ro m c2 h e2 opn2 sz2 ro2 G tt).act (wS 6 [.rows n 1 (fun i j => .int .i64 (g i j)) e opn sz ro, .rows m 1 (fun i j => .int .i64 (h i j)) e2 opn2 sz2 ro2, .cells [] 3 false 0 false, .rows n 1 (fun i j => .int .i64 (G i j)) 3 true 1 false]) 10 0 := by
  have e0 : n - (n - tt) = tt := by omega
  have hE := subr1_k n c g e opn sz ro m c2 h e2 opn2 sz2 ro2 G tt ⟨ht, hb⟩ (by omega) hl
  have hG : ∀ i, i < n - tt → KC Tryz.prog none subX (subA n c g e opn sz ro m c2 h e2 opn2 sz2 ro2 G (n - i)).act (wS 6 (subL n c g e opn sz ro m c2 h e2 opn2 sz2 ro2 G (n - i))) .normal (subA n c g e opn sz ro m c2 h e2 opn2 sz2 ro2 G (n - (i + 1))).act (wS 6 (subL n c g e opn sz ro m c2 h e2 opn2 sz2 ro2 G (n - (i + 1)))) 10 0 := fun i hi => by
    have hk := subr0_k n c g e opn sz ro m c2 h e2 opn2 sz2 ro2 G (n - i) ⟨by omega, by omega⟩ (by omega) (hz _ (by omega) (by omega))
    rw [show n - i - 1 = n - (i + 1) by omega] at hk
    exact hk
  exact K_rounds (A := fun i => (subA n c g e opn sz ro m c2 h e2 opn2 sz2 ro2 G (n - i)).act) (S := fun i => wS 6 (subL n c g e opn sz ro m c2 h e2 opn2 sz2 ro2 G (n - i))) (n - tt) hG (by
    show KC _ _ _ (subA n c g e opn sz ro m c2 h e2 opn2 sz2 ro2 G (n - (n - tt))).act (wS 6 (subL n c g e opn sz ro m c2 h e2 opn2 sz2 ro2 G (n - (n - tt)))) _ _ _ _ _
    rw [e0]; exact hE) (by simp)
theorem sub_nil (ht : tt ≤ n) (hb : (n : Int) ≤ 9223372036854775807) (hz : ∀ i, tt ≤ i → i < n → G i 0 = 0) (h0 : tt = 0) : KC Tryz.prog none (.loop subX) (subA n c g e opn sz ro m c2 h e2 opn2 sz2 ro2 G n).act (wS 6 (subL n c g e opn sz ro m c2 h e2 opn2 sz2 ro2 G n)) (.exit 2) (subr2E n c g e opn sz ro m c2 h e2 opn2 sz2 ro2 G tt).act (wS 6 [.rows n 1 (fun i j => .int .i64 (g i j)) e opn sz ro, .rows m 1 (fun i j => .int .i64 (h i j)) e2 opn2 sz2 ro2, .cells [] 3 false 0 false, .rows n 1 (fun i j => .int .i64 (G i j)) 3 true 1 false]) 10 0 := by
  have e0 : n - (n - tt) = tt := by omega
  have hE := subr2_k n c g e opn sz ro m c2 h e2 opn2 sz2 ro2 G tt ⟨ht, hb⟩ (by omega)
  have hG : ∀ i, i < n - tt → KC Tryz.prog none subX (subA n c g e opn sz ro m c2 h e2 opn2 sz2 ro2 G (n - i)).act (wS 6 (subL n c g e opn sz ro m c2 h e2 opn2 sz2 ro2 G (n - i))) .normal (subA n c g e opn sz ro m c2 h e2 opn2 sz2 ro2 G (n - (i + 1))).act (wS 6 (subL n c g e opn sz ro m c2 h e2 opn2 sz2 ro2 G (n - (i + 1)))) 10 0 := fun i hi => by
    have hk := subr0_k n c g e opn sz ro m c2 h e2 opn2 sz2 ro2 G (n - i) ⟨by omega, by omega⟩ (by omega) (hz _ (by omega) (by omega))
    rw [show n - i - 1 = n - (i + 1) by omega] at hk
    exact hk
  exact K_rounds (A := fun i => (subA n c g e opn sz ro m c2 h e2 opn2 sz2 ro2 G (n - i)).act) (S := fun i => wS 6 (subL n c g e opn sz ro m c2 h e2 opn2 sz2 ro2 G (n - i))) (n - tt) hG (by
    show KC _ _ _ (subA n c g e opn sz ro m c2 h e2 opn2 sz2 ro2 G (n - (n - tt))).act (wS 6 (subL n c g e opn sz ro m c2 h e2 opn2 sz2 ro2 G (n - (n - tt)))) _ _ _ _ _
    rw [e0]; exact hE) (by simp)
theorem suK_ok : FOkS Tryz.prog suK := noXS_ok
abbrev sA34 : List MObj := [.rows tt 1 (fun i j => .int .i64 ((addR g h m) i j)) 3 true 1 false]
abbrev sA35 := decide ((((n : Nat)) : Int) < (((m : Nat)) : Int))
abbrev sA36 := List.replicate (6 : Nat) MObj.hole
noncomputable abbrev sA37 := (((True ∧ ((sA35 n m) = false)) ∧ ((false != false) = false)) ∧ ((n = n) ∧ ((n ≠ (0 : Nat)) ∧ ((n * 8) ≤ (140737488355328 : Nat))))) ∧ ((((suaA n c g e opn sz ro m c2 h e2 opn2 sz2 ro2 (0 : Nat) g) = (suaA n c g e opn sz ro m c2 h e2 opn2 sz2 ro2 (0 : Nat) g)) ∧ ((10 = (6 + 4)) ∧ ((HAppend.hAppend sA36 (suaL n c g e opn sz ro m c2 h e2 opn2 sz2 ro2 (0 : Nat) g)) = (HAppend.hAppend sA36 (suaL n c g e opn sz ro m c2 h e2 opn2 sz2 ro2 (0 : Nat) g))))) ∧ KC Tryz.prog none (.loop suaX) (suaA n c g e opn sz ro m c2 h e2 opn2 sz2 ro2 0 g).act (wS 6 (suaL n c g e opn sz ro m c2 h e2 opn2 sz2 ro2 0 g)) (.exit 0) (sA5 n c g e opn sz ro m c2 h e2 opn2 sz2 ro2).act (sA23 n g e opn sz ro m h e2 opn2 sz2 ro2) 10 512)
abbrev sA38 := HAppend.hAppend sA36 (subL n c g e opn sz ro m c2 h e2 opn2 sz2 ro2 (addR g h m) n)
abbrev sA39 := ((sA7 n c g e opn sz ro m c2 h e2 opn2 sz2 ro2) = (sA7 n c g e opn sz ro m c2 h e2 opn2 sz2 ro2)) ∧ ((10 = (6 + 4)) ∧ ((sA38 n c g e opn sz ro m c2 h e2 opn2 sz2 ro2) = (sA38 n c g e opn sz ro m c2 h e2 opn2 sz2 ro2)))
abbrev sA40 := (((tt : Nat)) : Int) = (Int.ofNat tt)
abbrev sA41 := (sA40 tt) ∧ ((tt ≤ n) ∧ ((n = n) ∧ (n = n)))
theorem suf0_eq : seenF' Tryz.prog Tryz.f75 6 2 [9] (suf0 n c g e opn sz ro m c2 h e2 opn2 sz2 ro2 tt) = some (.slice (some ⟨8, 0, none⟩) tt tt, suS n c g e opn sz ro m c2 h e2 opn2 sz2 ro2 ++ (sA34 g m h tt), ⟨[], (((sA37 n c g e opn sz ro m c2 h e2 opn2 sz2 ro2) ∧ ((sA39 n c g e opn sz ro m c2 h e2 opn2 sz2 ro2) ∧ KC Tryz.prog none (.loop subX) (sA7 n c g e opn sz ro m c2 h e2 opn2 sz2 ro2).act (wS 6 (subL n c g e opn sz ro m c2 h e2 opn2 sz2 ro2 (addR g h m) n)) (.exit 2) (subr1E n c g e opn sz ro m c2 h e2 opn2 sz2 ro2 (addR g h m) tt).act (sA23 n g e opn sz ro m h e2 opn2 sz2 ro2) 10 0)) ∧ (sA41 n tt))⟩) := by kernel_rfl
abbrev sA42 := wS 6 (suS n c g e opn sz ro m c2 h e2 opn2 sz2 ro2 ++ (sA34 g m h tt))
theorem suf0_s (hx : m ≤ n ∧ (n : Int) ≤ 9223372036854775807 ∧ (n : Int) ≤ 1048576 ∧ tt ≤ n ∧ 0 < n) (h0 : ¬ ((n : Nat) : Int) < ((m : Nat) : Int)) (l0 : KC Tryz.prog none (.loop suaX) (suaA n c g e opn sz ro m c2 h e2 opn2 sz2 ro2 0 g).act (wS 6 (suaL n c g e opn sz ro m c2 h e2 opn2 sz2 ro2 0 g)) (.exit 0) (sA5 n c g e opn sz ro m c2 h e2 opn2 sz2 ro2).act (sA23 n g e opn sz ro m h e2 opn2 sz2 ro2) 10 512) (l1 : KC Tryz.prog none (.loop subX) (sA7 n c g e opn sz ro m c2 h e2 opn2 sz2 ro2).act (wS 6 (subL n c g e opn sz ro m c2 h e2 opn2 sz2 ro2 (addR g h m) n)) (.exit 2) (subr1E n c g e opn sz ro m c2 h e2 opn2 sz2 ro2 (addR g h m) tt).act (sA23 n g e opn sz ro m h e2 opn2 sz2 ro2) 10 0) : SndF Tryz.prog 75 (suArgs n c g e opn sz ro m c2 h e2 opn2 sz2 ro2) (wS 6 (suS n c g e opn sz ro m c2 h e2 opn2 sz2 ro2)) (.slice (some ⟨8, 0, none⟩) tt tt) (sA42 n c g e opn sz ro m c2 h e2 opn2 sz2 ro2 tt) 192 0 :=
  kF (L := suS n c g e opn sz ro m c2 h e2 opn2 sz2 ro2) (L2 := (sA34 g m h tt)) (ms := [9]) suK_ok (suf0_eq n c g e opn sz ro m c2 h e2 opn2 sz2 ro2 tt) kq
theorem suf1_eq : seenF' Tryz.prog Tryz.f75 6 2 [9] (suf1 n c g e opn sz ro m c2 h e2 opn2 sz2 ro2 tt) = some (.slice (some ⟨8, 0, none⟩) tt tt, suS n c g e opn sz ro m c2 h e2 opn2 sz2 ro2 ++ (sA34 g m h tt), ⟨[], (((sA37 n c g e opn sz ro m c2 h e2 opn2 sz2 ro2) ∧ ((sA39 n c g e opn sz ro m c2 h e2 opn2 sz2 ro2) ∧ KC Tryz.prog none (.loop subX) (sA7 n c g e opn sz ro m c2 h e2 opn2 sz2 ro2).act (wS 6 (subL n c g e opn sz ro m c2 h e2 opn2 sz2 ro2 (addR g h m) n)) (.exit 2) (subr2E n c g e opn sz ro m c2 h e2 opn2 sz2 ro2 (addR g h m) tt).act (sA23 n g e opn sz ro m h e2 opn2 sz2 ro2) 10 0)) ∧ (sA41 n tt))⟩) := by kernel_rfl
theorem suf1_s (hx : m ≤ n ∧ (n : Int) ≤ 9223372036854775807 ∧ (n : Int) ≤ 1048576 ∧ tt ≤ n ∧ 0 < n) (h0 : ¬ ((n : Nat) : Int) < ((m : Nat) : Int)) (l0 : KC Tryz.prog none (.loop suaX) (suaA n c g e opn sz ro m c2 h e2 opn2 sz2 ro2 0 g).act (wS 6 (suaL n c g e opn sz ro m c2 h e2 opn2 sz2 ro2 0 g)) (.exit 0) (sA5 n c g e opn sz ro m c2 h e2 opn2 sz2 ro2).act (sA23 n g e opn sz ro m h e2 opn2 sz2 ro2) 10 512) (l1 : KC Tryz.prog none (.loop subX) (sA7 n c g e opn sz ro m c2 h e2 opn2 sz2 ro2).act (wS 6 (subL n c g e opn sz ro m c2 h e2 opn2 sz2 ro2 (addR g h m) n)) (.exit 2) (subr2E n c g e opn sz ro m c2 h e2 opn2 sz2 ro2 (addR g h m) tt).act (sA23 n g e opn sz ro m h e2 opn2 sz2 ro2) 10 0) : SndF Tryz.prog 75 (suArgs n c g e opn sz ro m c2 h e2 opn2 sz2 ro2) (wS 6 (suS n c g e opn sz ro m c2 h e2 opn2 sz2 ro2)) (.slice (some ⟨8, 0, none⟩) tt tt) (sA42 n c g e opn sz ro m c2 h e2 opn2 sz2 ro2 tt) 192 0 :=
  kF (L := suS n c g e opn sz ro m c2 h e2 opn2 sz2 ro2) (L2 := (sA34 g m h tt)) (ms := [9]) suK_ok (suf1_eq n c g e opn sz ro m c2 h e2 opn2 sz2 ro2 tt) kq
theorem svaK_ok : FOkS Tryz.prog svaK := noXS_ok
abbrev sA43 := setI g3 i20 0 [(IntKind.i64.wrap ((g3 i20 0) + (g i20 0)))]
abbrev sA44 : List MObj := [.rows n 1 (fun i j => .int .i64 (g i j)) e opn sz ro, .rows m 1 (fun i j => .int .i64 (h i j)) e2 opn2 sz2 ro2, .cells [] 3 false 0 false, .rows m 1 (fun i j => tellV (invN 10 []) 8 ((setRow (fun i j => .int .i64 (g3 i j)) i20 0 [.int .i64 (IntKind.i64.wrap ((g3 i20 0) + (g i20 0)))]) i j)) 3 true 1 false]
abbrev sA45 := decide ((((i20 : Nat)) : Int) < (((n : Nat)) : Int))
theorem svar0_eq : seenK 6 4 [] 1835040 512 (svar0 n c g e opn sz ro m c2 h e2 opn2 sz2 ro2 i20 g3) = some (.normal, svaA n c g e opn sz ro m c2 h e2 opn2 sz2 ro2 (i20 + 1) (sA43 g i20 g3), (sA44 n g e opn sz ro m h e2 opn2 sz2 ro2 i20 g3), 512, ⟨[], ((((((((True ∧ ((sA45 n i20) = true)) ∧ (sA20 n i20)) ∧ (sA21 n i20)) ∧ (sA18 m i20)) ∧ (sA19 m i20)) ∧ (sA18 m i20)) ∧ (sA19 m i20)) ∧ (sA22 i20))⟩) := by kernel_rfl
theorem svar0_k (hx : n ≤ m ∧ (m : Int) ≤ 9223372036854775807) (h0 : ((i20 : Nat) : Int) < ((n : Nat) : Int)) : KC Tryz.prog none svaX (svaA n c g e opn sz ro m c2 h e2 opn2 sz2 ro2 i20 g3).act (wS 6 (svaL n c g e opn sz ro m c2 h e2 opn2 sz2 ro2 i20 g3)) .normal (svaA n c g e opn sz ro m c2 h e2 opn2 sz2 ro2 (i20 + 1) (sA43 g i20 g3)).act (wS 6 (svaL n c g e opn sz ro m c2 h e2 opn2 sz2 ro2 (i20 + 1) (sA43 g i20 g3))) 10 512 := by
  refine KT.toldAs (L := (sA44 n g e opn sz ro m h e2 opn2 sz2 ro2 i20 g3)) ?_ (by
    simp only [List.map_cons, List.map_nil, svaL]
    all_goals exact kr)
  exact seenK_ok smx svaK_ok sng (svar0_eq n c g e opn sz ro m c2 h e2 opn2 sz2 ro2 i20 g3) kq
theorem svar1_eq : seenK 6 4 [] 32 512 (svar1 n c g e opn sz ro m c2 h e2 opn2 sz2 ro2 i20 g3) = some ((.exit 0), svar1E n c g e opn sz ro m c2 h e2 opn2 sz2 ro2 i20 g3, (sA8 n g e opn sz ro m h e2 opn2 sz2 ro2 g3), 512, ⟨[], (True ∧ ((sA45 n i20) = false))⟩) := by kernel_rfl
theorem svar1_k (hx : n ≤ m ∧ (m : Int) ≤ 9223372036854775807) (h0 : ¬ ((i20 : Nat) : Int) < ((n : Nat) : Int)) : KC Tryz.prog none svaX (svaA n c g e opn sz ro m c2 h e2 opn2 sz2 ro2 i20 g3).act (wS 6 (svaL n c g e opn sz ro m c2 h e2 opn2 sz2 ro2 i20 g3)) (.exit 0) (svar1E n c g e opn sz ro m c2 h e2 opn2 sz2 ro2 i20 g3).act (wS 6 (sA8 n g e opn sz ro m h e2 opn2 sz2 ro2 g3)) 10 512 :=
  seenK_ok smx svaK_ok sng (svar1_eq n c g e opn sz ro m c2 h e2 opn2 sz2 ro2 i20 g3) kq
abbrev sA46 := wS 6 (sA12 n g e opn sz ro m h e2 opn2 sz2 ro2)
theorem sva_all  (hx : n ≤ m ∧ (m : Int) ≤ 9223372036854775807) : KC Tryz.prog none (.loop svaX) (svaA n c g e opn sz ro m c2 h e2 opn2 sz2 ro2 0 h).act (wS 6 (svaL n c g e opn sz ro m c2 h e2 opn2 sz2 ro2 0 h)) (.exit 0) (sA11 n c g e opn sz ro m c2 h e2 opn2 sz2 ro2).act (sA46 n g e opn sz ro m h e2 opn2 sz2 ro2) 10 512 := by
  exact K_rounds (A := fun i => (svaA n c g e opn sz ro m c2 h e2 opn2 sz2 ro2 i (addR h g i)).act) (S := fun i => wS 6 (svaL n c g e opn sz ro m c2 h e2 opn2 sz2 ro2 i (addR h g i))) (n) (fun i hi => svar0_k n c g e opn sz ro m c2 h e2 opn2 sz2 ro2 i (addR h g i) hx (by omega)) (svar1_k n c g e opn sz ro m c2 h e2 opn2 sz2 ro2 n (addR h g n) hx (by omega)) (by simp)
theorem svbK_ok : FOkS Tryz.prog svbK := noXS_ok
abbrev sA47 := (((((sA27 i8) ∧ ((sA28 i8) ∧ ((i8 - 1) < m))) ∧ (sA25 i8)) ∧ ((sA29 i8) ∧ ((i8 - 1) < m))) ∧ (sA25 i8)) ∧ (sA25 i8)
theorem svbr0_eq : seenK 6 4 [] 288 0 (svbr0 n c g e opn sz ro m c2 h e2 opn2 sz2 ro2 G i8) = some (.normal, svbA n c g e opn sz ro m c2 h e2 opn2 sz2 ro2 G (i8 - 1), (sA10 n g e opn sz ro m h e2 opn2 sz2 ro2 G), 0, ⟨[], (((sA47 m i8) ∧ (((G (i8 - 1) 0) == (0 : Int)) = true)) ∧ (sA26 i8))⟩) := by kernel_rfl
theorem svbr0_k (hx : i8 ≤ m ∧ (m : Int) ≤ 9223372036854775807) (h0 : (0 : Int) < ((i8 : Nat) : Int)) (h1 : (G (i8 - 1) 0) = (0 : Int)) : KC Tryz.prog none svbX (svbA n c g e opn sz ro m c2 h e2 opn2 sz2 ro2 G i8).act (wS 6 (svbL n c g e opn sz ro m c2 h e2 opn2 sz2 ro2 G i8)) .normal (svbA n c g e opn sz ro m c2 h e2 opn2 sz2 ro2 G (i8 - 1)).act (wS 6 (svbL n c g e opn sz ro m c2 h e2 opn2 sz2 ro2 G (i8 - 1))) 10 0 :=
  seenK_ok smx svbK_ok sng (svbr0_eq n c g e opn sz ro m c2 h e2 opn2 sz2 ro2 G i8) kq
theorem svbr1_eq : seenK 6 4 [] 288 0 (svbr1 n c g e opn sz ro m c2 h e2 opn2 sz2 ro2 G i8) = some ((.exit 2), svbr1E n c g e opn sz ro m c2 h e2 opn2 sz2 ro2 G i8, (sA10 n g e opn sz ro m h e2 opn2 sz2 ro2 G), 0, ⟨[], ((sA47 m i8) ∧ (((G (i8 - 1) 0) == (0 : Int)) = false))⟩) := by kernel_rfl
abbrev sA48 := wS 6 (sA10 n g e opn sz ro m h e2 opn2 sz2 ro2 G)
theorem svbr1_k (hx : i8 ≤ m ∧ (m : Int) ≤ 9223372036854775807) (h0 : (0 : Int) < ((i8 : Nat) : Int)) (h1 : (G (i8 - 1) 0) ≠ (0 : Int)) : KC Tryz.prog none svbX (svbA n c g e opn sz ro m c2 h e2 opn2 sz2 ro2 G i8).act (wS 6 (svbL n c g e opn sz ro m c2 h e2 opn2 sz2 ro2 G i8)) (.exit 2) (svbr1E n c g e opn sz ro m c2 h e2 opn2 sz2 ro2 G i8).act (sA48 n g e opn sz ro m h e2 opn2 sz2 ro2 G) 10 0 :=
  seenK_ok smx svbK_ok sng (svbr1_eq n c g e opn sz ro m c2 h e2 opn2 sz2 ro2 G i8) kq
theorem svbr2_eq : seenK 6 4 [] 288 0 (svbr2 n c g e opn sz ro m c2 h e2 opn2 sz2 ro2 G i8) = some ((.exit 2), svbr2E n c g e opn sz ro m c2 h e2 opn2 sz2 ro2 G i8, (sA10 n g e opn sz ro m h e2 opn2 sz2 ro2 G), 0, ⟨[], (sA33 i8)⟩) := by kernel_rfl
theorem svbr2_k (hx : i8 ≤ m ∧ (m : Int) ≤ 9223372036854775807) (h0 : ¬ (0 : Int) < ((i8 : Nat) : Int)) : KC Tryz.prog none svbX (svbA n c g e opn sz ro m c2 h e2 opn2 sz2 ro2 G i8).act (wS 6 (svbL n c g e opn sz ro m c2 h e2 opn2 sz2 ro2 G i8)) (.exit 2) (svbr2E n c g e opn sz ro m c2 h e2 opn2 sz2 ro2 G i8).act (sA48 n g e opn sz ro m h e2 opn2 sz2 ro2 G) 10 0 :=
  seenK_ok smx svbK_ok sng (svbr2_eq n c g e opn sz ro m c2 h e2 opn2 sz2 ro2 G i8) kq
theorem svb_pos (ht : tt ≤ m) (hb : (m : Int) ≤ 9223372036854775807) (hz : ∀ i, tt ≤ i → i < m → G i 0 = 0) (h0 : 0 < tt) (hl : G (tt - 1) 0 ≠ 0) : KC Tryz.prog none (.loop svbX) (svbA n c g e opn sz ro m c2 h e2 opn2 sz2 ro2 G m).act (wS 6 (svbL n c g e opn sz ro m c2 h e2 opn2 sz2 ro2 G m)) (.exit 2) (svbr1E n c g e opn sz ro m c2 h e2 opn2 sz2 ro2 G tt).act (wS 6 [.rows n 1 (fun i j => .int .i64 (g i j)) e opn sz ro, .rows m 1 (fun i j => .int .i64 (h i j)) e2 opn2 sz2 ro2, .cells [] 3 false 0 false, .rows m 1 (fun i j => .int .i64 (G i j)) 3 true 1 false]) 10 0 := by
  have e0 : m - (m - tt) = tt := by omega
  have hE := svbr1_k n c g e opn sz ro m c2 h e2 opn2 sz2 ro2 G tt ⟨ht, hb⟩ (by omega) hl
  have hG : ∀ i, i < m - tt → KC Tryz.prog none svbX (svbA n c g e opn sz ro m c2 h e2 opn2 sz2 ro2 G (m - i)).act (wS 6 (svbL n c g e opn sz ro m c2 h e2 opn2 sz2 ro2 G (m - i))) .normal (svbA n c g e opn sz ro m c2 h e2 opn2 sz2 ro2 G (m - (i + 1))).act (wS 6 (svbL n c g e opn sz ro m c2 h e2 opn2 sz2 ro2 G (m - (i + 1)))) 10 0 := fun i hi => by
    have hk := svbr0_k n c g e opn sz ro m c2 h e2 opn2 sz2 ro2 G (m - i) ⟨by omega, by omega⟩ (by omega) (hz _ (by omega) (by omega))
    rw [show m - i - 1 = m - (i + 1) by omega] at hk
    exact hk
  exact K_rounds (A := fun i => (svbA n c g e opn sz ro m c2 h e2 opn2 sz2 ro2 G (m - i)).act) (S := fun i => wS 6 (svbL n c g e opn sz ro m c2 h e2 opn2 sz2 ro2 G (m - i))) (m - tt) hG (by
    show KC _ _ _ (svbA n c g e opn sz ro m c2 h e2 opn2 sz2 ro2 G (m - (m - tt))).act (wS 6 (svbL n c g e opn sz ro m c2 h e2 opn2 sz2 ro2 G (m - (m - tt)))) _ _ _ _ _
    rw [e0]; exact hE) (by simp)
theorem svb_nil (ht : tt ≤ m) (hb : (m : Int) ≤ 9223372036854775807) (hz : ∀ i, tt ≤ i → i < m → G i 0 = 0) (h0 : tt = 0) : KC Tryz.prog none (.loop svbX) (svbA n c g e opn sz ro m c2 h e2 opn2 sz2 ro2 G m).act (wS 6 (svbL n c g e opn sz ro m c2 h e2 opn2 sz2 ro2 G m)) (.exit 2) (svbr2E n c g e opn sz ro m c2 h e2 opn2 sz2 ro2 G tt).act (wS 6 [.rows n 1 (fun i j => .int .i64 (g i j)) e opn sz ro, .rows m 1 (fun i j => .int .i64 (h i j)) e2 opn2 sz2 ro2, .cells [] 3 false 0 false, .rows m 1 (fun i j => .int .i64 (G i j)) 3 true 1 false]) 10 0 := by
  have e0 : m - (m - tt) = tt := by omega
  have hE := svbr2_k n c g e opn sz ro m c2 h e2 opn2 sz2 ro2 G tt ⟨ht, hb⟩ (by omega)
  have hG : ∀ i, i < m - tt → KC Tryz.prog none svbX (svbA n c g e opn sz ro m c2 h e2 opn2 sz2 ro2 G (m - i)).act (wS 6 (svbL n c g e opn sz ro m c2 h e2 opn2 sz2 ro2 G (m - i))) .normal (svbA n c g e opn sz ro m c2 h e2 opn2 sz2 ro2 G (m - (i + 1))).act (wS 6 (svbL n c g e opn sz ro m c2 h e2 opn2 sz2 ro2 G (m - (i + 1)))) 10 0 := fun i hi => by
    have hk := svbr0_k n c g e opn sz ro m c2 h e2 opn2 sz2 ro2 G (m - i) ⟨by omega, by omega⟩ (by omega) (hz _ (by omega) (by omega))
    rw [show m - i - 1 = m - (i + 1) by omega] at hk
    exact hk
  exact K_rounds (A := fun i => (svbA n c g e opn sz ro m c2 h e2 opn2 sz2 ro2 G (m - i)).act) (S := fun i => wS 6 (svbL n c g e opn sz ro m c2 h e2 opn2 sz2 ro2 G (m - i))) (m - tt) hG (by
    show KC _ _ _ (svbA n c g e opn sz ro m c2 h e2 opn2 sz2 ro2 G (m - (m - tt))).act (wS 6 (svbL n c g e opn sz ro m c2 h e2 opn2 sz2 ro2 G (m - (m - tt)))) _ _ _ _ _
    rw [e0]; exact hE) (by simp)
theorem svK_ok : FOkS Tryz.prog svK := noXS_ok
abbrev sA49 : List MObj := [.rows tt 1 (fun i j => .int .i64 ((addR h g n) i j)) 3 true 1 false]
noncomputable abbrev sA50 := (((True ∧ ((sA35 n m) = true)) ∧ ((false != false) = false)) ∧ ((m = m) ∧ ((m ≠ (0 : Nat)) ∧ ((m * 8) ≤ (140737488355328 : Nat))))) ∧ ((((svaA n c g e opn sz ro m c2 h e2 opn2 sz2 ro2 (0 : Nat) h) = (svaA n c g e opn sz ro m c2 h e2 opn2 sz2 ro2 (0 : Nat) h)) ∧ ((10 = (6 + 4)) ∧ ((HAppend.hAppend sA36 (svaL n c g e opn sz ro m c2 h e2 opn2 sz2 ro2 (0 : Nat) h)) = (HAppend.hAppend sA36 (svaL n c g e opn sz ro m c2 h e2 opn2 sz2 ro2 (0 : Nat) h))))) ∧ KC Tryz.prog none (.loop svaX) (svaA n c g e opn sz ro m c2 h e2 opn2 sz2 ro2 0 h).act (wS 6 (svaL n c g e opn sz ro m c2 h e2 opn2 sz2 ro2 0 h)) (.exit 0) (sA11 n c g e opn sz ro m c2 h e2 opn2 sz2 ro2).act (sA46 n g e opn sz ro m h e2 opn2 sz2 ro2) 10 512)
abbrev sA51 := HAppend.hAppend sA36 (svbL n c g e opn sz ro m c2 h e2 opn2 sz2 ro2 (addR h g n) m)
abbrev sA52 := ((sA13 n c g e opn sz ro m c2 h e2 opn2 sz2 ro2) = (sA13 n c g e opn sz ro m c2 h e2 opn2 sz2 ro2)) ∧ ((10 = (6 + 4)) ∧ ((sA51 n c g e opn sz ro m c2 h e2 opn2 sz2 ro2) = (sA51 n c g e opn sz ro m c2 h e2 opn2 sz2 ro2)))
abbrev sA53 := (sA40 tt) ∧ ((tt ≤ m) ∧ ((m = m) ∧ (m = m)))
theorem svf0_eq : seenF' Tryz.prog Tryz.f75 6 2 [9] (svf0 n c g e opn sz ro m c2 h e2 opn2 sz2 ro2 tt) = some (.slice (some ⟨8, 0, none⟩) tt tt, svS n c g e opn sz ro m c2 h e2 opn2 sz2 ro2 ++ (sA49 n g h tt), ⟨[], (((sA50 n c g e opn sz ro m c2 h e2 opn2 sz2 ro2) ∧ ((sA52 n c g e opn sz ro m c2 h e2 opn2 sz2 ro2) ∧ KC Tryz.prog none (.loop svbX) (sA13 n c g e opn sz ro m c2 h e2 opn2 sz2 ro2).act (wS 6 (svbL n c g e opn sz ro m c2 h e2 opn2 sz2 ro2 (addR h g n) m)) (.exit 2) (svbr1E n c g e opn sz ro m c2 h e2 opn2 sz2 ro2 (addR h g n) tt).act (sA46 n g e opn sz ro m h e2 opn2 sz2 ro2) 10 0)) ∧ (sA53 m tt))⟩) := by kernel_rfl
abbrev sA54 := wS 6 (svS n c g e opn sz ro m c2 h e2 opn2 sz2 ro2 ++ (sA49 n g h tt))
theorem svf0_s (hx : n ≤ m ∧ (m : Int) ≤ 9223372036854775807 ∧ (m : Int) ≤ 1048576 ∧ tt ≤ m ∧ 0 < m) (h0 : ((n : Nat) : Int) < ((m : Nat) : Int)) (l0 : KC Tryz.prog none (.loop svaX) (svaA n c g e opn sz ro m c2 h e2 opn2 sz2 ro2 0 h).act (wS 6 (svaL n c g e opn sz ro m c2 h e2 opn2 sz2 ro2 0 h)) (.exit 0) (sA11 n c g e opn sz ro m c2 h e2 opn2 sz2 ro2).act (sA46 n g e opn sz ro m h e2 opn2 sz2 ro2) 10 512) (l1 : KC Tryz.prog none (.loop svbX) (sA13 n c g e opn sz ro m c2 h e2 opn2 sz2 ro2).act (wS 6 (svbL n c g e opn sz ro m c2 h e2 opn2 sz2 ro2 (addR h g n) m)) (.exit 2) (svbr1E n c g e opn sz ro m c2 h e2 opn2 sz2 ro2 (addR h g n) tt).act (sA46 n g e opn sz ro m h e2 opn2 sz2 ro2) 10 0) : SndF Tryz.prog 75 (svArgs n c g e opn sz ro m c2 h e2 opn2 sz2 ro2) (wS 6 (svS n c g e opn sz ro m c2 h e2 opn2 sz2 ro2)) (.slice (some ⟨8, 0, none⟩) tt tt) (sA54 n c g e opn sz ro m c2 h e2 opn2 sz2 ro2 tt) 192 0 :=
  kF (L := svS n c g e opn sz ro m c2 h e2 opn2 sz2 ro2) (L2 := (sA49 n g h tt)) (ms := [9]) svK_ok (svf0_eq n c g e opn sz ro m c2 h e2 opn2 sz2 ro2 tt) kq
theorem svf1_eq : seenF' Tryz.prog Tryz.f75 6 2 [9] (svf1 n c g e opn sz ro m c2 h e2 opn2 sz2 ro2 tt) = some (.slice (some ⟨8, 0, none⟩) tt tt, svS n c g e opn sz ro m c2 h e2 opn2 sz2 ro2 ++ (sA49 n g h tt), ⟨[], (((sA50 n c g e opn sz ro m c2 h e2 opn2 sz2 ro2) ∧ ((sA52 n c g e opn sz ro m c2 h e2 opn2 sz2 ro2) ∧ KC Tryz.prog none (.loop svbX) (sA13 n c g e opn sz ro m c2 h e2 opn2 sz2 ro2).act (wS 6 (svbL n c g e opn sz ro m c2 h e2 opn2 sz2 ro2 (addR h g n) m)) (.exit 2) (svbr2E n c g e opn sz ro m c2 h e2 opn2 sz2 ro2 (addR h g n) tt).act (sA46 n g e opn sz ro m h e2 opn2 sz2 ro2) 10 0)) ∧ (sA53 m tt))⟩) := by kernel_rfl
theorem svf1_s (hx : n ≤ m ∧ (m : Int) ≤ 9223372036854775807 ∧ (m : Int) ≤ 1048576 ∧ tt ≤ m ∧ 0 < m) (h0 : ((n : Nat) : Int) < ((m : Nat) : Int)) (l0 : KC Tryz.prog none (.loop svaX) (svaA n c g e opn sz ro m c2 h e2 opn2 sz2 ro2 0 h).act (wS 6 (svaL n c g e opn sz ro m c2 h e2 opn2 sz2 ro2 0 h)) (.exit 0) (sA11 n c g e opn sz ro m c2 h e2 opn2 sz2 ro2).act (sA46 n g e opn sz ro m h e2 opn2 sz2 ro2) 10 512) (l1 : KC Tryz.prog none (.loop svbX) (sA13 n c g e opn sz ro m c2 h e2 opn2 sz2 ro2).act (wS 6 (svbL n c g e opn sz ro m c2 h e2 opn2 sz2 ro2 (addR h g n) m)) (.exit 2) (svbr2E n c g e opn sz ro m c2 h e2 opn2 sz2 ro2 (addR h g n) tt).act (sA46 n g e opn sz ro m h e2 opn2 sz2 ro2) 10 0) : SndF Tryz.prog 75 (svArgs n c g e opn sz ro m c2 h e2 opn2 sz2 ro2) (wS 6 (svS n c g e opn sz ro m c2 h e2 opn2 sz2 ro2)) (.slice (some ⟨8, 0, none⟩) tt tt) (sA54 n c g e opn sz ro m c2 h e2 opn2 sz2 ro2 tt) 192 0 :=
  kF (L := svS n c g e opn sz ro m c2 h e2 opn2 sz2 ro2) (L2 := (sA49 n g h tt)) (ms := [9]) svK_ok (svf1_eq n c g e opn sz ro m c2 h e2 opn2 sz2 ro2 tt) kq
end
end Go.Proofs.YtbkpnhbcihcgaaaGreatDoor
end
section
set_option linter.all false
set_option maxRecDepth 1000000
open Go.RowKit
namespace Go.Proofs.YtbkpnhbcihcgaaaGreatDoor
open Mini
def plE (n m : Nat) (g h : GI) (i : Nat) : Int := if i < n then (if i < m then (IntKind.i64.wrap ((IntKind.i64.wrap ((0 : Int) + (g i 0))) + (h i 0))) else (IntKind.i64.wrap ((0 : Int) + (g i 0)))) else (IntKind.i64.wrap ((0 : Int) + (h i 0)))
def plR (n m : Nat) (g h : GI) : Nat → GI
  | 0 => (fun i j => ([plE n m g h 0] : List Int).getD (i * 1 + j) 0)
  | k + 1 => pushI (k + 1) (plR n m g h k) [plE n m g h (k + 1)]
theorem plR_at (n m : Nat) (g h : GI) : ∀ k i, i ≤ k → plR n m g h k i 0 = plE n m g h i
  | 0, i, hi => by
    have : i = 0 := by omega
    subst this; rfl
  | k + 1, i, hi => by
    show pushI _ _ _ i 0 = _
    unfold pushI
    by_cases e : i < k + 1
    · rw [if_pos e]; exact plR_at n m g h k i (by omega)
    · have : i = k + 1 := by omega
      subst this
      rw [if_neg (by omega)]
      simp
def mxN (n m : Nat) : Nat := if n < m then m else n
theorem mxN_ge (n m : Nat) : n ≤ mxN n m ∧ m ≤ mxN n m ∧ (mxN n m = n ∨ mxN n m = m) := by unfold mxN; split <;> omega
noncomputable def plaX : Code := loopAt Tryz.prog 80 0
noncomputable def plaK : CallS := noXS
def plaA (n : Nat) (c : Nat) (g : Nat → Nat → Int) (e : TypeId) (opn : Bool) (sz : Nat) (ro : Bool) (m : Nat) (c2 : Nat) (h : Nat → Nat → Int) (e2 : TypeId) (opn2 : Bool) (sz2 : Nat) (ro2 : Bool) : MA := MA.ofL 62 [.slice (some ⟨6, 0, none⟩) n c, .slice (some ⟨7, 0, none⟩) m c2, .chan none, .chan none, .chan none, .slice none 0 0, .int .i64 (0 : Int), .chan none, .chan none, .chan none, .chan none, .chan none, .chan none, .chan none, .chan none, .chan none, .chan none, .chan none, .chan none, .chan none, .chan none, .chan none, .chan none, .chan none, .chan none, .chan none, .chan none, .chan none, .chan none, .chan none, .chan none, .chan none, .chan none, .chan none, .chan none, .chan none, .chan none, .chan none, .chan none, .chan none, .chan none, .chan none, .chan none, .chan none, .chan none, .chan none, .chan none, .chan none, .chan none, .chan none, .chan none, .chan none, .chan none, .chan none, .chan none, .chan none, .chan none, .chan none, .chan none, .chan none, .chan none, .chan none] []
def plaL (n : Nat) (c : Nat) (g : Nat → Nat → Int) (e : TypeId) (opn : Bool) (sz : Nat) (ro : Bool) (m : Nat) (c2 : Nat) (h : Nat → Nat → Int) (e2 : TypeId) (opn2 : Bool) (sz2 : Nat) (ro2 : Bool) : List MObj := [.rows n 1 (fun i j => .int .i64 (g i j)) e opn sz ro, .rows m 1 (fun i j => .int .i64 (h i j)) e2 opn2 sz2 ro2]
def plaA1 (n : Nat) (c : Nat) (g : Nat → Nat → Int) (e : TypeId) (opn : Bool) (sz : Nat) (ro : Bool) (m : Nat) (c2 : Nat) (h : Nat → Nat → Int) (e2 : TypeId) (opn2 : Bool) (sz2 : Nat) (ro2 : Bool) (g2 : Nat → Nat → Int) (m5 : Nat) (i6 : Nat) : MA := MA.ofL 62 [.slice (some ⟨6, 0, none⟩) n c, .slice (some ⟨7, 0, none⟩) m c2, .chan none, .chan none, .chan none, .slice (some ⟨8, 0, none⟩) (m5 + 1) (m5 + 1), .int .i64 ((i6 : Nat) : Int), .chan none, .chan none, .chan none, .chan none, .chan none, .chan none, .chan none, .chan none, .chan none, .chan none, .chan none, .chan none, .chan none, .chan none, .chan none, .chan none, .chan none, .chan none, .chan none, .chan none, .chan none, .chan none, .chan none, .chan none, .chan none, .chan none, .chan none, .chan none, .chan none, .chan none, .chan none, .chan none, .chan none, .chan none, .chan none, .chan none, .chan none, .chan none, .chan none, .chan none, .chan none, .chan none, .chan none, .chan none, .chan none, .chan none, .chan none, .chan none, .chan none, .chan none, .chan none, .chan none, .chan none, .chan none, .chan none] []
def plaL1 (n : Nat) (c : Nat) (g : Nat → Nat → Int) (e : TypeId) (opn : Bool) (sz : Nat) (ro : Bool) (m : Nat) (c2 : Nat) (h : Nat → Nat → Int) (e2 : TypeId) (opn2 : Bool) (sz2 : Nat) (ro2 : Bool) (g2 : Nat → Nat → Int) (m5 : Nat) (i6 : Nat) : List MObj := [.rows n 1 (fun i j => .int .i64 (g i j)) e opn sz ro, .rows m 1 (fun i j => .int .i64 (h i j)) e2 opn2 sz2 ro2, .rows (m5 + 1) 1 (fun i j => .int .i64 (g2 i j)) 3 true 1 false]
noncomputable def plar0 (n : Nat) (c : Nat) (g : Nat → Nat → Int) (e : TypeId) (opn : Bool) (sz : Nat) (ro : Bool) (m : Nat) (c2 : Nat) (h : Nat → Nat → Int) (e2 : TypeId) (opn2 : Bool) (sz2 : Nat) (ro2 : Bool) : Option OutCS := evK Tryz.prog plaK 1000 false plaX (plaA n c g e opn sz ro m c2 h e2 opn2 sz2 ro2) (wS 6 (plaL n c g e opn sz ro m c2 h e2 opn2 sz2 ro2)) ⟨[0, 0, 0, 0, 1, 1, 1, .row 0 0, .row 0 0, 1, .row 0 0, .row 0 0], True⟩
noncomputable def plar4 (n : Nat) (c : Nat) (g : Nat → Nat → Int) (e : TypeId) (opn : Bool) (sz : Nat) (ro : Bool) (m : Nat) (c2 : Nat) (h : Nat → Nat → Int) (e2 : TypeId) (opn2 : Bool) (sz2 : Nat) (ro2 : Bool) (g2 : Nat → Nat → Int) (m5 : Nat) (i6 : Nat) : Option OutCS := evK Tryz.prog plaK 1000 false plaX (plaA1 n c g e opn sz ro m c2 h e2 opn2 sz2 ro2 g2 m5 i6) (wS 6 (plaL1 n c g e opn sz ro m c2 h e2 opn2 sz2 ro2 g2 m5 i6)) ⟨[0, 0, 0, 0, 1, 1, 1, .row i6 0, .row i6 0, 1, .row i6 0, .row i6 0, .row 0 0, .azz (.int .i64 ((i6 + 1 : Nat) : Int))], True⟩
noncomputable def plar5 (n : Nat) (c : Nat) (g : Nat → Nat → Int) (e : TypeId) (opn : Bool) (sz : Nat) (ro : Bool) (m : Nat) (c2 : Nat) (h : Nat → Nat → Int) (e2 : TypeId) (opn2 : Bool) (sz2 : Nat) (ro2 : Bool) (g2 : Nat → Nat → Int) (m5 : Nat) (i6 : Nat) : Option OutCS := evK Tryz.prog plaK 1000 false plaX (plaA1 n c g e opn sz ro m c2 h e2 opn2 sz2 ro2 g2 m5 i6) (wS 6 (plaL1 n c g e opn sz ro m c2 h e2 opn2 sz2 ro2 g2 m5 i6)) ⟨[0, 0, 0, 0, 1, 1, 1, .row i6 0, .row i6 0, 0, .row 0 0, .azz (.int .i64 ((i6 + 1 : Nat) : Int))], True⟩
noncomputable def plar6 (n : Nat) (c : Nat) (g : Nat → Nat → Int) (e : TypeId) (opn : Bool) (sz : Nat) (ro : Bool) (m : Nat) (c2 : Nat) (h : Nat → Nat → Int) (e2 : TypeId) (opn2 : Bool) (sz2 : Nat) (ro2 : Bool) (g2 : Nat → Nat → Int) (m5 : Nat) (i6 : Nat) : Option OutCS := evK Tryz.prog plaK 1000 false plaX (plaA1 n c g e opn sz ro m c2 h e2 opn2 sz2 ro2 g2 m5 i6) (wS 6 (plaL1 n c g e opn sz ro m c2 h e2 opn2 sz2 ro2 g2 m5 i6)) ⟨[1, 1, 1, 1, 0, 1, 0, 1, .row i6 0, .row i6 0, .row 0 0, .azz (.int .i64 ((i6 + 1 : Nat) : Int))], True⟩
noncomputable def plar7 (n : Nat) (c : Nat) (g : Nat → Nat → Int) (e : TypeId) (opn : Bool) (sz : Nat) (ro : Bool) (m : Nat) (c2 : Nat) (h : Nat → Nat → Int) (e2 : TypeId) (opn2 : Bool) (sz2 : Nat) (ro2 : Bool) (g2 : Nat → Nat → Int) (m5 : Nat) (i6 : Nat) : Option OutCS := evK Tryz.prog plaK 1000 false plaX (plaA1 n c g e opn sz ro m c2 h e2 opn2 sz2 ro2 g2 m5 i6) (wS 6 (plaL1 n c g e opn sz ro m c2 h e2 opn2 sz2 ro2 g2 m5 i6)) ⟨[1, 1, 1, 1, 0, 0], True⟩
def plar7E (n : Nat) (c : Nat) (g : Nat → Nat → Int) (e : TypeId) (opn : Bool) (sz : Nat) (ro : Bool) (m : Nat) (c2 : Nat) (h : Nat → Nat → Int) (e2 : TypeId) (opn2 : Bool) (sz2 : Nat) (ro2 : Bool) (g2 : Nat → Nat → Int) (m5 : Nat) (i6 : Nat) : MA := MA.ofL 62 [.chan none, .chan none, .chan none, .chan none, .chan none, .slice (some ⟨8, 0, none⟩) (m5 + 1) (m5 + 1), .chan none, .chan none, .chan none, .chan none, .chan none, .chan none, .chan none, .chan none, .chan none, .chan none, .chan none, .chan none, .chan none, .chan none, .chan none, .chan none, .chan none, .chan none, .chan none, .chan none, .chan none, .chan none, .chan none, .chan none, .chan none, .chan none, .chan none, .chan none, .chan none, .chan none, .chan none, .chan none, .chan none, .chan none, .chan none, .chan none, .chan none, .chan none, .chan none, .chan none, .chan none, .chan none, .chan none, .chan none, .chan none, .chan none, .chan none, .chan none, .chan none, .chan none, .chan none, .chan none, .chan none, .chan none, .chan none, .chan none] []
noncomputable def plbX : Code := loopAt Tryz.prog 80 1
noncomputable def plbK : CallS := noXS
def plbA (n : Nat) (c : Nat) (g : Nat → Nat → Int) (e : TypeId) (opn : Bool) (sz : Nat) (ro : Bool) (m : Nat) (c2 : Nat) (h : Nat → Nat → Int) (e2 : TypeId) (opn2 : Bool) (sz2 : Nat) (ro2 : Bool) (G : Nat → Nat → Int) (q : Nat) : MA := MA.ofL 62 [.chan none, .chan none, .chan none, .chan none, .chan none, .slice (some ⟨8, 0, none⟩) q q, .chan none, .chan none, .chan none, .chan none, .chan none, .chan none, .chan none, .chan none, .chan none, .chan none, .chan none, .chan none, .chan none, .chan none, .chan none, .chan none, .chan none, .chan none, .chan none, .chan none, .chan none, .chan none, .chan none, .chan none, .chan none, .chan none, .chan none, .chan none, .chan none, .chan none, .chan none, .chan none, .chan none, .chan none, .chan none, .chan none, .chan none, .chan none, .chan none, .chan none, .chan none, .chan none, .chan none, .chan none, .chan none, .chan none, .chan none, .chan none, .chan none, .chan none, .chan none, .chan none, .chan none, .chan none, .chan none, .chan none] []
def plbL (n : Nat) (c : Nat) (g : Nat → Nat → Int) (e : TypeId) (opn : Bool) (sz : Nat) (ro : Bool) (m : Nat) (c2 : Nat) (h : Nat → Nat → Int) (e2 : TypeId) (opn2 : Bool) (sz2 : Nat) (ro2 : Bool) (G : Nat → Nat → Int) (q : Nat) : List MObj := [.rows n 1 (fun i j => .int .i64 (g i j)) e opn sz ro, .rows m 1 (fun i j => .int .i64 (h i j)) e2 opn2 sz2 ro2, .rows q 1 (fun i j => .int .i64 (G i j)) 3 true 1 false]
noncomputable def plbr0 (n : Nat) (c : Nat) (g : Nat → Nat → Int) (e : TypeId) (opn : Bool) (sz : Nat) (ro : Bool) (m : Nat) (c2 : Nat) (h : Nat → Nat → Int) (e2 : TypeId) (opn2 : Bool) (sz2 : Nat) (ro2 : Bool) (G : Nat → Nat → Int) (q : Nat) : Option OutCS := evK Tryz.prog plbK 1000 false plbX (plbA n c g e opn sz ro m c2 h e2 opn2 sz2 ro2 G q) (wS 6 (plbL n c g e opn sz ro m c2 h e2 opn2 sz2 ro2 G q)) ⟨[1, 1, 1, 1, .azz (.int .i64 (((q - 1) : Nat) : Int)), 1, .row (q - 1) 0, 1, .row (q - 1) 0, 1, 1, 1, .azz (.int .i64 ((q : Nat) : Int)), .azz (.int .i64 (((q - 1) : Nat) : Int)), .row (q - 1) 0], True⟩
noncomputable def plbr1 (n : Nat) (c : Nat) (g : Nat → Nat → Int) (e : TypeId) (opn : Bool) (sz : Nat) (ro : Bool) (m : Nat) (c2 : Nat) (h : Nat → Nat → Int) (e2 : TypeId) (opn2 : Bool) (sz2 : Nat) (ro2 : Bool) (G : Nat → Nat → Int) (q : Nat) : Option OutCS := evK Tryz.prog plbK 1000 false plbX (plbA n c g e opn sz ro m c2 h e2 opn2 sz2 ro2 G q) (wS 6 (plbL n c g e opn sz ro m c2 h e2 opn2 sz2 ro2 G q)) ⟨[1, 1, 1, 1, .azz (.int .i64 (((q - 1) : Nat) : Int)), 1, .row (q - 1) 0, 1, .row (q - 1) 0, 1, 1, 0], True⟩
def plbr1E (n : Nat) (c : Nat) (g : Nat → Nat → Int) (e : TypeId) (opn : Bool) (sz : Nat) (ro : Bool) (m : Nat) (c2 : Nat) (h : Nat → Nat → Int) (e2 : TypeId) (opn2 : Bool) (sz2 : Nat) (ro2 : Bool) (G : Nat → Nat → Int) (q : Nat) : MA := MA.ofL 62 [.chan none, .chan none, .chan none, .chan none, .chan none, .slice (some ⟨8, 0, none⟩) q q, .chan none, .chan none, .chan none, .chan none, .chan none, .chan none, .chan none, .chan none, .chan none, .chan none, .chan none, .chan none, .chan none, .chan none, .chan none, .chan none, .chan none, .chan none, .chan none, .chan none, .chan none, .chan none, .chan none, .chan none, .chan none, .chan none, .chan none, .chan none, .chan none, .chan none, .chan none, .chan none, .chan none, .chan none, .chan none, .chan none, .chan none, .chan none, .chan none, .chan none, .chan none, .chan none, .chan none, .chan none, .chan none, .chan none, .chan none, .chan none, .chan none, .chan none, .chan none, .chan none, .chan none, .chan none, .chan none, .chan none] []
noncomputable def plbr2 (n : Nat) (c : Nat) (g : Nat → Nat → Int) (e : TypeId) (opn : Bool) (sz : Nat) (ro : Bool) (m : Nat) (c2 : Nat) (h : Nat → Nat → Int) (e2 : TypeId) (opn2 : Bool) (sz2 : Nat) (ro2 : Bool) (G : Nat → Nat → Int) (q : Nat) : Option OutCS := evK Tryz.prog plbK 1000 false plbX (plbA n c g e opn sz ro m c2 h e2 opn2 sz2 ro2 G q) (wS 6 (plbL n c g e opn sz ro m c2 h e2 opn2 sz2 ro2 G q)) ⟨[0, 0, 0, 0, 0, 0, 0, 0, 0], True⟩
def plbr2E (n : Nat) (c : Nat) (g : Nat → Nat → Int) (e : TypeId) (opn : Bool) (sz : Nat) (ro : Bool) (m : Nat) (c2 : Nat) (h : Nat → Nat → Int) (e2 : TypeId) (opn2 : Bool) (sz2 : Nat) (ro2 : Bool) (G : Nat → Nat → Int) (q : Nat) : MA := MA.ofL 62 [.chan none, .chan none, .chan none, .chan none, .chan none, .slice (some ⟨8, 0, none⟩) q q, .chan none, .chan none, .chan none, .chan none, .chan none, .chan none, .chan none, .chan none, .chan none, .chan none, .chan none, .chan none, .chan none, .chan none, .chan none, .chan none, .chan none, .chan none, .chan none, .chan none, .chan none, .chan none, .chan none, .chan none, .chan none, .chan none, .chan none, .chan none, .chan none, .chan none, .chan none, .chan none, .chan none, .chan none, .chan none, .chan none, .chan none, .chan none, .chan none, .chan none, .chan none, .chan none, .chan none, .chan none, .chan none, .chan none, .chan none, .chan none, .chan none, .chan none, .chan none, .chan none, .chan none, .chan none, .chan none, .chan none] []
noncomputable def plK : CallS := noXS
def plArgs (n : Nat) (c : Nat) (g : Nat → Nat → Int) (e : TypeId) (opn : Bool) (sz : Nat) (ro : Bool) (m : Nat) (c2 : Nat) (h : Nat → Nat → Int) (e2 : TypeId) (opn2 : Bool) (sz2 : Nat) (ro2 : Bool) : Array Value := #[.slice (some ⟨6, 0, none⟩) n c, .slice (some ⟨7, 0, none⟩) m c2]
def plS (n : Nat) (c : Nat) (g : Nat → Nat → Int) (e : TypeId) (opn : Bool) (sz : Nat) (ro : Bool) (m : Nat) (c2 : Nat) (h : Nat → Nat → Int) (e2 : TypeId) (opn2 : Bool) (sz2 : Nat) (ro2 : Bool) : List MObj := [.rows n 1 (fun i j => .int .i64 (g i j)) e opn sz ro, .rows m 1 (fun i j => .int .i64 (h i j)) e2 opn2 sz2 ro2]
noncomputable def plf0 (n : Nat) (c : Nat) (g : Nat → Nat → Int) (e : TypeId) (opn : Bool) (sz : Nat) (ro : Bool) (m : Nat) (c2 : Nat) (h : Nat → Nat → Int) (e2 : TypeId) (opn2 : Bool) (sz2 : Nat) (ro2 : Bool) (tt : Nat) (qq : Nat) : Option OutCS := evK Tryz.prog plK 1000 false (bodyOf Tryz.prog 80) (startM Tryz.f80 (plArgs n c g e opn sz ro m c2 h e2 opn2 sz2 ro2)) (wS 6 (plS n c g e opn sz ro m c2 h e2 opn2 sz2 ro2)) ⟨[.lp 99 (plaA n c g e opn sz ro m c2 h e2 opn2 sz2 ro2) 6 (plaL n c g e opn sz ro m c2 h e2 opn2 sz2 ro2 ) (.exit 0) (plar7E n c g e opn sz ro m c2 h e2 opn2 sz2 ro2 (plR n m g h qq) qq (qq + 1)) [.rows n 1 (fun i j => .int .i64 (g i j)) e opn sz ro, .rows m 1 (fun i j => .int .i64 (h i j)) e2 opn2 sz2 ro2, .rows (qq + 1) 1 (fun i j => .int .i64 ((plR n m g h qq) i j)) 3 true 1 false] 8 256, .lp 32 (plbA n c g e opn sz ro m c2 h e2 opn2 sz2 ro2 (plR n m g h qq) (qq + 1)) 6 (plbL n c g e opn sz ro m c2 h e2 opn2 sz2 ro2 (plR n m g h qq) (qq + 1)) (.exit 2) (plbr1E n c g e opn sz ro m c2 h e2 opn2 sz2 ro2 (plR n m g h qq) tt) [.rows n 1 (fun i j => .int .i64 (g i j)) e opn sz ro, .rows m 1 (fun i j => .int .i64 (h i j)) e2 opn2 sz2 ro2, .rows tt 1 (fun i j => .int .i64 ((plR n m g h qq) i j)) 3 true 1 false] 9 256], True⟩
noncomputable def plf1 (n : Nat) (c : Nat) (g : Nat → Nat → Int) (e : TypeId) (opn : Bool) (sz : Nat) (ro : Bool) (m : Nat) (c2 : Nat) (h : Nat → Nat → Int) (e2 : TypeId) (opn2 : Bool) (sz2 : Nat) (ro2 : Bool) (tt : Nat) (qq : Nat) : Option OutCS := evK Tryz.prog plK 1000 false (bodyOf Tryz.prog 80) (startM Tryz.f80 (plArgs n c g e opn sz ro m c2 h e2 opn2 sz2 ro2)) (wS 6 (plS n c g e opn sz ro m c2 h e2 opn2 sz2 ro2)) ⟨[.lp 99 (plaA n c g e opn sz ro m c2 h e2 opn2 sz2 ro2) 6 (plaL n c g e opn sz ro m c2 h e2 opn2 sz2 ro2 ) (.exit 0) (plar7E n c g e opn sz ro m c2 h e2 opn2 sz2 ro2 (plR n m g h qq) qq (qq + 1)) [.rows n 1 (fun i j => .int .i64 (g i j)) e opn sz ro, .rows m 1 (fun i j => .int .i64 (h i j)) e2 opn2 sz2 ro2, .rows (qq + 1) 1 (fun i j => .int .i64 ((plR n m g h qq) i j)) 3 true 1 false] 8 256, .lp 32 (plbA n c g e opn sz ro m c2 h e2 opn2 sz2 ro2 (plR n m g h qq) (qq + 1)) 6 (plbL n c g e opn sz ro m c2 h e2 opn2 sz2 ro2 (plR n m g h qq) (qq + 1)) (.exit 2) (plbr2E n c g e opn sz ro m c2 h e2 opn2 sz2 ro2 (plR n m g h qq) tt) [.rows n 1 (fun i j => .int .i64 (g i j)) e opn sz ro, .rows m 1 (fun i j => .int .i64 (h i j)) e2 opn2 sz2 ro2, .rows tt 1 (fun i j => .int .i64 ((plR n m g h qq) i j)) 3 true 1 false] 9 256], True⟩
theorem plaK_ok : FOkS Tryz.prog plaK := noXS_ok
theorem plar0_eq (n : Nat) (c : Nat) (g : Nat → Nat → Int) (e : TypeId) (opn : Bool) (sz : Nat) (ro : Bool) (m : Nat) (c2 : Nat) (h : Nat → Nat → Int) (e2 : TypeId) (opn2 : Bool) (sz2 : Nat) (ro2 : Bool) : seenK 6 2 [9] 99 256 (plar0 n c g e opn sz ro m c2 h e2 opn2 sz2 ro2) = some (.normal, plaA1 n c g e opn sz ro m c2 h e2 opn2 sz2 ro2 (fun i j => ([(IntKind.i64.wrap ((IntKind.i64.wrap ((0 : Int) + (g 0 0))) + (h 0 0)))] : List Int).getD (i * 1 + j) 0) 0 1, [.rows n 1 (fun i j => .int .i64 (g i j)) e opn sz ro, .rows m 1 (fun i j => .int .i64 (h i j)) e2 opn2 sz2 ro2, .cells [.int .i64 (IntKind.i64.wrap ((IntKind.i64.wrap ((0 : Int) + (g 0 0))) + (h 0 0)))] 3 true 1 false], 256, ⟨[], ((((((((((((True ∧ ((decide ((0 : Int) < (((n : Nat)) : Int))) = true)) ∧ ((decide ((0 : Int) < (((n : Nat)) : Int))) = true)) ∧ ((decide ((0 : Int) < (((n : Nat)) : Int))) = true)) ∧ ((decide ((0 : Int) < (((n : Nat)) : Int))) = true)) ∧ ((decide ((0 : Int) < (((n : Nat)) : Int))) = true)) ∧ (true = true)) ∧ ((decide ((0 : Int) < (((n : Nat)) : Int))) = true)) ∧ (((0 : Int) = (Int.ofNat (0 : Nat))) ∧ ((0 : Nat) < n))) ∧ ((0 = 0) ∧ ((0 : Nat) < n))) ∧ ((decide ((0 : Int) < (((m : Nat)) : Int))) = true)) ∧ (((0 : Int) = (Int.ofNat (0 : Nat))) ∧ ((0 : Nat) < m))) ∧ ((0 = 0) ∧ ((0 : Nat) < m)))⟩) := by kernel_rfl
theorem plar0_k (n : Nat) (c : Nat) (g : Nat → Nat → Int) (e : TypeId) (opn : Bool) (sz : Nat) (ro : Bool) (m : Nat) (c2 : Nat) (h : Nat → Nat → Int) (e2 : TypeId) (opn2 : Bool) (sz2 : Nat) (ro2 : Bool) (hx : 0 < n ∧ n ≤ 1000 ∧ 0 < m ∧ m ≤ 1000) (h0 : (0 : Int) < ((n : Nat) : Int)) (h1 : (0 : Int) < ((m : Nat) : Int)) : KC Tryz.prog none plaX (plaA n c g e opn sz ro m c2 h e2 opn2 sz2 ro2).act (wS 6 (plaL n c g e opn sz ro m c2 h e2 opn2 sz2 ro2)) .normal (plaA1 n c g e opn sz ro m c2 h e2 opn2 sz2 ro2 (fun i j => ([(IntKind.i64.wrap ((IntKind.i64.wrap ((0 : Int) + (g 0 0))) + (h 0 0)))] : List Int).getD (i * 1 + j) 0) 0 1).act (wS 6 (plaL1 n c g e opn sz ro m c2 h e2 opn2 sz2 ro2 (fun i j => ([(IntKind.i64.wrap ((IntKind.i64.wrap ((0 : Int) + (g 0 0))) + (h 0 0)))] : List Int).getD (i * 1 + j) 0) 0 1)) 8 256 := by
  refine KT.toldAs (L := [.rows n 1 (fun i j => .int .i64 (g i j)) e opn sz ro, .rows m 1 (fun i j => .int .i64 (h i j)) e2 opn2 sz2 ro2, .cells [.int .i64 (IntKind.i64.wrap ((IntKind.i64.wrap ((0 : Int) + (g 0 0))) + (h 0 0)))] 3 true 1 false]) ?_ (by
    simp only [List.map_cons, List.map_nil, plaL, plaL1]
    repeat' (first | rfl | exact rows_nrm (fun i j hi hj => push_told hi hj) | exact rows_nrm (fun i j hi hj => set_told) | exact rows_nrm (fun i j hi hj => rfl) | refine congr (congrArg List.cons ?_) ?_))
  refine seenK_ok smx plaK_ok sng (plar0_eq n c g e opn sz ro m c2 h e2 opn2 sz2 ro2) ?_
  · skip
    repeat' (first | (with_reducible assumption) | exact (fun _ _ _ _ => rfl) | apply And.intro)
    all_goals first | trivial | rfl | assumption | exact wsub1N (by omega) (by omega) | exact decide_eq_true (by omega) | exact decide_eq_false (by omega) | exact bne_iff_ne.2 (by assumption) | exact bne_eq_false_iff_eq.2 (by assumption) | exact beq_iff_eq.2 (by assumption) | exact beq_eq_false_iff_ne.2 (by assumption) | exact wnextW (by omega) | exact wsub1 (by omega) (by omega) | exact toNatO (by omega) | exact congrArg Bool.not (by assumption) | exact congrArg Bool.not (decide_eq_true (by omega)) | exact congrArg Bool.not (decide_eq_false (by omega)) | exact congrArg Bool.not (beq_iff_eq.2 (by assumption)) | exact congrArg Bool.not (beq_eq_false_iff_ne.2 (by assumption)) | exact beq_eq_false_iff_ne.2 (by omega) | exact beq_iff_eq.2 (by omega) | exact bne_iff_ne.2 (by omega) | exact bne_eq_false_iff_eq.2 (by omega) | omega
theorem plar4_eq (n : Nat) (c : Nat) (g : Nat → Nat → Int) (e : TypeId) (opn : Bool) (sz : Nat) (ro : Bool) (m : Nat) (c2 : Nat) (h : Nat → Nat → Int) (e2 : TypeId) (opn2 : Bool) (sz2 : Nat) (ro2 : Bool) (g2 : Nat → Nat → Int) (m5 : Nat) (i6 : Nat) : seenK 6 2 [10] 99 256 (plar4 n c g e opn sz ro m c2 h e2 opn2 sz2 ro2 g2 m5 i6) = some (.normal, plaA1 n c g e opn sz ro m c2 h e2 opn2 sz2 ro2 (pushI (m5 + 1) g2 [(IntKind.i64.wrap ((IntKind.i64.wrap ((0 : Int) + (g i6 0))) + (h i6 0)))]) (m5 + 1) (i6 + 1), [.rows n 1 (fun i j => .int .i64 (g i j)) e opn sz ro, .rows m 1 (fun i j => .int .i64 (h i j)) e2 opn2 sz2 ro2, .rows (m5 + 2) 1 (fun i j => tellV (invN 8 [10]) 8 ((pushRow (m5 + 1) 1 (fun i j => .int .i64 (g2 i j)) [.int .i64 (IntKind.i64.wrap ((IntKind.i64.wrap ((0 : Int) + (g i6 0))) + (h i6 0)))]) i j)) 3 true 1 false], 256, ⟨[], ((((((((((((((True ∧ ((decide ((((i6 : Nat)) : Int) < (((n : Nat)) : Int))) = true)) ∧ ((decide ((((i6 : Nat)) : Int) < (((n : Nat)) : Int))) = true)) ∧ ((decide ((((i6 : Nat)) : Int) < (((n : Nat)) : Int))) = true)) ∧ ((decide ((((i6 : Nat)) : Int) < (((n : Nat)) : Int))) = true)) ∧ ((decide ((((i6 : Nat)) : Int) < (((n : Nat)) : Int))) = true)) ∧ (true = true)) ∧ ((decide ((((i6 : Nat)) : Int) < (((n : Nat)) : Int))) = true)) ∧ (((((i6 : Nat)) : Int) = (Int.ofNat i6)) ∧ (i6 < n))) ∧ (((0 + (i6 * 1)) = ((i6 * 1) + 0)) ∧ (i6 < n))) ∧ ((decide ((((i6 : Nat)) : Int) < (((m : Nat)) : Int))) = true)) ∧ (((((i6 : Nat)) : Int) = (Int.ofNat i6)) ∧ (i6 < m))) ∧ (((0 + (i6 * 1)) = ((i6 * 1) + 0)) ∧ (i6 < m))) ∧ (((m5 + 1) = (m5 + 1)) ∧ (((m5 + 1) = (m5 + 1)) ∧ ((((m5 + 1) + 1) * 8) ≤ (140737488355328 : Nat))))) ∧ (((.int .i64 (IntKind.i64.wrap ((((i6 : Nat)) : Int) + (1 : Int)))) : Value) = (.int .i64 ((((i6 + 1) : Nat)) : Int))))⟩) := by kernel_rfl
theorem plar4_k (n : Nat) (c : Nat) (g : Nat → Nat → Int) (e : TypeId) (opn : Bool) (sz : Nat) (ro : Bool) (m : Nat) (c2 : Nat) (h : Nat → Nat → Int) (e2 : TypeId) (opn2 : Bool) (sz2 : Nat) (ro2 : Bool) (g2 : Nat → Nat → Int) (m5 : Nat) (i6 : Nat) (hx : 0 < n ∧ n ≤ 1000 ∧ 0 < m ∧ m ≤ 1000 ∧ i6 = m5 + 1 ∧ m5 ≤ 1000) (h0 : ((i6 : Nat) : Int) < ((n : Nat) : Int)) (h1 : ((i6 : Nat) : Int) < ((m : Nat) : Int)) : KC Tryz.prog none plaX (plaA1 n c g e opn sz ro m c2 h e2 opn2 sz2 ro2 g2 m5 i6).act (wS 6 (plaL1 n c g e opn sz ro m c2 h e2 opn2 sz2 ro2 g2 m5 i6)) .normal (plaA1 n c g e opn sz ro m c2 h e2 opn2 sz2 ro2 (pushI (m5 + 1) g2 [(IntKind.i64.wrap ((IntKind.i64.wrap ((0 : Int) + (g i6 0))) + (h i6 0)))]) (m5 + 1) (i6 + 1)).act (wS 6 (plaL1 n c g e opn sz ro m c2 h e2 opn2 sz2 ro2 (pushI (m5 + 1) g2 [(IntKind.i64.wrap ((IntKind.i64.wrap ((0 : Int) + (g i6 0))) + (h i6 0)))]) (m5 + 1) (i6 + 1))) 8 256 := by
  refine KT.toldAs (L := [.rows n 1 (fun i j => .int .i64 (g i j)) e opn sz ro, .rows m 1 (fun i j => .int .i64 (h i j)) e2 opn2 sz2 ro2, .rows (m5 + 2) 1 (fun i j => tellV (invN 8 [10]) 8 ((pushRow (m5 + 1) 1 (fun i j => .int .i64 (g2 i j)) [.int .i64 (IntKind.i64.wrap ((IntKind.i64.wrap ((0 : Int) + (g i6 0))) + (h i6 0)))]) i j)) 3 true 1 false]) ?_ (by
    simp only [List.map_cons, List.map_nil, plaL, plaL1]
    repeat' (first | rfl | exact rows_nrm (fun i j hi hj => push_told hi hj) | exact rows_nrm (fun i j hi hj => set_told) | exact rows_nrm (fun i j hi hj => rfl) | refine congr (congrArg List.cons ?_) ?_))
  refine seenK_ok smx plaK_ok sng (plar4_eq n c g e opn sz ro m c2 h e2 opn2 sz2 ro2 g2 m5 i6) ?_
  · skip
    repeat' (first | (with_reducible assumption) | exact (fun _ _ _ _ => rfl) | apply And.intro)
    all_goals first | trivial | rfl | assumption | exact wsub1N (by omega) (by omega) | exact decide_eq_true (by omega) | exact decide_eq_false (by omega) | exact bne_iff_ne.2 (by assumption) | exact bne_eq_false_iff_eq.2 (by assumption) | exact beq_iff_eq.2 (by assumption) | exact beq_eq_false_iff_ne.2 (by assumption) | exact wnextW (by omega) | exact wsub1 (by omega) (by omega) | exact toNatO (by omega) | exact congrArg Bool.not (by assumption) | exact congrArg Bool.not (decide_eq_true (by omega)) | exact congrArg Bool.not (decide_eq_false (by omega)) | exact congrArg Bool.not (beq_iff_eq.2 (by assumption)) | exact congrArg Bool.not (beq_eq_false_iff_ne.2 (by assumption)) | exact beq_eq_false_iff_ne.2 (by omega) | exact beq_iff_eq.2 (by omega) | exact bne_iff_ne.2 (by omega) | exact bne_eq_false_iff_eq.2 (by omega) | omega
theorem plar5_eq (n : Nat) (c : Nat) (g : Nat → Nat → Int) (e : TypeId) (opn : Bool) (sz : Nat) (ro : Bool) (m : Nat) (c2 : Nat) (h : Nat → Nat → Int) (e2 : TypeId) (opn2 : Bool) (sz2 : Nat) (ro2 : Bool) (g2 : Nat → Nat → Int) (m5 : Nat) (i6 : Nat) : seenK 6 2 [10] 99 256 (plar5 n c g e opn sz ro m c2 h e2 opn2 sz2 ro2 g2 m5 i6) = some (.normal, plaA1 n c g e opn sz ro m c2 h e2 opn2 sz2 ro2 (pushI (m5 + 1) g2 [(IntKind.i64.wrap ((0 : Int) + (g i6 0)))]) (m5 + 1) (i6 + 1), [.rows n 1 (fun i j => .int .i64 (g i j)) e opn sz ro, .rows m 1 (fun i j => .int .i64 (h i j)) e2 opn2 sz2 ro2, .rows (m5 + 2) 1 (fun i j => tellV (invN 8 [10]) 8 ((pushRow (m5 + 1) 1 (fun i j => .int .i64 (g2 i j)) [.int .i64 (IntKind.i64.wrap ((0 : Int) + (g i6 0)))]) i j)) 3 true 1 false], 256, ⟨[], ((((((((((((True ∧ ((decide ((((i6 : Nat)) : Int) < (((n : Nat)) : Int))) = true)) ∧ ((decide ((((i6 : Nat)) : Int) < (((n : Nat)) : Int))) = true)) ∧ ((decide ((((i6 : Nat)) : Int) < (((n : Nat)) : Int))) = true)) ∧ ((decide ((((i6 : Nat)) : Int) < (((n : Nat)) : Int))) = true)) ∧ ((decide ((((i6 : Nat)) : Int) < (((n : Nat)) : Int))) = true)) ∧ (true = true)) ∧ ((decide ((((i6 : Nat)) : Int) < (((n : Nat)) : Int))) = true)) ∧ (((((i6 : Nat)) : Int) = (Int.ofNat i6)) ∧ (i6 < n))) ∧ (((0 + (i6 * 1)) = ((i6 * 1) + 0)) ∧ (i6 < n))) ∧ ((decide ((((i6 : Nat)) : Int) < (((m : Nat)) : Int))) = false)) ∧ (((m5 + 1) = (m5 + 1)) ∧ (((m5 + 1) = (m5 + 1)) ∧ ((((m5 + 1) + 1) * 8) ≤ (140737488355328 : Nat))))) ∧ (((.int .i64 (IntKind.i64.wrap ((((i6 : Nat)) : Int) + (1 : Int)))) : Value) = (.int .i64 ((((i6 + 1) : Nat)) : Int))))⟩) := by kernel_rfl
theorem plar5_k (n : Nat) (c : Nat) (g : Nat → Nat → Int) (e : TypeId) (opn : Bool) (sz : Nat) (ro : Bool) (m : Nat) (c2 : Nat) (h : Nat → Nat → Int) (e2 : TypeId) (opn2 : Bool) (sz2 : Nat) (ro2 : Bool) (g2 : Nat → Nat → Int) (m5 : Nat) (i6 : Nat) (hx : 0 < n ∧ n ≤ 1000 ∧ 0 < m ∧ m ≤ 1000 ∧ i6 = m5 + 1 ∧ m5 ≤ 1000) (h0 : ((i6 : Nat) : Int) < ((n : Nat) : Int)) (h1 : ¬ ((i6 : Nat) : Int) < ((m : Nat) : Int)) : KC Tryz.prog none plaX (plaA1 n c g e opn sz ro m c2 h e2 opn2 sz2 ro2 g2 m5 i6).act (wS 6 (plaL1 n c g e opn sz ro m c2 h e2 opn2 sz2 ro2 g2 m5 i6)) .normal (plaA1 n c g e opn sz ro m c2 h e2 opn2 sz2 ro2 (pushI (m5 + 1) g2 [(IntKind.i64.wrap ((0 : Int) + (g i6 0)))]) (m5 + 1) (i6 + 1)).act (wS 6 (plaL1 n c g e opn sz ro m c2 h e2 opn2 sz2 ro2 (pushI (m5 + 1) g2 [(IntKind.i64.wrap ((0 : Int) + (g i6 0)))]) (m5 + 1) (i6 + 1))) 8 256 := by
  refine KT.toldAs (L := [.rows n 1 (fun i j => .int .i64 (g i j)) e opn sz ro, .rows m 1 (fun i j => .int .i64 (h i j)) e2 opn2 sz2 ro2, .rows (m5 + 2) 1 (fun i j => tellV (invN 8 [10]) 8 ((pushRow (m5 + 1) 1 (fun i j => .int .i64 (g2 i j)) [.int .i64 (IntKind.i64.wrap ((0 : Int) + (g i6 0)))]) i j)) 3 true 1 false]) ?_ (by
    simp only [List.map_cons, List.map_nil, plaL, plaL1]
    repeat' (first | rfl | exact rows_nrm (fun i j hi hj => push_told hi hj) | exact rows_nrm (fun i j hi hj => set_told) | exact rows_nrm (fun i j hi hj => rfl) | refine congr (congrArg List.cons ?_) ?_))
  refine seenK_ok smx plaK_ok sng (plar5_eq n c g e opn sz ro m c2 h e2 opn2 sz2 ro2 g2 m5 i6) ?_
  · skip
    repeat' (first | (with_reducible assumption) | exact (fun _ _ _ _ => rfl) | apply And.intro)
    all_goals first | trivial | rfl | assumption | exact wsub1N (by omega) (by omega) | exact decide_eq_true (by omega) | exact decide_eq_false (by omega) | exact bne_iff_ne.2 (by assumption) | exact bne_eq_false_iff_eq.2 (by assumption) | exact beq_iff_eq.2 (by assumption) | exact beq_eq_false_iff_ne.2 (by assumption) | exact wnextW (by omega) | exact wsub1 (by omega) (by omega) | exact toNatO (by omega) | exact congrArg Bool.not (by assumption) | exact congrArg Bool.not (decide_eq_true (by omega)) | exact congrArg Bool.not (decide_eq_false (by omega)) | exact congrArg Bool.not (beq_iff_eq.2 (by assumption)) | exact congrArg Bool.not (beq_eq_false_iff_ne.2 (by assumption)) | exact beq_eq_false_iff_ne.2 (by omega) | exact beq_iff_eq.2 (by omega) | exact bne_iff_ne.2 (by omega) | exact bne_eq_false_iff_eq.2 (by omega) | omega
theorem plar6_eq (n : Nat) (c : Nat) (g : Nat → Nat → Int) (e : TypeId) (opn : Bool) (sz : Nat) (ro : Bool) (m : Nat) (c2 : Nat) (h : Nat → Nat → Int) (e2 : TypeId) (opn2 : Bool) (sz2 : Nat) (ro2 : Bool) (g2 : Nat → Nat → Int) (m5 : Nat) (i6 : Nat) : seenK 6 2 [10] 99 256 (plar6 n c g e opn sz ro m c2 h e2 opn2 sz2 ro2 g2 m5 i6) = some (.normal, plaA1 n c g e opn sz ro m c2 h e2 opn2 sz2 ro2 (pushI (m5 + 1) g2 [(IntKind.i64.wrap ((0 : Int) + (h i6 0)))]) (m5 + 1) (i6 + 1), [.rows n 1 (fun i j => .int .i64 (g i j)) e opn sz ro, .rows m 1 (fun i j => .int .i64 (h i j)) e2 opn2 sz2 ro2, .rows (m5 + 2) 1 (fun i j => tellV (invN 8 [10]) 8 ((pushRow (m5 + 1) 1 (fun i j => .int .i64 (g2 i j)) [.int .i64 (IntKind.i64.wrap ((0 : Int) + (h i6 0)))]) i j)) 3 true 1 false], 256, ⟨[], ((((((((((((True ∧ ((decide ((((i6 : Nat)) : Int) < (((n : Nat)) : Int))) = false)) ∧ ((decide ((((i6 : Nat)) : Int) < (((n : Nat)) : Int))) = false)) ∧ ((decide ((((i6 : Nat)) : Int) < (((n : Nat)) : Int))) = false)) ∧ ((decide ((((i6 : Nat)) : Int) < (((n : Nat)) : Int))) = false)) ∧ ((decide ((((i6 : Nat)) : Int) < (((n : Nat)) : Int))) = false)) ∧ ((decide ((((i6 : Nat)) : Int) < (((m : Nat)) : Int))) = true)) ∧ ((decide ((((i6 : Nat)) : Int) < (((n : Nat)) : Int))) = false)) ∧ ((decide ((((i6 : Nat)) : Int) < (((m : Nat)) : Int))) = true)) ∧ (((((i6 : Nat)) : Int) = (Int.ofNat i6)) ∧ (i6 < m))) ∧ (((0 + (i6 * 1)) = ((i6 * 1) + 0)) ∧ (i6 < m))) ∧ (((m5 + 1) = (m5 + 1)) ∧ (((m5 + 1) = (m5 + 1)) ∧ ((((m5 + 1) + 1) * 8) ≤ (140737488355328 : Nat))))) ∧ (((.int .i64 (IntKind.i64.wrap ((((i6 : Nat)) : Int) + (1 : Int)))) : Value) = (.int .i64 ((((i6 + 1) : Nat)) : Int))))⟩) := by kernel_rfl
theorem plar6_k (n : Nat) (c : Nat) (g : Nat → Nat → Int) (e : TypeId) (opn : Bool) (sz : Nat) (ro : Bool) (m : Nat) (c2 : Nat) (h : Nat → Nat → Int) (e2 : TypeId) (opn2 : Bool) (sz2 : Nat) (ro2 : Bool) (g2 : Nat → Nat → Int) (m5 : Nat) (i6 : Nat) (hx : 0 < n ∧ n ≤ 1000 ∧ 0 < m ∧ m ≤ 1000 ∧ i6 = m5 + 1 ∧ m5 ≤ 1000) (h0 : ¬ ((i6 : Nat) : Int) < ((n : Nat) : Int)) (h1 : ((i6 : Nat) : Int) < ((m : Nat) : Int)) : KC Tryz.prog none plaX (plaA1 n c g e opn sz ro m c2 h e2 opn2 sz2 ro2 g2 m5 i6).act (wS 6 (plaL1 n c g e opn sz ro m c2 h e2 opn2 sz2 ro2 g2 m5 i6)) .normal (plaA1 n c g e opn sz ro m c2 h e2 opn2 sz2 ro2 (pushI (m5 + 1) g2 [(IntKind.i64.wrap ((0 : Int) + (h i6 0)))]) (m5 + 1) (i6 + 1)).act (wS 6 (plaL1 n c g e opn sz ro m c2 h e2 opn2 sz2 ro2 (pushI (m5 + 1) g2 [(IntKind.i64.wrap ((0 : Int) + (h i6 0)))]) (m5 + 1) (i6 + 1))) 8 256 := by
  refine KT.toldAs (L := [.rows n 1 (fun i j => .int .i64 (g i j)) e opn sz ro, .rows m 1 (fun i j => .int .i64 (h i j)) e2 opn2 sz2 ro2, .rows (m5 + 2) 1 (fun i j => tellV (invN 8 [10]) 8 ((pushRow (m5 + 1) 1 (fun i j => .int .i64 (g2 i j)) [.int .i64 (IntKind.i64.wrap ((0 : Int) + (h i6 0)))]) i j)) 3 true 1 false]) ?_ (by
    simp only [List.map_cons, List.map_nil, plaL, plaL1]
    repeat' (first | rfl | exact rows_nrm (fun i j hi hj => push_told hi hj) | exact rows_nrm (fun i j hi hj => set_told) | exact rows_nrm (fun i j hi hj => rfl) | refine congr (congrArg List.cons ?_) ?_))
  refine seenK_ok smx plaK_ok sng (plar6_eq n c g e opn sz ro m c2 h e2 opn2 sz2 ro2 g2 m5 i6) ?_
  · skip
    repeat' (first | (with_reducible assumption) | exact (fun _ _ _ _ => rfl) | apply And.intro)
    all_goals first | trivial | rfl | assumption | exact wsub1N (by omega) (by omega) | exact decide_eq_true (by omega) | exact decide_eq_false (by omega) | exact bne_iff_ne.2 (by assumption) | exact bne_eq_false_iff_eq.2 (by assumption) | exact beq_iff_eq.2 (by assumption) | exact beq_eq_false_iff_ne.2 (by assumption) | exact wnextW (by omega) | exact wsub1 (by omega) (by omega) | exact toNatO (by omega) | exact congrArg Bool.not (by assumption) | exact congrArg Bool.not (decide_eq_true (by omega)) | exact congrArg Bool.not (decide_eq_false (by omega)) | exact congrArg Bool.not (beq_iff_eq.2 (by assumption)) | exact congrArg Bool.not (beq_eq_false_iff_ne.2 (by assumption)) | exact beq_eq_false_iff_ne.2 (by omega) | exact beq_iff_eq.2 (by omega) | exact bne_iff_ne.2 (by omega) | exact bne_eq_false_iff_eq.2 (by omega) | omega
theorem plar7_eq (n : Nat) (c : Nat) (g : Nat → Nat → Int) (e : TypeId) (opn : Bool) (sz : Nat) (ro : Bool) (m : Nat) (c2 : Nat) (h : Nat → Nat → Int) (e2 : TypeId) (opn2 : Bool) (sz2 : Nat) (ro2 : Bool) (g2 : Nat → Nat → Int) (m5 : Nat) (i6 : Nat) : seenK 6 2 [8] 32 256 (plar7 n c g e opn sz ro m c2 h e2 opn2 sz2 ro2 g2 m5 i6) = some ((.exit 0), plar7E n c g e opn sz ro m c2 h e2 opn2 sz2 ro2 g2 m5 i6, [.rows n 1 (fun i j => .int .i64 (g i j)) e opn sz ro, .rows m 1 (fun i j => .int .i64 (h i j)) e2 opn2 sz2 ro2, .rows (m5 + 1) 1 (fun i j => .int .i64 (g2 i j)) 3 true 1 false], 256, ⟨[], ((((((True ∧ ((decide ((((i6 : Nat)) : Int) < (((n : Nat)) : Int))) = false)) ∧ ((decide ((((i6 : Nat)) : Int) < (((n : Nat)) : Int))) = false)) ∧ ((decide ((((i6 : Nat)) : Int) < (((n : Nat)) : Int))) = false)) ∧ ((decide ((((i6 : Nat)) : Int) < (((n : Nat)) : Int))) = false)) ∧ ((decide ((((i6 : Nat)) : Int) < (((n : Nat)) : Int))) = false)) ∧ ((decide ((((i6 : Nat)) : Int) < (((m : Nat)) : Int))) = false))⟩) := by kernel_rfl
theorem plar7_k (n : Nat) (c : Nat) (g : Nat → Nat → Int) (e : TypeId) (opn : Bool) (sz : Nat) (ro : Bool) (m : Nat) (c2 : Nat) (h : Nat → Nat → Int) (e2 : TypeId) (opn2 : Bool) (sz2 : Nat) (ro2 : Bool) (g2 : Nat → Nat → Int) (m5 : Nat) (i6 : Nat) (hx : 0 < n ∧ n ≤ 1000 ∧ 0 < m ∧ m ≤ 1000 ∧ i6 = m5 + 1 ∧ m5 ≤ 1000) (h0 : ¬ ((i6 : Nat) : Int) < ((n : Nat) : Int)) (h1 : ¬ ((i6 : Nat) : Int) < ((m : Nat) : Int)) : KC Tryz.prog none plaX (plaA1 n c g e opn sz ro m c2 h e2 opn2 sz2 ro2 g2 m5 i6).act (wS 6 (plaL1 n c g e opn sz ro m c2 h e2 opn2 sz2 ro2 g2 m5 i6)) (.exit 0) (plar7E n c g e opn sz ro m c2 h e2 opn2 sz2 ro2 g2 m5 i6).act (wS 6 [.rows n 1 (fun i j => .int .i64 (g i j)) e opn sz ro, .rows m 1 (fun i j => .int .i64 (h i j)) e2 opn2 sz2 ro2, .rows (m5 + 1) 1 (fun i j => .int .i64 (g2 i j)) 3 true 1 false]) 8 256 := by
  refine seenK_ok smx plaK_ok sng (plar7_eq n c g e opn sz ro m c2 h e2 opn2 sz2 ro2 g2 m5 i6) ?_
  · skip
    repeat' (first | (with_reducible assumption) | exact (fun _ _ _ _ => rfl) | apply And.intro)
    all_goals first | trivial | rfl | assumption | exact wsub1N (by omega) (by omega) | exact decide_eq_true (by omega) | exact decide_eq_false (by omega) | exact bne_iff_ne.2 (by assumption) | exact bne_eq_false_iff_eq.2 (by assumption) | exact beq_iff_eq.2 (by assumption) | exact beq_eq_false_iff_ne.2 (by assumption) | exact wnextW (by omega) | exact wsub1 (by omega) (by omega) | exact toNatO (by omega) | exact congrArg Bool.not (by assumption) | exact congrArg Bool.not (decide_eq_true (by omega)) | exact congrArg Bool.not (decide_eq_false (by omega)) | exact congrArg Bool.not (beq_iff_eq.2 (by assumption)) | exact congrArg Bool.not (beq_eq_false_iff_ne.2 (by assumption)) | exact beq_eq_false_iff_ne.2 (by omega) | exact beq_iff_eq.2 (by omega) | exact bne_iff_ne.2 (by omega) | exact bne_eq_false_iff_eq.2 (by omega) | omega
def plaAA (n : Nat) (c : Nat) (g : Nat → Nat → Int) (e : TypeId) (opn : Bool) (sz : Nat) (ro : Bool) (m : Nat) (c2 : Nat) (h : Nat → Nat → Int) (e2 : TypeId) (opn2 : Bool) (sz2 : Nat) (ro2 : Bool) (i : Nat) : MA := match i with
  | 0 => plaA n c g e opn sz ro m c2 h e2 opn2 sz2 ro2
  | k + 1 => plaA1 n c g e opn sz ro m c2 h e2 opn2 sz2 ro2 (plR n m g h k) k (k + 1)
def plaLL (n : Nat) (c : Nat) (g : Nat → Nat → Int) (e : TypeId) (opn : Bool) (sz : Nat) (ro : Bool) (m : Nat) (c2 : Nat) (h : Nat → Nat → Int) (e2 : TypeId) (opn2 : Bool) (sz2 : Nat) (ro2 : Bool) (i : Nat) : List MObj := match i with
  | 0 => plaL n c g e opn sz ro m c2 h e2 opn2 sz2 ro2
  | k + 1 => plaL1 n c g e opn sz ro m c2 h e2 opn2 sz2 ro2 (plR n m g h k) k (k + 1)
theorem pla_go (n : Nat) (c : Nat) (g : Nat → Nat → Int) (e : TypeId) (opn : Bool) (sz : Nat) (ro : Bool) (m : Nat) (c2 : Nat) (h : Nat → Nat → Int) (e2 : TypeId) (opn2 : Bool) (sz2 : Nat) (ro2 : Bool) (hx : 0 < n ∧ n ≤ 1000 ∧ 0 < m ∧ m ≤ 1000) (i : Nat) (hi : i < mxN n m) : KC Tryz.prog none plaX (plaAA n c g e opn sz ro m c2 h e2 opn2 sz2 ro2 i).act (wS 6 (plaLL n c g e opn sz ro m c2 h e2 opn2 sz2 ro2 i)) .normal (plaAA n c g e opn sz ro m c2 h e2 opn2 sz2 ro2 (i + 1)).act (wS 6 (plaLL n c g e opn sz ro m c2 h e2 opn2 sz2 ro2 (i + 1))) 8 256 := by
  have hm := mxN_ge n m
  cases i with
  | zero =>
    have ez : plE n m g h 0 = (IntKind.i64.wrap ((IntKind.i64.wrap ((0 : Int) + (g 0 0))) + (h 0 0))) := by unfold plE; rw [if_pos (by omega), if_pos (by omega)]
    have hk := plar0_k n c g e opn sz ro m c2 h e2 opn2 sz2 ro2 hx (by omega) (by omega)
    rw [← ez] at hk
    exact hk
  | succ k =>
    by_cases y1 : k + 1 < n
    · by_cases y2 : k + 1 < m
      · have ez : plE n m g h (k + 1) = (IntKind.i64.wrap ((IntKind.i64.wrap ((0 : Int) + (g (k + 1) 0))) + (h (k + 1) 0))) := by unfold plE; rw [if_pos y1, if_pos y2]
        have hk := plar4_k n c g e opn sz ro m c2 h e2 opn2 sz2 ro2 (plR n m g h k) k (k + 1) ⟨hx.1, hx.2.1, hx.2.2.1, hx.2.2.2, rfl, by omega⟩ (by omega) (by omega)
        rw [← ez] at hk
        exact hk
      · have ez : plE n m g h (k + 1) = (IntKind.i64.wrap ((0 : Int) + (g (k + 1) 0))) := by unfold plE; rw [if_pos y1, if_neg y2]
        have hk := plar5_k n c g e opn sz ro m c2 h e2 opn2 sz2 ro2 (plR n m g h k) k (k + 1) ⟨hx.1, hx.2.1, hx.2.2.1, hx.2.2.2, rfl, by omega⟩ (by omega) (by omega)
        rw [← ez] at hk
        exact hk
    · have ez : plE n m g h (k + 1) = (IntKind.i64.wrap ((0 : Int) + (h (k + 1) 0))) := by unfold plE; rw [if_neg y1]
      have hk := plar6_k n c g e opn sz ro m c2 h e2 opn2 sz2 ro2 (plR n m g h k) k (k + 1) ⟨hx.1, hx.2.1, hx.2.2.1, hx.2.2.2, rfl, by omega⟩ (by omega) (by omega)
      rw [← ez] at hk
      exact hk
theorem pla_all (n : Nat) (c : Nat) (g : Nat → Nat → Int) (e : TypeId) (opn : Bool) (sz : Nat) (ro : Bool) (m : Nat) (c2 : Nat) (h : Nat → Nat → Int) (e2 : TypeId) (opn2 : Bool) (sz2 : Nat) (ro2 : Bool) (hx : 0 < n ∧ n ≤ 1000 ∧ 0 < m ∧ m ≤ 1000) (qq : Nat) (hq : mxN n m = qq + 1) : KC Tryz.prog none (.loop plaX) (plaA n c g e opn sz ro m c2 h e2 opn2 sz2 ro2).act (wS 6 (plaL n c g e opn sz ro m c2 h e2 opn2 sz2 ro2)) (.exit 0) (plar7E n c g e opn sz ro m c2 h e2 opn2 sz2 ro2 (plR n m g h qq) qq (qq + 1)).act (wS 6 (plaL1 n c g e opn sz ro m c2 h e2 opn2 sz2 ro2 (plR n m g h qq) qq (qq + 1))) 8 256 := by
  have hm := mxN_ge n m
  exact K_rounds (A := fun i => (plaAA n c g e opn sz ro m c2 h e2 opn2 sz2 ro2 i).act) (S := fun i => wS 6 (plaLL n c g e opn sz ro m c2 h e2 opn2 sz2 ro2 i)) (qq + 1) (fun i hi => pla_go n c g e opn sz ro m c2 h e2 opn2 sz2 ro2 hx i (by omega)) (plar7_k n c g e opn sz ro m c2 h e2 opn2 sz2 ro2 (plR n m g h qq) qq (qq + 1) ⟨hx.1, hx.2.1, hx.2.2.1, hx.2.2.2, rfl, by omega⟩ (by omega) (by omega)) (by simp)
theorem plbK_ok : FOkS Tryz.prog plbK := noXS_ok
theorem plbr0_eq (n : Nat) (c : Nat) (g : Nat → Nat → Int) (e : TypeId) (opn : Bool) (sz : Nat) (ro : Bool) (m : Nat) (c2 : Nat) (h : Nat → Nat → Int) (e2 : TypeId) (opn2 : Bool) (sz2 : Nat) (ro2 : Bool) (G : Nat → Nat → Int) (q : Nat) : seenK 6 3 [] 32 256 (plbr0 n c g e opn sz ro m c2 h e2 opn2 sz2 ro2 G q) = some (.normal, plbA n c g e opn sz ro m c2 h e2 opn2 sz2 ro2 G (q - 1), [.rows n 1 (fun i j => .int .i64 (g i j)) e opn sz ro, .rows m 1 (fun i j => .int .i64 (h i j)) e2 opn2 sz2 ro2, .rows (q - 1) 1 (fun i j => .int .i64 (G i j)) 3 true 1 false], 256, ⟨[], (((((((((((((((True ∧ ((decide ((((q : Nat)) : Int) > (0 : Int))) = true)) ∧ ((decide ((((q : Nat)) : Int) > (0 : Int))) = true)) ∧ ((decide ((((q : Nat)) : Int) > (0 : Int))) = true)) ∧ ((decide ((((q : Nat)) : Int) > (0 : Int))) = true)) ∧ (((.int .i64 (IntKind.i64.wrap ((((q : Nat)) : Int) - (1 : Int)))) : Value) = (.int .i64 ((((q - 1) : Nat)) : Int)))) ∧ ((decide ((((q : Nat)) : Int) > (0 : Int))) = true)) ∧ ((((((q - 1) : Nat)) : Int) = (Int.ofNat (q - 1))) ∧ ((q - 1) < q))) ∧ ((decide ((((q : Nat)) : Int) > (0 : Int))) = true)) ∧ (((0 + ((q - 1) * 1)) = (((q - 1) * 1) + 0)) ∧ ((q - 1) < q))) ∧ ((decide ((((q : Nat)) : Int) > (0 : Int))) = true)) ∧ ((decide ((((q : Nat)) : Int) > (0 : Int))) = true)) ∧ (((G (q - 1) 0) == (0 : Int)) = true)) ∧ (((.int .i64 (((q : Nat)) : Int)) : Value) = (.int .i64 (((q : Nat)) : Int)))) ∧ (((.int .i64 (IntKind.i64.wrap ((((q : Nat)) : Int) - (1 : Int)))) : Value) = (.int .i64 ((((q - 1) : Nat)) : Int)))) ∧ ((((((q - 1) : Nat)) : Int) = (Int.ofNat (q - 1))) ∧ (((q - 1) ≤ q) ∧ ((q = q) ∧ (q = q)))))⟩) := by kernel_rfl
theorem plbr0_k (n : Nat) (c : Nat) (g : Nat → Nat → Int) (e : TypeId) (opn : Bool) (sz : Nat) (ro : Bool) (m : Nat) (c2 : Nat) (h : Nat → Nat → Int) (e2 : TypeId) (opn2 : Bool) (sz2 : Nat) (ro2 : Bool) (G : Nat → Nat → Int) (q : Nat) (hx : q ≤ 1000) (h0 : (0 : Int) < ((q : Nat) : Int)) (h1 : (G (q - 1) 0) = (0 : Int)) : KC Tryz.prog none plbX (plbA n c g e opn sz ro m c2 h e2 opn2 sz2 ro2 G q).act (wS 6 (plbL n c g e opn sz ro m c2 h e2 opn2 sz2 ro2 G q)) .normal (plbA n c g e opn sz ro m c2 h e2 opn2 sz2 ro2 G (q - 1)).act (wS 6 (plbL n c g e opn sz ro m c2 h e2 opn2 sz2 ro2 G (q - 1))) 9 256 := by
  refine seenK_ok smx plbK_ok sng (plbr0_eq n c g e opn sz ro m c2 h e2 opn2 sz2 ro2 G q) ?_
  · skip
    repeat' (first | (with_reducible assumption) | exact (fun _ _ _ _ => rfl) | apply And.intro)
    all_goals first | trivial | rfl | assumption | exact wsub1N (by omega) (by omega) | exact decide_eq_true (by omega) | exact decide_eq_false (by omega) | exact bne_iff_ne.2 (by assumption) | exact bne_eq_false_iff_eq.2 (by assumption) | exact beq_iff_eq.2 (by assumption) | exact beq_eq_false_iff_ne.2 (by assumption) | exact wnextW (by omega) | exact wsub1 (by omega) (by omega) | exact toNatO (by omega) | exact congrArg Bool.not (by assumption) | exact congrArg Bool.not (decide_eq_true (by omega)) | exact congrArg Bool.not (decide_eq_false (by omega)) | exact congrArg Bool.not (beq_iff_eq.2 (by assumption)) | exact congrArg Bool.not (beq_eq_false_iff_ne.2 (by assumption)) | exact beq_eq_false_iff_ne.2 (by omega) | exact beq_iff_eq.2 (by omega) | exact bne_iff_ne.2 (by omega) | exact bne_eq_false_iff_eq.2 (by omega) | omega
theorem plbr1_eq (n : Nat) (c : Nat) (g : Nat → Nat → Int) (e : TypeId) (opn : Bool) (sz : Nat) (ro : Bool) (m : Nat) (c2 : Nat) (h : Nat → Nat → Int) (e2 : TypeId) (opn2 : Bool) (sz2 : Nat) (ro2 : Bool) (G : Nat → Nat → Int) (q : Nat) : seenK 6 3 [] 32 256 (plbr1 n c g e opn sz ro m c2 h e2 opn2 sz2 ro2 G q) = some ((.exit 2), plbr1E n c g e opn sz ro m c2 h e2 opn2 sz2 ro2 G q, [.rows n 1 (fun i j => .int .i64 (g i j)) e opn sz ro, .rows m 1 (fun i j => .int .i64 (h i j)) e2 opn2 sz2 ro2, .rows q 1 (fun i j => .int .i64 (G i j)) 3 true 1 false], 256, ⟨[], ((((((((((((True ∧ ((decide ((((q : Nat)) : Int) > (0 : Int))) = true)) ∧ ((decide ((((q : Nat)) : Int) > (0 : Int))) = true)) ∧ ((decide ((((q : Nat)) : Int) > (0 : Int))) = true)) ∧ ((decide ((((q : Nat)) : Int) > (0 : Int))) = true)) ∧ (((.int .i64 (IntKind.i64.wrap ((((q : Nat)) : Int) - (1 : Int)))) : Value) = (.int .i64 ((((q - 1) : Nat)) : Int)))) ∧ ((decide ((((q : Nat)) : Int) > (0 : Int))) = true)) ∧ ((((((q - 1) : Nat)) : Int) = (Int.ofNat (q - 1))) ∧ ((q - 1) < q))) ∧ ((decide ((((q : Nat)) : Int) > (0 : Int))) = true)) ∧ (((0 + ((q - 1) * 1)) = (((q - 1) * 1) + 0)) ∧ ((q - 1) < q))) ∧ ((decide ((((q : Nat)) : Int) > (0 : Int))) = true)) ∧ ((decide ((((q : Nat)) : Int) > (0 : Int))) = true)) ∧ (((G (q - 1) 0) == (0 : Int)) = false))⟩) := by kernel_rfl
theorem plbr1_k (n : Nat) (c : Nat) (g : Nat → Nat → Int) (e : TypeId) (opn : Bool) (sz : Nat) (ro : Bool) (m : Nat) (c2 : Nat) (h : Nat → Nat → Int) (e2 : TypeId) (opn2 : Bool) (sz2 : Nat) (ro2 : Bool) (G : Nat → Nat → Int) (q : Nat) (hx : q ≤ 1000) (h0 : (0 : Int) < ((q : Nat) : Int)) (h1 : (G (q - 1) 0) ≠ (0 : Int)) : KC Tryz.prog none plbX (plbA n c g e opn sz ro m c2 h e2 opn2 sz2 ro2 G q).act (wS 6 (plbL n c g e opn sz ro m c2 h e2 opn2 sz2 ro2 G q)) (.exit 2) (plbr1E n c g e opn sz ro m c2 h e2 opn2 sz2 ro2 G q).act (wS 6 [.rows n 1 (fun i j => .int .i64 (g i j)) e opn sz ro, .rows m 1 (fun i j => .int .i64 (h i j)) e2 opn2 sz2 ro2, .rows q 1 (fun i j => .int .i64 (G i j)) 3 true 1 false]) 9 256 := by
  refine seenK_ok smx plbK_ok sng (plbr1_eq n c g e opn sz ro m c2 h e2 opn2 sz2 ro2 G q) ?_
  · skip
    repeat' (first | (with_reducible assumption) | exact (fun _ _ _ _ => rfl) | apply And.intro)
    all_goals first | trivial | rfl | assumption | exact wsub1N (by omega) (by omega) | exact decide_eq_true (by omega) | exact decide_eq_false (by omega) | exact bne_iff_ne.2 (by assumption) | exact bne_eq_false_iff_eq.2 (by assumption) | exact beq_iff_eq.2 (by assumption) | exact beq_eq_false_iff_ne.2 (by assumption) | exact wnextW (by omega) | exact wsub1 (by omega) (by omega) | exact toNatO (by omega) | exact congrArg Bool.not (by assumption) | exact congrArg Bool.not (decide_eq_true (by omega)) | exact congrArg Bool.not (decide_eq_false (by omega)) | exact congrArg Bool.not (beq_iff_eq.2 (by assumption)) | exact congrArg Bool.not (beq_eq_false_iff_ne.2 (by assumption)) | exact beq_eq_false_iff_ne.2 (by omega) | exact beq_iff_eq.2 (by omega) | exact bne_iff_ne.2 (by omega) | exact bne_eq_false_iff_eq.2 (by omega) | omega
theorem plbr2_eq (n : Nat) (c : Nat) (g : Nat → Nat → Int) (e : TypeId) (opn : Bool) (sz : Nat) (ro : Bool) (m : Nat) (c2 : Nat) (h : Nat → Nat → Int) (e2 : TypeId) (opn2 : Bool) (sz2 : Nat) (ro2 : Bool) (G : Nat → Nat → Int) (q : Nat) : seenK 6 3 [] 32 256 (plbr2 n c g e opn sz ro m c2 h e2 opn2 sz2 ro2 G q) = some ((.exit 2), plbr2E n c g e opn sz ro m c2 h e2 opn2 sz2 ro2 G q, [.rows n 1 (fun i j => .int .i64 (g i j)) e opn sz ro, .rows m 1 (fun i j => .int .i64 (h i j)) e2 opn2 sz2 ro2, .rows q 1 (fun i j => .int .i64 (G i j)) 3 true 1 false], 256, ⟨[], (((((((((True ∧ ((decide ((((q : Nat)) : Int) > (0 : Int))) = false)) ∧ ((decide ((((q : Nat)) : Int) > (0 : Int))) = false)) ∧ ((decide ((((q : Nat)) : Int) > (0 : Int))) = false)) ∧ ((decide ((((q : Nat)) : Int) > (0 : Int))) = false)) ∧ ((decide ((((q : Nat)) : Int) > (0 : Int))) = false)) ∧ ((decide ((((q : Nat)) : Int) > (0 : Int))) = false)) ∧ ((decide ((((q : Nat)) : Int) > (0 : Int))) = false)) ∧ ((decide ((((q : Nat)) : Int) > (0 : Int))) = false)) ∧ (false = false))⟩) := by kernel_rfl
theorem plbr2_k (n : Nat) (c : Nat) (g : Nat → Nat → Int) (e : TypeId) (opn : Bool) (sz : Nat) (ro : Bool) (m : Nat) (c2 : Nat) (h : Nat → Nat → Int) (e2 : TypeId) (opn2 : Bool) (sz2 : Nat) (ro2 : Bool) (G : Nat → Nat → Int) (q : Nat) (hx : q ≤ 1000) (h0 : ¬ (0 : Int) < ((q : Nat) : Int)) : KC Tryz.prog none plbX (plbA n c g e opn sz ro m c2 h e2 opn2 sz2 ro2 G q).act (wS 6 (plbL n c g e opn sz ro m c2 h e2 opn2 sz2 ro2 G q)) (.exit 2) (plbr2E n c g e opn sz ro m c2 h e2 opn2 sz2 ro2 G q).act (wS 6 [.rows n 1 (fun i j => .int .i64 (g i j)) e opn sz ro, .rows m 1 (fun i j => .int .i64 (h i j)) e2 opn2 sz2 ro2, .rows q 1 (fun i j => .int .i64 (G i j)) 3 true 1 false]) 9 256 := by
  refine seenK_ok smx plbK_ok sng (plbr2_eq n c g e opn sz ro m c2 h e2 opn2 sz2 ro2 G q) ?_
  · skip
    repeat' (first | (with_reducible assumption) | exact (fun _ _ _ _ => rfl) | apply And.intro)
    all_goals first | trivial | rfl | assumption | exact wsub1N (by omega) (by omega) | exact decide_eq_true (by omega) | exact decide_eq_false (by omega) | exact bne_iff_ne.2 (by assumption) | exact bne_eq_false_iff_eq.2 (by assumption) | exact beq_iff_eq.2 (by assumption) | exact beq_eq_false_iff_ne.2 (by assumption) | exact wnextW (by omega) | exact wsub1 (by omega) (by omega) | exact toNatO (by omega) | exact congrArg Bool.not (by assumption) | exact congrArg Bool.not (decide_eq_true (by omega)) | exact congrArg Bool.not (decide_eq_false (by omega)) | exact congrArg Bool.not (beq_iff_eq.2 (by assumption)) | exact congrArg Bool.not (beq_eq_false_iff_ne.2 (by assumption)) | exact beq_eq_false_iff_ne.2 (by omega) | exact beq_iff_eq.2 (by omega) | exact bne_iff_ne.2 (by omega) | exact bne_eq_false_iff_eq.2 (by omega) | omega
theorem plb_pos (n : Nat) (c : Nat) (g : Nat → Nat → Int) (e : TypeId) (opn : Bool) (sz : Nat) (ro : Bool) (m : Nat) (c2 : Nat) (h : Nat → Nat → Int) (e2 : TypeId) (opn2 : Bool) (sz2 : Nat) (ro2 : Bool) (G : GI) (q tt : Nat) (ht : tt ≤ q) (hb : q ≤ 1000) (hz : ∀ i, tt ≤ i → i < q → G i 0 = 0) (h0 : 0 < tt) (hl : G (tt - 1) 0 ≠ 0) : KC Tryz.prog none (.loop plbX) (plbA n c g e opn sz ro m c2 h e2 opn2 sz2 ro2 G q).act (wS 6 (plbL n c g e opn sz ro m c2 h e2 opn2 sz2 ro2 G q)) (.exit 2) (plbr1E n c g e opn sz ro m c2 h e2 opn2 sz2 ro2 G tt).act (wS 6 [.rows n 1 (fun i j => .int .i64 (g i j)) e opn sz ro, .rows m 1 (fun i j => .int .i64 (h i j)) e2 opn2 sz2 ro2, .rows tt 1 (fun i j => .int .i64 (G i j)) 3 true 1 false]) 9 256 := by
  have e0 : q - (q - tt) = tt := by omega
  have hE := plbr1_k n c g e opn sz ro m c2 h e2 opn2 sz2 ro2 G tt (by omega) (by omega) hl
  have hG : ∀ i, i < q - tt → KC Tryz.prog none plbX (plbA n c g e opn sz ro m c2 h e2 opn2 sz2 ro2 G (q - i)).act (wS 6 (plbL n c g e opn sz ro m c2 h e2 opn2 sz2 ro2 G (q - i))) .normal (plbA n c g e opn sz ro m c2 h e2 opn2 sz2 ro2 G (q - (i + 1))).act (wS 6 (plbL n c g e opn sz ro m c2 h e2 opn2 sz2 ro2 G (q - (i + 1)))) 9 256 := fun i hi => by
    have hk := plbr0_k n c g e opn sz ro m c2 h e2 opn2 sz2 ro2 G (q - i) (by omega) (by omega) (hz _ (by omega) (by omega))
    rw [show q - i - 1 = q - (i + 1) by omega] at hk
    exact hk
  exact K_rounds (A := fun i => (plbA n c g e opn sz ro m c2 h e2 opn2 sz2 ro2 G (q - i)).act) (S := fun i => wS 6 (plbL n c g e opn sz ro m c2 h e2 opn2 sz2 ro2 G (q - i))) (q - tt) hG (by
    show KC _ _ _ (plbA n c g e opn sz ro m c2 h e2 opn2 sz2 ro2 G (q - (q - tt))).act (wS 6 (plbL n c g e opn sz ro m c2 h e2 opn2 sz2 ro2 G (q - (q - tt)))) _ _ _ _ _
    rw [e0]; exact hE) (by simp)
theorem plb_nil (n : Nat) (c : Nat) (g : Nat → Nat → Int) (e : TypeId) (opn : Bool) (sz : Nat) (ro : Bool) (m : Nat) (c2 : Nat) (h : Nat → Nat → Int) (e2 : TypeId) (opn2 : Bool) (sz2 : Nat) (ro2 : Bool) (G : GI) (q tt : Nat) (ht : tt ≤ q) (hb : q ≤ 1000) (hz : ∀ i, tt ≤ i → i < q → G i 0 = 0) (h0 : tt = 0) : KC Tryz.prog none (.loop plbX) (plbA n c g e opn sz ro m c2 h e2 opn2 sz2 ro2 G q).act (wS 6 (plbL n c g e opn sz ro m c2 h e2 opn2 sz2 ro2 G q)) (.exit 2) (plbr2E n c g e opn sz ro m c2 h e2 opn2 sz2 ro2 G tt).act (wS 6 [.rows n 1 (fun i j => .int .i64 (g i j)) e opn sz ro, .rows m 1 (fun i j => .int .i64 (h i j)) e2 opn2 sz2 ro2, .rows tt 1 (fun i j => .int .i64 (G i j)) 3 true 1 false]) 9 256 := by
  have e0 : q - (q - tt) = tt := by omega
  have hE := plbr2_k n c g e opn sz ro m c2 h e2 opn2 sz2 ro2 G tt (by omega) (by omega)
  have hG : ∀ i, i < q - tt → KC Tryz.prog none plbX (plbA n c g e opn sz ro m c2 h e2 opn2 sz2 ro2 G (q - i)).act (wS 6 (plbL n c g e opn sz ro m c2 h e2 opn2 sz2 ro2 G (q - i))) .normal (plbA n c g e opn sz ro m c2 h e2 opn2 sz2 ro2 G (q - (i + 1))).act (wS 6 (plbL n c g e opn sz ro m c2 h e2 opn2 sz2 ro2 G (q - (i + 1)))) 9 256 := fun i hi => by
    have hk := plbr0_k n c g e opn sz ro m c2 h e2 opn2 sz2 ro2 G (q - i) (by omega) (by omega) (hz _ (by omega) (by omega))
    rw [show q - i - 1 = q - (i + 1) by omega] at hk
    exact hk
  exact K_rounds (A := fun i => (plbA n c g e opn sz ro m c2 h e2 opn2 sz2 ro2 G (q - i)).act) (S := fun i => wS 6 (plbL n c g e opn sz ro m c2 h e2 opn2 sz2 ro2 G (q - i))) (q - tt) hG (by
    show KC _ _ _ (plbA n c g e opn sz ro m c2 h e2 opn2 sz2 ro2 G (q - (q - tt))).act (wS 6 (plbL n c g e opn sz ro m c2 h e2 opn2 sz2 ro2 G (q - (q - tt)))) _ _ _ _ _
    rw [e0]; exact hE) (by simp)
theorem plK_ok : FOkS Tryz.prog plK := noXS_ok
theorem plf0_eq (n : Nat) (c : Nat) (g : Nat → Nat → Int) (e : TypeId) (opn : Bool) (sz : Nat) (ro : Bool) (m : Nat) (c2 : Nat) (h : Nat → Nat → Int) (e2 : TypeId) (opn2 : Bool) (sz2 : Nat) (ro2 : Bool) (tt : Nat) (qq : Nat) : seenF' Tryz.prog Tryz.f80 6 2 [8] (plf0 n c g e opn sz ro m c2 h e2 opn2 sz2 ro2 tt qq) = some (.slice (some ⟨8, 0, none⟩) tt tt, plS n c g e opn sz ro m c2 h e2 opn2 sz2 ro2 ++ [.rows tt 1 (fun i j => .int .i64 ((plR n m g h qq) i j)) 3 true 1 false], ⟨[], ((True ∧ ((((plaA n c g e opn sz ro m c2 h e2 opn2 sz2 ro2) = (plaA n c g e opn sz ro m c2 h e2 opn2 sz2 ro2)) ∧ ((8 = (6 + 2)) ∧ ((HAppend.hAppend (List.replicate (6 : Nat) MObj.hole) (plaL n c g e opn sz ro m c2 h e2 opn2 sz2 ro2)) = (HAppend.hAppend (List.replicate (6 : Nat) MObj.hole) (plaL n c g e opn sz ro m c2 h e2 opn2 sz2 ro2))))) ∧ KC Tryz.prog none (.loop plaX) (plaA n c g e opn sz ro m c2 h e2 opn2 sz2 ro2).act (wS 6 (plaL n c g e opn sz ro m c2 h e2 opn2 sz2 ro2 )) (.exit 0) (plar7E n c g e opn sz ro m c2 h e2 opn2 sz2 ro2 (plR n m g h qq) qq (qq + 1)).act (wS 6 [.rows n 1 (fun i j => .int .i64 (g i j)) e opn sz ro, .rows m 1 (fun i j => .int .i64 (h i j)) e2 opn2 sz2 ro2, .rows (qq + 1) 1 (fun i j => .int .i64 ((plR n m g h qq) i j)) 3 true 1 false]) 8 256)) ∧ ((((plbA n c g e opn sz ro m c2 h e2 opn2 sz2 ro2 (plR n m g h qq) (qq + 1)) = (plbA n c g e opn sz ro m c2 h e2 opn2 sz2 ro2 (plR n m g h qq) (qq + 1))) ∧ ((9 = (6 + 3)) ∧ ((HAppend.hAppend (List.replicate (6 : Nat) MObj.hole) (plbL n c g e opn sz ro m c2 h e2 opn2 sz2 ro2 (plR n m g h qq) (qq + 1))) = (HAppend.hAppend (List.replicate (6 : Nat) MObj.hole) (plbL n c g e opn sz ro m c2 h e2 opn2 sz2 ro2 (plR n m g h qq) (qq + 1)))))) ∧ KC Tryz.prog none (.loop plbX) (plbA n c g e opn sz ro m c2 h e2 opn2 sz2 ro2 (plR n m g h qq) (qq + 1)).act (wS 6 (plbL n c g e opn sz ro m c2 h e2 opn2 sz2 ro2 (plR n m g h qq) (qq + 1))) (.exit 2) (plbr1E n c g e opn sz ro m c2 h e2 opn2 sz2 ro2 (plR n m g h qq) tt).act (wS 6 [.rows n 1 (fun i j => .int .i64 (g i j)) e opn sz ro, .rows m 1 (fun i j => .int .i64 (h i j)) e2 opn2 sz2 ro2, .rows tt 1 (fun i j => .int .i64 ((plR n m g h qq) i j)) 3 true 1 false]) 9 256))⟩) := by kernel_rfl
theorem plf0_s (n : Nat) (c : Nat) (g : Nat → Nat → Int) (e : TypeId) (opn : Bool) (sz : Nat) (ro : Bool) (m : Nat) (c2 : Nat) (h : Nat → Nat → Int) (e2 : TypeId) (opn2 : Bool) (sz2 : Nat) (ro2 : Bool) (tt : Nat) (qq : Nat) (hx : 0 < n ∧ n ≤ 1000 ∧ 0 < m ∧ m ≤ 1000) (l0 : KC Tryz.prog none (.loop plaX) (plaA n c g e opn sz ro m c2 h e2 opn2 sz2 ro2).act (wS 6 (plaL n c g e opn sz ro m c2 h e2 opn2 sz2 ro2 )) (.exit 0) (plar7E n c g e opn sz ro m c2 h e2 opn2 sz2 ro2 (plR n m g h qq) qq (qq + 1)).act (wS 6 [.rows n 1 (fun i j => .int .i64 (g i j)) e opn sz ro, .rows m 1 (fun i j => .int .i64 (h i j)) e2 opn2 sz2 ro2, .rows (qq + 1) 1 (fun i j => .int .i64 ((plR n m g h qq) i j)) 3 true 1 false]) 8 256) (l1 : KC Tryz.prog none (.loop plbX) (plbA n c g e opn sz ro m c2 h e2 opn2 sz2 ro2 (plR n m g h qq) (qq + 1)).act (wS 6 (plbL n c g e opn sz ro m c2 h e2 opn2 sz2 ro2 (plR n m g h qq) (qq + 1))) (.exit 2) (plbr1E n c g e opn sz ro m c2 h e2 opn2 sz2 ro2 (plR n m g h qq) tt).act (wS 6 [.rows n 1 (fun i j => .int .i64 (g i j)) e opn sz ro, .rows m 1 (fun i j => .int .i64 (h i j)) e2 opn2 sz2 ro2, .rows tt 1 (fun i j => .int .i64 ((plR n m g h qq) i j)) 3 true 1 false]) 9 256) : SndF Tryz.prog 80 (plArgs n c g e opn sz ro m c2 h e2 opn2 sz2 ro2) (wS 6 (plS n c g e opn sz ro m c2 h e2 opn2 sz2 ro2)) (.slice (some ⟨8, 0, none⟩) tt tt) (wS 6 (plS n c g e opn sz ro m c2 h e2 opn2 sz2 ro2 ++ [.rows tt 1 (fun i j => .int .i64 ((plR n m g h qq) i j)) 3 true 1 false])) 192 0 :=
  sndF_K (L := plS n c g e opn sz ro m c2 h e2 opn2 sz2 ro2) (L2 := [.rows tt 1 (fun i j => .int .i64 ((plR n m g h qq) i j)) 3 true 1 false]) (ms := [8]) smx plK_ok sng (by kernel_rfl) (by kernel_rfl) (plf0_eq n c g e opn sz ro m c2 h e2 opn2 sz2 ro2 tt qq) (by
    repeat' (first | (with_reducible assumption) | exact (fun _ _ _ _ => rfl) | apply And.intro)
    all_goals first | trivial | rfl | assumption | exact wsub1N (by omega) (by omega) | exact decide_eq_true (by omega) | exact decide_eq_false (by omega) | exact bne_iff_ne.2 (by assumption) | exact bne_eq_false_iff_eq.2 (by assumption) | exact beq_iff_eq.2 (by assumption) | exact beq_eq_false_iff_ne.2 (by assumption) | exact wnextW (by omega) | exact wsub1 (by omega) (by omega) | exact toNatO (by omega) | exact congrArg Bool.not (by assumption) | exact congrArg Bool.not (decide_eq_true (by omega)) | exact congrArg Bool.not (decide_eq_false (by omega)) | exact congrArg Bool.not (beq_iff_eq.2 (by assumption)) | exact congrArg Bool.not (beq_eq_false_iff_ne.2 (by assumption)) | exact beq_eq_false_iff_ne.2 (by omega) | exact beq_iff_eq.2 (by omega) | exact bne_iff_ne.2 (by omega) | exact bne_eq_false_iff_eq.2 (by omega) | omega) (by kernel_rfl) (fun o ho => by
      simp only [plS, List.mem_cons, List.not_mem_nil, or_false] at ho
      rcases ho with rfl | rfl
      all_goals first | rfl | exact fun i j => rfl) (fun o ho => by
      simp only [List.mem_cons, List.not_mem_nil, or_false] at ho
      rcases ho with rfl
      all_goals first | rfl | exact fun i j => rfl) (by kernel_rfl)
theorem plf1_eq (n : Nat) (c : Nat) (g : Nat → Nat → Int) (e : TypeId) (opn : Bool) (sz : Nat) (ro : Bool) (m : Nat) (c2 : Nat) (h : Nat → Nat → Int) (e2 : TypeId) (opn2 : Bool) (sz2 : Nat) (ro2 : Bool) (tt : Nat) (qq : Nat) : seenF' Tryz.prog Tryz.f80 6 2 [8] (plf1 n c g e opn sz ro m c2 h e2 opn2 sz2 ro2 tt qq) = some (.slice (some ⟨8, 0, none⟩) tt tt, plS n c g e opn sz ro m c2 h e2 opn2 sz2 ro2 ++ [.rows tt 1 (fun i j => .int .i64 ((plR n m g h qq) i j)) 3 true 1 false], ⟨[], ((True ∧ ((((plaA n c g e opn sz ro m c2 h e2 opn2 sz2 ro2) = (plaA n c g e opn sz ro m c2 h e2 opn2 sz2 ro2)) ∧ ((8 = (6 + 2)) ∧ ((HAppend.hAppend (List.replicate (6 : Nat) MObj.hole) (plaL n c g e opn sz ro m c2 h e2 opn2 sz2 ro2)) = (HAppend.hAppend (List.replicate (6 : Nat) MObj.hole) (plaL n c g e opn sz ro m c2 h e2 opn2 sz2 ro2))))) ∧ KC Tryz.prog none (.loop plaX) (plaA n c g e opn sz ro m c2 h e2 opn2 sz2 ro2).act (wS 6 (plaL n c g e opn sz ro m c2 h e2 opn2 sz2 ro2 )) (.exit 0) (plar7E n c g e opn sz ro m c2 h e2 opn2 sz2 ro2 (plR n m g h qq) qq (qq + 1)).act (wS 6 [.rows n 1 (fun i j => .int .i64 (g i j)) e opn sz ro, .rows m 1 (fun i j => .int .i64 (h i j)) e2 opn2 sz2 ro2, .rows (qq + 1) 1 (fun i j => .int .i64 ((plR n m g h qq) i j)) 3 true 1 false]) 8 256)) ∧ ((((plbA n c g e opn sz ro m c2 h e2 opn2 sz2 ro2 (plR n m g h qq) (qq + 1)) = (plbA n c g e opn sz ro m c2 h e2 opn2 sz2 ro2 (plR n m g h qq) (qq + 1))) ∧ ((9 = (6 + 3)) ∧ ((HAppend.hAppend (List.replicate (6 : Nat) MObj.hole) (plbL n c g e opn sz ro m c2 h e2 opn2 sz2 ro2 (plR n m g h qq) (qq + 1))) = (HAppend.hAppend (List.replicate (6 : Nat) MObj.hole) (plbL n c g e opn sz ro m c2 h e2 opn2 sz2 ro2 (plR n m g h qq) (qq + 1)))))) ∧ KC Tryz.prog none (.loop plbX) (plbA n c g e opn sz ro m c2 h e2 opn2 sz2 ro2 (plR n m g h qq) (qq + 1)).act (wS 6 (plbL n c g e opn sz ro m c2 h e2 opn2 sz2 ro2 (plR n m g h qq) (qq + 1))) (.exit 2) (plbr2E n c g e opn sz ro m c2 h e2 opn2 sz2 ro2 (plR n m g h qq) tt).act (wS 6 [.rows n 1 (fun i j => .int .i64 (g i j)) e opn sz ro, .rows m 1 (fun i j => .int .i64 (h i j)) e2 opn2 sz2 ro2, .rows tt 1 (fun i j => .int .i64 ((plR n m g h qq) i j)) 3 true 1 false]) 9 256))⟩) := by kernel_rfl
theorem plf1_s (n : Nat) (c : Nat) (g : Nat → Nat → Int) (e : TypeId) (opn : Bool) (sz : Nat) (ro : Bool) (m : Nat) (c2 : Nat) (h : Nat → Nat → Int) (e2 : TypeId) (opn2 : Bool) (sz2 : Nat) (ro2 : Bool) (tt : Nat) (qq : Nat) (hx : 0 < n ∧ n ≤ 1000 ∧ 0 < m ∧ m ≤ 1000) (l0 : KC Tryz.prog none (.loop plaX) (plaA n c g e opn sz ro m c2 h e2 opn2 sz2 ro2).act (wS 6 (plaL n c g e opn sz ro m c2 h e2 opn2 sz2 ro2 )) (.exit 0) (plar7E n c g e opn sz ro m c2 h e2 opn2 sz2 ro2 (plR n m g h qq) qq (qq + 1)).act (wS 6 [.rows n 1 (fun i j => .int .i64 (g i j)) e opn sz ro, .rows m 1 (fun i j => .int .i64 (h i j)) e2 opn2 sz2 ro2, .rows (qq + 1) 1 (fun i j => .int .i64 ((plR n m g h qq) i j)) 3 true 1 false]) 8 256) (l1 : KC Tryz.prog none (.loop plbX) (plbA n c g e opn sz ro m c2 h e2 opn2 sz2 ro2 (plR n m g h qq) (qq + 1)).act (wS 6 (plbL n c g e opn sz ro m c2 h e2 opn2 sz2 ro2 (plR n m g h qq) (qq + 1))) (.exit 2) (plbr2E n c g e opn sz ro m c2 h e2 opn2 sz2 ro2 (plR n m g h qq) tt).act (wS 6 [.rows n 1 (fun i j => .int .i64 (g i j)) e opn sz ro, .rows m 1 (fun i j => .int .i64 (h i j)) e2 opn2 sz2 ro2, .rows tt 1 (fun i j => .int .i64 ((plR n m g h qq) i j)) 3 true 1 false]) 9 256) : SndF Tryz.prog 80 (plArgs n c g e opn sz ro m c2 h e2 opn2 sz2 ro2) (wS 6 (plS n c g e opn sz ro m c2 h e2 opn2 sz2 ro2)) (.slice (some ⟨8, 0, none⟩) tt tt) (wS 6 (plS n c g e opn sz ro m c2 h e2 opn2 sz2 ro2 ++ [.rows tt 1 (fun i j => .int .i64 ((plR n m g h qq) i j)) 3 true 1 false])) 192 0 :=
  sndF_K (L := plS n c g e opn sz ro m c2 h e2 opn2 sz2 ro2) (L2 := [.rows tt 1 (fun i j => .int .i64 ((plR n m g h qq) i j)) 3 true 1 false]) (ms := [8]) smx plK_ok sng (by kernel_rfl) (by kernel_rfl) (plf1_eq n c g e opn sz ro m c2 h e2 opn2 sz2 ro2 tt qq) (by
    repeat' (first | (with_reducible assumption) | exact (fun _ _ _ _ => rfl) | apply And.intro)
    all_goals first | trivial | rfl | assumption | exact wsub1N (by omega) (by omega) | exact decide_eq_true (by omega) | exact decide_eq_false (by omega) | exact bne_iff_ne.2 (by assumption) | exact bne_eq_false_iff_eq.2 (by assumption) | exact beq_iff_eq.2 (by assumption) | exact beq_eq_false_iff_ne.2 (by assumption) | exact wnextW (by omega) | exact wsub1 (by omega) (by omega) | exact toNatO (by omega) | exact congrArg Bool.not (by assumption) | exact congrArg Bool.not (decide_eq_true (by omega)) | exact congrArg Bool.not (decide_eq_false (by omega)) | exact congrArg Bool.not (beq_iff_eq.2 (by assumption)) | exact congrArg Bool.not (beq_eq_false_iff_ne.2 (by assumption)) | exact beq_eq_false_iff_ne.2 (by omega) | exact beq_iff_eq.2 (by omega) | exact bne_iff_ne.2 (by omega) | exact bne_eq_false_iff_eq.2 (by omega) | omega) (by kernel_rfl) (fun o ho => by
      simp only [plS, List.mem_cons, List.not_mem_nil, or_false] at ho
      rcases ho with rfl | rfl
      all_goals first | rfl | exact fun i j => rfl) (fun o ho => by
      simp only [List.mem_cons, List.not_mem_nil, or_false] at ho
      rcases ho with rfl
      all_goals first | rfl | exact fun i j => rfl) (by kernel_rfl)
end Go.Proofs.YtbkpnhbcihcgaaaGreatDoor
end
section
set_option linter.all false
set_option maxRecDepth 1000000
open Go.RowKit
namespace Go.Proofs.YtbkpnhbcihcgaaaGreatDoor
open Mini
noncomputable section
variable (n : Nat) (c : Nat) (g : GI) (e : TypeId) (opn : Bool) (sz : Nat) (ro : Bool) (h : GI)
def mulR (g h : GI) (i : Nat) (G : GI) : Nat → GI
  | 0 => G
  | k + 1 => setI (mulR g h i G k) (i + k) 0 [(IntKind.i64.wrap ((mulR g h i G k (i + k) 0) + (IntKind.i64.wrap ((g i 0) * (h k 0)))))]
def mulO (g h : GI) (m : Nat) : Nat → GI
  | 0 => (fun _ _ => (0 : Int))
  | i + 1 => mulR g h i (mulO g h m i) m
noncomputable def praX : Code := loopAt Tryz.prog 77 1
noncomputable def praK : CallS := noXS
def praA (e : TypeId) (opn : Bool) (sz : Nat) (ro : Bool) (m : Nat) (c2 : Nat) (h : GI) (e2 : TypeId) (opn2 : Bool) (sz2 : Nat) (ro2 : Bool) (u : Nat) (i26 : Nat) (g2 : GI) : MA := MA.ofL 45 (jl [.chan none, .slice (some ⟨7, 0, none⟩) m c2, .chan none, .chan none, .chan none, .slice (some ⟨8, 0, none⟩) (n + m - 1) (n + m - 1), .int .i64 ((u : Nat) : Int), .int .i64 (g u 0)] 9 (jl [.slice (some ⟨6, 0, none⟩) n c, .int .i64 ((n : Nat) : Int), .int .i64 ((u : Nat) : Int)] 4 (jl [.slice (some ⟨7, 0, none⟩) m c2, .int .i64 ((m : Nat) : Int), .int .i64 ((i26 : Nat) : Int)] 18 []))) []
abbrev sB0 (e2 : TypeId) (g2 : GI) (m : Nat) (opn2 : Bool) (ro2 : Bool) (sz2 : Nat) : List MObj := [.rows n 1 (fun i j => .int .i64 (g i j)) e opn sz ro, .rows m 1 (fun i j => .int .i64 (h i j)) e2 opn2 sz2 ro2, .rows (n + m - 1) 1 (fun i j => .int .i64 (g2 i j)) 3 false 0 false]
def praL (c : Nat) (g : GI) (e : TypeId) (opn : Bool) (sz : Nat) (ro : Bool) (m : Nat) (c2 : Nat) (h : GI) (e2 : TypeId) (opn2 : Bool) (sz2 : Nat) (ro2 : Bool) (u : Nat) (i26 : Nat) (g2 : GI) : List MObj := (sB0 n g e opn sz ro h e2 g2 m opn2 ro2 sz2)
noncomputable def prar0 (m : Nat) (c2 : Nat) (h : GI) (e2 : TypeId) (opn2 : Bool) (sz2 : Nat) (ro2 : Bool) (u : Nat) (i26 : Nat) (g2 : GI) : Option OutCS := evK Tryz.prog praK 1000 false praX (praA n c g e opn sz ro m c2 h e2 opn2 sz2 ro2 u i26 g2) (wS 6 (praL n c g e opn sz ro m c2 h e2 opn2 sz2 ro2 u i26 g2)) ⟨[1, .row i26 0, .row i26 0, .azz (.int .i64 (((u + i26) : Nat) : Int)), .row (u + i26) 0, .row (u + i26) 0, .row (u + i26) 0, .row (u + i26) 0, .azz (.int .i64 ((i26 + 1 : Nat) : Int))], True⟩
noncomputable def prar1 (m : Nat) (c2 : Nat) (h : GI) (e2 : TypeId) (opn2 : Bool) (sz2 : Nat) (ro2 : Bool) (u : Nat) (i26 : Nat) (g2 : GI) : Option OutCS := evK Tryz.prog praK 1000 false praX (praA n c g e opn sz ro m c2 h e2 opn2 sz2 ro2 u i26 g2) (wS 6 (praL n c g e opn sz ro m c2 h e2 opn2 sz2 ro2 u i26 g2)) ⟨[0], True⟩
def prar1E (g : GI) (e : TypeId) (opn : Bool) (sz : Nat) (ro : Bool) (m : Nat) (c2 : Nat) (h : GI) (e2 : TypeId) (opn2 : Bool) (sz2 : Nat) (ro2 : Bool) (u : Nat) (i26 : Nat) (g2 : GI) : MA := MA.ofL 45 (jl [.chan none, .slice (some ⟨7, 0, none⟩) m c2, .chan none, .chan none, .chan none, .slice (some ⟨8, 0, none⟩) (n + m - 1) (n + m - 1)] 11 (jl [.slice (some ⟨6, 0, none⟩) n c, .int .i64 ((n : Nat) : Int), .int .i64 ((u : Nat) : Int)] 25 [])) []
noncomputable def prbX : Code := loopAt Tryz.prog 77 0
noncomputable def prbK : CallS := noXS
def prbA (g : GI) (e : TypeId) (opn : Bool) (sz : Nat) (ro : Bool) (m : Nat) (c2 : Nat) (h : GI) (e2 : TypeId) (opn2 : Bool) (sz2 : Nat) (ro2 : Bool) (i19 : Nat) (g2 : GI) : MA := MA.ofL 45 (jl [.chan none, .slice (some ⟨7, 0, none⟩) m c2, .chan none, .chan none, .chan none, .slice (some ⟨8, 0, none⟩) (n + m - 1) (n + m - 1)] 11 (jl [.slice (some ⟨6, 0, none⟩) n c, .int .i64 ((n : Nat) : Int), .int .i64 ((i19 : Nat) : Int)] 25 [])) []
def prbL (c : Nat) (g : GI) (e : TypeId) (opn : Bool) (sz : Nat) (ro : Bool) (m : Nat) (c2 : Nat) (h : GI) (e2 : TypeId) (opn2 : Bool) (sz2 : Nat) (ro2 : Bool) (i19 : Nat) (g2 : GI) : List MObj := (sB0 n g e opn sz ro h e2 g2 m opn2 ro2 sz2)
abbrev sB1 (e2 : TypeId) (g2 : GI) (i19 : Nat) (m : Nat) (opn2 : Bool) (ro2 : Bool) (sz2 : Nat) : List MObj := [.rows n 1 (fun i j => .int .i64 (g i j)) e opn sz ro, .rows m 1 (fun i j => .int .i64 (h i j)) e2 opn2 sz2 ro2, .rows (n + m - 1) 1 (fun i j => .int .i64 ((mulR g h i19 g2 m) i j)) 3 false 0 false]
noncomputable def prbr0 (m : Nat) (c2 : Nat) (h : GI) (e2 : TypeId) (opn2 : Bool) (sz2 : Nat) (ro2 : Bool) (i19 : Nat) (g2 : GI) : Option OutCS := evK Tryz.prog prbK 1000 false prbX (prbA n c g e opn sz ro m c2 h e2 opn2 sz2 ro2 i19 g2) (wS 6 (prbL n c g e opn sz ro m c2 h e2 opn2 sz2 ro2 i19 g2)) ⟨[1, .row i19 0, .row i19 0, .lp 118358242 (praA n c g e opn sz ro m c2 h e2 opn2 sz2 ro2 i19 0 g2) 6 (praL n c g e opn sz ro m c2 h e2 opn2 sz2 ro2 i19 0 g2) (.exit 2) (prar1E n c g e opn sz ro m c2 h e2 opn2 sz2 ro2 i19 m (mulR g h i19 g2 m)) (sB1 n g e opn sz ro h e2 g2 i19 m opn2 ro2 sz2) 9 256, .azz (.int .i64 ((i19 + 1 : Nat) : Int))], True⟩
noncomputable def prbr1 (m : Nat) (c2 : Nat) (h : GI) (e2 : TypeId) (opn2 : Bool) (sz2 : Nat) (ro2 : Bool) (i19 : Nat) (g2 : GI) : Option OutCS := evK Tryz.prog prbK 1000 false prbX (prbA n c g e opn sz ro m c2 h e2 opn2 sz2 ro2 i19 g2) (wS 6 (prbL n c g e opn sz ro m c2 h e2 opn2 sz2 ro2 i19 g2)) ⟨[0], True⟩
def prbr1E (c : Nat) (g : GI) (e : TypeId) (opn : Bool) (sz : Nat) (ro : Bool) (m : Nat) (c2 : Nat) (h : GI) (e2 : TypeId) (opn2 : Bool) (sz2 : Nat) (ro2 : Bool) (i19 : Nat) (g2 : GI) : MA := MA.ofL 45 (jl [] 5 (jl [.slice (some ⟨8, 0, none⟩) (n + m - 1) (n + m - 1)] 39 [])) []
noncomputable def prK : CallS := noXS
def prArgs (g : GI) (e : TypeId) (opn : Bool) (sz : Nat) (ro : Bool) (m : Nat) (c2 : Nat) (h : GI) (e2 : TypeId) (opn2 : Bool) (sz2 : Nat) (ro2 : Bool) : Array Value := #[.slice (some ⟨6, 0, none⟩) n c, .slice (some ⟨7, 0, none⟩) m c2]
def prS (c : Nat) (g : GI) (e : TypeId) (opn : Bool) (sz : Nat) (ro : Bool) (m : Nat) (c2 : Nat) (h : GI) (e2 : TypeId) (opn2 : Bool) (sz2 : Nat) (ro2 : Bool) : List MObj := [.rows n 1 (fun i j => .int .i64 (g i j)) e opn sz ro, .rows m 1 (fun i j => .int .i64 (h i j)) e2 opn2 sz2 ro2]
abbrev sB2 (e2 : TypeId) (m : Nat) (opn2 : Bool) (ro2 : Bool) (sz2 : Nat) : List MObj := [.rows n 1 (fun i j => .int .i64 (g i j)) e opn sz ro, .rows m 1 (fun i j => .int .i64 (h i j)) e2 opn2 sz2 ro2, .rows (n + m - 1) 1 (fun i j => .int .i64 ((mulO g h m n) i j)) 3 false 0 false]
noncomputable def prf0 (m : Nat) (c2 : Nat) (h : GI) (e2 : TypeId) (opn2 : Bool) (sz2 : Nat) (ro2 : Bool) : Option OutCS := evK Tryz.prog prK 1000 false (bodyOf Tryz.prog 77) (startM Tryz.f77 (prArgs n c g e opn sz ro m c2 h e2 opn2 sz2 ro2)) (wS 6 (prS n c g e opn sz ro m c2 h e2 opn2 sz2 ro2)) ⟨[.azz (.int .i64 ((n : Nat) : Int)), .azz (.int .i64 ((m : Nat) : Int)), .azz (.int .i64 (((n + m) : Nat) : Int)), .azz (.int .i64 (((n + m - 1) : Nat) : Int)), .row (n + m - 1) 1, .lp 917538 (prbA n c g e opn sz ro m c2 h e2 opn2 sz2 ro2 0 (fun _ _ => (0 : Int))) 6 (prbL n c g e opn sz ro m c2 h e2 opn2 sz2 ro2 0 (fun _ _ => (0 : Int))) (.exit 0) (prbr1E n c g e opn sz ro m c2 h e2 opn2 sz2 ro2 n (mulO g h m n)) (sB2 n g e opn sz ro h e2 m opn2 ro2 sz2) 9 256], True⟩
theorem praK_ok : FOkS Tryz.prog praK := noXS_ok
abbrev sB3 (g2 : GI) (i26 : Nat) (u : Nat) := setI g2 (u + i26) 0 [(IntKind.i64.wrap ((g2 (u + i26) 0) + (IntKind.i64.wrap ((g u 0) * (h i26 0)))))]
abbrev sB4 (e2 : TypeId) (g2 : GI) (i26 : Nat) (m : Nat) (opn2 : Bool) (ro2 : Bool) (sz2 : Nat) (u : Nat) : List MObj := [.rows n 1 (fun i j => .int .i64 (g i j)) e opn sz ro, .rows m 1 (fun i j => .int .i64 (h i j)) e2 opn2 sz2 ro2, .rows (n + m - 1) 1 (fun i j => tellV (invN 9 []) 8 ((setRow (fun i j => .int .i64 (g2 i j)) (u + i26) 0 [.int .i64 (IntKind.i64.wrap ((g2 (u + i26) 0) + (IntKind.i64.wrap ((g u 0) * (h i26 0)))))]) i j)) 3 false 0 false]
abbrev sB5 (i26 : Nat) (m : Nat) (u : Nat) := (((((u + i26) : Nat)) : Int) = (Int.ofNat (u + i26))) ∧ ((u + i26) < ((n + m) - 1))
theorem prar0_eq (m : Nat) (c2 : Nat) (h : GI) (e2 : TypeId) (opn2 : Bool) (sz2 : Nat) (ro2 : Bool) (u : Nat) (i26 : Nat) (g2 : GI) : seenK 6 3 [] 118358242 256 (prar0 n c g e opn sz ro m c2 h e2 opn2 sz2 ro2 u i26 g2) = some (.normal, praA n c g e opn sz ro m c2 h e2 opn2 sz2 ro2 u (i26 + 1) (sB3 g h g2 i26 u), (sB4 n g e opn sz ro h e2 g2 i26 m opn2 ro2 sz2 u), 256, ⟨[], (((((((((True ∧ ((decide ((((i26 : Nat)) : Int) < (((m : Nat)) : Int))) = true)) ∧ (((((i26 : Nat)) : Int) = (Int.ofNat i26)) ∧ (i26 < m))) ∧ (((0 + (i26 * 1)) = ((i26 * 1) + 0)) ∧ (i26 < m))) ∧ (((.int .i64 (IntKind.i64.wrap ((((u : Nat)) : Int) + (((i26 : Nat)) : Int)))) : Value) = (.int .i64 ((((u + i26) : Nat)) : Int)))) ∧ (sB5 n i26 m u)) ∧ (((0 + ((u + i26) * 1)) = (((u + i26) * 1) + 0)) ∧ ((u + i26) < ((n + m) - 1)))) ∧ (sB5 n i26 m u)) ∧ (((0 + ((u + i26) * 1)) = (((u + i26) * 1) + 0)) ∧ ((u + i26) < ((n + m) - 1)))) ∧ (((.int .i64 (IntKind.i64.wrap ((((i26 : Nat)) : Int) + (1 : Int)))) : Value) = (.int .i64 ((((i26 + 1) : Nat)) : Int))))⟩) := by kernel_rfl
theorem prar0_k (m : Nat) (c2 : Nat) (h : GI) (e2 : TypeId) (opn2 : Bool) (sz2 : Nat) (ro2 : Bool) (u : Nat) (i26 : Nat) (g2 : GI) (hx : u < n ∧ 0 < n ∧ n ≤ 1000 ∧ 0 < m ∧ m ≤ 1000) (h0 : ((i26 : Nat) : Int) < ((m : Nat) : Int)) : KC Tryz.prog none praX (praA n c g e opn sz ro m c2 h e2 opn2 sz2 ro2 u i26 g2).act (wS 6 (praL n c g e opn sz ro m c2 h e2 opn2 sz2 ro2 u i26 g2)) .normal (praA n c g e opn sz ro m c2 h e2 opn2 sz2 ro2 u (i26 + 1) (sB3 g h g2 i26 u)).act (wS 6 (praL n c g e opn sz ro m c2 h e2 opn2 sz2 ro2 u (i26 + 1) (sB3 g h g2 i26 u))) 9 256 := by
  refine KT.toldAs (L := (sB4 n g e opn sz ro h e2 g2 i26 m opn2 ro2 sz2 u)) ?_ (by
    simp only [List.map_cons, List.map_nil, praL]
    all_goals exact kr)
  exact seenK_ok smx praK_ok sng (prar0_eq n c g e opn sz ro m c2 h e2 opn2 sz2 ro2 u i26 g2) kq
theorem prar1_eq (m : Nat) (c2 : Nat) (h : GI) (e2 : TypeId) (opn2 : Bool) (sz2 : Nat) (ro2 : Bool) (u : Nat) (i26 : Nat) (g2 : GI) : seenK 6 3 [] 917538 256 (prar1 n c g e opn sz ro m c2 h e2 opn2 sz2 ro2 u i26 g2) = some ((.exit 2), prar1E n c g e opn sz ro m c2 h e2 opn2 sz2 ro2 u i26 g2, (sB0 n g e opn sz ro h e2 g2 m opn2 ro2 sz2), 256, ⟨[], (True ∧ ((decide ((((i26 : Nat)) : Int) < (((m : Nat)) : Int))) = false))⟩) := by kernel_rfl
abbrev sB6 (e2 : TypeId) (g2 : GI) (m : Nat) (opn2 : Bool) (ro2 : Bool) (sz2 : Nat) := wS 6 (sB0 n g e opn sz ro h e2 g2 m opn2 ro2 sz2)
theorem prar1_k (m : Nat) (c2 : Nat) (h : GI) (e2 : TypeId) (opn2 : Bool) (sz2 : Nat) (ro2 : Bool) (u : Nat) (i26 : Nat) (g2 : GI) (hx : u < n ∧ 0 < n ∧ n ≤ 1000 ∧ 0 < m ∧ m ≤ 1000) (h0 : ¬ ((i26 : Nat) : Int) < ((m : Nat) : Int)) : KC Tryz.prog none praX (praA n c g e opn sz ro m c2 h e2 opn2 sz2 ro2 u i26 g2).act (wS 6 (praL n c g e opn sz ro m c2 h e2 opn2 sz2 ro2 u i26 g2)) (.exit 2) (prar1E n c g e opn sz ro m c2 h e2 opn2 sz2 ro2 u i26 g2).act (sB6 n g e opn sz ro h e2 g2 m opn2 ro2 sz2) 9 256 :=
  seenK_ok smx praK_ok sng (prar1_eq n c g e opn sz ro m c2 h e2 opn2 sz2 ro2 u i26 g2) kq
theorem pra_all (m : Nat) (c2 : Nat) (h : GI) (e2 : TypeId) (opn2 : Bool) (sz2 : Nat) (ro2 : Bool) (u : Nat) (G : GI) (hx : u < n ∧ 0 < n ∧ n ≤ 1000 ∧ 0 < m ∧ m ≤ 1000) : KC Tryz.prog none (.loop praX) (praA n c g e opn sz ro m c2 h e2 opn2 sz2 ro2 u 0 G).act (wS 6 (praL n c g e opn sz ro m c2 h e2 opn2 sz2 ro2 u 0 G)) (.exit 2) (prar1E n c g e opn sz ro m c2 h e2 opn2 sz2 ro2 u m (mulR g h u G m)).act (wS 6 [.rows n 1 (fun i j => .int .i64 (g i j)) e opn sz ro, .rows m 1 (fun i j => .int .i64 (h i j)) e2 opn2 sz2 ro2, .rows (n + m - 1) 1 (fun i j => .int .i64 ((mulR g h u G m) i j)) 3 false 0 false]) 9 256 := by
  exact K_rounds (A := fun i => (praA n c g e opn sz ro m c2 h e2 opn2 sz2 ro2 u i (mulR g h u G i)).act) (S := fun i => wS 6 (praL n c g e opn sz ro m c2 h e2 opn2 sz2 ro2 u i (mulR g h u G i))) (m) (fun i hi => prar0_k n c g e opn sz ro m c2 h e2 opn2 sz2 ro2 u i (mulR g h u G i) hx (by omega)) (prar1_k n c g e opn sz ro m c2 h e2 opn2 sz2 ro2 u m (mulR g h u G m) hx (by omega)) (by simp)
theorem prbK_ok : FOkS Tryz.prog prbK := noXS_ok
abbrev sB7 := List.replicate (6 : Nat) MObj.hole
abbrev sB8 (e2 : TypeId) (g2 : GI) (i19 : Nat) (m : Nat) (opn2 : Bool) (ro2 : Bool) (sz2 : Nat) := wS 6 (sB1 n g e opn sz ro h e2 g2 i19 m opn2 ro2 sz2)
theorem prbr0_eq (m : Nat) (c2 : Nat) (h : GI) (e2 : TypeId) (opn2 : Bool) (sz2 : Nat) (ro2 : Bool) (i19 : Nat) (g2 : GI) : seenK 6 3 [] 917538 256 (prbr0 n c g e opn sz ro m c2 h e2 opn2 sz2 ro2 i19 g2) = some (.normal, prbA n c g e opn sz ro m c2 h e2 opn2 sz2 ro2 (i19 + 1) (mulR g h i19 g2 m), (sB1 n g e opn sz ro h e2 g2 i19 m opn2 ro2 sz2), 256, ⟨[], (((((True ∧ ((decide ((((i19 : Nat)) : Int) < (((n : Nat)) : Int))) = true)) ∧ (((((i19 : Nat)) : Int) = (Int.ofNat i19)) ∧ (i19 < n))) ∧ (((0 + (i19 * 1)) = ((i19 * 1) + 0)) ∧ (i19 < n))) ∧ ((((praA n c g e opn sz ro m c2 h e2 opn2 sz2 ro2 i19 (0 : Nat) g2) = (praA n c g e opn sz ro m c2 h e2 opn2 sz2 ro2 i19 (0 : Nat) g2)) ∧ ((9 = (6 + 3)) ∧ ((HAppend.hAppend sB7 (praL n c g e opn sz ro m c2 h e2 opn2 sz2 ro2 i19 (0 : Nat) g2)) = (HAppend.hAppend sB7 (praL n c g e opn sz ro m c2 h e2 opn2 sz2 ro2 i19 (0 : Nat) g2))))) ∧ KC Tryz.prog none (.loop praX) (praA n c g e opn sz ro m c2 h e2 opn2 sz2 ro2 i19 0 g2).act (wS 6 (praL n c g e opn sz ro m c2 h e2 opn2 sz2 ro2 i19 0 g2)) (.exit 2) (prar1E n c g e opn sz ro m c2 h e2 opn2 sz2 ro2 i19 m (mulR g h i19 g2 m)).act (sB8 n g e opn sz ro h e2 g2 i19 m opn2 ro2 sz2) 9 256)) ∧ (((.int .i64 (IntKind.i64.wrap ((((i19 : Nat)) : Int) + (1 : Int)))) : Value) = (.int .i64 ((((i19 + 1) : Nat)) : Int))))⟩) := by kernel_rfl
theorem prbr0_k (m : Nat) (c2 : Nat) (h : GI) (e2 : TypeId) (opn2 : Bool) (sz2 : Nat) (ro2 : Bool) (i19 : Nat) (g2 : GI) (hx : 0 < n ∧ n ≤ 1000 ∧ 0 < m ∧ m ≤ 1000) (h0 : ((i19 : Nat) : Int) < ((n : Nat) : Int)) (l0 : KC Tryz.prog none (.loop praX) (praA n c g e opn sz ro m c2 h e2 opn2 sz2 ro2 i19 0 g2).act (wS 6 (praL n c g e opn sz ro m c2 h e2 opn2 sz2 ro2 i19 0 g2)) (.exit 2) (prar1E n c g e opn sz ro m c2 h e2 opn2 sz2 ro2 i19 m (mulR g h i19 g2 m)).act (sB8 n g e opn sz ro h e2 g2 i19 m opn2 ro2 sz2) 9 256) : KC Tryz.prog none prbX (prbA n c g e opn sz ro m c2 h e2 opn2 sz2 ro2 i19 g2).act (wS 6 (prbL n c g e opn sz ro m c2 h e2 opn2 sz2 ro2 i19 g2)) .normal (prbA n c g e opn sz ro m c2 h e2 opn2 sz2 ro2 (i19 + 1) (mulR g h i19 g2 m)).act (wS 6 (prbL n c g e opn sz ro m c2 h e2 opn2 sz2 ro2 (i19 + 1) (mulR g h i19 g2 m))) 9 256 :=
  seenK_ok smx prbK_ok sng (prbr0_eq n c g e opn sz ro m c2 h e2 opn2 sz2 ro2 i19 g2) kq
theorem prbr1_eq (m : Nat) (c2 : Nat) (h : GI) (e2 : TypeId) (opn2 : Bool) (sz2 : Nat) (ro2 : Bool) (i19 : Nat) (g2 : GI) : seenK 6 3 [] 32 256 (prbr1 n c g e opn sz ro m c2 h e2 opn2 sz2 ro2 i19 g2) = some ((.exit 0), prbr1E n c g e opn sz ro m c2 h e2 opn2 sz2 ro2 i19 g2, (sB0 n g e opn sz ro h e2 g2 m opn2 ro2 sz2), 256, ⟨[], (True ∧ ((decide ((((i19 : Nat)) : Int) < (((n : Nat)) : Int))) = false))⟩) := by kernel_rfl
theorem prbr1_k (m : Nat) (c2 : Nat) (h : GI) (e2 : TypeId) (opn2 : Bool) (sz2 : Nat) (ro2 : Bool) (i19 : Nat) (g2 : GI) (hx : 0 < n ∧ n ≤ 1000 ∧ 0 < m ∧ m ≤ 1000) (h0 : ¬ ((i19 : Nat) : Int) < ((n : Nat) : Int)) : KC Tryz.prog none prbX (prbA n c g e opn sz ro m c2 h e2 opn2 sz2 ro2 i19 g2).act (wS 6 (prbL n c g e opn sz ro m c2 h e2 opn2 sz2 ro2 i19 g2)) (.exit 0) (prbr1E n c g e opn sz ro m c2 h e2 opn2 sz2 ro2 i19 g2).act (sB6 n g e opn sz ro h e2 g2 m opn2 ro2 sz2) 9 256 :=
  seenK_ok smx prbK_ok sng (prbr1_eq n c g e opn sz ro m c2 h e2 opn2 sz2 ro2 i19 g2) kq
abbrev sB9 (e2 : TypeId) (m : Nat) (opn2 : Bool) (ro2 : Bool) (sz2 : Nat) := wS 6 (sB2 n g e opn sz ro h e2 m opn2 ro2 sz2)
theorem prb_all (m : Nat) (c2 : Nat) (h : GI) (e2 : TypeId) (opn2 : Bool) (sz2 : Nat) (ro2 : Bool)  (hx : 0 < n ∧ n ≤ 1000 ∧ 0 < m ∧ m ≤ 1000) : KC Tryz.prog none (.loop prbX) (prbA n c g e opn sz ro m c2 h e2 opn2 sz2 ro2 0 (fun _ _ => (0 : Int))).act (wS 6 (prbL n c g e opn sz ro m c2 h e2 opn2 sz2 ro2 0 (fun _ _ => (0 : Int)))) (.exit 0) (prbr1E n c g e opn sz ro m c2 h e2 opn2 sz2 ro2 n (mulO g h m n)).act (sB9 n g e opn sz ro h e2 m opn2 ro2 sz2) 9 256 := by
  exact K_rounds (A := fun i => (prbA n c g e opn sz ro m c2 h e2 opn2 sz2 ro2 i (mulO g h m i)).act) (S := fun i => wS 6 (prbL n c g e opn sz ro m c2 h e2 opn2 sz2 ro2 i (mulO g h m i))) (n) (fun i hi => prbr0_k n c g e opn sz ro m c2 h e2 opn2 sz2 ro2 i (mulO g h m i) hx (by omega) (pra_all n c g e opn sz ro m c2 h e2 opn2 sz2 ro2 i (mulO g h m i) ⟨by omega, hx⟩)) (prbr1_k n c g e opn sz ro m c2 h e2 opn2 sz2 ro2 n (mulO g h m n) hx (by omega)) (by simp)
theorem prK_ok : FOkS Tryz.prog prK := noXS_ok
abbrev sB10 (m : Nat) : List MObj := [.rows (n + m - 1) 1 (fun i j => .int .i64 ((mulO g h m n) i j)) 3 false 0 false]
abbrev sB11 (m : Nat) := (((((n + m) - 1) : Nat)) : Int) = (Int.ofNat ((n + m) - 1))
abbrev sB12 := fun (x : Nat) => (fun (x : Nat) => (0 : Int))
theorem prf0_eq (m : Nat) (c2 : Nat) (h : GI) (e2 : TypeId) (opn2 : Bool) (sz2 : Nat) (ro2 : Bool) : seenF' Tryz.prog Tryz.f77 6 2 [8] (prf0 n c g e opn sz ro m c2 h e2 opn2 sz2 ro2) = some (.slice (some ⟨8, 0, none⟩) (n + m - 1) (n + m - 1), prS n c g e opn sz ro m c2 h e2 opn2 sz2 ro2 ++ (sB10 n g h m), ⟨[], ((((((True ∧ (((.int .i64 (((n : Nat)) : Int)) : Value) = (.int .i64 (((n : Nat)) : Int)))) ∧ (((.int .i64 (((m : Nat)) : Int)) : Value) = (.int .i64 (((m : Nat)) : Int)))) ∧ (((.int .i64 (IntKind.i64.wrap ((((n : Nat)) : Int) + (((m : Nat)) : Int)))) : Value) = (.int .i64 ((((n + m) : Nat)) : Int)))) ∧ (((.int .i64 (IntKind.i64.wrap (((((n + m) : Nat)) : Int) - (1 : Int)))) : Value) = (.int .i64 (((((n + m) - 1) : Nat)) : Int)))) ∧ ((sB11 n m) ∧ ((sB11 n m) ∧ ((((((8 : Nat)) : Int) * (((((n + m) - 1) : Nat)) : Int)) ≤ (281474976710656 : Int)) ∧ (((n + m) - 1) ≤ (1048576 : Nat)))))) ∧ ((((prbA n c g e opn sz ro m c2 h e2 opn2 sz2 ro2 (0 : Nat) sB12) = (prbA n c g e opn sz ro m c2 h e2 opn2 sz2 ro2 (0 : Nat) sB12)) ∧ ((9 = (6 + 3)) ∧ ((HAppend.hAppend sB7 (prbL n c g e opn sz ro m c2 h e2 opn2 sz2 ro2 (0 : Nat) sB12)) = (HAppend.hAppend sB7 (prbL n c g e opn sz ro m c2 h e2 opn2 sz2 ro2 (0 : Nat) sB12))))) ∧ KC Tryz.prog none (.loop prbX) (prbA n c g e opn sz ro m c2 h e2 opn2 sz2 ro2 0 (fun _ _ => (0 : Int))).act (wS 6 (prbL n c g e opn sz ro m c2 h e2 opn2 sz2 ro2 0 (fun _ _ => (0 : Int)))) (.exit 0) (prbr1E n c g e opn sz ro m c2 h e2 opn2 sz2 ro2 n (mulO g h m n)).act (sB9 n g e opn sz ro h e2 m opn2 ro2 sz2) 9 256))⟩) := by kernel_rfl
theorem prf0_s (m : Nat) (c2 : Nat) (h : GI) (e2 : TypeId) (opn2 : Bool) (sz2 : Nat) (ro2 : Bool) (hx : 0 < n ∧ n ≤ 1000 ∧ 0 < m ∧ m ≤ 1000) (l0 : KC Tryz.prog none (.loop prbX) (prbA n c g e opn sz ro m c2 h e2 opn2 sz2 ro2 0 (fun _ _ => (0 : Int))).act (wS 6 (prbL n c g e opn sz ro m c2 h e2 opn2 sz2 ro2 0 (fun _ _ => (0 : Int)))) (.exit 0) (prbr1E n c g e opn sz ro m c2 h e2 opn2 sz2 ro2 n (mulO g h m n)).act (sB9 n g e opn sz ro h e2 m opn2 ro2 sz2) 9 256) : SndF Tryz.prog 77 (prArgs n c g e opn sz ro m c2 h e2 opn2 sz2 ro2) (wS 6 (prS n c g e opn sz ro m c2 h e2 opn2 sz2 ro2)) (.slice (some ⟨8, 0, none⟩) (n + m - 1) (n + m - 1)) (wS 6 (prS n c g e opn sz ro m c2 h e2 opn2 sz2 ro2 ++ (sB10 n g h m))) 192 0 :=
  kF (L := prS n c g e opn sz ro m c2 h e2 opn2 sz2 ro2) (L2 := (sB10 n g h m)) (ms := [8]) prK_ok (prf0_eq n c g e opn sz ro m c2 h e2 opn2 sz2 ro2) kq
end
end Go.Proofs.YtbkpnhbcihcgaaaGreatDoor
end
section
set_option linter.all false
set_option maxRecDepth 1000000
open Go.RowKit
namespace Go.Proofs.YtbkpnhbcihcgaaaGreatDoor
open Mini
noncomputable section
variable (n : Nat) (c : Nat) (g : GI) (e : TypeId) (opn : Bool) (sz : Nat) (ro : Bool) (m : Nat) (c2 : Nat) (h : GI) (e2 : TypeId) (opn2 : Bool) (sz2 : Nat) (ro2 : Bool) (u : Nat) (i7 : Nat) (i6 : Nat) (g2 : GI)
noncomputable def rpaX : Code := loopAt Tryz.prog 82 1
noncomputable def rpaK : CallS := noXS
def rpaA (g : GI) (e : TypeId) (opn : Bool) (sz : Nat) (ro : Bool) (m : Nat) (c2 : Nat) (h : GI) (e2 : TypeId) (opn2 : Bool) (sz2 : Nat) (ro2 : Bool) (u : Nat) (i7 : Nat) (g2 : GI) : MA := MA.ofL 49 (jl [.slice (some ⟨6, 0, none⟩) n c, .slice (some ⟨7, 0, none⟩) m c2, .chan none, .chan none, .chan none, .slice (some ⟨8, 0, none⟩) (n + m - 1) (n + m - 1), .int .i64 ((u : Nat) : Int), .int .i64 ((i7 : Nat) : Int)] 41 []) []
abbrev sC0 : List MObj := [.rows n 1 (fun i j => .int .i64 (g i j)) e opn sz ro, .rows m 1 (fun i j => .int .i64 (h i j)) e2 opn2 sz2 ro2, .rows (n + m - 1) 1 (fun i j => .int .i64 (g2 i j)) 3 false 0 false]
def rpaL (c : Nat) (g : GI) (e : TypeId) (opn : Bool) (sz : Nat) (ro : Bool) (m : Nat) (c2 : Nat) (h : GI) (e2 : TypeId) (opn2 : Bool) (sz2 : Nat) (ro2 : Bool) (u : Nat) (i7 : Nat) (g2 : GI) : List MObj := (sC0 n g e opn sz ro m h e2 opn2 sz2 ro2 g2)
noncomputable def rpar0 : Option OutCS := evK Tryz.prog rpaK 1000 false rpaX (rpaA n c g e opn sz ro m c2 h e2 opn2 sz2 ro2 u i7 g2) (wS 6 (rpaL n c g e opn sz ro m c2 h e2 opn2 sz2 ro2 u i7 g2)) ⟨[1, .azz (.int .i64 (((u + i7) : Nat) : Int)), .azz (.int .i64 (((u + i7) : Nat) : Int)), .row (u + i7) 0, .row (u + i7) 0, .row u 0, .row u 0, .row i7 0, .row i7 0, .row (u + i7) 0, .row (u + i7) 0, .azz (.int .i64 ((i7 + 1 : Nat) : Int))], True⟩
noncomputable def rpar1 : Option OutCS := evK Tryz.prog rpaK 1000 false rpaX (rpaA n c g e opn sz ro m c2 h e2 opn2 sz2 ro2 u i7 g2) (wS 6 (rpaL n c g e opn sz ro m c2 h e2 opn2 sz2 ro2 u i7 g2)) ⟨[0], True⟩
def rpar1E (g : GI) (e : TypeId) (opn : Bool) (sz : Nat) (ro : Bool) (m : Nat) (c2 : Nat) (h : GI) (e2 : TypeId) (opn2 : Bool) (sz2 : Nat) (ro2 : Bool) (u : Nat) (i7 : Nat) (g2 : GI) : MA := MA.ofL 49 (jl [.slice (some ⟨6, 0, none⟩) n c, .slice (some ⟨7, 0, none⟩) m c2, .chan none, .chan none, .chan none, .slice (some ⟨8, 0, none⟩) (n + m - 1) (n + m - 1), .int .i64 ((u : Nat) : Int)] 42 []) []
noncomputable def rpbX : Code := loopAt Tryz.prog 82 0
noncomputable def rpbK : CallS := noXS
def rpbA (g : GI) (e : TypeId) (opn : Bool) (sz : Nat) (ro : Bool) (m : Nat) (c2 : Nat) (h : GI) (e2 : TypeId) (opn2 : Bool) (sz2 : Nat) (ro2 : Bool) (i6 : Nat) (g2 : GI) : MA := MA.ofL 49 (jl [.slice (some ⟨6, 0, none⟩) n c, .slice (some ⟨7, 0, none⟩) m c2, .chan none, .chan none, .chan none, .slice (some ⟨8, 0, none⟩) (n + m - 1) (n + m - 1), .int .i64 ((i6 : Nat) : Int)] 42 []) []
def rpbL (c : Nat) (g : GI) (e : TypeId) (opn : Bool) (sz : Nat) (ro : Bool) (m : Nat) (c2 : Nat) (h : GI) (e2 : TypeId) (opn2 : Bool) (sz2 : Nat) (ro2 : Bool) (i6 : Nat) (g2 : GI) : List MObj := (sC0 n g e opn sz ro m h e2 opn2 sz2 ro2 g2)
abbrev sC1 : List MObj := [.rows n 1 (fun i j => .int .i64 (g i j)) e opn sz ro, .rows m 1 (fun i j => .int .i64 (h i j)) e2 opn2 sz2 ro2, .rows (n + m - 1) 1 (fun i j => .int .i64 ((mulR g h i6 g2 m) i j)) 3 false 0 false]
noncomputable def rpbr0 : Option OutCS := evK Tryz.prog rpbK 1000 false rpbX (rpbA n c g e opn sz ro m c2 h e2 opn2 sz2 ro2 i6 g2) (wS 6 (rpbL n c g e opn sz ro m c2 h e2 opn2 sz2 ro2 i6 g2)) ⟨[1, .lp 227 (rpaA n c g e opn sz ro m c2 h e2 opn2 sz2 ro2 i6 0 g2) 6 (rpaL n c g e opn sz ro m c2 h e2 opn2 sz2 ro2 i6 0 g2) (.exit 2) (rpar1E n c g e opn sz ro m c2 h e2 opn2 sz2 ro2 i6 m (mulR g h i6 g2 m)) (sC1 n g e opn sz ro m h e2 opn2 sz2 ro2 i6 g2) 9 256, .azz (.int .i64 ((i6 + 1 : Nat) : Int))], True⟩
noncomputable def rpbr1 : Option OutCS := evK Tryz.prog rpbK 1000 false rpbX (rpbA n c g e opn sz ro m c2 h e2 opn2 sz2 ro2 i6 g2) (wS 6 (rpbL n c g e opn sz ro m c2 h e2 opn2 sz2 ro2 i6 g2)) ⟨[0], True⟩
def rpbr1E (c : Nat) (g : GI) (e : TypeId) (opn : Bool) (sz : Nat) (ro : Bool) (m : Nat) (c2 : Nat) (h : GI) (e2 : TypeId) (opn2 : Bool) (sz2 : Nat) (ro2 : Bool) (i6 : Nat) (g2 : GI) : MA := MA.ofL 49 (jl [] 5 (jl [.slice (some ⟨8, 0, none⟩) (n + m - 1) (n + m - 1)] 43 [])) []
noncomputable def rpK : CallS := noXS
def rpArgs (g : GI) (e : TypeId) (opn : Bool) (sz : Nat) (ro : Bool) (m : Nat) (c2 : Nat) (h : GI) (e2 : TypeId) (opn2 : Bool) (sz2 : Nat) (ro2 : Bool) : Array Value := #[.slice (some ⟨6, 0, none⟩) n c, .slice (some ⟨7, 0, none⟩) m c2]
def rpS (c : Nat) (g : GI) (e : TypeId) (opn : Bool) (sz : Nat) (ro : Bool) (m : Nat) (c2 : Nat) (h : GI) (e2 : TypeId) (opn2 : Bool) (sz2 : Nat) (ro2 : Bool) : List MObj := [.rows n 1 (fun i j => .int .i64 (g i j)) e opn sz ro, .rows m 1 (fun i j => .int .i64 (h i j)) e2 opn2 sz2 ro2]
abbrev sC2 := rpbA n c g e opn sz ro m c2 h e2 opn2 sz2 ro2 0 (fun _ _ => (0 : Int))
abbrev sC3 : List MObj := [.rows n 1 (fun i j => .int .i64 (g i j)) e opn sz ro, .rows m 1 (fun i j => .int .i64 (h i j)) e2 opn2 sz2 ro2, .rows (n + m - 1) 1 (fun i j => .int .i64 ((mulO g h m n) i j)) 3 false 0 false]
noncomputable def rpf0 : Option OutCS := evK Tryz.prog rpK 1000 false (bodyOf Tryz.prog 82) (startM Tryz.f82 (rpArgs n c g e opn sz ro m c2 h e2 opn2 sz2 ro2)) (wS 6 (rpS n c g e opn sz ro m c2 h e2 opn2 sz2 ro2)) ⟨[.azz (.int .i64 ((n : Nat) : Int)), .azz (.int .i64 ((m : Nat) : Int)), .azz (.int .i64 (((n + m) : Nat) : Int)), .azz (.int .i64 (((n + m - 1) : Nat) : Int)), .row (n + m - 1) 1, .lp 99 (sC2 n c g e opn sz ro m c2 h e2 opn2 sz2 ro2) 6 (rpbL n c g e opn sz ro m c2 h e2 opn2 sz2 ro2 0 (fun _ _ => (0 : Int))) (.exit 0) (rpbr1E n c g e opn sz ro m c2 h e2 opn2 sz2 ro2 n (mulO g h m n)) (sC3 n g e opn sz ro m h e2 opn2 sz2 ro2) 9 256], True⟩
theorem rpaK_ok : FOkS Tryz.prog rpaK := noXS_ok
abbrev sC4 := IntKind.i64.wrap ((g2 (u + i7) 0) + (IntKind.i64.wrap ((g u 0) * (h i7 0))))
abbrev sC5 := setI g2 (u + i7) 0 [(sC4 g h u i7 g2)]
abbrev sC6 : List MObj := [.rows n 1 (fun i j => .int .i64 (g i j)) e opn sz ro, .rows m 1 (fun i j => .int .i64 (h i j)) e2 opn2 sz2 ro2, .rows (n + m - 1) 1 (fun i j => tellV (invN 9 []) 8 ((setRow (fun i j => .int .i64 (g2 i j)) (u + i7) 0 [.int .i64 (sC4 g h u i7 g2)]) i j)) 3 false 0 false]
abbrev sC7 := decide ((((i7 : Nat)) : Int) < (((m : Nat)) : Int))
abbrev sC8 := ((.int .i64 (IntKind.i64.wrap ((((u : Nat)) : Int) + (((i7 : Nat)) : Int)))) : Value) = (.int .i64 ((((u + i7) : Nat)) : Int))
abbrev sC9 := (((((u + i7) : Nat)) : Int) = (Int.ofNat (u + i7))) ∧ ((u + i7) < ((n + m) - 1))
abbrev sC10 := ((0 + ((u + i7) * 1)) = (((u + i7) * 1) + 0)) ∧ ((u + i7) < ((n + m) - 1))
theorem rpar0_eq : seenK 6 3 [] 227 256 (rpar0 n c g e opn sz ro m c2 h e2 opn2 sz2 ro2 u i7 g2) = some (.normal, rpaA n c g e opn sz ro m c2 h e2 opn2 sz2 ro2 u (i7 + 1) (sC5 g h u i7 g2), (sC6 n g e opn sz ro m h e2 opn2 sz2 ro2 u i7 g2), 256, ⟨[], ((((((((((((True ∧ ((sC7 m i7) = true)) ∧ (sC8 u i7)) ∧ (sC8 u i7)) ∧ (sC9 n m u i7)) ∧ (sC10 n m u i7)) ∧ (((((u : Nat)) : Int) = (Int.ofNat u)) ∧ (u < n))) ∧ (((0 + (u * 1)) = ((u * 1) + 0)) ∧ (u < n))) ∧ (((((i7 : Nat)) : Int) = (Int.ofNat i7)) ∧ (i7 < m))) ∧ (((0 + (i7 * 1)) = ((i7 * 1) + 0)) ∧ (i7 < m))) ∧ (sC9 n m u i7)) ∧ (sC10 n m u i7)) ∧ (((.int .i64 (IntKind.i64.wrap ((((i7 : Nat)) : Int) + (1 : Int)))) : Value) = (.int .i64 ((((i7 + 1) : Nat)) : Int))))⟩) := by kernel_rfl
theorem rpar0_k (hx : u < n ∧ 0 < n ∧ n ≤ 1000 ∧ 0 < m ∧ m ≤ 1000) (h0 : ((i7 : Nat) : Int) < ((m : Nat) : Int)) : KC Tryz.prog none rpaX (rpaA n c g e opn sz ro m c2 h e2 opn2 sz2 ro2 u i7 g2).act (wS 6 (rpaL n c g e opn sz ro m c2 h e2 opn2 sz2 ro2 u i7 g2)) .normal (rpaA n c g e opn sz ro m c2 h e2 opn2 sz2 ro2 u (i7 + 1) (sC5 g h u i7 g2)).act (wS 6 (rpaL n c g e opn sz ro m c2 h e2 opn2 sz2 ro2 u (i7 + 1) (sC5 g h u i7 g2))) 9 256 := by
  refine KT.toldAs (L := (sC6 n g e opn sz ro m h e2 opn2 sz2 ro2 u i7 g2)) ?_ (by
    simp only [List.map_cons, List.map_nil, rpaL]
    all_goals exact kr)
  exact seenK_ok smx rpaK_ok sng (rpar0_eq n c g e opn sz ro m c2 h e2 opn2 sz2 ro2 u i7 g2) kq
theorem rpar1_eq : seenK 6 3 [] 99 256 (rpar1 n c g e opn sz ro m c2 h e2 opn2 sz2 ro2 u i7 g2) = some ((.exit 2), rpar1E n c g e opn sz ro m c2 h e2 opn2 sz2 ro2 u i7 g2, (sC0 n g e opn sz ro m h e2 opn2 sz2 ro2 g2), 256, ⟨[], (True ∧ ((sC7 m i7) = false))⟩) := by kernel_rfl
abbrev sC11 := wS 6 (sC0 n g e opn sz ro m h e2 opn2 sz2 ro2 g2)
theorem rpar1_k (hx : u < n ∧ 0 < n ∧ n ≤ 1000 ∧ 0 < m ∧ m ≤ 1000) (h0 : ¬ ((i7 : Nat) : Int) < ((m : Nat) : Int)) : KC Tryz.prog none rpaX (rpaA n c g e opn sz ro m c2 h e2 opn2 sz2 ro2 u i7 g2).act (wS 6 (rpaL n c g e opn sz ro m c2 h e2 opn2 sz2 ro2 u i7 g2)) (.exit 2) (rpar1E n c g e opn sz ro m c2 h e2 opn2 sz2 ro2 u i7 g2).act (sC11 n g e opn sz ro m h e2 opn2 sz2 ro2 g2) 9 256 :=
  seenK_ok smx rpaK_ok sng (rpar1_eq n c g e opn sz ro m c2 h e2 opn2 sz2 ro2 u i7 g2) kq
theorem rpa_all (G : GI) (hx : u < n ∧ 0 < n ∧ n ≤ 1000 ∧ 0 < m ∧ m ≤ 1000) : KC Tryz.prog none (.loop rpaX) (rpaA n c g e opn sz ro m c2 h e2 opn2 sz2 ro2 u 0 G).act (wS 6 (rpaL n c g e opn sz ro m c2 h e2 opn2 sz2 ro2 u 0 G)) (.exit 2) (rpar1E n c g e opn sz ro m c2 h e2 opn2 sz2 ro2 u m (mulR g h u G m)).act (wS 6 [.rows n 1 (fun i j => .int .i64 (g i j)) e opn sz ro, .rows m 1 (fun i j => .int .i64 (h i j)) e2 opn2 sz2 ro2, .rows (n + m - 1) 1 (fun i j => .int .i64 ((mulR g h u G m) i j)) 3 false 0 false]) 9 256 := by
  exact K_rounds (A := fun i => (rpaA n c g e opn sz ro m c2 h e2 opn2 sz2 ro2 u i (mulR g h u G i)).act) (S := fun i => wS 6 (rpaL n c g e opn sz ro m c2 h e2 opn2 sz2 ro2 u i (mulR g h u G i))) (m) (fun i hi => rpar0_k n c g e opn sz ro m c2 h e2 opn2 sz2 ro2 u i (mulR g h u G i) hx (by omega)) (rpar1_k n c g e opn sz ro m c2 h e2 opn2 sz2 ro2 u m (mulR g h u G m) hx (by omega)) (by simp)
theorem rpbK_ok : FOkS Tryz.prog rpbK := noXS_ok
abbrev sC12 := decide ((((i6 : Nat)) : Int) < (((n : Nat)) : Int))
abbrev sC13 := List.replicate (6 : Nat) MObj.hole
abbrev sC14 := wS 6 (sC1 n g e opn sz ro m h e2 opn2 sz2 ro2 i6 g2)
theorem rpbr0_eq : seenK 6 3 [] 99 256 (rpbr0 n c g e opn sz ro m c2 h e2 opn2 sz2 ro2 i6 g2) = some (.normal, rpbA n c g e opn sz ro m c2 h e2 opn2 sz2 ro2 (i6 + 1) (mulR g h i6 g2 m), (sC1 n g e opn sz ro m h e2 opn2 sz2 ro2 i6 g2), 256, ⟨[], (((True ∧ ((sC12 n i6) = true)) ∧ ((((rpaA n c g e opn sz ro m c2 h e2 opn2 sz2 ro2 i6 (0 : Nat) g2) = (rpaA n c g e opn sz ro m c2 h e2 opn2 sz2 ro2 i6 (0 : Nat) g2)) ∧ ((9 = (6 + 3)) ∧ ((HAppend.hAppend sC13 (rpaL n c g e opn sz ro m c2 h e2 opn2 sz2 ro2 i6 (0 : Nat) g2)) = (HAppend.hAppend sC13 (rpaL n c g e opn sz ro m c2 h e2 opn2 sz2 ro2 i6 (0 : Nat) g2))))) ∧ KC Tryz.prog none (.loop rpaX) (rpaA n c g e opn sz ro m c2 h e2 opn2 sz2 ro2 i6 0 g2).act (wS 6 (rpaL n c g e opn sz ro m c2 h e2 opn2 sz2 ro2 i6 0 g2)) (.exit 2) (rpar1E n c g e opn sz ro m c2 h e2 opn2 sz2 ro2 i6 m (mulR g h i6 g2 m)).act (sC14 n g e opn sz ro m h e2 opn2 sz2 ro2 i6 g2) 9 256)) ∧ (((.int .i64 (IntKind.i64.wrap ((((i6 : Nat)) : Int) + (1 : Int)))) : Value) = (.int .i64 ((((i6 + 1) : Nat)) : Int))))⟩) := by kernel_rfl
theorem rpbr0_k (hx : 0 < n ∧ n ≤ 1000 ∧ 0 < m ∧ m ≤ 1000) (h0 : ((i6 : Nat) : Int) < ((n : Nat) : Int)) (l0 : KC Tryz.prog none (.loop rpaX) (rpaA n c g e opn sz ro m c2 h e2 opn2 sz2 ro2 i6 0 g2).act (wS 6 (rpaL n c g e opn sz ro m c2 h e2 opn2 sz2 ro2 i6 0 g2)) (.exit 2) (rpar1E n c g e opn sz ro m c2 h e2 opn2 sz2 ro2 i6 m (mulR g h i6 g2 m)).act (sC14 n g e opn sz ro m h e2 opn2 sz2 ro2 i6 g2) 9 256) : KC Tryz.prog none rpbX (rpbA n c g e opn sz ro m c2 h e2 opn2 sz2 ro2 i6 g2).act (wS 6 (rpbL n c g e opn sz ro m c2 h e2 opn2 sz2 ro2 i6 g2)) .normal (rpbA n c g e opn sz ro m c2 h e2 opn2 sz2 ro2 (i6 + 1) (mulR g h i6 g2 m)).act (wS 6 (rpbL n c g e opn sz ro m c2 h e2 opn2 sz2 ro2 (i6 + 1) (mulR g h i6 g2 m))) 9 256 :=
  seenK_ok smx rpbK_ok sng (rpbr0_eq n c g e opn sz ro m c2 h e2 opn2 sz2 ro2 i6 g2) kq
theorem rpbr1_eq : seenK 6 3 [] 32 256 (rpbr1 n c g e opn sz ro m c2 h e2 opn2 sz2 ro2 i6 g2) = some ((.exit 0), rpbr1E n c g e opn sz ro m c2 h e2 opn2 sz2 ro2 i6 g2, (sC0 n g e opn sz ro m h e2 opn2 sz2 ro2 g2), 256, ⟨[], (True ∧ ((sC12 n i6) = false))⟩) := by kernel_rfl
theorem rpbr1_k (hx : 0 < n ∧ n ≤ 1000 ∧ 0 < m ∧ m ≤ 1000) (h0 : ¬ ((i6 : Nat) : Int) < ((n : Nat) : Int)) : KC Tryz.prog none rpbX (rpbA n c g e opn sz ro m c2 h e2 opn2 sz2 ro2 i6 g2).act (wS 6 (rpbL n c g e opn sz ro m c2 h e2 opn2 sz2 ro2 i6 g2)) (.exit 0) (rpbr1E n c g e opn sz ro m c2 h e2 opn2 sz2 ro2 i6 g2).act (sC11 n g e opn sz ro m h e2 opn2 sz2 ro2 g2) 9 256 :=
  seenK_ok smx rpbK_ok sng (rpbr1_eq n c g e opn sz ro m c2 h e2 opn2 sz2 ro2 i6 g2) kq
abbrev sC15 := wS 6 (sC3 n g e opn sz ro m h e2 opn2 sz2 ro2)
theorem rpb_all  (hx : 0 < n ∧ n ≤ 1000 ∧ 0 < m ∧ m ≤ 1000) : KC Tryz.prog none (.loop rpbX) (sC2 n c g e opn sz ro m c2 h e2 opn2 sz2 ro2).act (wS 6 (rpbL n c g e opn sz ro m c2 h e2 opn2 sz2 ro2 0 (fun _ _ => (0 : Int)))) (.exit 0) (rpbr1E n c g e opn sz ro m c2 h e2 opn2 sz2 ro2 n (mulO g h m n)).act (sC15 n g e opn sz ro m h e2 opn2 sz2 ro2) 9 256 := by
  exact K_rounds (A := fun i => (rpbA n c g e opn sz ro m c2 h e2 opn2 sz2 ro2 i (mulO g h m i)).act) (S := fun i => wS 6 (rpbL n c g e opn sz ro m c2 h e2 opn2 sz2 ro2 i (mulO g h m i))) (n) (fun i hi => rpbr0_k n c g e opn sz ro m c2 h e2 opn2 sz2 ro2 i (mulO g h m i) hx (by omega) (rpa_all n c g e opn sz ro m c2 h e2 opn2 sz2 ro2 i (mulO g h m i) ⟨by omega, hx⟩)) (rpbr1_k n c g e opn sz ro m c2 h e2 opn2 sz2 ro2 n (mulO g h m n) hx (by omega)) (by simp)
theorem rpK_ok : FOkS Tryz.prog rpK := noXS_ok
abbrev sC16 : List MObj := [.rows (n + m - 1) 1 (fun i j => .int .i64 ((mulO g h m n) i j)) 3 false 0 false]
abbrev sC17 := (((((n + m) - 1) : Nat)) : Int) = (Int.ofNat ((n + m) - 1))
abbrev sC18 := fun (x : Nat) => (fun (x : Nat) => (0 : Int))
abbrev sC19 := HAppend.hAppend sC13 (rpbL n c g e opn sz ro m c2 h e2 opn2 sz2 ro2 (0 : Nat) sC18)
theorem rpf0_eq : seenF' Tryz.prog Tryz.f82 6 2 [8] (rpf0 n c g e opn sz ro m c2 h e2 opn2 sz2 ro2) = some (.slice (some ⟨8, 0, none⟩) (n + m - 1) (n + m - 1), rpS n c g e opn sz ro m c2 h e2 opn2 sz2 ro2 ++ (sC16 n g m h), ⟨[], ((((((True ∧ (((.int .i64 (((n : Nat)) : Int)) : Value) = (.int .i64 (((n : Nat)) : Int)))) ∧ (((.int .i64 (((m : Nat)) : Int)) : Value) = (.int .i64 (((m : Nat)) : Int)))) ∧ (((.int .i64 (IntKind.i64.wrap ((((n : Nat)) : Int) + (((m : Nat)) : Int)))) : Value) = (.int .i64 ((((n + m) : Nat)) : Int)))) ∧ (((.int .i64 (IntKind.i64.wrap (((((n + m) : Nat)) : Int) - (1 : Int)))) : Value) = (.int .i64 (((((n + m) - 1) : Nat)) : Int)))) ∧ ((sC17 n m) ∧ ((sC17 n m) ∧ ((((((8 : Nat)) : Int) * (((((n + m) - 1) : Nat)) : Int)) ≤ (281474976710656 : Int)) ∧ (((n + m) - 1) ≤ (1048576 : Nat)))))) ∧ ((((rpbA n c g e opn sz ro m c2 h e2 opn2 sz2 ro2 (0 : Nat) sC18) = (rpbA n c g e opn sz ro m c2 h e2 opn2 sz2 ro2 (0 : Nat) sC18)) ∧ ((9 = (6 + 3)) ∧ ((sC19 n c g e opn sz ro m c2 h e2 opn2 sz2 ro2) = (sC19 n c g e opn sz ro m c2 h e2 opn2 sz2 ro2)))) ∧ KC Tryz.prog none (.loop rpbX) (sC2 n c g e opn sz ro m c2 h e2 opn2 sz2 ro2).act (wS 6 (rpbL n c g e opn sz ro m c2 h e2 opn2 sz2 ro2 0 (fun _ _ => (0 : Int)))) (.exit 0) (rpbr1E n c g e opn sz ro m c2 h e2 opn2 sz2 ro2 n (mulO g h m n)).act (sC15 n g e opn sz ro m h e2 opn2 sz2 ro2) 9 256))⟩) := by kernel_rfl
theorem rpf0_s (hx : 0 < n ∧ n ≤ 1000 ∧ 0 < m ∧ m ≤ 1000) (l0 : KC Tryz.prog none (.loop rpbX) (sC2 n c g e opn sz ro m c2 h e2 opn2 sz2 ro2).act (wS 6 (rpbL n c g e opn sz ro m c2 h e2 opn2 sz2 ro2 0 (fun _ _ => (0 : Int)))) (.exit 0) (rpbr1E n c g e opn sz ro m c2 h e2 opn2 sz2 ro2 n (mulO g h m n)).act (sC15 n g e opn sz ro m h e2 opn2 sz2 ro2) 9 256) : SndF Tryz.prog 82 (rpArgs n c g e opn sz ro m c2 h e2 opn2 sz2 ro2) (wS 6 (rpS n c g e opn sz ro m c2 h e2 opn2 sz2 ro2)) (.slice (some ⟨8, 0, none⟩) (n + m - 1) (n + m - 1)) (wS 6 (rpS n c g e opn sz ro m c2 h e2 opn2 sz2 ro2 ++ (sC16 n g m h))) 192 0 :=
  kF (L := rpS n c g e opn sz ro m c2 h e2 opn2 sz2 ro2) (L2 := (sC16 n g m h)) (ms := [8]) rpK_ok (rpf0_eq n c g e opn sz ro m c2 h e2 opn2 sz2 ro2) kq
end
end Go.Proofs.YtbkpnhbcihcgaaaGreatDoor
end
section
set_option linter.all false
set_option maxRecDepth 1000000
open Go.RowKit
namespace Go.Proofs.YtbkpnhbcihcgaaaGreatDoor
open Mini
noncomputable section
variable (n : Nat) (c : Nat) (m : Nat)
def suG (g : GI) (h : GI) : GI := if n < m then addR h g n else addR g h m
def suN (g : GI) (h : GI) : Nat := trN (suG n m g h) (mxN n m)
def puG (g : GI) (h : GI) : GI := plR n m g h (mxN n m - 1)
def puN (g : GI) (h : GI) : Nat := trN (puG n m g h) (mxN n m)
theorem suG_at {n m : Nat} {g h : GI} (hg : ∀ i, i < n → -100 ≤ g i 0 ∧ g i 0 ≤ 100) (hh : ∀ i, i < m → -100 ≤ h i 0 ∧ h i 0 ≤ 100) (i : Nat) (hi : i < mxN n m) : suG n m g h i 0 = puG n m g h i 0 := by
  have hm := mxN_ge n m
  unfold puG
  rw [plR_at n m g h _ i (by omega)]
  unfold suG plE
  have wi : ∀ x : Int, -1000 ≤ x → x ≤ 1000 → IntKind.i64.wrap x = x := fun x h1 h2 => IntWalk.i64_in x (by omega)
  by_cases c : n < m
  · rw [if_pos c]
    by_cases c1 : i < n
    · have a1 := hg i c1
      have a2 := hh i (by omega)
      rw [addR_lo h g n i c1, if_pos c1, if_pos (by omega), wi (0 + g i 0) (by omega) (by omega)]
      exact congrArg _ (by omega)
    · have a2 := hh i (by omega)
      rw [addR_hi h g n i (by omega), if_neg c1, wi (0 + h i 0) (by omega) (by omega)]
      omega
  · rw [if_neg c]
    have a1 := hg i (by omega)
    by_cases c1 : i < m
    · have a2 := hh i c1
      rw [addR_lo g h m i c1, if_pos (by omega), if_pos c1, wi (0 + g i 0) (by omega) (by omega)]
      exact congrArg _ (by omega)
    · rw [addR_hi g h m i (by omega), if_pos (by omega), if_neg c1, wi (0 + g i 0) (by omega) (by omega)]
      omega
theorem suN_eq {n m : Nat} {g h : GI} (hg : ∀ i, i < n → -100 ≤ g i 0 ∧ g i 0 ≤ 100) (hh : ∀ i, i < m → -100 ≤ h i 0 ∧ h i 0 ≤ 100) : suN n m g h = puN n m g h := trN_congr _ fun i hi => suG_at hg hh i hi
theorem suN_le (g : GI) (h : GI) : suN n m g h ≤ mxN n m := trN_le _ _
theorem su_sndF (g : GI) (e : TypeId) (opn : Bool) (sz : Nat) (ro : Bool) (m : Nat) (c2 : Nat) (h : GI) (e2 : TypeId) (opn2 : Bool) (sz2 : Nat) (ro2 : Bool) (hx : 0 < n ∧ n ≤ 1000 ∧ 0 < m ∧ m ≤ 1000) : SndF Tryz.prog 75 (suArgs n c g e opn sz ro m c2 h e2 opn2 sz2 ro2) (wS 6 (suS n c g e opn sz ro m c2 h e2 opn2 sz2 ro2)) (.slice (some ⟨8, 0, none⟩) (suN n m g h) (suN n m g h)) (wS 6 (suS n c g e opn sz ro m c2 h e2 opn2 sz2 ro2 ++ [.rows (suN n m g h) 1 (fun i j => .int .i64 ((suG n m g h) i j)) 3 true 1 false])) 192 0 := by
  unfold suN suG mxN
  by_cases c0 : n < m
  · simp only [if_pos c0]
    have hb : n ≤ m ∧ (m : Int) ≤ 9223372036854775807 := ⟨by omega, by omega⟩
    have hT := trN_le (addR h g n) m
    by_cases h0 : 0 < trN (addR h g n) m
    · exact svf0_s n c g e opn sz ro m c2 h e2 opn2 sz2 ro2 (trN (addR h g n) m) ⟨hb.1, hb.2, by omega, hT, by omega⟩ (by omega) (sva_all n c g e opn sz ro m c2 h e2 opn2 sz2 ro2 hb) (svb_pos n c g e opn sz ro m c2 h e2 opn2 sz2 ro2 (addR h g n) (trN (addR h g n) m) hT hb.2 (trN_zero (addR h g n) m) h0 (trN_last (addR h g n) m h0))
    · exact svf1_s n c g e opn sz ro m c2 h e2 opn2 sz2 ro2 (trN (addR h g n) m) ⟨hb.1, hb.2, by omega, hT, by omega⟩ (by omega) (sva_all n c g e opn sz ro m c2 h e2 opn2 sz2 ro2 hb) (svb_nil n c g e opn sz ro m c2 h e2 opn2 sz2 ro2 (addR h g n) (trN (addR h g n) m) hT hb.2 (trN_zero (addR h g n) m) (by omega))
  · simp only [if_neg c0]
    have hb : m ≤ n ∧ (n : Int) ≤ 9223372036854775807 := ⟨by omega, by omega⟩
    have hT := trN_le (addR g h m) n
    by_cases h0 : 0 < trN (addR g h m) n
    · exact suf0_s n c g e opn sz ro m c2 h e2 opn2 sz2 ro2 (trN (addR g h m) n) ⟨hb.1, hb.2, by omega, hT, by omega⟩ (by omega) (sua_all n c g e opn sz ro m c2 h e2 opn2 sz2 ro2 hb) (sub_pos n c g e opn sz ro m c2 h e2 opn2 sz2 ro2 (addR g h m) (trN (addR g h m) n) hT hb.2 (trN_zero (addR g h m) n) h0 (trN_last (addR g h m) n h0))
    · exact suf1_s n c g e opn sz ro m c2 h e2 opn2 sz2 ro2 (trN (addR g h m) n) ⟨hb.1, hb.2, by omega, hT, by omega⟩ (by omega) (sua_all n c g e opn sz ro m c2 h e2 opn2 sz2 ro2 hb) (sub_nil n c g e opn sz ro m c2 h e2 opn2 sz2 ro2 (addR g h m) (trN (addR g h m) n) hT hb.2 (trN_zero (addR g h m) n) (by omega))

theorem pu_sndF (g : GI) (e : TypeId) (opn : Bool) (sz : Nat) (ro : Bool) (m : Nat) (c2 : Nat) (h : GI) (e2 : TypeId) (opn2 : Bool) (sz2 : Nat) (ro2 : Bool) (hx : 0 < n ∧ n ≤ 1000 ∧ 0 < m ∧ m ≤ 1000) : SndF Tryz.prog 80 (plArgs n c g e opn sz ro m c2 h e2 opn2 sz2 ro2) (wS 6 (plS n c g e opn sz ro m c2 h e2 opn2 sz2 ro2)) (.slice (some ⟨8, 0, none⟩) (puN n m g h) (puN n m g h)) (wS 6 (plS n c g e opn sz ro m c2 h e2 opn2 sz2 ro2 ++ [.rows (puN n m g h) 1 (fun i j => .int .i64 ((puG n m g h) i j)) 3 true 1 false])) 192 0 := by
  have hm := mxN_ge n m
  obtain ⟨qq, hq⟩ : ∃ qq, mxN n m = qq + 1 := ⟨mxN n m - 1, by omega⟩
  unfold puN puG
  rw [hq, show qq + 1 - 1 = qq from rfl]
  have hT := trN_le (plR n m g h qq) (qq + 1)
  by_cases h0 : 0 < trN (plR n m g h qq) (qq + 1)
  · exact plf0_s n c g e opn sz ro m c2 h e2 opn2 sz2 ro2 (trN (plR n m g h qq) (qq + 1)) qq hx (pla_all n c g e opn sz ro m c2 h e2 opn2 sz2 ro2 hx qq hq) (plb_pos n c g e opn sz ro m c2 h e2 opn2 sz2 ro2 (plR n m g h qq) (qq + 1) _ hT (by omega) (trN_zero _ _) h0 (trN_last _ _ h0))
  · exact plf1_s n c g e opn sz ro m c2 h e2 opn2 sz2 ro2 (trN (plR n m g h qq) (qq + 1)) qq hx (pla_all n c g e opn sz ro m c2 h e2 opn2 sz2 ro2 hx qq hq) (plb_nil n c g e opn sz ro m c2 h e2 opn2 sz2 ro2 (plR n m g h qq) (qq + 1) _ hT (by omega) (trN_zero _ _) (by omega))

abbrev sI0 (g : GI) (h : GI) : List MObj := [.rows (n + m - 1) 1 (fun i j => .int .i64 ((mulO g h m n) i j)) 3 false 0 false]
theorem pr_sndF (g : GI) (e : TypeId) (opn : Bool) (sz : Nat) (ro : Bool) (m : Nat) (c2 : Nat) (h : GI) (e2 : TypeId) (opn2 : Bool) (sz2 : Nat) (ro2 : Bool) (hx : 0 < n ∧ n ≤ 1000 ∧ 0 < m ∧ m ≤ 1000) : SndF Tryz.prog 77 (prArgs n c g e opn sz ro m c2 h e2 opn2 sz2 ro2) (wS 6 (prS n c g e opn sz ro m c2 h e2 opn2 sz2 ro2)) (.slice (some ⟨8, 0, none⟩) (n + m - 1) (n + m - 1)) (wS 6 (prS n c g e opn sz ro m c2 h e2 opn2 sz2 ro2 ++ (sI0 n m g h))) 192 0 := by
  exact prf0_s n c g e opn sz ro m c2 h e2 opn2 sz2 ro2 hx (prb_all n c g e opn sz ro m c2 h e2 opn2 sz2 ro2 hx)
theorem rp_sndF (g : GI) (e : TypeId) (opn : Bool) (sz : Nat) (ro : Bool) (m : Nat) (c2 : Nat) (h : GI) (e2 : TypeId) (opn2 : Bool) (sz2 : Nat) (ro2 : Bool) (hx : 0 < n ∧ n ≤ 1000 ∧ 0 < m ∧ m ≤ 1000) : SndF Tryz.prog 82 (rpArgs n c g e opn sz ro m c2 h e2 opn2 sz2 ro2) (wS 6 (rpS n c g e opn sz ro m c2 h e2 opn2 sz2 ro2)) (.slice (some ⟨8, 0, none⟩) (n + m - 1) (n + m - 1)) (wS 6 (rpS n c g e opn sz ro m c2 h e2 opn2 sz2 ro2 ++ (sI0 n m g h))) 192 0 := by
  exact rpf0_s n c g e opn sz ro m c2 h e2 opn2 sz2 ro2 hx (rpb_all n c g e opn sz ro m c2 h e2 opn2 sz2 ro2 hx)
def kSu : CallS := fun f xs s q => match decide (f = 75) with
  | true => match xs.toList with
    | [.slice (some ⟨b, 0, none⟩) n c, .slice (some ⟨b2, 0, none⟩) m c2] => match Nat.ble 6 b, Nat.ble 6 b2, Nat.beq b b2, rowK 1 .i64 s b n, rowK 1 .i64 s b2 m with
      | true, true, false, some (g, e, opn, sz, ro, p), some (h, e2, opn2, sz2, ro2, p2) => some (.slice (some ⟨s.next, 0, none⟩) (suN n m g h) (suN n m g h), s.push (.rows (suN n m g h) 1 (fun i j => .int .i64 ((suG n m g h) i j)) 3 true 1 false), 2 ^ b ||| 2 ^ b2, 0, ⟨q.rest, q.ob ∧ (p ∧ p2 ∧ (0 < n ∧ n ≤ 1000 ∧ 0 < m ∧ m ≤ 1000))⟩)
      | _, _, _, _, _ => none
    | _ => none
  | false => none
theorem kSu_ok : FOkS Tryz.prog kSu := fun f xs s q u s1 R W q1 he => by
  unfold kSu at he
  split at he
  · rename_i hf
    have hf := of_decide_eq_true hf
    subst hf
    split at he
    · rename_i b n c b2 m c2 hx0
      have hxs : xs = #[.slice (some ⟨b, 0, none⟩) n c, .slice (some ⟨b2, 0, none⟩) m c2] := by apply Array.ext'; exact hx0
      subst hxs
      split at he
      · rename_i g e opn sz ro p h e2 opn2 sz2 ro2 p2 k1 k2 k3 k4 k5
        cases he
        refine ⟨fun hq => hq.1, fun hq => ?_⟩
        obtain ⟨l1, l2, hx⟩ := hq.2
        obtain ⟨m1, w1⟩ := rowK_wo k4 l1
        obtain ⟨m2, w2⟩ := rowK_wo k5 l2
        have b1 := Nat.le_of_ble_eq_true k1
        have b3 := Nat.le_of_ble_eq_true k2
        have hne : b ≠ b2 := fun e => by rw [e, Nat.beq_refl] at k3; cases k3
        refine SndF.rowsNew (N := 6) (bs := [b, b2]) (s0 := wS 6 [rowI 1 n g e opn sz ro, rowI 1 m h e2 opn2 sz2 ro2]) (o1 := .rows (suN n m g h) 1 (fun i j => .int .i64 ((suG n m g h) i j)) 3 true 1 false) sng (su_sndF n c g e opn sz ro m c2 h e2 opn2 sz2 ro2 hx) rfl (fun x' hx' => ?_) (by simp [hne]) (by omega) (fun x' hx' _ => ?_) (fun x' hx' => ?_) (fun f j hj => ?_) (fun f hl hf => wvs_two (slice_wv (hf 0 (by simp))) (slice_wv (hf 1 (by simp)))) (fun f _ hf hn => ⟨slice_wv hn, keep_wo (N := fun _ => false) (fun b hb => by cases hb) (fun i j => rfl)⟩)
        · simp at hx'
          rcases hx' with rfl | rfl <;> omega
        · rcases Nat.lt_or_ge x' 6 with k | k
          · have hz := (by decide : ∀ b, b < 6 → Nat.testBit 192 b = false) x' k
            rw [hz] at hx'; cases hx'
          · exact k
        · simp at hx'
          rcases hx' with rfl | rfl <;> simp [or_bit, bit_self]
        · match j, hj with
          | 0, _ => exact w1 f
          | 1, _ => exact w2 f
      · cases he
    · cases he
  · cases he
def kPu : CallS := fun f xs s q => match decide (f = 80) with
  | true => match xs.toList with
    | [.slice (some ⟨b, 0, none⟩) n c, .slice (some ⟨b2, 0, none⟩) m c2] => match Nat.ble 6 b, Nat.ble 6 b2, Nat.beq b b2, rowK 1 .i64 s b n, rowK 1 .i64 s b2 m with
      | true, true, false, some (g, e, opn, sz, ro, p), some (h, e2, opn2, sz2, ro2, p2) => some (.slice (some ⟨s.next, 0, none⟩) (puN n m g h) (puN n m g h), s.push (.rows (puN n m g h) 1 (fun i j => .int .i64 ((puG n m g h) i j)) 3 true 1 false), 2 ^ b ||| 2 ^ b2, 0, ⟨q.rest, q.ob ∧ (p ∧ p2 ∧ (0 < n ∧ n ≤ 1000 ∧ 0 < m ∧ m ≤ 1000))⟩)
      | _, _, _, _, _ => none
    | _ => none
  | false => none
theorem kPu_ok : FOkS Tryz.prog kPu := fun f xs s q u s1 R W q1 he => by
  unfold kPu at he
  split at he
  · rename_i hf
    have hf := of_decide_eq_true hf
    subst hf
    split at he
    · rename_i b n c b2 m c2 hx0
      have hxs : xs = #[.slice (some ⟨b, 0, none⟩) n c, .slice (some ⟨b2, 0, none⟩) m c2] := by apply Array.ext'; exact hx0
      subst hxs
      split at he
      · rename_i g e opn sz ro p h e2 opn2 sz2 ro2 p2 k1 k2 k3 k4 k5
        cases he
        refine ⟨fun hq => hq.1, fun hq => ?_⟩
        obtain ⟨l1, l2, hx⟩ := hq.2
        obtain ⟨m1, w1⟩ := rowK_wo k4 l1
        obtain ⟨m2, w2⟩ := rowK_wo k5 l2
        have b1 := Nat.le_of_ble_eq_true k1
        have b3 := Nat.le_of_ble_eq_true k2
        have hne : b ≠ b2 := fun e => by rw [e, Nat.beq_refl] at k3; cases k3
        refine SndF.rowsNew (N := 6) (bs := [b, b2]) (s0 := wS 6 [rowI 1 n g e opn sz ro, rowI 1 m h e2 opn2 sz2 ro2]) (o1 := .rows (puN n m g h) 1 (fun i j => .int .i64 ((puG n m g h) i j)) 3 true 1 false) sng (pu_sndF n c g e opn sz ro m c2 h e2 opn2 sz2 ro2 hx) rfl (fun x' hx' => ?_) (by simp [hne]) (by omega) (fun x' hx' _ => ?_) (fun x' hx' => ?_) (fun f j hj => ?_) (fun f hl hf => wvs_two (slice_wv (hf 0 (by simp))) (slice_wv (hf 1 (by simp)))) (fun f _ hf hn => ⟨slice_wv hn, keep_wo (N := fun _ => false) (fun b hb => by cases hb) (fun i j => rfl)⟩)
        · simp at hx'
          rcases hx' with rfl | rfl <;> omega
        · rcases Nat.lt_or_ge x' 6 with k | k
          · have hz := (by decide : ∀ b, b < 6 → Nat.testBit 192 b = false) x' k
            rw [hz] at hx'; cases hx'
          · exact k
        · simp at hx'
          rcases hx' with rfl | rfl <;> simp [or_bit, bit_self]
        · match j, hj with
          | 0, _ => exact w1 f
          | 1, _ => exact w2 f
      · cases he
    · cases he
  · cases he
def kPr : CallS := fun f xs s q => match decide (f = 77) with
  | true => match xs.toList with
    | [.slice (some ⟨b, 0, none⟩) n c, .slice (some ⟨b2, 0, none⟩) m c2] => match Nat.ble 6 b, Nat.ble 6 b2, Nat.beq b b2, rowK 1 .i64 s b n, rowK 1 .i64 s b2 m with
      | true, true, false, some (g, e, opn, sz, ro, p), some (h, e2, opn2, sz2, ro2, p2) => some (.slice (some ⟨s.next, 0, none⟩) (n + m - 1) (n + m - 1), s.push (.rows (n + m - 1) 1 (fun i j => .int .i64 ((mulO g h m n) i j)) 3 false 0 false), 2 ^ b ||| 2 ^ b2, 0, ⟨q.rest, q.ob ∧ (p ∧ p2 ∧ (0 < n ∧ n ≤ 1000 ∧ 0 < m ∧ m ≤ 1000))⟩)
      | _, _, _, _, _ => none
    | _ => none
  | false => none
theorem kPr_ok : FOkS Tryz.prog kPr := fun f xs s q u s1 R W q1 he => by
  unfold kPr at he
  split at he
  · rename_i hf
    have hf := of_decide_eq_true hf
    subst hf
    split at he
    · rename_i b n c b2 m c2 hx0
      have hxs : xs = #[.slice (some ⟨b, 0, none⟩) n c, .slice (some ⟨b2, 0, none⟩) m c2] := by apply Array.ext'; exact hx0
      subst hxs
      split at he
      · rename_i g e opn sz ro p h e2 opn2 sz2 ro2 p2 k1 k2 k3 k4 k5
        cases he
        refine ⟨fun hq => hq.1, fun hq => ?_⟩
        obtain ⟨l1, l2, hx⟩ := hq.2
        obtain ⟨m1, w1⟩ := rowK_wo k4 l1
        obtain ⟨m2, w2⟩ := rowK_wo k5 l2
        have b1 := Nat.le_of_ble_eq_true k1
        have b3 := Nat.le_of_ble_eq_true k2
        have hne : b ≠ b2 := fun e => by rw [e, Nat.beq_refl] at k3; cases k3
        refine SndF.rowsNew (N := 6) (bs := [b, b2]) (s0 := wS 6 [rowI 1 n g e opn sz ro, rowI 1 m h e2 opn2 sz2 ro2]) (o1 := .rows (n + m - 1) 1 (fun i j => .int .i64 ((mulO g h m n) i j)) 3 false 0 false) sng (pr_sndF n c g e opn sz ro m c2 h e2 opn2 sz2 ro2 hx) rfl (fun x' hx' => ?_) (by simp [hne]) (by omega) (fun x' hx' _ => ?_) (fun x' hx' => ?_) (fun f j hj => ?_) (fun f hl hf => wvs_two (slice_wv (hf 0 (by simp))) (slice_wv (hf 1 (by simp)))) (fun f _ hf hn => ⟨slice_wv hn, keep_wo (N := fun _ => false) (fun b hb => by cases hb) (fun i j => rfl)⟩)
        · simp at hx'
          rcases hx' with rfl | rfl <;> omega
        · rcases Nat.lt_or_ge x' 6 with k | k
          · have hz := (by decide : ∀ b, b < 6 → Nat.testBit 192 b = false) x' k
            rw [hz] at hx'; cases hx'
          · exact k
        · simp at hx'
          rcases hx' with rfl | rfl <;> simp [or_bit, bit_self]
        · match j, hj with
          | 0, _ => exact w1 f
          | 1, _ => exact w2 f
      · cases he
    · cases he
  · cases he
def kRp : CallS := fun f xs s q => match decide (f = 82) with
  | true => match xs.toList with
    | [.slice (some ⟨b, 0, none⟩) n c, .slice (some ⟨b2, 0, none⟩) m c2] => match Nat.ble 6 b, Nat.ble 6 b2, Nat.beq b b2, rowK 1 .i64 s b n, rowK 1 .i64 s b2 m with
      | true, true, false, some (g, e, opn, sz, ro, p), some (h, e2, opn2, sz2, ro2, p2) => some (.slice (some ⟨s.next, 0, none⟩) (n + m - 1) (n + m - 1), s.push (.rows (n + m - 1) 1 (fun i j => .int .i64 ((mulO g h m n) i j)) 3 false 0 false), 2 ^ b ||| 2 ^ b2, 0, ⟨q.rest, q.ob ∧ (p ∧ p2 ∧ (0 < n ∧ n ≤ 1000 ∧ 0 < m ∧ m ≤ 1000))⟩)
      | _, _, _, _, _ => none
    | _ => none
  | false => none
theorem kRp_ok : FOkS Tryz.prog kRp := fun f xs s q u s1 R W q1 he => by
  unfold kRp at he
  split at he
  · rename_i hf
    have hf := of_decide_eq_true hf
    subst hf
    split at he
    · rename_i b n c b2 m c2 hx0
      have hxs : xs = #[.slice (some ⟨b, 0, none⟩) n c, .slice (some ⟨b2, 0, none⟩) m c2] := by apply Array.ext'; exact hx0
      subst hxs
      split at he
      · rename_i g e opn sz ro p h e2 opn2 sz2 ro2 p2 k1 k2 k3 k4 k5
        cases he
        refine ⟨fun hq => hq.1, fun hq => ?_⟩
        obtain ⟨l1, l2, hx⟩ := hq.2
        obtain ⟨m1, w1⟩ := rowK_wo k4 l1
        obtain ⟨m2, w2⟩ := rowK_wo k5 l2
        have b1 := Nat.le_of_ble_eq_true k1
        have b3 := Nat.le_of_ble_eq_true k2
        have hne : b ≠ b2 := fun e => by rw [e, Nat.beq_refl] at k3; cases k3
        refine SndF.rowsNew (N := 6) (bs := [b, b2]) (s0 := wS 6 [rowI 1 n g e opn sz ro, rowI 1 m h e2 opn2 sz2 ro2]) (o1 := .rows (n + m - 1) 1 (fun i j => .int .i64 ((mulO g h m n) i j)) 3 false 0 false) sng (rp_sndF n c g e opn sz ro m c2 h e2 opn2 sz2 ro2 hx) rfl (fun x' hx' => ?_) (by simp [hne]) (by omega) (fun x' hx' _ => ?_) (fun x' hx' => ?_) (fun f j hj => ?_) (fun f hl hf => wvs_two (slice_wv (hf 0 (by simp))) (slice_wv (hf 1 (by simp)))) (fun f _ hf hn => ⟨slice_wv hn, keep_wo (N := fun _ => false) (fun b hb => by cases hb) (fun i j => rfl)⟩)
        · simp at hx'
          rcases hx' with rfl | rfl <;> omega
        · rcases Nat.lt_or_ge x' 6 with k | k
          · have hz := (by decide : ∀ b, b < 6 → Nat.testBit 192 b = false) x' k
            rw [hz] at hx'; cases hx'
          · exact k
        · simp at hx'
          rcases hx' with rfl | rfl <;> simp [or_bit, bit_self]
        · match j, hj with
          | 0, _ => exact w1 f
          | 1, _ => exact w2 f
      · cases he
    · cases he
  · cases he
end
end Go.Proofs.YtbkpnhbcihcgaaaGreatDoor
end
section
set_option linter.all false
set_option maxRecDepth 1000000
open Go.RowKit
namespace Go.Proofs.YtbkpnhbcihcgaaaGreatDoor
open Mini
theorem gsz : Tryz.prog.globals.size = 6 := by kernel_rfl
theorem gfol : Tryz.prog.follows .mixedOrders = true := by kernel_rfl
theorem bl (w : World) : Holds Tryz.prog (noTabs 6) w := gsz ▸ noTabs_holds w

def ixE (a n : Int) : Int := if a < 0 ∨ n ≤ a then 10 else 0

def c_range : Con := ⟨96, [.int .i64, .int .i64, .int .i64], fun ns => match ns with | [n, lo, hi] => .int .i64 (Pl.cr n lo hi) | _ => .bool true, fun ns => match ns with | [n, lo, hi] => True | _ => True⟩
def c_rrange : Con := ⟨20, [.int .i64, .int .i64, .int .i64], fun ns => match ns with | [n, lo, hi] => .int .i64 (Pl.cr n lo hi) | _ => .bool true, fun ns => match ns with | [n, lo, hi] => True | _ => True⟩
def c_index : Con := ⟨103, [.int .i64, .int .i64], fun ns => match ns with | [a, n] => .int .i64 (ixE a n) | _ => .bool true, fun ns => match ns with | [a, n] => True | _ => True⟩
noncomputable def x_range : CallS := kAll []
noncomputable def range_e0 (n lo hi : Int) : Option OutS := evFS Tryz.prog x_range 1000 96 #[.int .i64 n, .int .i64 lo, .int .i64 hi] (noTabs 6) ⟨[1, 1, 1, 0, 1], True⟩
noncomputable def range_e1 (n lo hi : Int) : Option OutS := evFS Tryz.prog x_range 1000 96 #[.int .i64 n, .int .i64 lo, .int .i64 hi] (noTabs 6) ⟨[1, 1, 1, 0, 0], True⟩
noncomputable def range_e2 (n lo hi : Int) : Option OutS := evFS Tryz.prog x_range 1000 96 #[.int .i64 n, .int .i64 lo, .int .i64 hi] (noTabs 6) ⟨[0, 0, 0, 1, 1], True⟩
noncomputable def x_rrange : CallS := kAll []
noncomputable def rrange_e0 (n lo hi : Int) : Option OutS := evFS Tryz.prog x_rrange 1000 20 #[.int .i64 n, .int .i64 lo, .int .i64 hi] (noTabs 6) ⟨[0, 0, 0, 1, 1], True⟩
noncomputable def rrange_e1 (n lo hi : Int) : Option OutS := evFS Tryz.prog x_rrange 1000 20 #[.int .i64 n, .int .i64 lo, .int .i64 hi] (noTabs 6) ⟨[1, 1, 1, 0, 1], True⟩
noncomputable def rrange_e2 (n lo hi : Int) : Option OutS := evFS Tryz.prog x_rrange 1000 20 #[.int .i64 n, .int .i64 lo, .int .i64 hi] (noTabs 6) ⟨[1, 1, 1, 0, 0], True⟩
noncomputable def x_index : CallS := kAll []
noncomputable def index_e0 (a n : Int) : Option OutS := evFS Tryz.prog x_index 1000 103 #[.int .i64 a, .int .i64 n] (noTabs 6) ⟨[1, 1, 1, 0, 1], True⟩
noncomputable def index_e1 (a n : Int) : Option OutS := evFS Tryz.prog x_index 1000 103 #[.int .i64 a, .int .i64 n] (noTabs 6) ⟨[0, 0, 0, 1, 1], True⟩
noncomputable def index_e2 (a n : Int) : Option OutS := evFS Tryz.prog x_index 1000 103 #[.int .i64 a, .int .i64 n] (noTabs 6) ⟨[1, 1, 1, 0, 0], True⟩
end Go.Proofs.YtbkpnhbcihcgaaaGreatDoor
end
section
set_option linter.all false
set_option maxRecDepth 1000000
set_option maxHeartbeats 2000000
open Go.RowKit
namespace Go.Proofs.YtbkpnhbcihcgaaaGreatDoor
open Mini

def range_val (n lo hi : Int) : Value := .int .i64 (Pl.cr n lo hi)
theorem range_X : FOkS Tryz.prog x_range := noXS_ok
theorem range_args (n lo hi : Int) : (#[.int .i64 n, .int .i64 lo, .int .i64 hi] : Array Value).toList.all (ground 8) = true := by kernel_rfl
def range_c0 (n lo hi : Int) : Bool := (decide (n < lo))
def range_c1 (n lo hi : Int) : Bool := (decide (n > hi))
theorem range_g4 : (true = true) := by first | rfl | trivial | decide | omega
def range_w0 (n lo hi : Int) : Value := .int .i64 (3 : Int)
def range_r0 (n lo hi : Int) : Prop := (((((True ∧ (range_c0 n lo hi = false)) ∧ (range_c0 n lo hi = false)) ∧ (range_c0 n lo hi = false)) ∧ (range_c0 n lo hi = false)) ∧ (range_c1 n lo hi = true))
theorem range_o0 (n lo hi : Int) : obOf (range_e0 n lo hi) = range_r0 n lo hi := by kernel_rfl
theorem range_v0 (n lo hi : Int) : resOf (range_e0 n lo hi) = range_w0 n lo hi := by kernel_rfl
theorem range_l0 (n lo hi : Int) : cleanOf Tryz.prog.globals.size (range_e0 n lo hi) = true := by kernel_rfl
theorem range_q0 (n lo hi : Int) : range_e0 n lo hi = evFS Tryz.prog x_range 1000 96 #[.int .i64 n, .int .i64 lo, .int .i64 hi] (noTabs 6) ⟨[1, 1, 1, 0, 1], True⟩ := by
  delta range_e0
  exact Eq.refl _
theorem range_p0 (n lo hi : Int) (h : range_r0 n lo hi) (w : World) : Calls Tryz.prog 96 #[.int .i64 n, .int .i64 lo, .int .i64 hi] w fun en w' => en = .returned (range_w0 n lo hi) ∧ Below w.heap.size w w' := by
  have hv := range_v0 n lo hi
  have hc := range_l0 n lo hi
  have he := range_q0 n lo hi
  have ho := range_o0 n lo hi
  generalize range_e0 n lo hi = r at *
  exact calls_way he gfol range_X hv rfl (range_args n lo hi) hc ho h (bl w)
def range_w1 (n lo hi : Int) : Value := .int .i64 (0 : Int)
def range_r1 (n lo hi : Int) : Prop := (((((True ∧ (range_c0 n lo hi = false)) ∧ (range_c0 n lo hi = false)) ∧ (range_c0 n lo hi = false)) ∧ (range_c0 n lo hi = false)) ∧ (range_c1 n lo hi = false))
theorem range_o1 (n lo hi : Int) : obOf (range_e1 n lo hi) = range_r1 n lo hi := by kernel_rfl
theorem range_v1 (n lo hi : Int) : resOf (range_e1 n lo hi) = range_w1 n lo hi := by kernel_rfl
theorem range_l1 (n lo hi : Int) : cleanOf Tryz.prog.globals.size (range_e1 n lo hi) = true := by kernel_rfl
theorem range_q1 (n lo hi : Int) : range_e1 n lo hi = evFS Tryz.prog x_range 1000 96 #[.int .i64 n, .int .i64 lo, .int .i64 hi] (noTabs 6) ⟨[1, 1, 1, 0, 0], True⟩ := by
  delta range_e1
  exact Eq.refl _
theorem range_p1 (n lo hi : Int) (h : range_r1 n lo hi) (w : World) : Calls Tryz.prog 96 #[.int .i64 n, .int .i64 lo, .int .i64 hi] w fun en w' => en = .returned (range_w1 n lo hi) ∧ Below w.heap.size w w' := by
  have hv := range_v1 n lo hi
  have hc := range_l1 n lo hi
  have he := range_q1 n lo hi
  have ho := range_o1 n lo hi
  generalize range_e1 n lo hi = r at *
  exact calls_way he gfol range_X hv rfl (range_args n lo hi) hc ho h (bl w)
def range_w2 (n lo hi : Int) : Value := .int .i64 (3 : Int)
def range_r2 (n lo hi : Int) : Prop := (((((True ∧ (range_c0 n lo hi = true)) ∧ (range_c0 n lo hi = true)) ∧ (range_c0 n lo hi = true)) ∧ (range_c0 n lo hi = true)) ∧ ((true = true)))
theorem range_o2 (n lo hi : Int) : obOf (range_e2 n lo hi) = range_r2 n lo hi := by kernel_rfl
theorem range_v2 (n lo hi : Int) : resOf (range_e2 n lo hi) = range_w2 n lo hi := by kernel_rfl
theorem range_l2 (n lo hi : Int) : cleanOf Tryz.prog.globals.size (range_e2 n lo hi) = true := by kernel_rfl
theorem range_q2 (n lo hi : Int) : range_e2 n lo hi = evFS Tryz.prog x_range 1000 96 #[.int .i64 n, .int .i64 lo, .int .i64 hi] (noTabs 6) ⟨[0, 0, 0, 1, 1], True⟩ := by
  delta range_e2
  exact Eq.refl _
theorem range_p2 (n lo hi : Int) (h : range_r2 n lo hi) (w : World) : Calls Tryz.prog 96 #[.int .i64 n, .int .i64 lo, .int .i64 hi] w fun en w' => en = .returned (range_w2 n lo hi) ∧ Below w.heap.size w w' := by
  have hv := range_v2 n lo hi
  have hc := range_l2 n lo hi
  have he := range_q2 n lo hi
  have ho := range_o2 n lo hi
  generalize range_e2 n lo hi = r at *
  exact calls_way he gfol range_X hv rfl (range_args n lo hi) hc ho h (bl w)
theorem range_any (n lo hi : Int) (hpre : True) (w : World) : Calls Tryz.prog 96 #[.int .i64 n, .int .i64 lo, .int .i64 hi] w fun en w' => en = .returned (range_val n lo hi) ∧ Below w.heap.size w w' := by
  rcases Bool.eq_false_or_eq_true (range_c0 n lo hi) with h0 | h0
  ·
    unfold range_c0 at h0
    have hp := range_p2 n lo hi ⟨⟨⟨⟨⟨trivial, h0⟩, h0⟩, h0⟩, h0⟩, range_g4⟩ w
    have hv : range_w2 n lo hi = (range_val n lo hi) := by
      clear hp
      unfold range_w2 range_val
      (try simp only [Pl.cr, ixE, decide_eq_true_eq, decide_eq_false_iff_not] at *)
      first | rfl | grind
    exact hv ▸ hp
  ·
    unfold range_c0 at h0
    rcases Bool.eq_false_or_eq_true (range_c1 n lo hi) with h1 | h1
    ·
      unfold range_c1 at h1
      have hp := range_p0 n lo hi ⟨⟨⟨⟨⟨trivial, h0⟩, h0⟩, h0⟩, h0⟩, h1⟩ w
      have hv : range_w0 n lo hi = (range_val n lo hi) := by
        clear hp
        unfold range_w0 range_val
        (try simp only [Pl.cr, ixE, decide_eq_true_eq, decide_eq_false_iff_not] at *)
        first | rfl | grind
      exact hv ▸ hp
    ·
      unfold range_c1 at h1
      have hp := range_p1 n lo hi ⟨⟨⟨⟨⟨trivial, h0⟩, h0⟩, h0⟩, h0⟩, h1⟩ w
      have hv : range_w1 n lo hi = (range_val n lo hi) := by
        clear hp
        unfold range_w1 range_val
        (try simp only [Pl.cr, ixE, decide_eq_true_eq, decide_eq_false_iff_not] at *)
        first | rfl | grind
      exact hv ▸ hp
theorem k_range : ConOk Tryz.prog c_range := fun ns hl => by
  have hl0 : ns.length = 3 := hl
  clear hl
  obtain ⟨n, ns0, rfl, hl1⟩ := len_cons hl0
  obtain ⟨lo, ns1, rfl, hl2⟩ := len_cons hl1
  obtain ⟨hi, ns2, rfl, hl3⟩ := len_cons hl2
  obtain rfl := len_nil hl3
  exact ⟨rfl, fun h w => range_any n lo hi h w⟩
end Go.Proofs.YtbkpnhbcihcgaaaGreatDoor
end
section
set_option linter.all false
set_option maxRecDepth 1000000
set_option maxHeartbeats 2000000
open Go.RowKit
namespace Go.Proofs.YtbkpnhbcihcgaaaGreatDoor
open Mini

def rrange_val (n lo hi : Int) : Value := .int .i64 (Pl.cr n lo hi)
theorem rrange_X : FOkS Tryz.prog x_rrange := noXS_ok
theorem rrange_args (n lo hi : Int) : (#[.int .i64 n, .int .i64 lo, .int .i64 hi] : Array Value).toList.all (ground 8) = true := by kernel_rfl
def rrange_c0 (n lo hi : Int) : Bool := (decide (n < lo))
theorem rrange_g1 : (true = true) := by first | rfl | trivial | decide | omega
def rrange_c1 (n lo hi : Int) : Bool := (decide (n > hi))
def rrange_w0 (n lo hi : Int) : Value := .int .i64 (3 : Int)
def rrange_r0 (n lo hi : Int) : Prop := (((((True ∧ (rrange_c0 n lo hi = true)) ∧ (rrange_c0 n lo hi = true)) ∧ (rrange_c0 n lo hi = true)) ∧ (rrange_c0 n lo hi = true)) ∧ ((true = true)))
theorem rrange_o0 (n lo hi : Int) : obOf (rrange_e0 n lo hi) = rrange_r0 n lo hi := by kernel_rfl
theorem rrange_v0 (n lo hi : Int) : resOf (rrange_e0 n lo hi) = rrange_w0 n lo hi := by kernel_rfl
theorem rrange_l0 (n lo hi : Int) : cleanOf Tryz.prog.globals.size (rrange_e0 n lo hi) = true := by kernel_rfl
theorem rrange_q0 (n lo hi : Int) : rrange_e0 n lo hi = evFS Tryz.prog x_rrange 1000 20 #[.int .i64 n, .int .i64 lo, .int .i64 hi] (noTabs 6) ⟨[0, 0, 0, 1, 1], True⟩ := by
  delta rrange_e0
  exact Eq.refl _
theorem rrange_p0 (n lo hi : Int) (h : rrange_r0 n lo hi) (w : World) : Calls Tryz.prog 20 #[.int .i64 n, .int .i64 lo, .int .i64 hi] w fun en w' => en = .returned (rrange_w0 n lo hi) ∧ Below w.heap.size w w' := by
  have hv := rrange_v0 n lo hi
  have hc := rrange_l0 n lo hi
  have he := rrange_q0 n lo hi
  have ho := rrange_o0 n lo hi
  generalize rrange_e0 n lo hi = r at *
  exact calls_way he gfol rrange_X hv rfl (rrange_args n lo hi) hc ho h (bl w)
def rrange_w1 (n lo hi : Int) : Value := .int .i64 (3 : Int)
def rrange_r1 (n lo hi : Int) : Prop := (((((True ∧ (rrange_c0 n lo hi = false)) ∧ (rrange_c0 n lo hi = false)) ∧ (rrange_c0 n lo hi = false)) ∧ (rrange_c0 n lo hi = false)) ∧ (rrange_c1 n lo hi = true))
theorem rrange_o1 (n lo hi : Int) : obOf (rrange_e1 n lo hi) = rrange_r1 n lo hi := by kernel_rfl
theorem rrange_v1 (n lo hi : Int) : resOf (rrange_e1 n lo hi) = rrange_w1 n lo hi := by kernel_rfl
theorem rrange_l1 (n lo hi : Int) : cleanOf Tryz.prog.globals.size (rrange_e1 n lo hi) = true := by kernel_rfl
theorem rrange_q1 (n lo hi : Int) : rrange_e1 n lo hi = evFS Tryz.prog x_rrange 1000 20 #[.int .i64 n, .int .i64 lo, .int .i64 hi] (noTabs 6) ⟨[1, 1, 1, 0, 1], True⟩ := by
  delta rrange_e1
  exact Eq.refl _
theorem rrange_p1 (n lo hi : Int) (h : rrange_r1 n lo hi) (w : World) : Calls Tryz.prog 20 #[.int .i64 n, .int .i64 lo, .int .i64 hi] w fun en w' => en = .returned (rrange_w1 n lo hi) ∧ Below w.heap.size w w' := by
  have hv := rrange_v1 n lo hi
  have hc := rrange_l1 n lo hi
  have he := rrange_q1 n lo hi
  have ho := rrange_o1 n lo hi
  generalize rrange_e1 n lo hi = r at *
  exact calls_way he gfol rrange_X hv rfl (rrange_args n lo hi) hc ho h (bl w)
def rrange_w2 (n lo hi : Int) : Value := .int .i64 (0 : Int)
def rrange_r2 (n lo hi : Int) : Prop := (((((True ∧ (rrange_c0 n lo hi = false)) ∧ (rrange_c0 n lo hi = false)) ∧ (rrange_c0 n lo hi = false)) ∧ (rrange_c0 n lo hi = false)) ∧ (rrange_c1 n lo hi = false))
theorem rrange_o2 (n lo hi : Int) : obOf (rrange_e2 n lo hi) = rrange_r2 n lo hi := by kernel_rfl
theorem rrange_v2 (n lo hi : Int) : resOf (rrange_e2 n lo hi) = rrange_w2 n lo hi := by kernel_rfl
theorem rrange_l2 (n lo hi : Int) : cleanOf Tryz.prog.globals.size (rrange_e2 n lo hi) = true := by kernel_rfl
theorem rrange_q2 (n lo hi : Int) : rrange_e2 n lo hi = evFS Tryz.prog x_rrange 1000 20 #[.int .i64 n, .int .i64 lo, .int .i64 hi] (noTabs 6) ⟨[1, 1, 1, 0, 0], True⟩ := by
  delta rrange_e2
  exact Eq.refl _
theorem rrange_p2 (n lo hi : Int) (h : rrange_r2 n lo hi) (w : World) : Calls Tryz.prog 20 #[.int .i64 n, .int .i64 lo, .int .i64 hi] w fun en w' => en = .returned (rrange_w2 n lo hi) ∧ Below w.heap.size w w' := by
  have hv := rrange_v2 n lo hi
  have hc := rrange_l2 n lo hi
  have he := rrange_q2 n lo hi
  have ho := rrange_o2 n lo hi
  generalize rrange_e2 n lo hi = r at *
  exact calls_way he gfol rrange_X hv rfl (rrange_args n lo hi) hc ho h (bl w)
theorem rrange_any (n lo hi : Int) (hpre : True) (w : World) : Calls Tryz.prog 20 #[.int .i64 n, .int .i64 lo, .int .i64 hi] w fun en w' => en = .returned (rrange_val n lo hi) ∧ Below w.heap.size w w' := by
  rcases Bool.eq_false_or_eq_true (rrange_c0 n lo hi) with h0 | h0
  ·
    unfold rrange_c0 at h0
    have hp := rrange_p0 n lo hi ⟨⟨⟨⟨⟨trivial, h0⟩, h0⟩, h0⟩, h0⟩, rrange_g1⟩ w
    have hv : rrange_w0 n lo hi = (rrange_val n lo hi) := by
      clear hp
      unfold rrange_w0 rrange_val
      (try simp only [Pl.cr, ixE, decide_eq_true_eq, decide_eq_false_iff_not] at *)
      first | rfl | grind
    exact hv ▸ hp
  ·
    unfold rrange_c0 at h0
    rcases Bool.eq_false_or_eq_true (rrange_c1 n lo hi) with h1 | h1
    ·
      unfold rrange_c1 at h1
      have hp := rrange_p1 n lo hi ⟨⟨⟨⟨⟨trivial, h0⟩, h0⟩, h0⟩, h0⟩, h1⟩ w
      have hv : rrange_w1 n lo hi = (rrange_val n lo hi) := by
        clear hp
        unfold rrange_w1 rrange_val
        (try simp only [Pl.cr, ixE, decide_eq_true_eq, decide_eq_false_iff_not] at *)
        first | rfl | grind
      exact hv ▸ hp
    ·
      unfold rrange_c1 at h1
      have hp := rrange_p2 n lo hi ⟨⟨⟨⟨⟨trivial, h0⟩, h0⟩, h0⟩, h0⟩, h1⟩ w
      have hv : rrange_w2 n lo hi = (rrange_val n lo hi) := by
        clear hp
        unfold rrange_w2 rrange_val
        (try simp only [Pl.cr, ixE, decide_eq_true_eq, decide_eq_false_iff_not] at *)
        first | rfl | grind
      exact hv ▸ hp
theorem k_rrange : ConOk Tryz.prog c_rrange := fun ns hl => by
  have hl0 : ns.length = 3 := hl
  clear hl
  obtain ⟨n, ns0, rfl, hl1⟩ := len_cons hl0
  obtain ⟨lo, ns1, rfl, hl2⟩ := len_cons hl1
  obtain ⟨hi, ns2, rfl, hl3⟩ := len_cons hl2
  obtain rfl := len_nil hl3
  exact ⟨rfl, fun h w => rrange_any n lo hi h w⟩
end Go.Proofs.YtbkpnhbcihcgaaaGreatDoor
end
section
set_option linter.all false
set_option maxRecDepth 1000000
set_option maxHeartbeats 2000000
open Go.RowKit
namespace Go.Proofs.YtbkpnhbcihcgaaaGreatDoor
open Mini

def index_val (a n : Int) : Value := .int .i64 (ixE a n)
theorem index_X : FOkS Tryz.prog x_index := noXS_ok
theorem index_args (a n : Int) : (#[.int .i64 a, .int .i64 n] : Array Value).toList.all (ground 8) = true := by kernel_rfl
def index_c0 (a n : Int) : Bool := (decide (a < (0 : Int)))
def index_c1 (a n : Int) : Bool := (decide (a ≥ n))
theorem index_g3 : (true = true) := by first | rfl | trivial | decide | omega
def index_w0 (a n : Int) : Value := .int .i64 (10 : Int)
def index_r0 (a n : Int) : Prop := (((((True ∧ (index_c0 a n = false)) ∧ (index_c0 a n = false)) ∧ (index_c0 a n = false)) ∧ (index_c0 a n = false)) ∧ (index_c1 a n = true))
theorem index_o0 (a n : Int) : obOf (index_e0 a n) = index_r0 a n := by kernel_rfl
theorem index_v0 (a n : Int) : resOf (index_e0 a n) = index_w0 a n := by kernel_rfl
theorem index_l0 (a n : Int) : cleanOf Tryz.prog.globals.size (index_e0 a n) = true := by kernel_rfl
theorem index_q0 (a n : Int) : index_e0 a n = evFS Tryz.prog x_index 1000 103 #[.int .i64 a, .int .i64 n] (noTabs 6) ⟨[1, 1, 1, 0, 1], True⟩ := by
  delta index_e0
  exact Eq.refl _
theorem index_p0 (a n : Int) (h : index_r0 a n) (w : World) : Calls Tryz.prog 103 #[.int .i64 a, .int .i64 n] w fun en w' => en = .returned (index_w0 a n) ∧ Below w.heap.size w w' := by
  have hv := index_v0 a n
  have hc := index_l0 a n
  have he := index_q0 a n
  have ho := index_o0 a n
  generalize index_e0 a n = r at *
  exact calls_way he gfol index_X hv rfl (index_args a n) hc ho h (bl w)
def index_w1 (a n : Int) : Value := .int .i64 (10 : Int)
def index_r1 (a n : Int) : Prop := (((((True ∧ (index_c0 a n = true)) ∧ (index_c0 a n = true)) ∧ (index_c0 a n = true)) ∧ (index_c0 a n = true)) ∧ ((true = true)))
theorem index_o1 (a n : Int) : obOf (index_e1 a n) = index_r1 a n := by kernel_rfl
theorem index_v1 (a n : Int) : resOf (index_e1 a n) = index_w1 a n := by kernel_rfl
theorem index_l1 (a n : Int) : cleanOf Tryz.prog.globals.size (index_e1 a n) = true := by kernel_rfl
theorem index_q1 (a n : Int) : index_e1 a n = evFS Tryz.prog x_index 1000 103 #[.int .i64 a, .int .i64 n] (noTabs 6) ⟨[0, 0, 0, 1, 1], True⟩ := by
  delta index_e1
  exact Eq.refl _
theorem index_p1 (a n : Int) (h : index_r1 a n) (w : World) : Calls Tryz.prog 103 #[.int .i64 a, .int .i64 n] w fun en w' => en = .returned (index_w1 a n) ∧ Below w.heap.size w w' := by
  have hv := index_v1 a n
  have hc := index_l1 a n
  have he := index_q1 a n
  have ho := index_o1 a n
  generalize index_e1 a n = r at *
  exact calls_way he gfol index_X hv rfl (index_args a n) hc ho h (bl w)
def index_w2 (a n : Int) : Value := .int .i64 (0 : Int)
def index_r2 (a n : Int) : Prop := (((((True ∧ (index_c0 a n = false)) ∧ (index_c0 a n = false)) ∧ (index_c0 a n = false)) ∧ (index_c0 a n = false)) ∧ (index_c1 a n = false))
theorem index_o2 (a n : Int) : obOf (index_e2 a n) = index_r2 a n := by kernel_rfl
theorem index_v2 (a n : Int) : resOf (index_e2 a n) = index_w2 a n := by kernel_rfl
theorem index_l2 (a n : Int) : cleanOf Tryz.prog.globals.size (index_e2 a n) = true := by kernel_rfl
theorem index_q2 (a n : Int) : index_e2 a n = evFS Tryz.prog x_index 1000 103 #[.int .i64 a, .int .i64 n] (noTabs 6) ⟨[1, 1, 1, 0, 0], True⟩ := by
  delta index_e2
  exact Eq.refl _
theorem index_p2 (a n : Int) (h : index_r2 a n) (w : World) : Calls Tryz.prog 103 #[.int .i64 a, .int .i64 n] w fun en w' => en = .returned (index_w2 a n) ∧ Below w.heap.size w w' := by
  have hv := index_v2 a n
  have hc := index_l2 a n
  have he := index_q2 a n
  have ho := index_o2 a n
  generalize index_e2 a n = r at *
  exact calls_way he gfol index_X hv rfl (index_args a n) hc ho h (bl w)
theorem index_any (a n : Int) (hpre : True) (w : World) : Calls Tryz.prog 103 #[.int .i64 a, .int .i64 n] w fun en w' => en = .returned (index_val a n) ∧ Below w.heap.size w w' := by
  rcases Bool.eq_false_or_eq_true (index_c0 a n) with h0 | h0
  ·
    unfold index_c0 at h0
    have hp := index_p1 a n ⟨⟨⟨⟨⟨trivial, h0⟩, h0⟩, h0⟩, h0⟩, index_g3⟩ w
    have hv : index_w1 a n = (index_val a n) := by
      clear hp
      unfold index_w1 index_val
      (try simp only [Pl.cr, ixE, decide_eq_true_eq, decide_eq_false_iff_not] at *)
      first | rfl | grind
    exact hv ▸ hp
  ·
    unfold index_c0 at h0
    rcases Bool.eq_false_or_eq_true (index_c1 a n) with h1 | h1
    ·
      unfold index_c1 at h1
      have hp := index_p0 a n ⟨⟨⟨⟨⟨trivial, h0⟩, h0⟩, h0⟩, h0⟩, h1⟩ w
      have hv : index_w0 a n = (index_val a n) := by
        clear hp
        unfold index_w0 index_val
        (try simp only [Pl.cr, ixE, decide_eq_true_eq, decide_eq_false_iff_not] at *)
        first | rfl | grind
      exact hv ▸ hp
    ·
      unfold index_c1 at h1
      have hp := index_p2 a n ⟨⟨⟨⟨⟨trivial, h0⟩, h0⟩, h0⟩, h0⟩, h1⟩ w
      have hv : index_w2 a n = (index_val a n) := by
        clear hp
        unfold index_w2 index_val
        (try simp only [Pl.cr, ixE, decide_eq_true_eq, decide_eq_false_iff_not] at *)
        first | rfl | grind
      exact hv ▸ hp
theorem k_index : ConOk Tryz.prog c_index := fun ns hl => by
  have hl0 : ns.length = 2 := hl
  clear hl
  obtain ⟨a, ns0, rfl, hl1⟩ := len_cons hl0
  obtain ⟨n, ns1, rfl, hl2⟩ := len_cons hl1
  obtain rfl := len_nil hl2
  exact ⟨rfl, fun h w => index_any a n h w⟩
end Go.Proofs.YtbkpnhbcihcgaaaGreatDoor
end
section
set_option linter.all false
set_option maxRecDepth 1000000
open Go.RowKit
namespace Go.Proofs.YtbkpnhbcihcgaaaGreatDoor
open Mini
def th2 (a b : Int) : Int := if a = 0 then b else a
end Go.Proofs.YtbkpnhbcihcgaaaGreatDoor
end
section
set_option linter.all false
set_option maxRecDepth 1000000
open Go.RowKit
namespace Go.Proofs.YtbkpnhbcihcgaaaGreatDoor
open Mini
noncomputable section
variable (n : Nat) (c : Nat) (g : GI) (e : TypeId) (opn : Bool) (sz : Nat) (ro : Bool) (i10 : Nat) (jj : Nat)
noncomputable def peX : Code := loopAt Tryz.prog 115 0
noncomputable def peK : CallS := kAll [c_range, c_rrange, c_index]
def peA (g : GI) (e : TypeId) (opn : Bool) (sz : Nat) (ro : Bool) (i10 : Nat) : MA := MA.ofL 21 (jl [.chan none, .func (.func 84) #[] #[]] 6 (jl [.slice (some ⟨6, 0, none⟩) n c, .int .i64 ((n : Nat) : Int), .int .i64 ((i10 : Nat) : Int)] 10 [])) []
abbrev zb0 : List MObj := [.rows n 1 (fun i j => .int .i64 (g i j)) e opn sz ro]
def peL (c : Nat) (g : GI) (e : TypeId) (opn : Bool) (sz : Nat) (ro : Bool) (i10 : Nat) : List MObj := (zb0 n g e opn sz ro)
noncomputable def per0 : Option OutCS := evK Tryz.prog peK 1000 false peX (peA n c g e opn sz ro i10) (wS 6 (peL n c g e opn sz ro i10)) ⟨[1, .row i10 0, .row i10 0, 0, .azz (.int .i64 ((i10 + 1 : Nat) : Int))], True⟩
noncomputable def per1 : Option OutCS := evK Tryz.prog peK 1000 false peX (peA n c g e opn sz ro i10) (wS 6 (peL n c g e opn sz ro i10)) ⟨[1, .row i10 0, .row i10 0, 1], True⟩
abbrev zb1 := Pl.cr (g i10 0) (-100 : Int) (100 : Int)
def per1E (n : Nat) (c : Nat) (g : GI) (e : TypeId) (opn : Bool) (sz : Nat) (ro : Bool) (i10 : Nat) : MA := MA.ofL 21 (jl [] 4 (jl [.int .i64 (zb1 g i10)] 16 [])) []
noncomputable def per2 : Option OutCS := evK Tryz.prog peK 1000 false peX (peA n c g e opn sz ro i10) (wS 6 (peL n c g e opn sz ro i10)) ⟨[0], True⟩
def per2E (n : Nat) (c : Nat) (g : GI) (e : TypeId) (opn : Bool) (sz : Nat) (ro : Bool) (i10 : Nat) : MA := MA.ofL 21 (jl [] 21 []) []
def peArgs (g : GI) (e : TypeId) (opn : Bool) (sz : Nat) (ro : Bool) : Array Value := #[.slice (some ⟨6, 0, none⟩) n c]
def peS (c : Nat) (g : GI) (e : TypeId) (opn : Bool) (sz : Nat) (ro : Bool) : List MObj := (zb0 n g e opn sz ro)
noncomputable abbrev zb2 := bodyOf Tryz.prog 24
noncomputable abbrev zb3 := startM Tryz.f24 (peArgs n c g e opn sz ro)
abbrev zb4 := wS 6 (peS n c g e opn sz ro)
noncomputable def pef0 : Option OutCS := evK Tryz.prog peK 1000 false zb2 (zb3 n c g e opn sz ro) (zb4 n c g e opn sz ro) ⟨[1], True⟩
noncomputable def pef1 : Option OutCS := evK Tryz.prog peK 1000 false zb2 (zb3 n c g e opn sz ro) (zb4 n c g e opn sz ro) ⟨[0, 1, 1], True⟩
noncomputable def pef4 : Option OutCS := evK Tryz.prog peK 1000 false zb2 (zb3 n c g e opn sz ro) (zb4 n c g e opn sz ro) ⟨[0, 0, .lp 1794 (peA n c g e opn sz ro 0) 6 (peL n c g e opn sz ro 0) .ret (per1E n c g e opn sz ro jj) (peL n c g e opn sz ro 0) 64 0, 1], True⟩
noncomputable def pef5 : Option OutCS := evK Tryz.prog peK 1000 false zb2 (zb3 n c g e opn sz ro) (zb4 n c g e opn sz ro) ⟨[0, 0, .lp 1794 (peA n c g e opn sz ro 0) 6 (peL n c g e opn sz ro 0) (.exit 0) (per2E n c g e opn sz ro n) (peL n c g e opn sz ro 0) 64 0, 0, .row (n - 1) 0, .row (n - 1) 0, 1], True⟩
noncomputable def pef6 : Option OutCS := evK Tryz.prog peK 1000 false zb2 (zb3 n c g e opn sz ro) (zb4 n c g e opn sz ro) ⟨[0, 0, .lp 1794 (peA n c g e opn sz ro 0) 6 (peL n c g e opn sz ro 0) (.exit 0) (per2E n c g e opn sz ro n) (peL n c g e opn sz ro 0) 64 0, 0, .row (n - 1) 0, .row (n - 1) 0, 0], True⟩
theorem peK_ok : FOkS Tryz.prog peK := kAll_ok _ ⟨k_range, k_rrange, k_index, trivial⟩
abbrev zb5 := decide ((((i10 : Nat)) : Int) < (((n : Nat)) : Int))
abbrev zb6 := (((True ∧ ((zb5 n i10) = true)) ∧ (((((i10 : Nat)) : Int) = (Int.ofNat i10)) ∧ (i10 < n))) ∧ (((0 + (i10 * 1)) = ((i10 * 1) + 0)) ∧ (i10 < n))) ∧ True
abbrev zb7 := (Pl.cr (g i10 0) (- (100 : Int)) (100 : Int)) != (0 : Int)
theorem per0_eq : seenK 6 1 [] 1794 0 (per0 n c g e opn sz ro i10) = some (.normal, peA n c g e opn sz ro (i10 + 1), (zb0 n g e opn sz ro), 0, ⟨[], (((zb6 n i10) ∧ ((zb7 g i10) = false)) ∧ (((.int .i64 (IntKind.i64.wrap ((((i10 : Nat)) : Int) + (1 : Int)))) : Value) = (.int .i64 ((((i10 + 1) : Nat)) : Int))))⟩) := by kernel_rfl
theorem per0_k (hx : 0 < n ∧ (n : Int) ≤ 9223372036854775807) (h0 : ((i10 : Nat) : Int) < ((n : Nat) : Int)) (h1 : (zb1 g i10) = (0 : Int)) : KC Tryz.prog none peX (peA n c g e opn sz ro i10).act (wS 6 (peL n c g e opn sz ro i10)) .normal (peA n c g e opn sz ro (i10 + 1)).act (wS 6 (peL n c g e opn sz ro (i10 + 1))) 7 0 :=
  seenK_ok smx peK_ok sng (per0_eq n c g e opn sz ro i10) kq
theorem per1_eq : seenK 6 1 [] 16 0 (per1 n c g e opn sz ro i10) = some (.ret, per1E n c g e opn sz ro i10, (zb0 n g e opn sz ro), 0, ⟨[], ((zb6 n i10) ∧ ((zb7 g i10) = true))⟩) := by kernel_rfl
abbrev zb8 := wS 6 (zb0 n g e opn sz ro)
theorem per1_k (hx : 0 < n ∧ (n : Int) ≤ 9223372036854775807) (h0 : ((i10 : Nat) : Int) < ((n : Nat) : Int)) (h1 : (zb1 g i10) ≠ (0 : Int)) : KC Tryz.prog none peX (peA n c g e opn sz ro i10).act (wS 6 (peL n c g e opn sz ro i10)) .ret (per1E n c g e opn sz ro i10).act (zb8 n g e opn sz ro) 7 0 :=
  seenK_ok smx peK_ok sng (per1_eq n c g e opn sz ro i10) kq
theorem per2_eq : seenK 6 1 [] 0 0 (per2 n c g e opn sz ro i10) = some ((.exit 0), per2E n c g e opn sz ro i10, (zb0 n g e opn sz ro), 0, ⟨[], (True ∧ ((zb5 n i10) = false))⟩) := by kernel_rfl
theorem per2_k (hx : 0 < n ∧ (n : Int) ≤ 9223372036854775807) (h0 : ¬ ((i10 : Nat) : Int) < ((n : Nat) : Int)) : KC Tryz.prog none peX (peA n c g e opn sz ro i10).act (wS 6 (peL n c g e opn sz ro i10)) (.exit 0) (per2E n c g e opn sz ro i10).act (zb8 n g e opn sz ro) 7 0 :=
  seenK_ok smx peK_ok sng (per2_eq n c g e opn sz ro i10) kq
abbrev zb9 := Pl.cr (g jj 0) (-100 : Int) (100 : Int)
abbrev zb10 := wS 6 (peL n c g e opn sz ro 0)
theorem pe_ret (hx : 0 < n ∧ (n : Int) ≤ 9223372036854775807) (hj : jj < n) (h1 : ∀ i, i < jj → (Pl.cr (g i 0) (-100 : Int) (100 : Int)) = 0) (h2 : (zb9 g jj) ≠ 0) : KC Tryz.prog none (.loop peX) (peA n c g e opn sz ro 0).act (zb10 n c g e opn sz ro) .ret (per1E n c g e opn sz ro jj).act (zb8 n g e opn sz ro) 7 0 := by
  exact K_rounds (A := fun i => (peA n c g e opn sz ro i).act) (S := fun i => wS 6 (peL n c g e opn sz ro i)) (jj) (fun i hi => per0_k n c g e opn sz ro i hx (by omega) (h1 i hi)) (per1_k n c g e opn sz ro jj hx (by omega) h2) (by simp)
theorem pe_ret_s (hx : 0 < n ∧ (n : Int) ≤ 9223372036854775807) (hj : jj < n) (h1 : ∀ i, i < jj → (Pl.cr (g i 0) (-100 : Int) (100 : Int)) = 0) (h2 : (zb9 g jj) ≠ 0) : SndC Tryz.prog none (.loop peX) (peA n c g e opn sz ro 0).act (zb10 n c g e opn sz ro) .ret (per1E n c g e opn sz ro jj).act (zb10 n c g e opn sz ro) 64 0 :=
  KT.snd (a := peA n c g e opn sz ro 0) (a2 := per1E n c g e opn sz ro jj) (L := peL n c g e opn sz ro 0) (pe_ret n c g e opn sz ro jj hx hj h1 h2) sng (Nat.le_refl _) (fun b _ => by simp) rfl rfl (by kernel_rfl) (by kernel_rfl) (fun o ho => by
    simp only [peL, List.mem_cons, List.not_mem_nil, or_false] at ho
    rcases ho with rfl
    all_goals first | rfl | exact fun i j => rfl)
theorem pe_all  (hx : 0 < n ∧ (n : Int) ≤ 9223372036854775807) (h1 : ∀ i, i < n → (Pl.cr (g i 0) (-100 : Int) (100 : Int)) = 0) : KC Tryz.prog none (.loop peX) (peA n c g e opn sz ro 0).act (zb10 n c g e opn sz ro) (.exit 0) (per2E n c g e opn sz ro n).act (zb8 n g e opn sz ro) 7 0 := by
  exact K_rounds (A := fun i => (peA n c g e opn sz ro i).act) (S := fun i => wS 6 (peL n c g e opn sz ro i)) (n) (fun i hi => per0_k n c g e opn sz ro i hx (by omega) (h1 i hi)) (per2_k n c g e opn sz ro n hx (by omega)) (by simp)
theorem pe_all_s  (hx : 0 < n ∧ (n : Int) ≤ 9223372036854775807) (h1 : ∀ i, i < n → (Pl.cr (g i 0) (-100 : Int) (100 : Int)) = 0) : SndC Tryz.prog none (.loop peX) (peA n c g e opn sz ro 0).act (zb10 n c g e opn sz ro) (.exit 0) (per2E n c g e opn sz ro n).act (zb10 n c g e opn sz ro) 64 0 :=
  KT.snd (a := peA n c g e opn sz ro 0) (a2 := per2E n c g e opn sz ro n) (L := peL n c g e opn sz ro 0) (pe_all n c g e opn sz ro hx h1) sng (Nat.le_refl _) (fun b _ => by simp) rfl rfl (by kernel_rfl) (by kernel_rfl) (fun o ho => by
    simp only [peL, List.mem_cons, List.not_mem_nil, or_false] at ho
    rcases ho with rfl
    all_goals first | rfl | exact fun i j => rfl)
theorem pef0_eq : seenF' Tryz.prog Tryz.f24 6 1 [] (pef0 n c g e opn sz ro) = some (.int .i64 (12 : Int), peS n c g e opn sz ro ++ [], ⟨[], (True ∧ (((((n : Nat)) : Int) == (0 : Int)) = true))⟩) := by kernel_rfl
theorem pef0_s (h0 : ((n : Nat) : Int) = (0 : Int)) : SndF Tryz.prog 24 (peArgs n c g e opn sz ro) (zb4 n c g e opn sz ro) (.int .i64 (12 : Int)) (zb4 n c g e opn sz ro) 64 0 :=
  kF (L := peS n c g e opn sz ro) (L2 := []) (ms := []) peK_ok (pef0_eq n c g e opn sz ro) kq
abbrev zb11 := True ∧ (((((n : Nat)) : Int) == (0 : Int)) = false)
abbrev zb12 := decide ((((n : Nat)) : Int) > (5 : Int))
theorem pef1_eq : seenF' Tryz.prog Tryz.f24 6 1 [] (pef1 n c g e opn sz ro) = some (.int .i64 (5 : Int), peS n c g e opn sz ro ++ [], ⟨[], (((zb11 n) ∧ ((zb12 n) = true)) ∧ (((5 : Int) != (0 : Int)) = true))⟩) := by kernel_rfl
theorem pef1_s (h0 : ((n : Nat) : Int) ≠ (0 : Int)) (h1 : (5 : Int) < ((n : Nat) : Int)) : SndF Tryz.prog 24 (peArgs n c g e opn sz ro) (zb4 n c g e opn sz ro) (.int .i64 (5 : Int)) (zb4 n c g e opn sz ro) 64 0 :=
  kF (L := peS n c g e opn sz ro) (L2 := []) (ms := []) peK_ok (pef1_eq n c g e opn sz ro) kq
abbrev zb13 := (zb11 n) ∧ ((zb12 n) = false)
abbrev zb14 := HAppend.hAppend (List.replicate (6 : Nat) MObj.hole) (peL n c g e opn sz ro (0 : Nat))
abbrev zb15 := ((peA n c g e opn sz ro (0 : Nat)) = (peA n c g e opn sz ro (0 : Nat))) ∧ ((7 = (6 + 1)) ∧ ((zb14 n c g e opn sz ro) = (zb14 n c g e opn sz ro)))
theorem pef4_eq : seenF' Tryz.prog Tryz.f24 6 1 [] (pef4 n c g e opn sz ro jj) = some (.int .i64 (zb9 g jj), peS n c g e opn sz ro ++ [], ⟨[], (((zb13 n) ∧ ((zb15 n c g e opn sz ro) ∧ SndC Tryz.prog none (.loop peX) (peA n c g e opn sz ro 0).act (zb10 n c g e opn sz ro) .ret (per1E n c g e opn sz ro jj).act (zb10 n c g e opn sz ro) 64 0)) ∧ (((Pl.cr (g jj 0) (- (100 : Int)) (100 : Int)) != (0 : Int)) = true))⟩) := by kernel_rfl
theorem pef4_s (h0 : ((n : Nat) : Int) ≠ (0 : Int)) (h1 : ¬ (5 : Int) < ((n : Nat) : Int)) (h2 : (zb9 g jj) ≠ (0 : Int)) (l0 : SndC Tryz.prog none (.loop peX) (peA n c g e opn sz ro 0).act (zb10 n c g e opn sz ro) .ret (per1E n c g e opn sz ro jj).act (zb10 n c g e opn sz ro) 64 0) : SndF Tryz.prog 24 (peArgs n c g e opn sz ro) (zb4 n c g e opn sz ro) (.int .i64 (zb9 g jj)) (zb4 n c g e opn sz ro) 64 0 :=
  kF (L := peS n c g e opn sz ro) (L2 := []) (ms := []) peK_ok (pef4_eq n c g e opn sz ro jj) kq
noncomputable abbrev zb16 := ((((zb13 n) ∧ ((zb15 n c g e opn sz ro) ∧ SndC Tryz.prog none (.loop peX) (peA n c g e opn sz ro 0).act (zb10 n c g e opn sz ro) (.exit 0) (per2E n c g e opn sz ro n).act (zb10 n c g e opn sz ro) 64 0)) ∧ (((0 : Int) != (0 : Int)) = false)) ∧ (((IntKind.i64.wrap ((((n : Nat)) : Int) - (1 : Int))) = (Int.ofNat (n - 1))) ∧ ((n - 1) < n))) ∧ (((0 + ((n - 1) * 1)) = (((n - 1) * 1) + 0)) ∧ ((n - 1) < n))
theorem pef5_eq : seenF' Tryz.prog Tryz.f24 6 1 [] (pef5 n c g e opn sz ro) = some (.int .i64 (6 : Int), peS n c g e opn sz ro ++ [], ⟨[], ((zb16 n c g e opn sz ro) ∧ (((g (n - 1) 0) == (0 : Int)) = true))⟩) := by kernel_rfl
theorem pef5_s (h0 : ((n : Nat) : Int) ≠ (0 : Int)) (h1 : ¬ (5 : Int) < ((n : Nat) : Int)) (h2 : (g (n - 1) 0) = (0 : Int)) (l0 : SndC Tryz.prog none (.loop peX) (peA n c g e opn sz ro 0).act (zb10 n c g e opn sz ro) (.exit 0) (per2E n c g e opn sz ro n).act (zb10 n c g e opn sz ro) 64 0) : SndF Tryz.prog 24 (peArgs n c g e opn sz ro) (zb4 n c g e opn sz ro) (.int .i64 (6 : Int)) (zb4 n c g e opn sz ro) 64 0 :=
  kF (L := peS n c g e opn sz ro) (L2 := []) (ms := []) peK_ok (pef5_eq n c g e opn sz ro) kq
theorem pef6_eq : seenF' Tryz.prog Tryz.f24 6 1 [] (pef6 n c g e opn sz ro) = some (.int .i64 (0 : Int), peS n c g e opn sz ro ++ [], ⟨[], ((zb16 n c g e opn sz ro) ∧ (((g (n - 1) 0) == (0 : Int)) = false))⟩) := by kernel_rfl
theorem pef6_s (h0 : ((n : Nat) : Int) ≠ (0 : Int)) (h1 : ¬ (5 : Int) < ((n : Nat) : Int)) (h2 : (g (n - 1) 0) ≠ (0 : Int)) (l0 : SndC Tryz.prog none (.loop peX) (peA n c g e opn sz ro 0).act (zb10 n c g e opn sz ro) (.exit 0) (per2E n c g e opn sz ro n).act (zb10 n c g e opn sz ro) 64 0) : SndF Tryz.prog 24 (peArgs n c g e opn sz ro) (zb4 n c g e opn sz ro) (.int .i64 (0 : Int)) (zb4 n c g e opn sz ro) 64 0 :=
  kF (L := peS n c g e opn sz ro) (L2 := []) (ms := []) peK_ok (pef6_eq n c g e opn sz ro) kq
def cpV : Int := if n = 0 then 12 else if 5 < n then 5 else th2 (feN (fun i => Pl.cr (g i 0) (-100) 100) n 0) (if g (n - 1) 0 = 0 then 6 else 0)
theorem cpo_sndF (hn : (n : Int) ≤ 9223372036854775807) : SndF Tryz.prog 24 (peArgs n c g e opn sz ro) (wS 6 (peS n c g e opn sz ro)) (.int .i64 (cpV n g)) (wS 6 (peS n c g e opn sz ro)) 64 0 := by
  unfold cpV
  by_cases h0 : n = 0
  · rw [if_pos h0]; exact pef0_s n c g e opn sz ro (by omega)
  · rw [if_neg h0]
    by_cases h1 : 5 < n
    · rw [if_pos h1]; exact pef1_s n c g e opn sz ro (by omega) (by omega)
    · rw [if_neg h1]
      rcases first_or (p := fun i => Pl.cr (g i 0) (-100) 100 ≠ 0) (fun _ => inferInstance) n with h2 | ⟨j, hj, h2, h3⟩
      · have h4 : ∀ i, i < n → Pl.cr (g i 0) (-100) 100 = 0 := fun i hi => Decidable.not_not.1 (h2 i hi)
        rw [feN_all fun k _ hk => h4 k (by omega)]
        by_cases h5 : g (n - 1) 0 = 0
        · rw [if_pos h5]; exact pef5_s n c g e opn sz ro (by omega) (by omega) h5 (pe_all_s n c g e opn sz ro ⟨by omega, hn⟩ h4)
        · rw [if_neg h5]; exact pef6_s n c g e opn sz ro (by omega) (by omega) h5 (pe_all_s n c g e opn sz ro ⟨by omega, hn⟩ h4)
      · have h4 : ∀ i, i < j → Pl.cr (g i 0) (-100) 100 = 0 := fun i hi => Decidable.not_not.1 (h3 i hi)
        rw [feN_first (Nat.zero_le j) (by omega) (fun k _ hk => h4 k hk) h2, show th2 (Pl.cr (g j 0) (-100) 100) (if g (n - 1) 0 = 0 then 6 else 0) = Pl.cr (g j 0) (-100) 100 from if_neg h2]
        exact pef4_s n c g e opn sz ro j (by omega) (by omega) h2 (pe_ret_s n c g e opn sz ro j ⟨by omega, hn⟩ hj h4 h2)
def kCP : CallS := fun f xs s q => match decide (f = 24) with
  | true => match xs.toList with
    | [.slice (some ⟨b, 0, none⟩) n c] => match Nat.ble 6 b, rowK 1 .i64 s b n with
      | true, some (g, _, _, _, _, p) => some (.int .i64 (cpV n g), s, 2 ^ b, 0, ⟨q.rest, q.ob ∧ (p ∧ ((n : Int) ≤ 9223372036854775807))⟩)
      | _, _ => none
    | _ => none
  | false => none
theorem kCP_ok : FOkS Tryz.prog kCP := fun f xs s q u s1 R W q1 he => by
  unfold kCP at he
  split at he
  · rename_i hf
    have hf := of_decide_eq_true hf
    subst hf
    split at he
    · rename_i b n c hx0
      split at he
      · rename_i g e opn sz ro p hb hr
        have hb := Nat.le_of_ble_eq_true hb
        have hxs : xs = #[.slice (some ⟨b, 0, none⟩) n c] := by apply Array.ext'; exact hx0
        subst hxs
        cases he
        refine ⟨fun hq => hq.1, fun hq => ?_⟩
        obtain ⟨hp, hx⟩ := hq.2
        obtain ⟨l1, w1⟩ := rowK_wo hr hp
        exact SndF.row (N := 6) sng (cpo_sndF n c g e opn sz ro hx) rfl hb l1 w1 (fun f _ hf => wvs_one (slice_wv hf))
      · cases he
    · cases he
  · cases he
end
end Go.Proofs.YtbkpnhbcihcgaaaGreatDoor
end
section
set_option linter.all false
set_option maxRecDepth 1000000
open Go.RowKit
namespace Go.Proofs.YtbkpnhbcihcgaaaGreatDoor
open Mini
noncomputable section
variable (n : Nat) (c : Nat) (g : GI) (e : TypeId) (opn : Bool) (sz : Nat) (ro : Bool) (i7 : Nat) (jj : Nat)
noncomputable def pnX : Code := loopAt Tryz.prog 78 0
noncomputable def pnK : CallS := kAll [c_range, c_rrange, c_index]
def pnA (g : GI) (e : TypeId) (opn : Bool) (sz : Nat) (ro : Bool) (i7 : Nat) : MA := MA.ofL 25 (jl [.slice (some ⟨6, 0, none⟩) n c, .int .i64 (-100 : Int), .int .i64 (100 : Int)] 4 (jl [.int .i64 ((i7 : Nat) : Int)] 17 [])) []
abbrev zc0 : List MObj := [.rows n 1 (fun i j => .int .i64 (g i j)) e opn sz ro]
def pnL (c : Nat) (g : GI) (e : TypeId) (opn : Bool) (sz : Nat) (ro : Bool) (i7 : Nat) : List MObj := (zc0 n g e opn sz ro)
noncomputable def pnr0 : Option OutCS := evK Tryz.prog pnK 1000 false pnX (pnA n c g e opn sz ro i7) (wS 6 (pnL n c g e opn sz ro i7)) ⟨[1, .row i7 0, .row i7 0, 0, .azz (.int .i64 ((i7 + 1 : Nat) : Int))], True⟩
noncomputable def pnr1 : Option OutCS := evK Tryz.prog pnK 1000 false pnX (pnA n c g e opn sz ro i7) (wS 6 (pnL n c g e opn sz ro i7)) ⟨[1, .row i7 0, .row i7 0, 1], True⟩
abbrev zc1 := Pl.cr (g i7 0) (-100 : Int) (100 : Int)
def pnr1E (n : Nat) (c : Nat) (g : GI) (e : TypeId) (opn : Bool) (sz : Nat) (ro : Bool) (i7 : Nat) : MA := MA.ofL 25 (jl [] 6 (jl [.int .i64 (zc1 g i7)] 18 [])) []
noncomputable def pnr2 : Option OutCS := evK Tryz.prog pnK 1000 false pnX (pnA n c g e opn sz ro i7) (wS 6 (pnL n c g e opn sz ro i7)) ⟨[0], True⟩
def pnr2E (n : Nat) (c : Nat) (g : GI) (e : TypeId) (opn : Bool) (sz : Nat) (ro : Bool) (i7 : Nat) : MA := MA.ofL 25 (jl [] 25 []) []
def pnArgs (g : GI) (e : TypeId) (opn : Bool) (sz : Nat) (ro : Bool) : Array Value := #[.slice (some ⟨6, 0, none⟩) n c]
def pnS (c : Nat) (g : GI) (e : TypeId) (opn : Bool) (sz : Nat) (ro : Bool) : List MObj := (zc0 n g e opn sz ro)
noncomputable abbrev zc2 := bodyOf Tryz.prog 18
noncomputable abbrev zc3 := startM Tryz.f18 (pnArgs n c g e opn sz ro)
abbrev zc4 := wS 6 (pnS n c g e opn sz ro)
noncomputable def pnf0 : Option OutCS := evK Tryz.prog pnK 1000 false zc2 (zc3 n c g e opn sz ro) (zc4 n c g e opn sz ro) ⟨[1], True⟩
noncomputable def pnf1 : Option OutCS := evK Tryz.prog pnK 1000 false zc2 (zc3 n c g e opn sz ro) (zc4 n c g e opn sz ro) ⟨[0, 1], True⟩
noncomputable def pnf4 : Option OutCS := evK Tryz.prog pnK 1000 false zc2 (zc3 n c g e opn sz ro) (zc4 n c g e opn sz ro) ⟨[0, 0, .lp 135 (pnA n c g e opn sz ro 0) 6 (pnL n c g e opn sz ro 0) .ret (pnr1E n c g e opn sz ro jj) (pnL n c g e opn sz ro 0) 64 0, 1], True⟩
noncomputable def pnf5 : Option OutCS := evK Tryz.prog pnK 1000 false zc2 (zc3 n c g e opn sz ro) (zc4 n c g e opn sz ro) ⟨[0, 0, .lp 135 (pnA n c g e opn sz ro 0) 6 (pnL n c g e opn sz ro 0) (.exit 0) (pnr2E n c g e opn sz ro n) (pnL n c g e opn sz ro 0) 64 0, 0, .azz (.int .i64 ((n : Nat) : Int)), .azz (.int .i64 (((n - 1) : Nat) : Int)), .row (n - 1) 0, .row (n - 1) 0, 1], True⟩
noncomputable def pnf6 : Option OutCS := evK Tryz.prog pnK 1000 false zc2 (zc3 n c g e opn sz ro) (zc4 n c g e opn sz ro) ⟨[0, 0, .lp 135 (pnA n c g e opn sz ro 0) 6 (pnL n c g e opn sz ro 0) (.exit 0) (pnr2E n c g e opn sz ro n) (pnL n c g e opn sz ro 0) 64 0, 0, .azz (.int .i64 ((n : Nat) : Int)), .azz (.int .i64 (((n - 1) : Nat) : Int)), .row (n - 1) 0, .row (n - 1) 0, 0], True⟩
theorem pnK_ok : FOkS Tryz.prog pnK := kAll_ok _ ⟨k_range, k_rrange, k_index, trivial⟩
abbrev zc5 := decide ((((i7 : Nat)) : Int) < (((n : Nat)) : Int))
abbrev zc6 := (((True ∧ ((zc5 n i7) = true)) ∧ (((((i7 : Nat)) : Int) = (Int.ofNat i7)) ∧ (i7 < n))) ∧ (((0 + (i7 * 1)) = ((i7 * 1) + 0)) ∧ (i7 < n))) ∧ True
abbrev zc7 := (Pl.cr (g i7 0) (- (100 : Int)) (100 : Int)) != (0 : Int)
theorem pnr0_eq : seenK 6 1 [] 135 0 (pnr0 n c g e opn sz ro i7) = some (.normal, pnA n c g e opn sz ro (i7 + 1), (zc0 n g e opn sz ro), 0, ⟨[], (((zc6 n i7) ∧ ((zc7 g i7) = false)) ∧ (((.int .i64 (IntKind.i64.wrap ((((i7 : Nat)) : Int) + (1 : Int)))) : Value) = (.int .i64 ((((i7 + 1) : Nat)) : Int))))⟩) := by kernel_rfl
theorem pnr0_k (hx : 0 < n ∧ (n : Int) ≤ 9223372036854775807) (h0 : ((i7 : Nat) : Int) < ((n : Nat) : Int)) (h1 : (zc1 g i7) = (0 : Int)) : KC Tryz.prog none pnX (pnA n c g e opn sz ro i7).act (wS 6 (pnL n c g e opn sz ro i7)) .normal (pnA n c g e opn sz ro (i7 + 1)).act (wS 6 (pnL n c g e opn sz ro (i7 + 1))) 7 0 :=
  seenK_ok smx pnK_ok sng (pnr0_eq n c g e opn sz ro i7) kq
theorem pnr1_eq : seenK 6 1 [] 64 0 (pnr1 n c g e opn sz ro i7) = some (.ret, pnr1E n c g e opn sz ro i7, (zc0 n g e opn sz ro), 0, ⟨[], ((zc6 n i7) ∧ ((zc7 g i7) = true))⟩) := by kernel_rfl
abbrev zc8 := wS 6 (zc0 n g e opn sz ro)
theorem pnr1_k (hx : 0 < n ∧ (n : Int) ≤ 9223372036854775807) (h0 : ((i7 : Nat) : Int) < ((n : Nat) : Int)) (h1 : (zc1 g i7) ≠ (0 : Int)) : KC Tryz.prog none pnX (pnA n c g e opn sz ro i7).act (wS 6 (pnL n c g e opn sz ro i7)) .ret (pnr1E n c g e opn sz ro i7).act (zc8 n g e opn sz ro) 7 0 :=
  seenK_ok smx pnK_ok sng (pnr1_eq n c g e opn sz ro i7) kq
theorem pnr2_eq : seenK 6 1 [] 0 0 (pnr2 n c g e opn sz ro i7) = some ((.exit 0), pnr2E n c g e opn sz ro i7, (zc0 n g e opn sz ro), 0, ⟨[], (True ∧ ((zc5 n i7) = false))⟩) := by kernel_rfl
theorem pnr2_k (hx : 0 < n ∧ (n : Int) ≤ 9223372036854775807) (h0 : ¬ ((i7 : Nat) : Int) < ((n : Nat) : Int)) : KC Tryz.prog none pnX (pnA n c g e opn sz ro i7).act (wS 6 (pnL n c g e opn sz ro i7)) (.exit 0) (pnr2E n c g e opn sz ro i7).act (zc8 n g e opn sz ro) 7 0 :=
  seenK_ok smx pnK_ok sng (pnr2_eq n c g e opn sz ro i7) kq
abbrev zc9 := Pl.cr (g jj 0) (-100 : Int) (100 : Int)
abbrev zc10 := wS 6 (pnL n c g e opn sz ro 0)
theorem pn_ret (hx : 0 < n ∧ (n : Int) ≤ 9223372036854775807) (hj : jj < n) (h1 : ∀ i, i < jj → (Pl.cr (g i 0) (-100 : Int) (100 : Int)) = 0) (h2 : (zc9 g jj) ≠ 0) : KC Tryz.prog none (.loop pnX) (pnA n c g e opn sz ro 0).act (zc10 n c g e opn sz ro) .ret (pnr1E n c g e opn sz ro jj).act (zc8 n g e opn sz ro) 7 0 := by
  exact K_rounds (A := fun i => (pnA n c g e opn sz ro i).act) (S := fun i => wS 6 (pnL n c g e opn sz ro i)) (jj) (fun i hi => pnr0_k n c g e opn sz ro i hx (by omega) (h1 i hi)) (pnr1_k n c g e opn sz ro jj hx (by omega) h2) (by simp)
theorem pn_ret_s (hx : 0 < n ∧ (n : Int) ≤ 9223372036854775807) (hj : jj < n) (h1 : ∀ i, i < jj → (Pl.cr (g i 0) (-100 : Int) (100 : Int)) = 0) (h2 : (zc9 g jj) ≠ 0) : SndC Tryz.prog none (.loop pnX) (pnA n c g e opn sz ro 0).act (zc10 n c g e opn sz ro) .ret (pnr1E n c g e opn sz ro jj).act (zc10 n c g e opn sz ro) 64 0 :=
  KT.snd (a := pnA n c g e opn sz ro 0) (a2 := pnr1E n c g e opn sz ro jj) (L := pnL n c g e opn sz ro 0) (pn_ret n c g e opn sz ro jj hx hj h1 h2) sng (Nat.le_refl _) (fun b _ => by simp) rfl rfl (by kernel_rfl) (by kernel_rfl) (fun o ho => by
    simp only [pnL, List.mem_cons, List.not_mem_nil, or_false] at ho
    rcases ho with rfl
    all_goals first | rfl | exact fun i j => rfl)
theorem pn_all  (hx : 0 < n ∧ (n : Int) ≤ 9223372036854775807) (h1 : ∀ i, i < n → (Pl.cr (g i 0) (-100 : Int) (100 : Int)) = 0) : KC Tryz.prog none (.loop pnX) (pnA n c g e opn sz ro 0).act (zc10 n c g e opn sz ro) (.exit 0) (pnr2E n c g e opn sz ro n).act (zc8 n g e opn sz ro) 7 0 := by
  exact K_rounds (A := fun i => (pnA n c g e opn sz ro i).act) (S := fun i => wS 6 (pnL n c g e opn sz ro i)) (n) (fun i hi => pnr0_k n c g e opn sz ro i hx (by omega) (h1 i hi)) (pnr2_k n c g e opn sz ro n hx (by omega)) (by simp)
theorem pn_all_s  (hx : 0 < n ∧ (n : Int) ≤ 9223372036854775807) (h1 : ∀ i, i < n → (Pl.cr (g i 0) (-100 : Int) (100 : Int)) = 0) : SndC Tryz.prog none (.loop pnX) (pnA n c g e opn sz ro 0).act (zc10 n c g e opn sz ro) (.exit 0) (pnr2E n c g e opn sz ro n).act (zc10 n c g e opn sz ro) 64 0 :=
  KT.snd (a := pnA n c g e opn sz ro 0) (a2 := pnr2E n c g e opn sz ro n) (L := pnL n c g e opn sz ro 0) (pn_all n c g e opn sz ro hx h1) sng (Nat.le_refl _) (fun b _ => by simp) rfl rfl (by kernel_rfl) (by kernel_rfl) (fun o ho => by
    simp only [pnL, List.mem_cons, List.not_mem_nil, or_false] at ho
    rcases ho with rfl
    all_goals first | rfl | exact fun i j => rfl)
theorem pnf0_eq : seenF' Tryz.prog Tryz.f18 6 1 [] (pnf0 n c g e opn sz ro) = some (.int .i64 (12 : Int), pnS n c g e opn sz ro ++ [], ⟨[], (True ∧ (((((n : Nat)) : Int) == (0 : Int)) = true))⟩) := by kernel_rfl
theorem pnf0_s (h0 : ((n : Nat) : Int) = (0 : Int)) : SndF Tryz.prog 18 (pnArgs n c g e opn sz ro) (zc4 n c g e opn sz ro) (.int .i64 (12 : Int)) (zc4 n c g e opn sz ro) 64 0 :=
  kF (L := pnS n c g e opn sz ro) (L2 := []) (ms := []) pnK_ok (pnf0_eq n c g e opn sz ro) kq
abbrev zc11 := True ∧ (((((n : Nat)) : Int) == (0 : Int)) = false)
abbrev zc12 := decide ((((n : Nat)) : Int) > (5 : Int))
theorem pnf1_eq : seenF' Tryz.prog Tryz.f18 6 1 [] (pnf1 n c g e opn sz ro) = some (.int .i64 (5 : Int), pnS n c g e opn sz ro ++ [], ⟨[], ((zc11 n) ∧ ((zc12 n) = true))⟩) := by kernel_rfl
theorem pnf1_s (h0 : ((n : Nat) : Int) ≠ (0 : Int)) (h1 : (5 : Int) < ((n : Nat) : Int)) : SndF Tryz.prog 18 (pnArgs n c g e opn sz ro) (zc4 n c g e opn sz ro) (.int .i64 (5 : Int)) (zc4 n c g e opn sz ro) 64 0 :=
  kF (L := pnS n c g e opn sz ro) (L2 := []) (ms := []) pnK_ok (pnf1_eq n c g e opn sz ro) kq
abbrev zc13 := (zc11 n) ∧ ((zc12 n) = false)
abbrev zc14 := HAppend.hAppend (List.replicate (6 : Nat) MObj.hole) (pnL n c g e opn sz ro (0 : Nat))
abbrev zc15 := ((pnA n c g e opn sz ro (0 : Nat)) = (pnA n c g e opn sz ro (0 : Nat))) ∧ ((7 = (6 + 1)) ∧ ((zc14 n c g e opn sz ro) = (zc14 n c g e opn sz ro)))
theorem pnf4_eq : seenF' Tryz.prog Tryz.f18 6 1 [] (pnf4 n c g e opn sz ro jj) = some (.int .i64 (zc9 g jj), pnS n c g e opn sz ro ++ [], ⟨[], (((zc13 n) ∧ ((zc15 n c g e opn sz ro) ∧ SndC Tryz.prog none (.loop pnX) (pnA n c g e opn sz ro 0).act (zc10 n c g e opn sz ro) .ret (pnr1E n c g e opn sz ro jj).act (zc10 n c g e opn sz ro) 64 0)) ∧ (((Pl.cr (g jj 0) (- (100 : Int)) (100 : Int)) != (0 : Int)) = true))⟩) := by kernel_rfl
theorem pnf4_s (h0 : ((n : Nat) : Int) ≠ (0 : Int)) (h1 : ¬ (5 : Int) < ((n : Nat) : Int)) (h2 : (zc9 g jj) ≠ (0 : Int)) (l0 : SndC Tryz.prog none (.loop pnX) (pnA n c g e opn sz ro 0).act (zc10 n c g e opn sz ro) .ret (pnr1E n c g e opn sz ro jj).act (zc10 n c g e opn sz ro) 64 0) : SndF Tryz.prog 18 (pnArgs n c g e opn sz ro) (zc4 n c g e opn sz ro) (.int .i64 (zc9 g jj)) (zc4 n c g e opn sz ro) 64 0 :=
  kF (L := pnS n c g e opn sz ro) (L2 := []) (ms := []) pnK_ok (pnf4_eq n c g e opn sz ro jj) kq
noncomputable abbrev zc16 := ((((((zc13 n) ∧ ((zc15 n c g e opn sz ro) ∧ SndC Tryz.prog none (.loop pnX) (pnA n c g e opn sz ro 0).act (zc10 n c g e opn sz ro) (.exit 0) (pnr2E n c g e opn sz ro n).act (zc10 n c g e opn sz ro) 64 0)) ∧ (((0 : Int) != (0 : Int)) = false)) ∧ (((.int .i64 (((n : Nat)) : Int)) : Value) = (.int .i64 (((n : Nat)) : Int)))) ∧ (((.int .i64 (IntKind.i64.wrap ((((n : Nat)) : Int) - (1 : Int)))) : Value) = (.int .i64 ((((n - 1) : Nat)) : Int)))) ∧ ((((((n - 1) : Nat)) : Int) = (Int.ofNat (n - 1))) ∧ ((n - 1) < n))) ∧ (((0 + ((n - 1) * 1)) = (((n - 1) * 1) + 0)) ∧ ((n - 1) < n))
theorem pnf5_eq : seenF' Tryz.prog Tryz.f18 6 1 [] (pnf5 n c g e opn sz ro) = some (.int .i64 (6 : Int), pnS n c g e opn sz ro ++ [], ⟨[], ((zc16 n c g e opn sz ro) ∧ (((g (n - 1) 0) == (0 : Int)) = true))⟩) := by kernel_rfl
theorem pnf5_s (h0 : ((n : Nat) : Int) ≠ (0 : Int)) (h1 : ¬ (5 : Int) < ((n : Nat) : Int)) (h2 : (g (n - 1) 0) = (0 : Int)) (l0 : SndC Tryz.prog none (.loop pnX) (pnA n c g e opn sz ro 0).act (zc10 n c g e opn sz ro) (.exit 0) (pnr2E n c g e opn sz ro n).act (zc10 n c g e opn sz ro) 64 0) : SndF Tryz.prog 18 (pnArgs n c g e opn sz ro) (zc4 n c g e opn sz ro) (.int .i64 (6 : Int)) (zc4 n c g e opn sz ro) 64 0 :=
  kF (L := pnS n c g e opn sz ro) (L2 := []) (ms := []) pnK_ok (pnf5_eq n c g e opn sz ro) kq
theorem pnf6_eq : seenF' Tryz.prog Tryz.f18 6 1 [] (pnf6 n c g e opn sz ro) = some (.int .i64 (0 : Int), pnS n c g e opn sz ro ++ [], ⟨[], ((zc16 n c g e opn sz ro) ∧ (((g (n - 1) 0) == (0 : Int)) = false))⟩) := by kernel_rfl
theorem pnf6_s (h0 : ((n : Nat) : Int) ≠ (0 : Int)) (h1 : ¬ (5 : Int) < ((n : Nat) : Int)) (h2 : (g (n - 1) 0) ≠ (0 : Int)) (l0 : SndC Tryz.prog none (.loop pnX) (pnA n c g e opn sz ro 0).act (zc10 n c g e opn sz ro) (.exit 0) (pnr2E n c g e opn sz ro n).act (zc10 n c g e opn sz ro) 64 0) : SndF Tryz.prog 18 (pnArgs n c g e opn sz ro) (zc4 n c g e opn sz ro) (.int .i64 (0 : Int)) (zc4 n c g e opn sz ro) 64 0 :=
  kF (L := pnS n c g e opn sz ro) (L2 := []) (ms := []) pnK_ok (pnf6_eq n c g e opn sz ro) kq
theorem rcpo_sndF (hn : (n : Int) ≤ 9223372036854775807) : SndF Tryz.prog 18 (pnArgs n c g e opn sz ro) (wS 6 (pnS n c g e opn sz ro)) (.int .i64 (cpV n g)) (wS 6 (pnS n c g e opn sz ro)) 64 0 := by
  unfold cpV
  by_cases h0 : n = 0
  · rw [if_pos h0]; exact pnf0_s n c g e opn sz ro (by omega)
  · rw [if_neg h0]
    by_cases h1 : 5 < n
    · rw [if_pos h1]; exact pnf1_s n c g e opn sz ro (by omega) (by omega)
    · rw [if_neg h1]
      rcases first_or (p := fun i => Pl.cr (g i 0) (-100) 100 ≠ 0) (fun _ => inferInstance) n with h2 | ⟨j, hj, h2, h3⟩
      · have h4 : ∀ i, i < n → Pl.cr (g i 0) (-100) 100 = 0 := fun i hi => Decidable.not_not.1 (h2 i hi)
        rw [feN_all fun k _ hk => h4 k (by omega)]
        by_cases h5 : g (n - 1) 0 = 0
        · rw [if_pos h5]; exact pnf5_s n c g e opn sz ro (by omega) (by omega) h5 (pn_all_s n c g e opn sz ro ⟨by omega, hn⟩ h4)
        · rw [if_neg h5]; exact pnf6_s n c g e opn sz ro (by omega) (by omega) h5 (pn_all_s n c g e opn sz ro ⟨by omega, hn⟩ h4)
      · have h4 : ∀ i, i < j → Pl.cr (g i 0) (-100) 100 = 0 := fun i hi => Decidable.not_not.1 (h3 i hi)
        rw [feN_first (Nat.zero_le j) (by omega) (fun k _ hk => h4 k hk) h2, show th2 (Pl.cr (g j 0) (-100) 100) (if g (n - 1) 0 = 0 then 6 else 0) = Pl.cr (g j 0) (-100) 100 from if_neg h2]
        exact pnf4_s n c g e opn sz ro j (by omega) (by omega) h2 (pn_ret_s n c g e opn sz ro j ⟨by omega, hn⟩ hj h4 h2)
def kRCP : CallS := fun f xs s q => match decide (f = 18) with
  | true => match xs.toList with
    | [.slice (some ⟨b, 0, none⟩) n c] => match Nat.ble 6 b, rowK 1 .i64 s b n with
      | true, some (g, _, _, _, _, p) => some (.int .i64 (cpV n g), s, 2 ^ b, 0, ⟨q.rest, q.ob ∧ (p ∧ ((n : Int) ≤ 9223372036854775807))⟩)
      | _, _ => none
    | _ => none
  | false => none
theorem kRCP_ok : FOkS Tryz.prog kRCP := fun f xs s q u s1 R W q1 he => by
  unfold kRCP at he
  split at he
  · rename_i hf
    have hf := of_decide_eq_true hf
    subst hf
    split at he
    · rename_i b n c hx0
      split at he
      · rename_i g e opn sz ro p hb hr
        have hb := Nat.le_of_ble_eq_true hb
        have hxs : xs = #[.slice (some ⟨b, 0, none⟩) n c] := by apply Array.ext'; exact hx0
        subst hxs
        cases he
        refine ⟨fun hq => hq.1, fun hq => ?_⟩
        obtain ⟨hp, hx⟩ := hq.2
        obtain ⟨l1, w1⟩ := rowK_wo hr hp
        exact SndF.row (N := 6) sng (rcpo_sndF n c g e opn sz ro hx) rfl hb l1 w1 (fun f _ hf => wvs_one (slice_wv hf))
      · cases he
    · cases he
  · cases he
end
end Go.Proofs.YtbkpnhbcihcgaaaGreatDoor
end
section
set_option linter.all false
set_option maxRecDepth 1000000
open Go.RowKit
namespace Go.Proofs.YtbkpnhbcihcgaaaGreatDoor
open Mini
noncomputable section
variable (n : Nat) (c : Nat) (g : GI) (e : TypeId) (opn : Bool) (sz : Nat) (ro : Bool) (i10 : Nat) (jj : Nat)
noncomputable def ecX : Code := loopAt Tryz.prog 115 0
noncomputable def ecK : CallS := kAll [c_range, c_rrange, c_index]
def ecA (g : GI) (e : TypeId) (opn : Bool) (sz : Nat) (ro : Bool) (i10 : Nat) : MA := MA.ofL 21 (jl [.chan none, .func (.func 84) #[] #[]] 6 (jl [.slice (some ⟨6, 0, none⟩) n c, .int .i64 ((n : Nat) : Int), .int .i64 ((i10 : Nat) : Int)] 10 [])) []
abbrev sE0 : List MObj := [.rows n 1 (fun i j => .int .i64 (g i j)) e opn sz ro]
def ecL (c : Nat) (g : GI) (e : TypeId) (opn : Bool) (sz : Nat) (ro : Bool) (i10 : Nat) : List MObj := (sE0 n g e opn sz ro)
noncomputable def ecr0 : Option OutCS := evK Tryz.prog ecK 1000 false ecX (ecA n c g e opn sz ro i10) (wS 6 (ecL n c g e opn sz ro i10)) ⟨[1, .row i10 0, .row i10 0, 0, .azz (.int .i64 ((i10 + 1 : Nat) : Int))], True⟩
noncomputable def ecr1 : Option OutCS := evK Tryz.prog ecK 1000 false ecX (ecA n c g e opn sz ro i10) (wS 6 (ecL n c g e opn sz ro i10)) ⟨[1, .row i10 0, .row i10 0, 1], True⟩
abbrev sE1 := Pl.cr (g i10 0) (-100 : Int) (100 : Int)
def ecr1E (n : Nat) (c : Nat) (g : GI) (e : TypeId) (opn : Bool) (sz : Nat) (ro : Bool) (i10 : Nat) : MA := MA.ofL 21 (jl [] 4 (jl [.int .i64 (sE1 g i10)] 16 [])) []
noncomputable def ecr2 : Option OutCS := evK Tryz.prog ecK 1000 false ecX (ecA n c g e opn sz ro i10) (wS 6 (ecL n c g e opn sz ro i10)) ⟨[0], True⟩
def ecr2E (n : Nat) (c : Nat) (g : GI) (e : TypeId) (opn : Bool) (sz : Nat) (ro : Bool) (i10 : Nat) : MA := MA.ofL 21 (jl [] 21 []) []
def ecArgs (g : GI) (e : TypeId) (opn : Bool) (sz : Nat) (ro : Bool) : Array Value := #[.slice (some ⟨6, 0, none⟩) n c, .func (.func 84) #[] #[]]
def ecS (c : Nat) (g : GI) (e : TypeId) (opn : Bool) (sz : Nat) (ro : Bool) : List MObj := (sE0 n g e opn sz ro)
noncomputable abbrev sE2 := bodyOf Tryz.prog 115
noncomputable abbrev sE3 := startM Tryz.f115 (ecArgs n c g e opn sz ro)
noncomputable def ecf0 : Option OutCS := evK Tryz.prog ecK 1000 false sE2 (sE3 n c g e opn sz ro) (wS 6 (ecS n c g e opn sz ro)) ⟨[.lp 1794 (ecA n c g e opn sz ro 0) 6 (ecL n c g e opn sz ro 0) .ret (ecr1E n c g e opn sz ro jj) (sE0 n g e opn sz ro) 7 0], True⟩
noncomputable def ecf1 : Option OutCS := evK Tryz.prog ecK 1000 false sE2 (sE3 n c g e opn sz ro) (wS 6 (ecS n c g e opn sz ro)) ⟨[.lp 1794 (ecA n c g e opn sz ro 0) 6 (ecL n c g e opn sz ro 0) (.exit 0) (ecr2E n c g e opn sz ro n) (sE0 n g e opn sz ro) 7 0], True⟩
theorem ecK_ok : FOkS Tryz.prog ecK := kAll_ok _ ⟨k_range, k_rrange, k_index, trivial⟩
abbrev sE4 := decide ((((i10 : Nat)) : Int) < (((n : Nat)) : Int))
abbrev sE5 := (((True ∧ ((sE4 n i10) = true)) ∧ (((((i10 : Nat)) : Int) = (Int.ofNat i10)) ∧ (i10 < n))) ∧ (((0 + (i10 * 1)) = ((i10 * 1) + 0)) ∧ (i10 < n))) ∧ True
abbrev sE6 := (Pl.cr (g i10 0) (- (100 : Int)) (100 : Int)) != (0 : Int)
theorem ecr0_eq : seenK 6 1 [] 1794 0 (ecr0 n c g e opn sz ro i10) = some (.normal, ecA n c g e opn sz ro (i10 + 1), (sE0 n g e opn sz ro), 0, ⟨[], (((sE5 n i10) ∧ ((sE6 g i10) = false)) ∧ (((.int .i64 (IntKind.i64.wrap ((((i10 : Nat)) : Int) + (1 : Int)))) : Value) = (.int .i64 ((((i10 + 1) : Nat)) : Int))))⟩) := by kernel_rfl
theorem ecr0_k (hx : (n : Int) ≤ 9223372036854775807) (h0 : ((i10 : Nat) : Int) < ((n : Nat) : Int)) (h1 : (sE1 g i10) = (0 : Int)) : KC Tryz.prog none ecX (ecA n c g e opn sz ro i10).act (wS 6 (ecL n c g e opn sz ro i10)) .normal (ecA n c g e opn sz ro (i10 + 1)).act (wS 6 (ecL n c g e opn sz ro (i10 + 1))) 7 0 :=
  seenK_ok smx ecK_ok sng (ecr0_eq n c g e opn sz ro i10) kq
theorem ecr1_eq : seenK 6 1 [] 16 0 (ecr1 n c g e opn sz ro i10) = some (.ret, ecr1E n c g e opn sz ro i10, (sE0 n g e opn sz ro), 0, ⟨[], ((sE5 n i10) ∧ ((sE6 g i10) = true))⟩) := by kernel_rfl
abbrev sE7 := wS 6 (sE0 n g e opn sz ro)
theorem ecr1_k (hx : (n : Int) ≤ 9223372036854775807) (h0 : ((i10 : Nat) : Int) < ((n : Nat) : Int)) (h1 : (sE1 g i10) ≠ (0 : Int)) : KC Tryz.prog none ecX (ecA n c g e opn sz ro i10).act (wS 6 (ecL n c g e opn sz ro i10)) .ret (ecr1E n c g e opn sz ro i10).act (sE7 n g e opn sz ro) 7 0 :=
  seenK_ok smx ecK_ok sng (ecr1_eq n c g e opn sz ro i10) kq
theorem ecr2_eq : seenK 6 1 [] 0 0 (ecr2 n c g e opn sz ro i10) = some ((.exit 0), ecr2E n c g e opn sz ro i10, (sE0 n g e opn sz ro), 0, ⟨[], (True ∧ ((sE4 n i10) = false))⟩) := by kernel_rfl
theorem ecr2_k (hx : (n : Int) ≤ 9223372036854775807) (h0 : ¬ ((i10 : Nat) : Int) < ((n : Nat) : Int)) : KC Tryz.prog none ecX (ecA n c g e opn sz ro i10).act (wS 6 (ecL n c g e opn sz ro i10)) (.exit 0) (ecr2E n c g e opn sz ro i10).act (sE7 n g e opn sz ro) 7 0 :=
  seenK_ok smx ecK_ok sng (ecr2_eq n c g e opn sz ro i10) kq
abbrev sE8 := Pl.cr (g jj 0) (-100 : Int) (100 : Int)
theorem ec_ret (hx : (n : Int) ≤ 9223372036854775807) (hj : jj < n) (h1 : ∀ i, i < jj → (Pl.cr (g i 0) (-100 : Int) (100 : Int)) = 0) (h2 : (sE8 g jj) ≠ 0) : KC Tryz.prog none (.loop ecX) (ecA n c g e opn sz ro 0).act (wS 6 (ecL n c g e opn sz ro 0)) .ret (ecr1E n c g e opn sz ro jj).act (sE7 n g e opn sz ro) 7 0 := by
  exact K_rounds (A := fun i => (ecA n c g e opn sz ro i).act) (S := fun i => wS 6 (ecL n c g e opn sz ro i)) (jj) (fun i hi => ecr0_k n c g e opn sz ro i hx (by omega) (h1 i hi)) (ecr1_k n c g e opn sz ro jj hx (by omega) h2) (by simp)
theorem ec_all  (hx : (n : Int) ≤ 9223372036854775807) (h1 : ∀ i, i < n → (Pl.cr (g i 0) (-100 : Int) (100 : Int)) = 0) : KC Tryz.prog none (.loop ecX) (ecA n c g e opn sz ro 0).act (wS 6 (ecL n c g e opn sz ro 0)) (.exit 0) (ecr2E n c g e opn sz ro n).act (sE7 n g e opn sz ro) 7 0 := by
  exact K_rounds (A := fun i => (ecA n c g e opn sz ro i).act) (S := fun i => wS 6 (ecL n c g e opn sz ro i)) (n) (fun i hi => ecr0_k n c g e opn sz ro i hx (by omega) (h1 i hi)) (ecr2_k n c g e opn sz ro n hx (by omega)) (by simp)
abbrev sE9 := HAppend.hAppend (List.replicate (6 : Nat) MObj.hole) (ecL n c g e opn sz ro (0 : Nat))
abbrev sE10 := ((ecA n c g e opn sz ro (0 : Nat)) = (ecA n c g e opn sz ro (0 : Nat))) ∧ ((7 = (6 + 1)) ∧ ((sE9 n c g e opn sz ro) = (sE9 n c g e opn sz ro)))
theorem ecf0_eq : seenF' Tryz.prog Tryz.f115 6 1 [] (ecf0 n c g e opn sz ro jj) = some (.int .i64 (sE8 g jj), ecS n c g e opn sz ro ++ [], ⟨[], (True ∧ ((sE10 n c g e opn sz ro) ∧ KC Tryz.prog none (.loop ecX) (ecA n c g e opn sz ro 0).act (wS 6 (ecL n c g e opn sz ro 0)) .ret (ecr1E n c g e opn sz ro jj).act (sE7 n g e opn sz ro) 7 0))⟩) := by kernel_rfl
theorem ecf0_s (l0 : KC Tryz.prog none (.loop ecX) (ecA n c g e opn sz ro 0).act (wS 6 (ecL n c g e opn sz ro 0)) .ret (ecr1E n c g e opn sz ro jj).act (sE7 n g e opn sz ro) 7 0) : SndF Tryz.prog 115 (ecArgs n c g e opn sz ro) (wS 6 (ecS n c g e opn sz ro)) (.int .i64 (sE8 g jj)) (wS 6 (ecS n c g e opn sz ro)) 64 0 :=
  kF (L := ecS n c g e opn sz ro) (L2 := []) (ms := []) ecK_ok (ecf0_eq n c g e opn sz ro jj) kq
theorem ecf1_eq : seenF' Tryz.prog Tryz.f115 6 1 [] (ecf1 n c g e opn sz ro) = some (.int .i64 (0 : Int), ecS n c g e opn sz ro ++ [], ⟨[], (True ∧ ((sE10 n c g e opn sz ro) ∧ KC Tryz.prog none (.loop ecX) (ecA n c g e opn sz ro 0).act (wS 6 (ecL n c g e opn sz ro 0)) (.exit 0) (ecr2E n c g e opn sz ro n).act (sE7 n g e opn sz ro) 7 0))⟩) := by kernel_rfl
theorem ecf1_s (l0 : KC Tryz.prog none (.loop ecX) (ecA n c g e opn sz ro 0).act (wS 6 (ecL n c g e opn sz ro 0)) (.exit 0) (ecr2E n c g e opn sz ro n).act (sE7 n g e opn sz ro) 7 0) : SndF Tryz.prog 115 (ecArgs n c g e opn sz ro) (wS 6 (ecS n c g e opn sz ro)) (.int .i64 (0 : Int)) (wS 6 (ecS n c g e opn sz ro)) 64 0 :=
  kF (L := ecS n c g e opn sz ro) (L2 := []) (ms := []) ecK_ok (ecf1_eq n c g e opn sz ro) kq
theorem ec_sndF (hn : (n : Int) ≤ 9223372036854775807) : SndF Tryz.prog 115 (ecArgs n c g e opn sz ro) (wS 6 (ecS n c g e opn sz ro)) (.int .i64 (feN (fun i => (Pl.cr (g i 0) (-100 : Int) (100 : Int))) n 0)) (wS 6 (ecS n c g e opn sz ro)) 64 0 := by
  rcases first_or (p := fun i => (Pl.cr (g i 0) (-100 : Int) (100 : Int)) ≠ 0) (fun _ => inferInstance) n with h2 | ⟨j, hj, h2, h3⟩
  · have h4 : ∀ i, i < n → (Pl.cr (g i 0) (-100 : Int) (100 : Int)) = 0 := fun i hi => Decidable.not_not.1 (h2 i hi)
    rw [feN_all fun k _ hk => h4 k (by omega)]
    exact ecf1_s n c g e opn sz ro (ec_all n c g e opn sz ro hn h4)
  · have h4 : ∀ i, i < j → (Pl.cr (g i 0) (-100 : Int) (100 : Int)) = 0 := fun i hi => Decidable.not_not.1 (h3 i hi)
    rw [feN_first (Nat.zero_le j) (by omega) (fun k _ hk => h4 k hk) h2]
    exact ecf0_s n c g e opn sz ro j (ec_ret n c g e opn sz ro j hn hj h4 h2)
def kEC : CallS := fun f xs s q => match decide (f = 115) with
  | true => match xs.toList with
    | [.slice (some ⟨b, 0, none⟩) n c, .func (.func hh) ⟨la⟩ ⟨lb⟩] => match decide (hh = 84), la, lb, Nat.ble 6 b, rowK 1 .i64 s b n with
      | true, [], [], true, some (g, _, _, _, _, p) => some (.int .i64 (feN (fun i => (Pl.cr (g i 0) (-100 : Int) (100 : Int))) n 0), s, 2 ^ b, 0, ⟨q.rest, q.ob ∧ (p ∧ ((n : Int) ≤ 9223372036854775807))⟩)
      | _, _, _, _, _ => none
    | _ => none
  | false => none
theorem kEC_ok : FOkS Tryz.prog kEC := fun f xs s q u s1 R W q1 he => by
  unfold kEC at he
  split at he
  · rename_i hf
    have hf := of_decide_eq_true hf
    subst hf
    split at he
    · rename_i b n c hh la lb hx0
      split at he
      · rename_i g e opn sz ro p hb0 hb hr
        have hb := Nat.le_of_ble_eq_true hb
        have hh0 := of_decide_eq_true hb0
        subst hh0
        have hxs : xs = #[.slice (some ⟨b, 0, none⟩) n c, .func (.func 84) #[] #[]] := by apply Array.ext'; exact hx0
        subst hxs
        cases he
        refine ⟨fun hq => hq.1, fun hq => ?_⟩
        obtain ⟨hp, hx⟩ := hq.2
        obtain ⟨l1, w1⟩ := rowK_wo hr hp
        exact SndF.row (N := 6) sng (ec_sndF n c g e opn sz ro hx) (by kernel_rfl) hb l1 w1 (fun f _ hf => wvs_two (slice_wv hf) (ground_wv (n := 8) rfl))
      · cases he
    · cases he
  · cases he
end
end Go.Proofs.YtbkpnhbcihcgaaaGreatDoor
end
