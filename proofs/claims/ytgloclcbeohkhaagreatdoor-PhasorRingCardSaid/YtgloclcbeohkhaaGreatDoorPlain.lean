/-
  Plain functions on integers that the program's small functions compute: no program is imported here.
-/
namespace Go.Proofs.YtgloclcbeohkhaaGreatDoor
set_option linter.all false
namespace Pl

/-- The error of a number that is not in a range. -/
def cr (n lo hi : Int) : Int := if n < lo ∨ hi < n then 3 else 0
/-- The first error of a list that is not 0. -/
def firstE : List Int → Int
  | [] => 0
  | e :: l => if e = 0 then firstE l else e
/-- The error of a number with a part out of its limits. -/
def parts (a b m : Int) : Int := firstE [cr a (-m) m, cr b (-m) m]
def clamp (x : Int) : Int := min (max x (-1048576)) 1048576
/-- One sixth: the number 1 + w times a + b w. -/
def sixth (p : Int × Int) : Int × Int := (p.1 - p.2, p.1)
def turnN : Nat → Int × Int → Int × Int
  | 0, p => p
  | n + 1, p => sixth (turnN n p)
def turn (p : Int × Int) (n : Int) : Int × Int := turnN (n % 6).toNat p
def inB (m : Int) (p : Int × Int) : Prop := -m ≤ p.1 ∧ p.1 ≤ m ∧ -m ≤ p.2 ∧ p.2 ≤ m
instance (m : Int) (p : Int × Int) : Decidable (inB m p) := by unfold inB; infer_instance
/-- A result, or the error 4. -/
def lim (p : Int × Int) : (Int × Int) × Int := if inB 1048576 p then (p, 0) else ((0, 0), 4)
def add (p q : Int × Int) : Int × Int := (p.1 + q.1, p.2 + q.2)
def mul (p q : Int × Int) : Int × Int := (p.1 * q.1 - p.2 * q.2, p.1 * q.2 + p.2 * q.1 - p.2 * q.2)
def bar (p : Int × Int) : Int × Int := (p.1 - p.2, -p.2)
def norm (p : Int × Int) : Int := p.1 * p.1 - p.1 * p.2 + p.2 * p.2

theorem rest_emod (n m : Int) (hm : 0 < m) : (n.tmod m + m) % m = n % m := by
  rw [Int.add_emod_right, Int.tmod_eq_emod]
  split
  · simp
  · rw [Int.sub_emod]
    have : (m.natAbs : Int) % m = 0 := by rw [Int.natAbs_of_nonneg (by omega)]; simp
    rw [this]; simp
end Pl
end Go.Proofs.YtgloclcbeohkhaaGreatDoor
