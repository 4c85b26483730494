/- What work.single lays into its matrix, in Lean's words. No condition. -/
import Derived.Test.YtaoonfmcimkmhaaLevFw
import Derived.Test.YtaoonfmcimkmhaaLevModel
namespace Go.Proofs.Ytaoonfmcimkmhaa

def B1 (p f : Nat) : Nat → Nat → Int := fun a b => if a < p ∧ b < p ∧ a ≠ b ∧ a < f then 20000000 else if (a < f ∧ b = p) ∨ (a = p ∧ b < f) then 10000000 else 0
def B2 (p f t : Nat) : Nat → Nat → Int := fun a b => if a = f ∧ b < t ∧ a ≠ b then 20000000 else B1 p f a b
theorem B1_zero (p : Nat) : B1 p 0 = fun _ _ => 0 := by
  funext a b
  unfold B1
  repeat' split
  all_goals first | rfl | omega
theorem B2_zero (p f : Nat) : B2 p f 0 = B1 p f := by
  funext a b
  unfold B2
  rw [if_neg (by omega)]
theorem B2_ne {p f t : Nat} (h : f ≠ t) : upd (B2 p f t) f t 20000000 = B2 p f (t + 1) := by
  funext a b
  unfold upd B2
  repeat' split
  all_goals first | rfl | omega
theorem B2_eq {p f : Nat} : B2 p f f = B2 p f (f + 1) := by
  funext a b
  unfold B2
  repeat' split
  all_goals first | rfl | omega
theorem B2_end {p f : Nat} (h : f < p) : upd (upd (B2 p f p) f p 10000000) p f 10000000 = B1 p (f + 1) := by
  funext a b
  unfold upd B2 B1
  repeat' split
  all_goals first | rfl | omega

/-- One reading more: its bound is laid into the matrix, unless it is left out. -/
def addRd (out : Nat → Bool) (wider : Int) (D : Nat → Nat → Int) (x : Nat × Sh) : Nat → Nat → Int :=
  if out x.1 then D else
    upd (upd D x.2.f.toNat x.2.t.toNat (min (D x.2.f.toNat x.2.t.toNat) (x.2.hi + wider))) x.2.t.toNat x.2.f.toNat
      (min (upd D x.2.f.toNat x.2.t.toNat (min (D x.2.f.toNat x.2.t.toNat) (x.2.hi + wider)) x.2.t.toNat x.2.f.toNat) (wider - x.2.lo))

/-- The reading with the number k, as a bound: from, to, and the span. -/
def rdAt (s : Sv) (k : Nat) : Nat × Sh :=
  (k, if h : k < s.shots.length then s.shots[k] else if h2 : k - s.shots.length < s.marks.length then ⟨s.n, (s.marks[k - s.shots.length]).p, (s.marks[k - s.shots.length]).lo, (s.marks[k - s.shots.length]).hi⟩ else ⟨0, 0, 0, 0⟩)
def upto {α : Type} (f : Nat → α) (k : Nat) : List α := (List.range k).map f
theorem upto_succ {α : Type} (f : Nat → α) (k : Nat) : upto f (k + 1) = upto f k ++ [f k] := by simp [upto, List.range_succ]
theorem upto_length {α : Type} (f : Nat → α) (k : Nat) : (upto f k).length = k := by simp [upto]

/-- A reading whose numbers are small, between points of the survey or the ground. -/
def rokB (p : Nat) (x : Nat × Sh) : Bool := decide (x.1 < 80 ∧ 0 ≤ x.2.f ∧ x.2.f ≤ p ∧ 0 ≤ x.2.t ∧ x.2.t ≤ p ∧ -20000000 ≤ x.2.lo ∧ x.2.lo ≤ 20000000 ∧ -20000000 ≤ x.2.hi ∧ x.2.hi ≤ 20000000)
abbrev Rdg (p : Nat) := { x : Nat × Sh // rokB p x = true }
theorem rokB_zero (p : Nat) : rokB p (0, ⟨0, 0, 0, 0⟩) = true := by unfold rokB; rw [decide_eq_true_eq]; refine ⟨by omega, by simp, by simp, by simp, by simp, by simp, by simp, by simp, by simp⟩
def rdOf (p : Nat) (s : Sv) (k : Nat) : Rdg p := if h : rokB p (rdAt s k) = true then ⟨rdAt s k, h⟩ else ⟨(0, ⟨0, 0, 0, 0⟩), rokB_zero p⟩
/-- The matrix when these readings have been laid in. -/
def matOf (p : Nat) (out : Nat → Bool) (wider : Int) (l : List (Rdg p)) : Nat → Nat → Int := l.foldl (fun D x => addRd out wider D x.1) (B1 p p)
theorem matOf_snoc (p : Nat) (out : Nat → Bool) (wider : Int) (l : List (Rdg p)) (x : Rdg p) : matOf p out wider (l ++ [x]) = addRd out wider (matOf p out wider l) x.1 := by simp [matOf]

end Go.Proofs.Ytaoonfmcimkmhaa
