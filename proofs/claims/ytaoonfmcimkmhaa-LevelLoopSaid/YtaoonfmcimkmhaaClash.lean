/- Readings that do not fit, though they do without any one of them: what Clash answers, in Lean's words. No condition. -/
import Derived.Test.YtaoonfmcimkmhaaLevHts
import Derived.Test.YtaoonfmcimkmhaaRefSame
namespace Go.Proofs.Ytaoonfmcimkmhaa
open Go.RowKit

def upB (o : Nat → Bool) (k : Nat) (b : Bool) : Nat → Bool := fun j => if j = k then b else o j
/-- What is left out when the first k readings were tried. -/
def clOut (F : (Nat → Bool) → Bool) : Nat → Nat → Bool
  | 0 => fun _ => false
  | k + 1 => if F (upB (clOut F k) k true) then upB (upB (clOut F k) k true) k false else upB (clOut F k) k true
/-- The readings that were named by then. -/
def clL (F : (Nat → Bool) → Bool) : Nat → List Int
  | 0 => []
  | k + 1 => if F (upB (clOut F k) k true) then clL F k ++ [(k : Int)] else clL F k
theorem clL_len (F : (Nat → Bool) → Bool) : ∀ k, (clL F k).length ≤ k
  | 0 => by simp [clL]
  | k + 1 => by
    have := clL_len F k
    unfold clL
    split
    · rw [List.length_append]; simp; exact this
    · omega
theorem clOut_yes {F : (Nat → Bool) → Bool} {k : Nat} (h : F (upB (clOut F k) k true) = true) : clOut F (k + 1) = upB (upB (clOut F k) k true) k false ∧ clL F (k + 1) = clL F k ++ [(k : Int)] := by
  constructor
  · conv => lhs; unfold clOut
    rw [if_pos h]
  · conv => lhs; unfold clL
    rw [if_pos h]
theorem clOut_no {F : (Nat → Bool) → Bool} {k : Nat} (h : F (upB (clOut F k) k true) = false) : clOut F (k + 1) = upB (clOut F k) k true ∧ clL F (k + 1) = clL F k := by
  constructor
  · conv => lhs; unfold clOut
    rw [if_neg (by rw [h]; simp)]
  · conv => lhs; unfold clL
    rw [if_neg (by rw [h]; simp)]
theorem upB_not (o : Nat → Bool) (k : Nat) (b : Bool) : (fun j => if j = k then !b else !o j) = fun j => !upB o k b j := by
  funext j
  unfold upB
  split <;> rfl

/-- Whether heights fit without some readings. -/
def fitB (s : Sv) (o : Nat → Bool) : Bool := (wkD s o 0).2
/-- What Clash answers. -/
def lvClash (s : Sv) : List Int × Int := if svOk s = false then ([], 10) else if fitB s (fun _ => false) = true then ([], 6) else (clL (fitB s) (s.shots.length + s.marks.length), 0)
theorem lvClash_bad {s : Sv} (h : svOk s = false) : lvClash s = ([], 10) := by unfold lvClash; rw [if_pos h]
theorem lvClash_none {s : Sv} (h : svOk s = true) (hf : fitB s (fun _ => false) = true) : lvClash s = ([], 6) := by unfold lvClash; rw [if_neg (by rw [h]; simp), if_pos hf]
theorem lvClash_some {s : Sv} (h : svOk s = true) (hf : fitB s (fun _ => false) = false) : lvClash s = (clL (fitB s) (s.shots.length + s.marks.length), 0) := by unfold lvClash; rw [if_neg (by rw [h]; simp), if_neg (by rw [hf]; simp)]
theorem inV_len' (x : Int) : (inV x).length = 1 := rfl
theorem inV_one' (x : Int) : ∀ u ∈ inV x, u.oneCell' = true := by intro u hu; unfold inV at hu; simp at hu; subst hu; rfl

end Go.Proofs.Ytaoonfmcimkmhaa
