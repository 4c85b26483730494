/- What Runs answers, in Lean's words: whether water runs from each point of a list to the next one. No condition. -/
import Derived.Test.YtaoonfmcimkmhaaLevSlopes
import Derived.Test.YtaoonfmcimkmhaaLevHts
import Derived.Test.YtaoonfmcimkmhaaLevMath
import Derived.Test.YtaoonfmcimkmhaaLevAfter
namespace Go.Proofs.Ytaoonfmcimkmhaa
open Go.RowKit

theorem aboveB_bd (lo hi : Int) : 0 ≤ aboveB lo hi ∧ aboveB lo hi ≤ 2 := by
  unfold aboveB
  repeat' split
  all_goals omega

/-- Whether water runs on the step from point k of a list to the next one. -/
def runAt (D : Nat → Nat → Int) (xs : List Int) (k : Nat) : Int := aboveB (-(D (xs.getD k 0).toNat (xs.getD (k + 1) 0).toNat)) (D (xs.getD (k + 1) 0).toNat (xs.getD k 0).toNat)
def runsOf (D : Nat → Nat → Int) (xs : List Int) : List Int := (List.range (xs.length - 1)).map (runAt D xs)
theorem runsOf_len (D : Nat → Nat → Int) (xs : List Int) : (runsOf D xs).length = xs.length - 1 := by simp [runsOf]
theorem runsOf_take {D : Nat → Nat → Int} {xs : List Int} {k : Nat} (hk : k + 1 < xs.length) : (runsOf D xs).take (k + 1) = (runsOf D xs).take k ++ [runAt D xs k] := by
  rw [List.take_add_one]
  congr 1
  unfold runsOf
  rw [List.getElem?_map, List.getElem?_range (by omega)]
  rfl
theorem runsOf_all {D : Nat → Nat → Int} {xs : List Int} {k : Nat} (hk : xs.length ≤ k + 1) : (runsOf D xs).take k = runsOf D xs := List.take_of_length_le (by rw [runsOf_len]; omega)

/-- What Runs answers. -/
def lvRuns (s : Sv) (xs : List Int) : List Int × Int := if svOk s = false then ([], 10) else if 20 < xs.length then ([], 4) else if xs.all (inB s.n) = false then ([], 2) else if (svD s).2 = false then ([], 11) else (runsOf (svD s).1 xs, 0)
def u8V (x : Int) : List Value := [.int .u8 x]
theorem u8V_len (x : Int) : (u8V x).length = 1 := rfl
theorem u8V_one (x : Int) : ∀ u ∈ u8V x, u.oneCell' = true := by intro u hu; unfold u8V at hu; simp at hu; subst hu; rfl
theorem infoU8 : (Try.prog.info? 5).map (fun i => (i.zero, i.size, i.bytes)) = some (some (.int .u8 0), 1, 1) := by kernel_rfl

theorem lvRuns_bad {s : Sv} {xs : List Int} (h : svOk s = false) : lvRuns s xs = ([], 10) := by unfold lvRuns; rw [if_pos h]
theorem lvRuns_many {s : Sv} {xs : List Int} (h : svOk s = true) (hl : 20 < xs.length) : lvRuns s xs = ([], 4) := by unfold lvRuns; rw [if_neg (by rw [h]; simp), if_pos hl]
theorem lvRuns_arg {s : Sv} {xs : List Int} (h : svOk s = true) (hl : xs.length ≤ 20) (ha : xs.all (inB s.n) = false) : lvRuns s xs = ([], 2) := by unfold lvRuns; rw [if_neg (by rw [h]; simp), if_neg (by omega), if_pos ha]
theorem lvRuns_apart {s : Sv} {xs : List Int} (h : svOk s = true) (hl : xs.length ≤ 20) (ha : xs.all (inB s.n) = true) {D : Nat → Nat → Int} (hR : svD s = (D, false)) : lvRuns s xs = ([], 11) := by
  unfold lvRuns; rw [if_neg (by rw [h]; simp), if_neg (by omega), if_neg (by rw [ha]; simp), hR]; rfl
theorem lvRuns_fine {s : Sv} {xs : List Int} (h : svOk s = true) (hl : xs.length ≤ 20) (ha : xs.all (inB s.n) = true) {D : Nat → Nat → Int} (hR : svD s = (D, true)) : lvRuns s xs = (runsOf D xs, 0) := by
  unfold lvRuns; rw [if_neg (by rw [h]; simp), if_neg (by omega), if_neg (by rw [ha]; simp), hR]; rfl

/-- A fall's first end is at most its last one. -/
theorem svD_order {s : Sv} (hok : svOk s = true) {D : Nat → Nat → Int} (hR : svD s = (D, true)) {a b : Nat} (ha : a < s.n.toNat + 1) (hb : b < s.n.toNat + 1) : -(D a b) ≤ D b a ∧ -20000000 ≤ D a b ∧ D a b ≤ 20000000 := by
  have hf : (wkD s (fun _ => false) 0).2 = true := by unfold svD at hR; rw [hR]
  have h1 := wkD_spec hok (by omega) (by omega) hf
  have h2 := wkD_bounds hok (by omega) (by omega) hf ha hb
  unfold svD at hR
  rw [hR] at h1 h2
  have h3 := h1.1 a b a ha hb ha
  have h4 := h1.2.1 a ha
  dsimp only at h3 h4 h2
  omega
theorem ptIn {p : Int} {xs : List Int} (h : xs.all (inB p) = true) {k : Nat} (hk : k < xs.length) : 0 ≤ xs.getD k 0 ∧ xs.getD k 0 < p := by
  rw [List.all_eq_true] at h
  have := h xs[k] (List.getElem_mem hk)
  rw [List.getD_eq_getElem?_getD, List.getElem?_eq_getElem hk]
  unfold inB at this
  simp only [Bool.and_eq_true, decide_eq_true_eq] at this
  exact this

end Go.Proofs.Ytaoonfmcimkmhaa
