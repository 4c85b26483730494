/- What single shots say along a way, and what a loop of ways comes to, in Lean's words. Conditions stand at each theorem. -/
import Derived.Test.YtaoonfmcimkmhaaLevIsLoop
import Derived.Test.YtaoonfmcimkmhaaLevDiffs
namespace Go.Proofs.Ytaoonfmcimkmhaa
open Go.RowKit

/-- What a reading says along a way from a to b, if it lies on it. -/
def onWay (a b : Int) (x : Sh) : Option (Int × Int) := if x.f = a ∧ x.t = b then some (x.lo, x.hi) else if x.f = b ∧ x.t = a then some (-x.hi, -x.lo) else none
def cut2 (u v : Int × Int) : Int × Int := (max u.1 v.1, min u.2 v.2)
/-- The reference's way to add one shot up. -/
def syStep (a b : Int) (st : (Int × Int) × Nat) (x : Sh) : (Int × Int) × Nat := match onWay a b x with | none => st | some r => (cut2 st.1 r, st.2 + 1)
def syFold (a b : Int) (l : List Sh) : (Int × Int) × Nat := l.foldl (syStep a b) ((-20000000, 20000000), 0)
/-- level's way. -/
def alStep (a b : Int) (st : (Int × Int) × Bool) (x : Sh) : (Int × Int) × Bool := match onWay a b x with | none => st | some r => (if st.2 then cut2 st.1 r else cut2 r r, true)
def alFold (a b : Int) (l : List Sh) : (Int × Int) × Bool := l.foldl (alStep a b) ((0, 0), false)
theorem syFold_snoc (a b : Int) (l : List Sh) (x : Sh) : syFold a b (l ++ [x]) = syStep a b (syFold a b l) x := by unfold syFold; rw [List.foldl_append]; rfl
theorem alFold_snoc (a b : Int) (l : List Sh) (x : Sh) : alFold a b (l ++ [x]) = alStep a b (alFold a b l) x := by unfold alFold; rw [List.foldl_append]; rfl

def shB (x : Sh) : Prop := -20000000 ≤ x.lo ∧ x.lo ≤ 20000000 ∧ -20000000 ≤ x.hi ∧ x.hi ≤ 20000000
theorem onWay_bd {a b : Int} {x : Sh} (h : shB x) {r : Int × Int} (hr : onWay a b x = some r) : -20000000 ≤ r.1 ∧ r.1 ≤ 20000000 ∧ -20000000 ≤ r.2 ∧ r.2 ≤ 20000000 := by
  unfold shB at h
  unfold onWay at hr
  split at hr
  · injection hr with hr; subst hr; dsimp only; omega
  · split at hr
    · injection hr with hr; subst hr; dsimp only; omega
    · cases hr
/-- Lists by their last element. -/
theorem snocInd {α : Type} {P : List α → Prop} (h0 : P []) (h1 : ∀ l x, P l → P (l ++ [x])) (l : List α) : P l := by
  have h : ∀ m : List α, P m.reverse := fun m => by
    induction m with
    | nil => exact h0
    | cons x m ih => rw [List.reverse_cons]; exact h1 _ _ ih
  have h2 := h l.reverse
  rw [List.reverse_reverse] at h2
  exact h2
theorem syFold_bd (a b : Int) (l : List Sh) : (∀ x ∈ l, shB x) → -20000000 ≤ (syFold a b l).1.1 ∧ (syFold a b l).1.1 ≤ 20000000 ∧ -20000000 ≤ (syFold a b l).1.2 ∧ (syFold a b l).1.2 ≤ 20000000 ∧ (syFold a b l).2 ≤ l.length := by
  refine snocInd (P := fun l => (∀ x ∈ l, shB x) → -20000000 ≤ (syFold a b l).1.1 ∧ (syFold a b l).1.1 ≤ 20000000 ∧ -20000000 ≤ (syFold a b l).1.2 ∧ (syFold a b l).1.2 ≤ 20000000 ∧ (syFold a b l).2 ≤ l.length) (fun _ => by simp [syFold]) (fun l x ih h => ?_) l
  have h1 := ih fun y hy => h y (by simp [hy])
  rw [syFold_snoc, List.length_append]
  unfold syStep
  cases hr : onWay a b x with
  | none => simp; omega
  | some r =>
    have h2 := onWay_bd (h x (by simp)) hr
    simp only [cut2, List.length_cons, List.length_nil]
    omega
theorem syFold_len (a b : Int) (l : List Sh) : (syFold a b l).2 ≤ l.length := by
  refine snocInd (P := fun l => (syFold a b l).2 ≤ l.length) (by simp [syFold]) (fun l x ih => ?_) l
  rw [syFold_snoc, List.length_append]
  unfold syStep
  cases onWay a b x with
  | none => simp; omega
  | some r => simp only [List.length_cons, List.length_nil]; omega
/-- The two ways agree. -/
theorem al_sy (a b : Int) (l : List Sh) : (∀ x ∈ l, shB x) → alFold a b l = (if (syFold a b l).2 = 0 then (0, 0) else (syFold a b l).1, decide (0 < (syFold a b l).2)) ∧ ((syFold a b l).2 = 0 → (syFold a b l).1 = (-20000000, 20000000)) := by
  refine snocInd (P := fun l => (∀ x ∈ l, shB x) → alFold a b l = (if (syFold a b l).2 = 0 then (0, 0) else (syFold a b l).1, decide (0 < (syFold a b l).2)) ∧ ((syFold a b l).2 = 0 → (syFold a b l).1 = (-20000000, 20000000))) (fun _ => by simp [alFold, syFold]) (fun l x ih h => ?_) l
  obtain ⟨h1, h0⟩ := ih fun y hy => h y (by simp [hy])
  rw [syFold_snoc, alFold_snoc, h1]
  unfold syStep alStep
  cases hr : onWay a b x with
  | none => exact ⟨rfl, h0⟩
  | some r =>
    obtain ⟨r1, r2⟩ := r
    have h2 := onWay_bd (h x (by simp)) hr
    dsimp only at h2
    clear h1 ih hr
    generalize syFold a b l = st at *
    obtain ⟨⟨u, v⟩, n⟩ := st
    refine ⟨?_, fun e => absurd e (Nat.succ_ne_zero _)⟩
    cases n with
    | zero =>
      have h3 := h0 rfl
      dsimp only at h3
      injection h3 with h3 h4
      subst h3 h4
      have e1 : max r1 r1 = max (-20000000) r1 := by omega
      have e2 : min r2 r2 = min 20000000 r2 := by omega
      simp only [Nat.lt_irrefl, decide_false, Bool.false_eq_true, if_false, cut2, Nat.zero_add, e1, e2]
      rfl
    | succ n => simp
/-- What lies on no way adds nothing. -/
theorem al_off (a b : Int) (l m : List Sh) : (∀ x ∈ m, onWay a b x = none) → alFold a b (l ++ m) = alFold a b l := by
  refine snocInd (P := fun m => (∀ x ∈ m, onWay a b x = none) → alFold a b (l ++ m) = alFold a b l) (fun _ => by rw [List.append_nil]) (fun m x ih h => ?_) m
  rw [← List.append_assoc, alFold_snoc, ih fun y hy => h y (by simp [hy])]
  unfold alStep
  rw [h x (by simp)]

/-- What step k of a loop of points says. -/
def stpOf (s : Sv) (xs : List Int) (k : Nat) : (Int × Int) × Nat := syFold (xs.getD k 0) (xs.getD ((k + 1) % xs.length) 0) s.shots
def sumTo (s : Sv) (xs : List Int) : Nat → Int × Int
  | 0 => (0, 0)
  | k + 1 => ((sumTo s xs k).1 + (stpOf s xs k).1.1, (sumTo s xs k).2 + (stpOf s xs k).1.2)
/-- What Loop answers. -/
def lvLoop (s : Sv) (xs : List Int) : (Int × Int) × Int := if svOk s = false then ((0, 0), 10) else if loopB s.n xs = false then ((0, 0), 2)
  else if (List.range xs.length).all (fun k => decide (0 < (stpOf s xs k).2)) = false then ((0, 0), 6) else if (List.range xs.length).all (fun k => decide ((stpOf s xs k).1.1 ≤ (stpOf s xs k).1.2)) = false then ((0, 0), 11) else (sumTo s xs xs.length, 0)
theorem svOk_shB {s : Sv} (hok : svOk s = true) : ∀ x ∈ s.shots, shB x := fun x hx => by
  have h := shOk_spec ((svOk_spec hok).2.1 x hx)
  unfold shB
  omega
theorem sumTo_bd {s : Sv} (hok : svOk s = true) (xs : List Int) : ∀ k : Nat, -(20000000 * (k : Int)) ≤ (sumTo s xs k).1 ∧ (sumTo s xs k).1 ≤ 20000000 * (k : Int) ∧ -(20000000 * (k : Int)) ≤ (sumTo s xs k).2 ∧ (sumTo s xs k).2 ≤ 20000000 * (k : Int)
  | 0 => by simp [sumTo]
  | k + 1 => by
    have h1 := sumTo_bd hok xs k
    have h2 := syFold_bd (xs.getD k 0) (xs.getD ((k + 1) % xs.length) 0) s.shots (svOk_shB hok)
    unfold sumTo stpOf
    dsimp only
    omega

end Go.Proofs.Ytaoonfmcimkmhaa
