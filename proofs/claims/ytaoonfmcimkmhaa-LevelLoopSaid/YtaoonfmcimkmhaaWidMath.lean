/- The least error with which a survey's readings fit: it exists, and is at most 20,000,000. Condition: the survey is valid. -/
import Derived.Test.YtaoonfmcimkmhaaLevMath
namespace Go.Proofs.Ytaoonfmcimkmhaa

theorem fitSv_mono {s : Sv} {out : Nat → Bool} {w w' : Int} {h : Nat → Int} (hw : w ≤ w') (hf : FitSv s out w h) : FitSv s out w' h :=
  ⟨hf.1, fun k hk ho => by
    have h1 := hf.2 k hk ho
    unfold Holds at h1 ⊢
    omega⟩

theorem fitSv_zero {s : Sv} {out : Nat → Bool} (hok : svOk s = true) : FitSv s out 20000000 (fun _ => 0) :=
  ⟨fun i _ => by simp, fun k hk _ => by
    have h1 := (rdAt_ok hok k hk).1
    unfold rokB at h1
    rw [decide_eq_true_eq] at h1
    unfold Holds
    dsimp only
    omega⟩

theorem least_of (P : Nat → Bool) : ∀ n, P n = true → ∃ r, r ≤ n ∧ P r = true ∧ ∀ j, j < r → P j = false := fun n => by
  induction n using Nat.strongRecOn with
  | _ n ih =>
    intro hn
    by_cases h : ∃ j, j < n ∧ P j = true
    · obtain ⟨j, hj, hp⟩ := h
      obtain ⟨r, h1, h2, h3⟩ := ih j hj hp
      exact ⟨r, by omega, h2, h3⟩
    · refine ⟨n, Nat.le_refl _, hn, fun j hj => ?_⟩
      cases hp : P j
      · rfl
      · exact absurd ⟨j, hj, hp⟩ h

/-- The least error: it fits just from there on. -/
theorem wid_least {s : Sv} (out : Nat → Bool) (hok : svOk s = true) : ∃ r : Nat, r ≤ 20000000 ∧ ∀ m : Nat, m ≤ 20000000 → (wkD s out (m : Int)).2 = decide (r ≤ m) := by
  have h20 : (wkD s out ((20000000 : Nat) : Int)).2 = true := (wkD_iff hok (by omega) (by omega)).2 ⟨_, fitSv_zero hok⟩
  obtain ⟨r, h1, h2, h3⟩ := least_of (fun m => (wkD s out (m : Int)).2) 20000000 h20
  refine ⟨r, h1, fun m hm => ?_⟩
  by_cases h : r ≤ m
  · rw [decide_eq_true h]
    obtain ⟨f, hf⟩ := (wkD_iff hok (by omega) (by omega)).1 h2
    exact (wkD_iff hok (by omega) (by omega)).2 ⟨f, fitSv_mono (by omega) hf⟩
  · rw [decide_eq_false h]
    exact h3 m (by omega)

end Go.Proofs.Ytaoonfmcimkmhaa
