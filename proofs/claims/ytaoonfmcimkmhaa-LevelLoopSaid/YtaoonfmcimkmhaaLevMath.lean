/- What the greatest differences of a survey at work mean: they exist just if heights fit, each fit is within them, and each of them is reached by a fit. No condition but that the survey is valid, and the error small. -/
import Derived.Test.YtaoonfmcimkmhaaFitS
import Derived.Test.YtaoonfmcimkmhaaLevDiffs
namespace Go.Proofs.Ytaoonfmcimkmhaa

/-- Heights fit a survey's readings that count, so much wider; the number s.n stands for the height 0. -/
def FitSv (s : Sv) (out : Nat → Bool) (wider : Int) (h : Nat → Int) : Prop :=
  Within s.n.toNat h ∧ ∀ k, k < s.shots.length + s.marks.length → out k = false → Holds wider (rdAt s k).2 h

theorem wkMat_fits {s : Sv} {out : Nat → Bool} {wider : Int} (hok : svOk s = true) {h : Nat → Int} :
    Fits (s.n.toNat + 1) (matOf s.n.toNat out wider (upto (rdOf s.n.toNat s) (s.shots.length + s.marks.length))) h ↔ FitSv s out wider h :=
  matOf_fits s _ fun k hk => (rdAt_ok hok k hk).1

theorem wkMat_zero {s : Sv} {out : Nat → Bool} {wider : Int} (hok : svOk s = true) (hw0 : 0 ≤ wider) (hw2 : wider ≤ 20000000) :
    ∀ i, i < s.n.toNat + 1 → matOf s.n.toNat out wider (upto (rdOf s.n.toNat s) (s.shots.length + s.marks.length)) i i = 0 :=
  (matOf_small hw0 hw2 s _ (rdAt_ok hok)).1

theorem wkD_of_fit {s : Sv} {out : Nat → Bool} {wider : Int} (hok : svOk s = true) (hw0 : 0 ≤ wider) (hw2 : wider ≤ 20000000) {h : Nat → Int} (hf : FitSv s out wider h) :
    (wkD s out wider).2 = true ∧ ∀ i k, i < s.n.toNat + 1 → k < s.n.toNat + 1 → h k - h i ≤ (wkD s out wider).1 i k := by
  obtain ⟨E, hE, hF⟩ := fwS_fits ((wkMat_fits hok).2 hf)
  have := (fw_fwS (wkMat_zero hok hw0 hw2)).2 E hE
  unfold wkD
  rw [this]
  exact ⟨rfl, hF⟩

theorem wkD_spec {s : Sv} {out : Nat → Bool} {wider : Int} (hok : svOk s = true) (hw0 : 0 ≤ wider) (hw2 : wider ≤ 20000000) (hf : (wkD s out wider).2 = true) :
    Tri (s.n.toNat + 1) (wkD s out wider).1 ∧ (∀ i, i < s.n.toNat + 1 → (wkD s out wider).1 i i = 0) ∧
    ∀ a, a < s.n.toNat + 1 → FitSv s out wider (fun x => (wkD s out wider).1 a x) := by
  have hz := wkMat_zero (out := out) hok hw0 hw2
  have h1 := fw_fwS hz
  unfold wkD at hf ⊢
  rw [h1.1, Option.isSome_iff_exists] at hf
  obtain ⟨E, hE⟩ := hf
  rw [h1.2 E hE]
  obtain ⟨ht, hd, hle⟩ := fwS_spec hz hE
  refine ⟨ht, hd, fun a ha => (wkMat_fits hok).1 fun i k hi hk => ?_⟩
  have h2 := ht a i k ha hi hk
  have h3 := hle i k
  show E a k - E a i ≤ _
  omega

/-- Heights fit just if level says so. -/
theorem wkD_iff {s : Sv} {out : Nat → Bool} {wider : Int} (hok : svOk s = true) (hw0 : 0 ≤ wider) (hw2 : wider ≤ 20000000) : (wkD s out wider).2 = true ↔ ∃ h, FitSv s out wider h :=
  ⟨fun h => ⟨_, (wkD_spec hok hw0 hw2 h).2.2 0 (by omega)⟩, fun ⟨_, h⟩ => (wkD_of_fit hok hw0 hw2 h).1⟩

/-- Numbers of the ends: from -20,000,000 to 20,000,000, those of the ground half as much. -/
theorem wkD_bounds {s : Sv} {out : Nat → Bool} {wider : Int} (hok : svOk s = true) (hw0 : 0 ≤ wider) (hw2 : wider ≤ 20000000) (hf : (wkD s out wider).2 = true) {a b : Nat} (ha : a < s.n.toNat + 1) (hb : b < s.n.toNat + 1) :
    -20000000 ≤ (wkD s out wider).1 a b ∧ (wkD s out wider).1 a b ≤ 20000000 := by
  obtain ⟨_, hd, h3⟩ := wkD_spec hok hw0 hw2 hf
  have hw := (h3 a ha).1
  have h0 := hd a ha
  unfold Within at hw
  dsimp only at hw
  by_cases e1 : a < s.n.toNat <;> by_cases e2 : b < s.n.toNat
  · have h1 := hw a e1
    have h2 := hw b e2
    omega
  · obtain rfl : b = s.n.toNat := by omega
    have h1 := hw a e1
    omega
  · obtain rfl : a = s.n.toNat := by omega
    have h2 := hw b e2
    omega
  · obtain rfl : a = s.n.toNat := by omega
    obtain rfl : b = s.n.toNat := by omega
    omega

end Go.Proofs.Ytaoonfmcimkmhaa
