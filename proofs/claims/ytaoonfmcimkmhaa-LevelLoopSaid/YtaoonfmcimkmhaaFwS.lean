/- The greatest differences in closed form, round by round: what level's loops and the reference's loops both come to. No condition. -/
import Derived.Test.YtaoonfmcimkmhaaLevFw
namespace Go.Proofs.Ytaoonfmcimkmhaa

abbrev Mat := Nat → Nat → Int
/-- The round of the point o, at once. -/
def rnd (n o : Nat) (D : Mat) : Mat := fun i k => if i < n ∧ k < n then min (D i k) (D i o + D o k) else D i k
/-- The round of the point o, when the rows before i and in row i the columns before j are done. -/
def prt (n o i j : Nat) (D : Mat) : Mat := fun a b => if a < n ∧ b < n ∧ (a < i ∨ (a = i ∧ b < j)) then min (D a b) (D a o + D o b) else D a b
def negD (n : Nat) (D : Mat) : Bool := (List.range n).any fun i => decide (D i i < 0)
def fwO (n : Nat) : Nat → Nat → Mat → Option Mat
  | 0, _, D => some D
  | r + 1, o, D => if negD n (rnd n o D) then none else fwO n r (o + 1) (rnd n o D)
def fwS (n : Nat) (D : Mat) : Option Mat := fwO n n 0 D

theorem negD_false {n : Nat} {D : Mat} : negD n D = false ↔ ∀ i, i < n → 0 ≤ D i i := by
  unfold negD
  rw [List.any_eq_false]
  simp only [List.mem_range, decide_eq_true_eq, Int.not_lt]
theorem negD_true {n : Nat} {D : Mat} : negD n D = true ↔ ∃ i, i < n ∧ D i i < 0 := by
  unfold negD
  rw [List.any_eq_true]
  simp only [List.mem_range, decide_eq_true_eq]

theorem prt_zero (n o : Nat) (D : Mat) : prt n o 0 0 D = D := by
  funext a b
  unfold prt
  rw [if_neg (by omega)]
theorem prt_row (n o i : Nat) (D : Mat) : prt n o i n D = prt n o (i + 1) 0 D := by
  funext a b
  unfold prt
  repeat' split
  all_goals first | rfl | omega
theorem prt_end (n o : Nat) (D : Mat) : prt n o n 0 D = rnd n o D := by
  funext a b
  unfold prt rnd
  repeat' split
  all_goals first | rfl | omega
theorem prt_col {n o i j : Nat} {D : Mat} (h : D o o = 0) (a : Nat) : prt n o i j D a o = D a o := by
  unfold prt
  split
  · rw [h]; omega
  · rfl
theorem prt_over {n o i j : Nat} {D : Mat} (h : D o o = 0) (b : Nat) : prt n o i j D o b = D o b := by
  unfold prt
  split
  · rw [h]; omega
  · rfl
theorem prt_same {n o i j : Nat} {D : Mat} : prt n o i j D i j = D i j := by
  unfold prt
  rw [if_neg (by omega)]
/-- One step of the loops is one step of the closed form. -/
theorem prt_step {n o i j : Nat} {D : Mat} (hi : i < n) (hj : j < n) : upd (prt n o i j D) i j (min (D i j) (D i o + D o j)) = prt n o i (j + 1) D := by
  funext a b
  unfold upd prt
  by_cases e : a = i ∧ b = j
  · obtain ⟨rfl, rfl⟩ := e
    rw [if_pos ⟨rfl, rfl⟩, if_pos ⟨hi, hj, by omega⟩]
  · rw [if_neg e]
    repeat' split
    all_goals first | rfl | omega
theorem prt_relax {n o i j : Nat} {D : Mat} (h : D o o = 0) (hi : i < n) (hj : j < n) : relax o i j (prt n o i j D) = prt n o i (j + 1) D := by
  unfold relax
  rw [prt_col h, prt_over h, prt_same, prt_step hi hj]

theorem prt_diag {n o i j : Nat} {D : Mat} (hi : i < n) : prt n o i j D i i = if i < j then rnd n o D i i else D i i := by
  unfold prt rnd
  by_cases e : i < j
  · rw [if_pos ⟨hi, hi, by omega⟩, if_pos e, if_pos ⟨hi, hi⟩]
  · rw [if_neg (by omega), if_neg e]

theorem goJ_prt {n o i : Nat} {D : Mat} (h : D o o = 0) (hi : i < n) (hii : D i i = 0) : ∀ (r j : Nat), j + r = n →
    (0 ≤ rnd n o D i i → goJ o i r j (prt n o i j D) = (prt n o (i + 1) 0 D, true)) ∧ (rnd n o D i i < 0 → j ≤ i → (goJ o i r j (prt n o i j D)).2 = false)
  | 0, j, hr => by
    obtain rfl : j = n := by omega
    refine ⟨fun _ => ?_, fun _ h2 => by omega⟩
    rw [goJ, prt_row]
  | r + 1, j, hr => by
    have hj : j < n := by omega
    have hs := prt_relax (n := n) (o := o) (i := i) (j := j) (D := D) h hi hj
    have ih := goJ_prt (n := n) (o := o) (i := i) (D := D) h hi hii r (j + 1) (by omega)
    have hd := prt_diag (n := n) (o := o) (i := i) (j := j + 1) (D := D) hi
    refine ⟨fun h0 => ?_, fun h0 hle => ?_⟩
    · rw [goJ, hs, if_neg (by rw [hd]; split <;> omega)]
      exact ih.1 h0
    · rw [goJ, hs]
      by_cases e : j = i
      · subst e
        rw [if_pos (by rw [hd, if_pos (by omega)]; exact h0)]
      · rw [if_neg (by rw [hd, if_neg (by omega)]; omega)]
        exact ih.2 h0 (by omega)

theorem goI_prt {n o : Nat} {D : Mat} (h : D o o = 0) (hz : ∀ i, i < n → D i i = 0) : ∀ (r i : Nat), i + r = n →
    ((∀ a, a < n → 0 ≤ rnd n o D a a) → goI o n r i (prt n o i 0 D) = (rnd n o D, true)) ∧ ((∃ a, i ≤ a ∧ a < n ∧ rnd n o D a a < 0) → (goI o n r i (prt n o i 0 D)).2 = false)
  | 0, i, hr => by
    obtain rfl : i = n := by omega
    refine ⟨fun _ => ?_, fun ⟨a, h1, h2, _⟩ => by omega⟩
    rw [goI, prt_end]
  | r + 1, i, hr => by
    have hi : i < n := by omega
    have hJ := goJ_prt (n := n) (o := o) (i := i) (D := D) h hi (hz i hi) n 0 (by omega)
    have ih := goI_prt (n := n) (o := o) (D := D) h hz r (i + 1) (by omega)
    refine ⟨fun h0 => ?_, fun ⟨a, h1, h2, h3⟩ => ?_⟩
    · rw [goI, hJ.1 (h0 i hi)]
      exact ih.1 h0
    · by_cases e : rnd n o D i i < 0
      · have := hJ.2 e (Nat.zero_le _)
        rw [goI, if_neg (by rw [this]; simp)]
        exact this
      · rw [goI, hJ.1 (by omega)]
        simp only [if_true]
        refine ih.2 ⟨a, ?_, h2, h3⟩
        rcases Nat.lt_or_ge i a with h4 | h4
        · omega
        · obtain rfl : a = i := by omega
          omega

theorem rnd_diag {n o : Nat} {D : Mat} (hz : ∀ i, i < n → D i i = 0) (h : negD n (rnd n o D) = false) : ∀ i, i < n → rnd n o D i i = 0 := fun i hi => by
  have h1 := negD_false.1 h i hi
  have h2 : rnd n o D i i ≤ D i i := by unfold rnd; rw [if_pos ⟨hi, hi⟩]; omega
  have := hz i hi
  omega

theorem goO_fwO {n : Nat} : ∀ (r o : Nat) (D : Mat), o + r = n → (∀ i, i < n → D i i = 0) →
    (goO n r o D).2 = (fwO n r o D).isSome ∧ ∀ E, fwO n r o D = some E → goO n r o D = (E, true)
  | 0, o, D, _, _ => ⟨rfl, fun E h => by rw [fwO] at h; cases h; rfl⟩
  | r + 1, o, D, hr, hz => by
    have hI := goI_prt (n := n) (o := o) (D := D) (hz o (by omega)) hz n 0 (by omega)
    rw [prt_zero] at hI
    rw [goO, fwO]
    cases hn : negD n (rnd n o D)
    · have h1 := hI.1 (negD_false.1 hn)
      rw [h1]
      simp only [if_true, Bool.false_eq_true, if_false]
      exact goO_fwO r (o + 1) (rnd n o D) (by omega) (rnd_diag hz hn)
    · obtain ⟨a, ha, hb⟩ := negD_true.1 hn
      have h1 := hI.2 ⟨a, Nat.zero_le _, ha, hb⟩
      rw [if_neg (by rw [h1]; simp)]
      simp only [if_true, Option.isSome_none]
      exact ⟨h1, fun E h => by cases h⟩

theorem fw_fwS {n : Nat} {D : Mat} (hz : ∀ i, i < n → D i i = 0) : (fw n D).2 = (fwS n D).isSome ∧ ∀ E, fwS n D = some E → fw n D = (E, true) :=
  goO_fwO n 0 D (by omega) hz

/-- Heights of points fit a matrix of greatest differences. -/
def Fits (n : Nat) (D : Mat) (h : Nat → Int) : Prop := ∀ i k, i < n → k < n → h k - h i ≤ D i k
/-- No way over a third point is shorter. -/
def Tri (n : Nat) (D : Mat) : Prop := ∀ i j k, i < n → j < n → k < n → D i k ≤ D i j + D j k

theorem Fits.rnd {n o : Nat} {D : Mat} {h : Nat → Int} (hf : Fits n D h) (ho : o < n) : Fits n (rnd n o D) h := fun i k hi hk => by
  have h1 := hf i k hi hk
  have h2 := hf i o hi ho
  have h3 := hf o k ho hk
  unfold Go.Proofs.Ytaoonfmcimkmhaa.rnd
  rw [if_pos ⟨hi, hk⟩]
  omega
theorem Fits.diag {n : Nat} {D : Mat} {h : Nat → Int} (hf : Fits n D h) : negD n D = false := negD_false.2 fun i hi => by
  have := hf i i hi hi
  omega
theorem fwO_fits {n : Nat} {h : Nat → Int} : ∀ (r o : Nat) (D : Mat), o + r = n → Fits n D h → ∃ E, fwO n r o D = some E ∧ Fits n E h
  | 0, _, D, _, hf => ⟨D, rfl, hf⟩
  | r + 1, o, D, hr, hf => by
    have h1 := hf.rnd (o := o) (by omega)
    rw [fwO, h1.diag]
    exact fwO_fits r (o + 1) _ (by omega) h1
theorem fwS_fits {n : Nat} {D : Mat} {h : Nat → Int} (hf : Fits n D h) : ∃ E, fwS n D = some E ∧ Fits n E h := fwO_fits n 0 D (by omega) hf

/-- Ways over the points before o are no shorter. -/
def TriB (n o : Nat) (D : Mat) : Prop := ∀ i j k, i < n → j < o → k < n → D i k ≤ D i j + D j k
theorem TriB.rnd {n o : Nat} {D : Mat} (ht : TriB n o D) (ho : o < n) (hz : D o o = 0) : TriB n (o + 1) (rnd n o D) := fun i j k hi hj hk => by
  unfold Go.Proofs.Ytaoonfmcimkmhaa.rnd
  have hjn : j < n := by omega
  rw [if_pos ⟨hi, hk⟩, if_pos ⟨hi, hjn⟩, if_pos ⟨hjn, hk⟩]
  by_cases e : j = o
  · subst e
    omega
  · have hjo : j < o := by omega
    have h1 := ht i j k hi hjo hk
    have h2 := ht o j k ho hjo hk
    have h3 := ht i j o hi hjo ho
    have h4 := ht o j o ho hjo ho
    omega
theorem fwO_spec {n : Nat} : ∀ (r o : Nat) (D E : Mat), o + r = n → (∀ i, i < n → D i i = 0) → TriB n o D → fwO n r o D = some E → Tri n E ∧ (∀ i, i < n → E i i = 0) ∧ ∀ i k, E i k ≤ D i k
  | 0, o, D, E, hr, hz, ht, h => by
    obtain rfl : o = n := by omega
    rw [fwO] at h
    cases h
    exact ⟨fun i j k hi hj hk => ht i j k hi hj hk, hz, fun i k => Int.le_refl _⟩
  | r + 1, o, D, E, hr, hz, ht, h => by
    rw [fwO] at h
    cases hn : negD n (rnd n o D)
    · rw [hn] at h
      simp only [Bool.false_eq_true, if_false] at h
      have hz1 := rnd_diag hz hn
      obtain ⟨a, b, c⟩ := fwO_spec r (o + 1) (rnd n o D) E (by omega) hz1 (ht.rnd (by omega) (hz o (by omega))) h
      refine ⟨a, b, fun i k => ?_⟩
      have h1 := c i k
      have h2 : rnd n o D i k ≤ D i k := by
        unfold rnd
        split <;> omega
      omega
    · rw [hn] at h
      cases h
theorem fwS_spec {n : Nat} {D E : Mat} (hz : ∀ i, i < n → D i i = 0) (h : fwS n D = some E) : Tri n E ∧ (∀ i, i < n → E i i = 0) ∧ ∀ i k, E i k ≤ D i k :=
  fwO_spec n 0 D E (by omega) hz (fun _ _ _ _ hj _ => by omega) h

theorem rnd_small {n o : Nat} {B : Int} {D : Mat} (h : Small n B D) (ho : o < n) (hn : negD n (rnd n o D) = false) : Small n (2 * B) (rnd n o D) := by
  refine ⟨rnd_diag h.1 hn, fun i k hi hk => ?_⟩
  have h1 := h.2 i k hi hk
  have h2 := h.2 i o hi ho
  have h3 := h.2 o k ho hk
  unfold rnd
  rw [if_pos ⟨hi, hk⟩]
  omega

end Go.Proofs.Ytaoonfmcimkmhaa
