/- The three loops of level's greatest differences, as functions of matrices that stop at a point below itself; their numbers stay small. No condition. -/
import Derived.Test.YtaoonfmcimkmhaaLevMat
namespace Go.Proofs.Ytaoonfmcimkmhaa

def relax (o i j : Nat) (D : Nat → Nat → Int) : Nat → Nat → Int := upd D i j (min (D i j) (D i o + D o j))
def goJ (o i : Nat) : Nat → Nat → (Nat → Nat → Int) → (Nat → Nat → Int) × Bool
  | 0, _, D => (D, true)
  | r + 1, j, D => if relax o i j D i i < 0 then (relax o i j D, false) else goJ o i r (j + 1) (relax o i j D)
def goI (o n : Nat) : Nat → Nat → (Nat → Nat → Int) → (Nat → Nat → Int) × Bool
  | 0, _, D => (D, true)
  | r + 1, i, D => if (goJ o i n 0 D).2 then goI o n r (i + 1) (goJ o i n 0 D).1 else goJ o i n 0 D
def goO (n : Nat) : Nat → Nat → (Nat → Nat → Int) → (Nat → Nat → Int) × Bool
  | 0, _, D => (D, true)
  | r + 1, o, D => if (goI o n n 0 D).2 then goO n r (o + 1) (goI o n n 0 D).1 else goI o n n 0 D
/-- What work.differences answers of the single bounds D over n points. -/
def fw (n : Nat) (D : Nat → Nat → Int) : (Nat → Nat → Int) × Bool := goO n n 0 D
theorem goJ_stop {o i k j : Nat} {G : Nat → Nat → Int} (h : relax o i j G i i < 0) : goJ o i (k + 1) j G = (relax o i j G, false) := by rw [goJ, if_pos h]
theorem goJ_go {o i k j : Nat} {G : Nat → Nat → Int} (h : ¬ relax o i j G i i < 0) : goJ o i (k + 1) j G = goJ o i k (j + 1) (relax o i j G) := by rw [goJ, if_neg h]
theorem goI_stop {o n i k : Nat} {F R : Nat → Nat → Int} (h : goJ o i n 0 F = (R, false)) : goI o n (k + 1) i F = (R, false) := by rw [goI, h]; rfl
theorem goI_go {o n i k : Nat} {F R : Nat → Nat → Int} (h : goJ o i n 0 F = (R, true)) : goI o n (k + 1) i F = goI o n k (i + 1) R := by rw [goI, h]; rfl
theorem goO_stop {o n k : Nat} {F R : Nat → Nat → Int} (h : goI o n n 0 F = (R, false)) : goO n (k + 1) o F = (R, false) := by rw [goO, h]; rfl
theorem goO_go {o n k : Nat} {F R : Nat → Nat → Int} (h : goI o n n 0 F = (R, true)) : goO n (k + 1) o F = goO n k (o + 1) R := by rw [goO, h]; rfl

/-- All numbers of the first n rows and columns are from -B to B, and 0 on the diagonal. -/
def Small (n : Nat) (B : Int) (D : Nat → Nat → Int) : Prop := (∀ i, i < n → D i i = 0) ∧ ∀ i j, i < n → j < n → -B ≤ D i j ∧ D i j ≤ B
/-- Within the round of the point o. -/
def Phase (n o : Nat) (B : Int) (D : Nat → Nat → Int) : Prop := Small n (2 * B) D ∧ ∀ i, i < n → -B ≤ D i o ∧ D i o ≤ B ∧ -B ≤ D o i ∧ D o i ≤ B

theorem Phase.of {n o : Nat} {B : Int} {D : Nat → Nat → Int} (h : Small n B D) (ho : o < n) : Phase n o B D := by
  refine ⟨⟨h.1, fun i j hi hj => ?_⟩, fun i hi => ?_⟩
  · have := h.2 i j hi hj
    omega
  · have h1 := h.2 i o hi ho
    have h2 := h.2 o i ho hi
    omega
theorem Phase.relax {n o : Nat} {B : Int} {D : Nat → Nat → Int} (h : Phase n o B D) (ho : o < n) {i j : Nat} (hi : i < n) (hj : j < n) (hd : ¬ relax o i j D i i < 0) : Phase n o B (relax o i j D) := by
  have e1 := h.1.1 o ho
  have e2 := h.1.1 i hi
  have b1 := h.2 i hi
  have b2 := h.2 j hj
  have b3 := h.1.2 i j hi hj
  have b4 := h.2 o ho
  have hii : Go.Proofs.Ytaoonfmcimkmhaa.relax o i j D i i = if j = i then min (D i j) (D i o + D o j) else D i i := by
    unfold Go.Proofs.Ytaoonfmcimkmhaa.relax upd
    by_cases e : j = i
    · subst e; simp
    · rw [if_neg (by omega), if_neg e]
  rw [hii] at hd
  refine ⟨⟨fun k hk => ?_, fun k l hk hl => ?_⟩, fun k hk => ?_⟩
  · unfold Go.Proofs.Ytaoonfmcimkmhaa.relax upd
    by_cases e : k = i ∧ k = j
    · obtain ⟨rfl, rfl⟩ := e
      rw [if_pos rfl] at hd
      rw [if_pos ⟨rfl, rfl⟩]
      omega
    · rw [if_neg e]
      exact h.1.1 k hk
  · unfold Go.Proofs.Ytaoonfmcimkmhaa.relax upd
    by_cases e : k = i ∧ l = j
    · rw [if_pos e]
      omega
    · rw [if_neg e]
      exact h.1.2 k l hk hl
  · have b5 := h.2 k hk
    unfold Go.Proofs.Ytaoonfmcimkmhaa.relax upd
    refine ⟨?_, ?_, ?_, ?_⟩
    all_goals
      split
      · rename_i e
        obtain ⟨rfl, rfl⟩ := e
        omega
      · omega
theorem Small.mono {n : Nat} {B B' : Int} {D : Nat → Nat → Int} (h : Small n B D) (hB : B ≤ B') : Small n B' D :=
  ⟨h.1, fun i j hi hj => by have := h.2 i j hi hj; omega⟩

theorem goJ_phase {n o i : Nat} {B : Int} (ho : o < n) (hi : i < n) : ∀ (r j : Nat) (D : Nat → Nat → Int), j + r ≤ n → Phase n o B D → (goJ o i r j D).2 = true → Phase n o B (goJ o i r j D).1
  | 0, _, _, _, h, _ => h
  | r + 1, j, D, hr, h, hf => by
    unfold goJ at hf ⊢
    by_cases e : Go.Proofs.Ytaoonfmcimkmhaa.relax o i j D i i < 0
    · rw [if_pos e] at hf; cases hf
    · rw [if_neg e] at hf ⊢
      exact goJ_phase ho hi r (j + 1) _ (by omega) (h.relax ho hi (by omega) e) hf
theorem goI_phase {n o : Nat} {B : Int} (ho : o < n) : ∀ (r i : Nat) (D : Nat → Nat → Int), i + r ≤ n → Phase n o B D → (goI o n r i D).2 = true → Phase n o B (goI o n r i D).1
  | 0, _, _, _, h, _ => h
  | r + 1, i, D, hr, h, hf => by
    unfold goI at hf ⊢
    by_cases e : (goJ o i n 0 D).2 = true
    · rw [if_pos e] at hf ⊢
      exact goI_phase ho r (i + 1) _ (by omega) (goJ_phase ho (by omega) n 0 D (by omega) h e) hf
    · rw [if_neg e] at hf
      exact absurd hf e

def pow2 : Nat → Int
  | 0 => 100000000
  | n + 1 => 2 * pow2 n
theorem pow2_all : (List.range 22).all (fun n => decide (0 ≤ pow2 n ∧ pow2 n ≤ 300000000000000)) = true := by decide
theorem pow2_le {n : Nat} (h : n ≤ 21) : 0 ≤ pow2 n ∧ pow2 n ≤ 300000000000000 := by
  have := List.all_eq_true.1 pow2_all n (by simp; omega)
  simpa using this
theorem goO_small {n : Nat} : ∀ (r o : Nat) (D : Nat → Nat → Int), o + r = n → Small n (pow2 o) D → (goO n r o D).2 = true → Small n (pow2 n) (goO n r o D).1
  | 0, o, D, hr, h, _ => by
    obtain rfl : o = n := by omega
    exact h
  | r + 1, o, D, hr, h, hf => by
    unfold goO at hf ⊢
    by_cases e : (goI o n n 0 D).2 = true
    · rw [if_pos e] at hf ⊢
      exact goO_small r (o + 1) _ (by omega) (goI_phase (by omega) n 0 D (by omega) (Phase.of h (by omega)) e).1 hf
    · rw [if_neg e] at hf
      exact absurd hf e
theorem fw_small {n : Nat} (hn : n ≤ 21) {D : Nat → Nat → Int} (h : Small n 100000000 D) (hf : (fw n D).2 = true) : Small n 300000000000000 (fw n D).1 :=
  (goO_small n 0 D (by omega) h hf).mono (pow2_le hn).2

end Go.Proofs.Ytaoonfmcimkmhaa
