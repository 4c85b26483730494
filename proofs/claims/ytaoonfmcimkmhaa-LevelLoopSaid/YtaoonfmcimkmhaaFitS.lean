/- Heights fit the matrix of a survey's single bounds just if they are within their limits, and within all readings that count. No condition. -/
import Derived.Test.YtaoonfmcimkmhaaFwS
import Derived.Test.YtaoonfmcimkmhaaLevInit
namespace Go.Proofs.Ytaoonfmcimkmhaa

/-- A height for each point, and one for the ground (the number p), within the limits. -/
def Within (p : Nat) (h : Nat → Int) : Prop := ∀ i, i < p → -10000000 ≤ h i - h p ∧ h i - h p ≤ 10000000
/-- A bound holds, so much wider. -/
def Holds (wider : Int) (x : Sh) (h : Nat → Int) : Prop := x.lo - wider ≤ h x.t.toNat - h x.f.toNat ∧ h x.t.toNat - h x.f.toNat ≤ x.hi + wider

theorem B1_fits {p : Nat} {h : Nat → Int} : Fits (p + 1) (B1 p p) h ↔ Within p h := by
  constructor
  · intro hf i hi
    have h1 := hf i p (by omega) (by omega)
    have h2 := hf p i (by omega) (by omega)
    unfold B1 at h1 h2
    rw [if_neg (by omega), if_pos (by omega)] at h1 h2
    omega
  · intro hw i k hi hk
    unfold B1
    by_cases e1 : i < p <;> by_cases e2 : k < p
    · have h1 := hw i e1
      have h2 := hw k e2
      by_cases e : i = k
      · subst e
        rw [if_neg (by omega), if_neg (by omega)]
        omega
      · rw [if_pos (by omega)]
        omega
    · obtain rfl : k = p := by omega
      have h1 := hw i e1
      rw [if_neg (by omega), if_pos (by omega)]
      omega
    · obtain rfl : i = p := by omega
      have h1 := hw k e2
      rw [if_neg (by omega), if_pos (by omega)]
      omega
    · obtain rfl : i = p := by omega
      obtain rfl : k = i := by omega
      rw [if_neg (by omega), if_neg (by omega)]
      omega

theorem upd_fits {n a b : Nat} {D : Mat} {v : Int} {h : Nat → Int} (ha : a < n) (hb : b < n) : Fits n (upd D a b (min (D a b) v)) h ↔ Fits n D h ∧ h b - h a ≤ v := by
  constructor
  · intro hf
    refine ⟨fun i k hi hk => ?_, ?_⟩
    · have h1 := hf i k hi hk
      unfold upd at h1
      split at h1
      · rename_i e
        obtain ⟨rfl, rfl⟩ := e
        omega
      · exact h1
    · have h1 := hf a b ha hb
      unfold upd at h1
      rw [if_pos ⟨rfl, rfl⟩] at h1
      omega
  · rintro ⟨hf, hv⟩ i k hi hk
    have h1 := hf i k hi hk
    unfold upd
    split
    · rename_i e
      obtain ⟨rfl, rfl⟩ := e
      omega
    · exact h1

theorem addRd_fits {p : Nat} {out : Nat → Bool} {wider : Int} {D : Mat} {x : Nat × Sh} {h : Nat → Int} (hx : rokB p x = true) :
    Fits (p + 1) (addRd out wider D x) h ↔ Fits (p + 1) D h ∧ (out x.1 = false → Holds wider x.2 h) := by
  unfold rokB at hx
  rw [decide_eq_true_eq] at hx
  obtain ⟨_, f0, f1, t0, t1, _⟩ := hx
  unfold addRd Holds
  cases out x.1
  · simp only [Bool.false_eq_true, if_false, forall_const]
    have hfp : x.2.f.toNat < p + 1 := by omega
    have htp : x.2.t.toNat < p + 1 := by omega
    rw [upd_fits htp hfp, upd_fits hfp htp, and_assoc]
    refine and_congr_right fun _ => ?_
    constructor
    · rintro ⟨h1, h2⟩
      omega
    · rintro ⟨h1, h2⟩
      omega
  · simp

theorem matOf_fits {p : Nat} {out : Nat → Bool} {wider : Int} (s : Sv) {h : Nat → Int} : ∀ (N : Nat), (∀ k, k < N → rokB p (rdAt s k) = true) →
    (Fits (p + 1) (matOf p out wider (upto (rdOf p s) N)) h ↔ Within p h ∧ ∀ k, k < N → out k = false → Holds wider (rdAt s k).2 h)
  | 0, _ => by
    have : upto (rdOf p s) 0 = [] := rfl
    rw [this]
    show Fits (p + 1) (B1 p p) h ↔ _
    rw [B1_fits]
    exact ⟨fun h1 => ⟨h1, fun k hk => by omega⟩, fun h1 => h1.1⟩
  | N + 1, hr => by
    rw [upto_succ, matOf_snoc]
    have hN := hr N (by omega)
    have e : (rdOf p s N).1 = rdAt s N := by unfold rdOf; rw [dif_pos hN]
    rw [e, addRd_fits hN, matOf_fits s N fun k hk => hr k (by omega), and_assoc]
    refine and_congr_right fun _ => ?_
    constructor
    · rintro ⟨h1, h2⟩ k hk hko
      by_cases ek : k = N
      · subst ek
        exact h2 hko
      · exact h1 k (by omega) hko
    · intro h1
      exact ⟨fun k hk hko => h1 k (by omega) hko, fun hko => h1 N (by omega) hko⟩

end Go.Proofs.Ytaoonfmcimkmhaa
