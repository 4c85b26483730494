/- Soils as plain data: what the salt is after a cycle, what a soil needs, and that layer 6 and its reference reckon the same. No condition. -/
import Derived.WalkKit
namespace Go.Proofs.Ytjkefoijhphknaa

/-- A soil as plain data. -/
structure So where
  (saL saH lim crop miL miH waL waH riL riH : Int)

def so1 (lo hi most : Int) : Bool := decide (0 ≤ lo) && decide (lo ≤ hi) && decide (hi ≤ most)
def soIn (a lo hi : Int) : Bool := decide (lo ≤ a) && decide (a ≤ hi)
def soOk (s : So) : Bool :=
  so1 s.saL s.saH 100000000 && (soIn s.lim 0 100000000 && (soIn s.crop 0 1000000000 && (so1 s.miL s.miH 100000 && (so1 s.waL s.waH 100000 && so1 s.riL s.riH 100000000))))

/-- What is needed of a soil so that nothing overflows. -/
structure SoB (s : So) (k : Nat) : Prop where
  (a1 : 0 ≤ s.saL) (a2 : s.saL ≤ 100000000 + k * 200000000000) (a3 : 0 ≤ s.saH) (a4 : s.saH ≤ 100000000 + k * 200000000000)
  (l1 : 0 ≤ s.lim) (l2 : s.lim ≤ 100000000) (c1 : 0 ≤ s.crop) (c2 : s.crop ≤ 1000000000)
  (m1 : 0 ≤ s.miL) (m2 : s.miL ≤ 100000) (m3 : 0 ≤ s.miH) (m4 : s.miH ≤ 100000)
  (w1 : 0 ≤ s.waL) (w2 : s.waL ≤ 100000) (w3 : 0 ≤ s.waH) (w4 : s.waH ≤ 100000)
  (r1 : 0 ≤ s.riL) (r2 : s.riL ≤ 100000000) (r3 : 0 ≤ s.riH) (r4 : s.riH ≤ 100000000)

theorem SoB.of_ok {s : So} (h : soOk s = true) : SoB s 0 := by
  simp only [soOk, so1, soIn, Bool.and_eq_true, decide_eq_true_eq] at h
  obtain ⟨⟨⟨h1, h2⟩, h3⟩, ⟨h4, h5⟩, ⟨h6, h7⟩, ⟨⟨h8, h9⟩, h10⟩, ⟨⟨h11, h12⟩, h13⟩, ⟨h14, h15⟩, h16⟩ := h
  constructor <;> omega

/-- Thousandths of a gram after a cycle, not cut off at 0. -/
def thenI (sa mi wa ri crop x : Int) : Int := 1000 * (sa + ri) + x * mi - wa * max 0 (x - crop)
def leastI (s : So) (x : Int) : Int := thenI s.saL s.miL s.waH s.riL s.crop x
def mostI (s : So) (x : Int) : Int := thenI s.saH s.miH s.waL s.riH s.crop x
/-- What layer 6 reckons: cut off at 0. -/
def withI (sa mi wa ri crop x : Int) : Int := max ((sa + ri) * 1000 + x * mi - max (x - crop) 0 * wa) 0
theorem withI_eq (sa mi wa ri crop x : Int) : withI sa mi wa ri crop x = max 0 (thenI sa mi wa ri crop x) := by
  unfold withI thenI
  rw [Int.max_comm (x - crop) 0, Int.mul_comm (max 0 (x - crop)) wa]
  generalize wa * max 0 (x - crop) = p
  generalize x * mi = q
  omega

/-- A product of two numbers within bounds. -/
theorem mul_le_of {x m X M : Int} (h0 : 0 ≤ x) (h1 : x ≤ X) (k0 : 0 ≤ m) (k1 : m ≤ M) : 0 ≤ x * m ∧ x * m ≤ X * M :=
  ⟨Int.mul_nonneg h0 k0, Int.le_trans (Int.mul_le_mul_of_nonneg_right h1 k0) (Int.mul_le_mul_of_nonneg_left k1 (by omega))⟩

theorem leastI_bnd {s : So} {k : Nat} (h : SoB s k) {x : Int} (x0 : 0 ≤ x) (x1 : x ≤ 1000000000) : leastI s x ≤ 1000 * (s.saL + s.riL) + 100000000000000 := by
  have h1 := mul_le_of x0 x1 h.m1 h.m2
  have h2 := Int.mul_nonneg h.w3 (show 0 ≤ max 0 (x - s.crop) by omega)
  unfold leastI thenI
  generalize s.waH * max 0 (x - s.crop) = p at *
  generalize x * s.miL = q at *
  omega
theorem mostI_bnd {s : So} {k : Nat} (h : SoB s k) {x : Int} (x0 : 0 ≤ x) (x1 : x ≤ 1000000000) : mostI s x ≤ 1000 * (s.saH + s.riH) + 100000000000000 := by
  have h1 := mul_le_of x0 x1 h.m3 h.m4
  have h2 := Int.mul_nonneg h.w1 (show 0 ≤ max 0 (x - s.crop) by omega)
  unfold mostI thenI
  generalize s.waL * max 0 (x - s.crop) = p at *
  generalize x * s.miH = q at *
  omega

/-- The salt's span after a cycle, as the reference has it. -/
def cycHi (s : So) (wl wh : Int) : Int := if wl ≤ s.crop ∧ s.crop ≤ wh then max (max (mostI s wl) (mostI s wh)) (mostI s s.crop) else max (mostI s wl) (mostI s wh)
def cyc (s : So) (wl wh : Int) : So := { s with saL := max 0 (min (leastI s wl) (leastI s wh)) / 1000, saH := (max 0 (cycHi s wl wh) + 999) / 1000 }
def itS (s : So) (wl wh : Int) : Nat → So
  | 0 => s
  | k + 1 => cyc (itS s wl wh k) wl wh
def saS (s : So) : Int × Int := (s.saL, s.saH)
def aftS (s : So) (wl wh : Int) (n : Nat) : List (Int × Int) := (List.range n).map fun k => saS (itS s wl wh (k + 1))
theorem aftS_zero (s : So) (wl wh : Int) : aftS s wl wh 0 = [] := rfl
theorem aftS_succ (s : So) (wl wh : Int) (n : Nat) : aftS s wl wh (n + 1) = aftS s wl wh n ++ [saS (itS s wl wh (n + 1))] := by
  unfold aftS; rw [List.range_succ, List.map_append]; rfl
@[simp] theorem aftS_length (s : So) (wl wh : Int) (n : Nat) : (aftS s wl wh n).length = n := by simp [aftS]

theorem cyc_bnd {s : So} {k : Nat} (h : SoB s k) {wl wh : Int} (x0 : 0 ≤ wl) (x1 : wl ≤ wh) (x2 : wh ≤ 1000000000) : SoB (cyc s wl wh) (k + 1) := by
  have b1 := leastI_bnd h x0 (by omega)
  have b3 := mostI_bnd h x0 (by omega)
  have b4 := mostI_bnd h (x := wh) (by omega) x2
  have b5 := mostI_bnd h (x := s.crop) h.c1 h.c2
  obtain ⟨a1, a2, a3, a4, l1, l2, c1, c2, m1, m2, m3, m4, w1, w2, w3, w4, r1, r2, r3, r4⟩ := h
  have e1 : (cyc s wl wh).saL = max 0 (min (leastI s wl) (leastI s wh)) / 1000 := rfl
  have e2 : (cyc s wl wh).saH = (max 0 (cycHi s wl wh) + 999) / 1000 := rfl
  have e3 : cycHi s wl wh ≤ 1000 * (s.saH + s.riH) + 100000000000000 := by unfold cycHi; split <;> omega
  refine ⟨?_, ?_, ?_, ?_, l1, l2, c1, c2, m1, m2, m3, m4, w1, w2, w3, w4, r1, r2, r3, r4⟩
  · rw [e1]; omega
  · rw [e1]; push_cast; omega
  · rw [e2]; omega
  · rw [e2]; push_cast; omega
theorem itS_bnd {s : So} (h : SoB s 0) {wl wh : Int} (x0 : 0 ≤ wl) (x1 : wl ≤ wh) (x2 : wh ≤ 1000000000) : ∀ k, SoB (itS s wl wh k) k
  | 0 => h
  | k + 1 => cyc_bnd (itS_bnd h x0 x1 x2 k) x0 x1 x2
theorem cyc_crop (s : So) (wl wh : Int) : (cyc s wl wh).crop = s.crop := rfl

/-- What layer 6 tells of the two ends is what the reference tells. -/
def turnI (crop wl wh : Int) : Int := min (max crop wl) wh
theorem least_turn {s : So} {k : Nat} (h : SoB s k) {wl wh : Int} (x1 : wl ≤ wh) : min (leastI s wl) (leastI s wh) ≤ leastI s (turnI s.crop wl wh) := by
  by_cases c1 : s.crop ≤ wl
  · rw [show turnI s.crop wl wh = wl by unfold turnI; omega]; omega
  · by_cases c2 : wh ≤ s.crop
    · rw [show turnI s.crop wl wh = wh by unfold turnI; omega]; omega
    · rw [show turnI s.crop wl wh = s.crop by unfold turnI; omega]
      have : leastI s wl ≤ leastI s s.crop := by
        unfold leastI thenI
        rw [show max 0 (wl - s.crop) = 0 by omega, show max 0 (s.crop - s.crop) = 0 by omega]
        have := Int.mul_le_mul_of_nonneg_right (show wl ≤ s.crop by omega) h.m1
        omega
      omega
theorem told_lo {s : So} {k : Nat} (h : SoB s k) {wl wh : Int} (x1 : wl ≤ wh) :
    min (min (max 0 (leastI s wl)) (max 0 (leastI s wh))) (max 0 (leastI s (turnI s.crop wl wh))) = max 0 (min (leastI s wl) (leastI s wh)) := by
  have := least_turn h x1
  omega
theorem told_hi {s : So} {wl wh : Int} (x1 : wl ≤ wh) :
    max (max (max 0 (mostI s wl)) (max 0 (mostI s wh))) (max 0 (mostI s (turnI s.crop wl wh))) = max 0 (cycHi s wl wh) := by
  unfold cycHi
  split
  · rename_i hc
    rw [show turnI s.crop wl wh = s.crop by unfold turnI; omega]
    omega
  · rename_i hc
    by_cases c1 : s.crop ≤ wl
    · rw [show turnI s.crop wl wh = wl by unfold turnI; omega]; omega
    · rw [show turnI s.crop wl wh = wh by unfold turnI; omega]; omega

/-- What a soil needs, as the reference has it. -/
def needI (s : So) : Option Int :=
  if mostI s s.crop ≤ 1000 * s.lim then some s.crop
  else if s.waL - s.miH ≤ 0 then none
  else if s.crop + (mostI s s.crop - 1000 * s.lim + (s.waL - s.miH) - 1) / (s.waL - s.miH) ≤ 1000000000 then some (s.crop + (mostI s s.crop - 1000 * s.lim + (s.waL - s.miH) - 1) / (s.waL - s.miH))
  else none

/-- Whether it is too salty with some water more than Crop. -/
def salty (s : So) (j : Int) : Bool := decide (s.lim * 1000 < max 0 (mostI s (s.crop + j)))
theorem mostI_crop (s : So) {j : Int} (hj : 0 ≤ j) : mostI s (s.crop + j) = mostI s s.crop + j * (s.miH - s.waL) := by
  unfold mostI thenI
  rw [show s.crop + j - s.crop = j by omega, show max 0 j = j by omega, show max 0 (s.crop - s.crop) = 0 by omega, Int.add_mul, Int.mul_sub, Int.mul_comm s.waL j]
  generalize s.crop * s.miH = p
  generalize j * s.miH = q
  generalize j * s.waL = r
  omega
theorem salty_iff {s : So} (hl : 0 ≤ s.lim) {j : Int} (hj : 0 ≤ j) : salty s j = true ↔ 1000 * s.lim < mostI s s.crop + j * (s.miH - s.waL) := by
  unfold salty
  rw [mostI_crop s hj, decide_eq_true_eq]
  generalize j * (s.miH - s.waL) = p
  omega
/-- Once it is not too salty, more water does not make it so again. -/
theorem salty_mono {s : So} (hl : 0 ≤ s.lim) (h0 : salty s 0 = true) {i j : Int} (hi : 0 ≤ i) (hij : i ≤ j) (h : salty s i = false) : salty s j = false := by
  have e0 := (salty_iff hl (Int.le_refl 0)).1 h0
  have ei : ¬ salty s i = true := by rw [h]; simp
  rw [salty_iff hl hi] at ei
  have : ¬ salty s j = true := by
    rw [salty_iff hl (by omega)]
    have hd : s.miH - s.waL < 0 := by
      by_cases h : s.miH - s.waL < 0
      · exact h
      · have := Int.mul_nonneg hi (show 0 ≤ s.miH - s.waL by omega); omega
    have := Int.mul_le_mul_of_nonpos_right hij (show s.miH - s.waL ≤ 0 by omega)
    omega
  simpa using this
/-- The least litre at which it is not too salty. -/
theorem need_at {s : So} (hl : 0 ≤ s.lim) (h0 : salty s 0 = true) {m : Nat} {k : Nat} (hm : (m : Int) = 1000000000 - s.crop) (hk : k ≤ m) (h1 : ∀ t : Nat, t < k → salty s ((t : Int) + 1) = true)
    (h2 : ∀ t : Nat, k ≤ t → t < m → salty s ((t : Int) + 1) = false) : (if k < m then some (s.crop + ((k : Int) + 1)) else none) = needI s := by
  have e0 := (salty_iff hl (Int.le_refl 0)).1 h0
  rw [show (0 : Int) * (s.miH - s.waL) = 0 by omega] at e0
  have L1 : k < m → (if k < m then some (s.crop + ((k : Int) + 1)) else none) = some (s.crop + ((k : Int) + 1)) := fun h => if_pos h
  have L2 : ¬ k < m → (if k < m then some (s.crop + ((k : Int) + 1)) else none) = none := fun h => if_neg h
  generalize (if k < m then some (s.crop + ((k : Int) + 1)) else none) = L at *
  unfold needI
  rw [if_neg (by omega)]
  by_cases hd : s.waL - s.miH ≤ 0
  · rw [if_pos hd]
    refine L2 fun hlt => ?_
    have a := h2 k (Nat.le_refl _) hlt
    have b : ¬ salty s ((k : Int) + 1) = true := by rw [a]; simp
    rw [salty_iff hl (by omega)] at b
    have := Int.mul_nonneg (show (0 : Int) ≤ (k : Int) + 1 by omega) (show 0 ≤ s.miH - s.waL by omega)
    omega
  · rw [if_neg hd]
    obtain ⟨d, hdd⟩ : ∃ d, s.waL - s.miH = d := ⟨_, rfl⟩
    have hneg : s.miH - s.waL = -d := by omega
    have hd' : 0 < d := by omega
    obtain ⟨ov, hov⟩ : ∃ ov, mostI s s.crop - 1000 * s.lim = ov := ⟨_, rfl⟩
    have hov' : 0 < ov := by omega
    rw [hdd, hov]
    have key : ∀ j : Int, 0 ≤ j → (salty s j = true ↔ j * d < ov) := fun j hj => by
      rw [salty_iff hl hj, hneg, Int.mul_neg]
      omega
    have hq : (ov + d - 1) / d = (ov - 1) / d + 1 := by
      rw [show ov + d - 1 = (ov - 1) + d * 1 by omega, Int.add_mul_ediv_left _ _ (by omega)]
    rw [hq]
    have q0 : 0 ≤ (ov - 1) / d := Int.ediv_nonneg (by omega) (by omega)
    have below : ∀ j : Int, 0 ≤ j → (salty s j = true ↔ j ≤ (ov - 1) / d) := fun j hj => by
      rw [key j hj, Int.le_ediv_iff_mul_le hd']
      omega
    generalize (ov - 1) / d = q at *
    by_cases hkm : k < m
    · have a := h2 k (Nat.le_refl _) hkm
      have b : ¬ salty s ((k : Int) + 1) = true := by rw [a]; simp
      rw [below _ (by omega)] at b
      have c : (k : Int) ≤ q := by
        rcases Nat.eq_zero_or_pos k with h | h
        · omega
        · have := h1 (k - 1) (by omega)
          rw [below _ (by omega)] at this
          omega
      rw [L1 hkm, show q = k by omega, if_pos (by omega)]
    · have c : (m : Int) ≤ q := by
        rcases Nat.eq_zero_or_pos m with h | h
        · omega
        · have := h1 (m - 1) (by omega)
          rw [below _ (by omega)] at this
          omega
      rw [L2 hkm, if_neg (by omega)]
theorem need_zero {s : So} (hl : 0 ≤ s.lim) (h0 : salty s 0 = false) : needI s = some s.crop := by
  have : ¬ salty s 0 = true := by rw [h0]; simp
  rw [salty_iff hl (Int.le_refl 0)] at this
  unfold needI
  rw [if_pos (by omega)]

end Go.Proofs.Ytjkefoijhphknaa
