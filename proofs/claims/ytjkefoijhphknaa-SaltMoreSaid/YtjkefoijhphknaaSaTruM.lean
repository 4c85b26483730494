/- Whatever is in soil and water, the salt lies in what is told. No condition. -/
import Derived.Test.YtjkefoijhphknaaSaMath
namespace Go.Proofs.Ytjkefoijhphknaa

theorem then_up {sa mi wa ri crop x y : Int} (hm : 0 ≤ mi) (h : x ≤ y) (hy : y ≤ crop) : thenI sa mi wa ri crop x ≤ thenI sa mi wa ri crop y := by
  have := Int.mul_le_mul_of_nonneg_right h hm
  unfold thenI
  rw [show max 0 (x - crop) = 0 by omega, show max 0 (y - crop) = 0 by omega]
  omega
theorem then_lin {sa mi wa ri crop x : Int} (h : crop ≤ x) : thenI sa mi wa ri crop x = 1000 * (sa + ri) + wa * crop + x * (mi - wa) := by
  unfold thenI
  rw [show max 0 (x - crop) = x - crop by omega, Int.mul_sub, Int.mul_sub, Int.mul_comm x wa]
  omega
theorem then_up2 {sa mi wa ri crop x y : Int} (hm : wa ≤ mi) (hx : crop ≤ x) (h : x ≤ y) : thenI sa mi wa ri crop x ≤ thenI sa mi wa ri crop y := by
  rw [then_lin hx, then_lin (Int.le_trans hx h)]
  have := Int.mul_le_mul_of_nonneg_right h (show 0 ≤ mi - wa by omega)
  omega
theorem then_dn {sa mi wa ri crop x y : Int} (hm : mi ≤ wa) (hx : crop ≤ x) (h : x ≤ y) : thenI sa mi wa ri crop y ≤ thenI sa mi wa ri crop x := by
  rw [then_lin hx, then_lin (Int.le_trans hx h)]
  have h1 := Int.mul_le_mul_of_nonneg_right h (show 0 ≤ wa - mi by omega)
  have e1 : x * (wa - mi) = -(x * (mi - wa)) := by rw [← Int.mul_neg]; congr 1; omega
  have e2 : y * (wa - mi) = -(y * (mi - wa)) := by rw [← Int.mul_neg]; congr 1; omega
  omega
theorem then_low {sa mi wa ri crop wl wh v : Int} (hm : 0 ≤ mi) (h1 : wl ≤ v) (h2 : v ≤ wh) : min (thenI sa mi wa ri crop wl) (thenI sa mi wa ri crop wh) ≤ thenI sa mi wa ri crop v := by
  by_cases c : v ≤ crop
  · have := then_up (sa := sa) (wa := wa) (ri := ri) hm h1 c
    omega
  · by_cases c2 : wa ≤ mi
    · by_cases c3 : wl ≤ crop
      · have a := then_up (sa := sa) (wa := wa) (ri := ri) hm c3 (Int.le_refl crop)
        have b := then_up2 (sa := sa) (ri := ri) (crop := crop) c2 (Int.le_refl crop) (show crop ≤ v by omega)
        omega
      · have b := then_up2 (sa := sa) (ri := ri) (crop := crop) c2 (show crop ≤ wl by omega) h1
        omega
    · have b := then_dn (sa := sa) (ri := ri) (crop := crop) (show mi ≤ wa by omega) (show crop ≤ v by omega) h2
      omega
theorem then_high {sa mi wa ri crop wl wh v : Int} (hm : 0 ≤ mi) (h1 : wl ≤ v) (h2 : v ≤ wh) :
    thenI sa mi wa ri crop v ≤ max (thenI sa mi wa ri crop wl) (thenI sa mi wa ri crop wh) ∨ (wl ≤ crop ∧ crop ≤ wh ∧ thenI sa mi wa ri crop v ≤ thenI sa mi wa ri crop crop) := by
  by_cases c : v ≤ crop
  · by_cases c2 : crop ≤ wh
    · exact .inr ⟨by omega, c2, then_up hm c (Int.le_refl crop)⟩
    · have := then_up (sa := sa) (wa := wa) (ri := ri) hm h2 (show wh ≤ crop by omega)
      exact .inl (by omega)
  · by_cases c2 : wa ≤ mi
    · have := then_up2 (sa := sa) (ri := ri) c2 (show crop ≤ v by omega) h2
      exact .inl (by omega)
    · by_cases c3 : wl ≤ crop
      · exact .inr ⟨c3, by omega, then_dn (show mi ≤ wa by omega) (Int.le_refl crop) (by omega)⟩
      · have := then_dn (sa := sa) (ri := ri) (show mi ≤ wa by omega) (show crop ≤ wl by omega) h1
        exact .inl (by omega)
/-- Less salt, less mineral, less that rises, more that is washed: no more. -/
theorem then_mono {sa mi wa ri sa' mi' wa' ri' crop v : Int} (h1 : sa ≤ sa') (h2 : mi ≤ mi') (h3 : wa' ≤ wa) (h4 : ri ≤ ri') (hv : 0 ≤ v) : thenI sa mi wa ri crop v ≤ thenI sa' mi' wa' ri' crop v := by
  have a := Int.mul_le_mul_of_nonneg_left h2 hv
  have b := Int.mul_le_mul_of_nonneg_right h3 (show 0 ≤ max 0 (v - crop) by omega)
  unfold thenI
  omega
/-- What is so after a cycle, in thousandths. -/
def nowI (s : So) (now v mi ri wa : Int) : Int := max 0 (now + (v * mi + 1000 * ri - wa * max 0 (v - s.crop)))
theorem now_in {s : So} {k : Nat} (h : SoB s k) {wl wh now v mi ri wa : Int} (x0 : 0 ≤ wl) (n1 : 1000 * s.saL ≤ now) (n2 : now ≤ 1000 * s.saH) (v1 : wl ≤ v) (v2 : v ≤ wh) (m1 : s.miL ≤ mi) (m2 : mi ≤ s.miH) (r1 : s.riL ≤ ri) (r2 : ri ≤ s.riH) (w1 : s.waL ≤ wa) (w2 : wa ≤ s.waH) :
    1000 * (cyc s wl wh).saL ≤ nowI s now v mi ri wa ∧ nowI s now v mi ri wa ≤ 1000 * (cyc s wl wh).saH := by
  have e1 : (cyc s wl wh).saL = max 0 (min (leastI s wl) (leastI s wh)) / 1000 := rfl
  have e2 : (cyc s wl wh).saH = (max 0 (cycHi s wl wh) + 999) / 1000 := rfl
  have hv : 0 ≤ v := by omega
  have a1 := then_low (sa := s.saL) (mi := s.miL) (wa := s.waH) (ri := s.riL) (crop := s.crop) h.m1 v1 v2
  have a2 := then_mono (sa := s.saL) (sa' := s.saL) (crop := s.crop) (Int.le_refl _) m1 w2 r1 hv
  have b1 := then_high (sa := s.saH) (mi := s.miH) (wa := s.waL) (ri := s.riH) (crop := s.crop) h.m3 v1 v2
  have b2 := then_mono (sa := s.saH) (sa' := s.saH) (crop := s.crop) (Int.le_refl _) m2 w1 r2 hv
  have c1 : thenI s.saL mi wa ri s.crop v = 1000 * s.saL + (v * mi + 1000 * ri - wa * max 0 (v - s.crop)) := by unfold thenI; omega
  have c2 : thenI s.saH mi wa ri s.crop v = 1000 * s.saH + (v * mi + 1000 * ri - wa * max 0 (v - s.crop)) := by unfold thenI; omega
  rw [c1] at a2
  rw [c2] at b2
  rw [e1, e2]
  unfold nowI cycHi leastI mostI
  generalize v * mi + 1000 * ri - wa * max 0 (v - s.crop) = d at *
  generalize thenI s.saL s.miL s.waH s.riL s.crop wl = p1 at *
  generalize thenI s.saL s.miL s.waH s.riL s.crop wh = p2 at *
  generalize thenI s.saL s.miL s.waH s.riL s.crop v = p3 at *
  generalize thenI s.saH s.miH s.waL s.riH s.crop wl = q1 at *
  generalize thenI s.saH s.miH s.waL s.riH s.crop wh = q2 at *
  generalize thenI s.saH s.miH s.waL s.riH s.crop v = q3 at *
  generalize thenI s.saH s.miH s.waL s.riH s.crop s.crop = q4 at *
  refine ⟨by omega, ?_⟩
  split
  · omega
  · rename_i hc
    rcases b1 with b1 | ⟨b1, b3, b4⟩
    · omega
    · exact absurd ⟨b1, b3⟩ hc
end Go.Proofs.Ytjkefoijhphknaa
