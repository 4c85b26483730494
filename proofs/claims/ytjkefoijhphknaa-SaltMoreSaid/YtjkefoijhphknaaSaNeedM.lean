/- What a soil needs is least; more salt needs no less; more that is washed, and better known soils. No condition. -/
import Derived.Test.YtjkefoijhphknaaSaTruM
namespace Go.Proofs.Ytjkefoijhphknaa

/-- What is known of the least litres. -/
def NeedIs (s : So) : Option Int → Prop
  | some n => s.crop ≤ n ∧ n ≤ 1000000000 ∧ mostI s n ≤ 1000 * s.lim ∧ ∀ x, s.crop ≤ x → x < n → 1000 * s.lim < mostI s x
  | none => ∀ x, s.crop ≤ x → x ≤ 1000000000 → 1000 * s.lim < mostI s x
theorem most_at (s : So) {x : Int} (h : s.crop ≤ x) : mostI s x = mostI s s.crop + (x - s.crop) * (s.miH - s.waL) := by
  have := mostI_crop s (show 0 ≤ x - s.crop by omega)
  rwa [show s.crop + (x - s.crop) = x by omega] at this
theorem need_is (s : So) (hc : s.crop ≤ 1000000000) : NeedIs s (needI s) := by
  unfold needI
  by_cases h1 : mostI s s.crop ≤ 1000 * s.lim
  · rw [if_pos h1]
    exact ⟨Int.le_refl _, hc, h1, fun x hx hn => absurd hn (by omega)⟩
  rw [if_neg h1]
  obtain ⟨d, hd⟩ : ∃ d, s.waL - s.miH = d := ⟨_, rfl⟩
  have hneg : s.miH - s.waL = -d := by omega
  have key : ∀ x, s.crop ≤ x → mostI s x = mostI s s.crop - (x - s.crop) * d := fun x hx => by
    rw [most_at s hx, hneg, Int.mul_neg]; omega
  rw [hd]
  by_cases h2 : d ≤ 0
  · rw [if_pos h2]
    intro x hx _
    rw [key x hx]
    have := Int.mul_nonneg (show 0 ≤ x - s.crop by omega) (show 0 ≤ -d by omega)
    rw [Int.mul_neg] at this
    omega
  rw [if_neg h2]
  obtain ⟨ov, hov⟩ : ∃ ov, mostI s s.crop - 1000 * s.lim = ov := ⟨_, rfl⟩
  rw [hov]
  have hq : (ov + d - 1) / d = (ov - 1) / d + 1 := by rw [show ov + d - 1 = (ov - 1) + d * 1 by omega, Int.add_mul_ediv_left _ _ (by omega)]
  have hlt : ∀ j : Int, j * d < ov ↔ j ≤ (ov - 1) / d := fun j => by rw [Int.le_ediv_iff_mul_le (by omega)]; omega
  rw [hq]
  have q0 : 0 ≤ (ov - 1) / d := Int.ediv_nonneg (by omega) (by omega)
  generalize (ov - 1) / d = q at *
  by_cases h3 : s.crop + (q + 1) ≤ 1000000000
  · rw [if_pos h3]
    refine ⟨by omega, h3, ?_, fun x hx hn => ?_⟩
    · rw [key _ (by omega), show s.crop + (q + 1) - s.crop = q + 1 by omega]
      have := mt (hlt (q + 1)).1 (by omega)
      omega
    · rw [key x hx]
      have := (hlt (x - s.crop)).2 (by omega)
      omega
  · rw [if_neg h3]
    intro x hx hm
    rw [key x hx]
    have := (hlt (x - s.crop)).2 (by omega)
    omega
/-- Where it is nowhere saltier no more is needed. -/
theorem need_less {s t : So} (hc : t.crop = s.crop) (hl : t.lim = s.lim) (hb : s.crop ≤ 1000000000) (h : ∀ x, s.crop ≤ x → x ≤ 1000000000 → mostI t x ≤ mostI s x) {n : Int} (hn : needI s = some n) : ∃ o, needI t = some o ∧ o ≤ n := by
  have h1 := need_is s hb
  have h2 := need_is t (by omega)
  rw [hn] at h1
  obtain ⟨a1, a2, a3, a4⟩ := h1
  have h3 := h n a1 a2
  cases ht : needI t with
  | none =>
    rw [ht] at h2
    have := h2 n (by omega) a2
    omega
  | some o =>
    rw [ht] at h2
    obtain ⟨b1, b2, b3, b4⟩ := h2
    refine ⟨o, rfl, ?_⟩
    by_cases c : o ≤ n
    · exact c
    · have := b4 n (by omega) (by omega)
      omega
/-- One cycle of one kind of water. -/
theorem cyc_one (s : So) (x : Int) : (cyc s x x).saH = (max 0 (mostI s x) + 999) / 1000 := by
  show (max 0 (cycHi s x x) + 999) / 1000 = _
  have : cycHi s x x = mostI s x := by
    unfold cycHi
    split
    · rename_i h
      have : s.crop = x := by omega
      rw [this]
      omega
    · omega
  rw [this]
theorem fine_iff (s : So) (hl : 0 ≤ s.lim) (x : Int) : (cyc s x x).saH ≤ s.lim ↔ mostI s x ≤ 1000 * s.lim := by
  rw [cyc_one]
  omega
/-- The lower end grows with what brings salt, and shrinks with what is washed at most. -/
structure LoLe (s t : So) : Prop where
  (a : s.saL ≤ t.saL) (m : s.miL ≤ t.miL) (w : t.waH ≤ s.waH) (r : s.riL ≤ t.riL) (c : t.crop = s.crop)
structure HiLe (s t : So) : Prop where
  (a : s.saH ≤ t.saH) (m : s.miH ≤ t.miH) (w : t.waL ≤ s.waL) (r : s.riH ≤ t.riH) (c : t.crop = s.crop)
theorem LoLe.least {s t : So} (h : LoLe s t) {x : Int} (hx : 0 ≤ x) : leastI s x ≤ leastI t x := by
  have := then_mono (crop := s.crop) h.a h.m h.w h.r hx
  unfold leastI
  rw [h.c]
  exact this
theorem HiLe.most {s t : So} (h : HiLe s t) {x : Int} (hx : 0 ≤ x) : mostI s x ≤ mostI t x := by
  have := then_mono (crop := s.crop) h.a h.m h.w h.r hx
  unfold mostI
  rw [h.c]
  exact this
theorem LoLe.cyc {s t : So} (h : LoLe s t) {wl wh : Int} (h0 : 0 ≤ wl) (h1 : wl ≤ wh) : LoLe (cyc s wl wh) (cyc t wl wh) := by
  have a := h.least h0
  have b := h.least (show 0 ≤ wh by omega)
  refine ⟨?_, h.m, h.w, h.r, h.c⟩
  show max 0 (min (leastI s wl) (leastI s wh)) / 1000 ≤ max 0 (min (leastI t wl) (leastI t wh)) / 1000
  omega
theorem HiLe.cyc {s t : So} (h : HiLe s t) {wl wh : Int} (h0 : 0 ≤ wl) (h1 : wl ≤ wh) (h2 : 0 ≤ s.crop) : HiLe (cyc s wl wh) (cyc t wl wh) := by
  have a := h.most h0
  have b := h.most (show 0 ≤ wh by omega)
  have c := h.most h2
  refine ⟨?_, h.m, h.w, h.r, h.c⟩
  show (max 0 (cycHi s wl wh) + 999) / 1000 ≤ (max 0 (cycHi t wl wh) + 999) / 1000
  unfold cycHi
  rw [h.c]
  split <;> omega
theorem LoLe.its {s t : So} (h : LoLe s t) {wl wh : Int} (h0 : 0 ≤ wl) (h1 : wl ≤ wh) : ∀ k, LoLe (itS s wl wh k) (itS t wl wh k)
  | 0 => h
  | k + 1 => (LoLe.its h h0 h1 k).cyc h0 h1
theorem itS_crop (s : So) (wl wh : Int) : ∀ k, (itS s wl wh k).crop = s.crop
  | 0 => rfl
  | k + 1 => itS_crop s wl wh k
theorem HiLe.its {s t : So} (h : HiLe s t) {wl wh : Int} (h0 : 0 ≤ wl) (h1 : wl ≤ wh) (h2 : 0 ≤ s.crop) : ∀ k, HiLe (itS s wl wh k) (itS t wl wh k)
  | 0 => h
  | k + 1 => (HiLe.its h h0 h1 h2 k).cyc h0 h1 (by rw [itS_crop]; exact h2)
end Go.Proofs.Ytjkefoijhphknaa
