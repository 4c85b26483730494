/- The two surveys of the chapter's examples, and what each function of level answers of them. No condition. -/
import Derived.Test.YthlpomjdifnnkaaWidMath
import Derived.Test.YthlpomjdifnnkaaClash
import Derived.Test.YthlpomjdifnnkaaSays
import Derived.Test.YthlpomjdifnnkaaRuns
import Derived.Test.YthlpomjdifnnkaaLevFall
import Derived.Test.YthlpomjdifnnkaaLevSlope
import Derived.Test.YthlpomjdifnnkaaLSpan
namespace Go.Proofs.Ythlpomjdifnnkaa

def falS : Sv := exS (-160) (-150)
def crkS : Sv := exS (-180) (-170)
theorem falS_ok : svOk falS = true := by decide +kernel
theorem crkS_ok : svOk crkS = true := by decide +kernel

theorem exS_iff (a b : Int) (o : Nat → Bool) (w : Int) (h : Nat → Int) : FitSv (exS a b) o w h ↔
    ((-10000000 ≤ h 0 - h 4 ∧ h 0 - h 4 ≤ 10000000) ∧ (-10000000 ≤ h 1 - h 4 ∧ h 1 - h 4 ≤ 10000000) ∧ (-10000000 ≤ h 2 - h 4 ∧ h 2 - h 4 ≤ 10000000) ∧ (-10000000 ≤ h 3 - h 4 ∧ h 3 - h 4 ≤ 10000000)) ∧
    (o 0 = false → -110 - w ≤ h 1 - h 0 ∧ h 1 - h 0 ≤ -100 + w) ∧ (o 1 = false → -55 - w ≤ h 2 - h 1 ∧ h 2 - h 1 ≤ -45 + w) ∧
    (o 2 = false → a - w ≤ h 2 - h 0 ∧ h 2 - h 0 ≤ b + w) ∧ (o 3 = false → 20 - w ≤ h 2 - h 3 ∧ h 2 - h 3 ≤ 30 + w) ∧ (o 4 = false → 1000 - w ≤ h 0 - h 4 ∧ h 0 - h 4 ≤ 1000 + w) := by
  constructor
  · intro hf
    exact ⟨⟨hf.1 0 (show 0 < 4 by decide), hf.1 1 (show 1 < 4 by decide), hf.1 2 (show 2 < 4 by decide), hf.1 3 (show 3 < 4 by decide)⟩, hf.2 0 (show 0 < 5 by decide), hf.2 1 (show 1 < 5 by decide), hf.2 2 (show 2 < 5 by decide), hf.2 3 (show 3 < 5 by decide), hf.2 4 (show 4 < 5 by decide)⟩
  · rintro ⟨⟨w0, w1, w2, w3⟩, r0, r1, r2, r3, r4⟩
    refine ⟨fun i hi => ?_, fun k hk ho => ?_⟩
    · have hi4 : i < 4 := hi
      match i, hi4 with
      | 0, _ => exact w0
      | 1, _ => exact w1
      | 2, _ => exact w2
      | 3, _ => exact w3
    · have hk5 : k < 5 := hk
      match k, hk5, ho with
      | 0, _, ho => exact r0 ho
      | 1, _, ho => exact r1 ho
      | 2, _, ho => exact r2 ho
      | 3, _, ho => exact r3 ho
      | 4, _, ho => exact r4 ho

/-- A greatest difference is known by a bound of all fits, and one fit that reaches it. -/
theorem wkD_at {s : Sv} {o : Nat → Bool} {w : Int} (hok : svOk s = true) (hw0 : 0 ≤ w) (hw2 : w ≤ 20000000) {a b : Nat} {e : Int} (ha : a < s.n.toNat + 1) (hb : b < s.n.toNat + 1)
    (g : Nat → Int) (hg : FitSv s o w g) (hge : g b - g a = e) (hup : ∀ h, FitSv s o w h → h b - h a ≤ e) : (wkD s o w).1 a b = e := by
  obtain ⟨h1, h2⟩ := wkD_of_fit hok hw0 hw2 hg
  obtain ⟨_, h3, h4⟩ := wkD_spec hok hw0 hw2 h1
  have h5 := h2 a b ha hb
  have h6 : (wkD s o w).1 a b - (wkD s o w).1 a a ≤ e := hup _ (h4 a ha)
  have h7 := h3 a ha
  omega

/-- Heights of the examples: of the points 0 to 3, and of the ground. -/
def gl (l : List Int) (i : Nat) : Int := l.getD i 0
set_option maxRecDepth 100000 in
theorem fal_at {a b : Nat} {e : Int} (ha : a < 5) (hb : b < 5) (l : List Int) (hg : FitSv falS (fun _ => false) 0 (gl l)) (hge : gl l b - gl l a = e) (hup : ∀ h, FitSv falS (fun _ => false) 0 h → h b - h a ≤ e) : (svD falS).1 a b = e :=
  wkD_at falS_ok (by omega) (by omega) (show a < 4 + 1 from ha) (show b < 4 + 1 from hb) (gl l) hg hge hup
theorem fal_fit (h : Nat → Int) : FitSv falS (fun _ => false) 0 h ↔
    ((-10000000 ≤ h 0 - h 4 ∧ h 0 - h 4 ≤ 10000000) ∧ (-10000000 ≤ h 1 - h 4 ∧ h 1 - h 4 ≤ 10000000) ∧ (-10000000 ≤ h 2 - h 4 ∧ h 2 - h 4 ≤ 10000000) ∧ (-10000000 ≤ h 3 - h 4 ∧ h 3 - h 4 ≤ 10000000)) ∧
    (-110 ≤ h 1 - h 0 ∧ h 1 - h 0 ≤ -100) ∧ (-55 ≤ h 2 - h 1 ∧ h 2 - h 1 ≤ -45) ∧ (-160 ≤ h 2 - h 0 ∧ h 2 - h 0 ≤ -150) ∧ (20 ≤ h 2 - h 3 ∧ h 2 - h 3 ≤ 30) ∧ (1000 ≤ h 0 - h 4 ∧ h 0 - h 4 ≤ 1000) := by
  unfold falS
  rw [exS_iff]
  simp only [Int.sub_zero, Int.add_zero, forall_const]
/-- Three fits that reach all that is asked. -/
theorem fit_a : FitSv falS (fun _ => false) 0 (gl [1000, 900, 850, 830, 0]) := (fal_fit _).2 (by decide +kernel)
theorem fit_b : FitSv falS (fun _ => false) 0 (gl [1000, 890, 840, 810, 0]) := (fal_fit _).2 (by decide +kernel)
theorem fit_c : FitSv falS (fun _ => false) 0 (gl [1000, 895, 850, 825, 0]) := (fal_fit _).2 (by decide +kernel)
theorem fit_d : FitSv falS (fun _ => false) 0 (gl [1000, 900, 845, 820, 0]) := (fal_fit _).2 (by decide +kernel)
theorem fit_e : FitSv falS (fun _ => false) 0 (gl [1000, 895, 845, 825, 0]) := (fal_fit _).2 (by decide +kernel)

theorem fal_true : (svD falS).2 = true := (wkD_iff falS_ok (by omega) (by omega)).2 ⟨_, fit_a⟩
theorem fal_04 : (svD falS).1 0 4 = -1000 := fal_at (by omega) (by omega) _ fit_a (by decide) fun h hf => by have := (fal_fit h).1 hf; omega
theorem fal_40 : (svD falS).1 4 0 = 1000 := fal_at (by omega) (by omega) _ fit_a (by decide) fun h hf => by have := (fal_fit h).1 hf; omega
theorem fal_14 : (svD falS).1 1 4 = -890 := fal_at (by omega) (by omega) _ fit_b (by decide) fun h hf => by have := (fal_fit h).1 hf; omega
theorem fal_41 : (svD falS).1 4 1 = 900 := fal_at (by omega) (by omega) _ fit_a (by decide) fun h hf => by have := (fal_fit h).1 hf; omega
theorem fal_24 : (svD falS).1 2 4 = -840 := fal_at (by omega) (by omega) _ fit_b (by decide) fun h hf => by have := (fal_fit h).1 hf; omega
theorem fal_42 : (svD falS).1 4 2 = 850 := fal_at (by omega) (by omega) _ fit_a (by decide) fun h hf => by have := (fal_fit h).1 hf; omega
theorem fal_34 : (svD falS).1 3 4 = -810 := fal_at (by omega) (by omega) _ fit_b (by decide) fun h hf => by have := (fal_fit h).1 hf; omega
theorem fal_43 : (svD falS).1 4 3 = 830 := fal_at (by omega) (by omega) _ fit_a (by decide) fun h hf => by have := (fal_fit h).1 hf; omega
theorem fal_12 : (svD falS).1 1 2 = -45 := fal_at (by omega) (by omega) _ fit_c (by decide) fun h hf => by have := (fal_fit h).1 hf; omega
theorem fal_21 : (svD falS).1 2 1 = 55 := fal_at (by omega) (by omega) _ fit_d (by decide) fun h hf => by have := (fal_fit h).1 hf; omega
theorem fal_03 : (svD falS).1 0 3 = -170 := fal_at (by omega) (by omega) _ fit_a (by decide) fun h hf => by have := (fal_fit h).1 hf; omega
theorem fal_30 : (svD falS).1 3 0 = 190 := fal_at (by omega) (by omega) _ fit_b (by decide) fun h hf => by have := (fal_fit h).1 hf; omega
theorem fal_02 : (svD falS).1 0 2 = -150 := fal_at (by omega) (by omega) _ fit_a (by decide) fun h hf => by have := (fal_fit h).1 hf; omega
theorem fal_20 : (svD falS).1 2 0 = 160 := fal_at (by omega) (by omega) _ fit_b (by decide) fun h hf => by have := (fal_fit h).1 hf; omega
theorem fal_01 : (svD falS).1 0 1 = -100 := fal_at (by omega) (by omega) _ fit_a (by decide) fun h hf => by have := (fal_fit h).1 hf; omega
theorem fal_10 : (svD falS).1 1 0 = 110 := fal_at (by omega) (by omega) _ fit_b (by decide) fun h hf => by have := (fal_fit h).1 hf; omega
theorem fal_23 : (svD falS).1 2 3 = -20 := fal_at (by omega) (by omega) _ fit_a (by decide) fun h hf => by have := (fal_fit h).1 hf; omega
theorem fal_32 : (svD falS).1 3 2 = 30 := fal_at (by omega) (by omega) _ fit_b (by decide) fun h hf => by have := (fal_fit h).1 hf; omega

set_option maxRecDepth 100000 in
theorem fal_heights : lvHeights falS = ([(1000, 1000), (890, 900), (840, 850), (810, 830)], 0) := by
  have h : htsList falS = [(-(svD falS).1 0 4, (svD falS).1 4 0), (-(svD falS).1 1 4, (svD falS).1 4 1), (-(svD falS).1 2 4, (svD falS).1 4 2), (-(svD falS).1 3 4, (svD falS).1 4 3)] := rfl
  unfold lvHeights
  rw [falS_ok, fal_true, h, fal_04, fal_40, fal_14, fal_41, fal_24, fal_42, fal_34, fal_43]
  rfl
set_option maxRecDepth 100000 in
theorem fal_fall (a b : Int) (x y : Nat) (hx : (inB 4 a && inB 4 b) = true) (ha : a.toNat = x) (hb : b.toNat = y) : lvFall falS a b = ((-(svD falS).1 x y, (svD falS).1 y x), 0) := by
  unfold lvFall
  rw [falS_ok, fal_true, if_neg (by simp), if_neg (by rw [show falS.n = 4 from rfl, hx]; simp), if_neg (by simp), ha, hb]
theorem fal_fall12 : lvFall falS 1 2 = ((45, 55), 0) := by rw [fal_fall 1 2 1 2 rfl rfl rfl, fal_12, fal_21]; rfl
theorem fal_fall21 : lvFall falS 2 1 = ((-55, -45), 0) := by rw [fal_fall 2 1 2 1 rfl rfl rfl, fal_12, fal_21]
theorem fal_fall03 : lvFall falS 0 3 = ((170, 190), 0) := by rw [fal_fall 0 3 0 3 rfl rfl rfl, fal_03, fal_30]; rfl
theorem fal_fall02 : lvFall falS 0 2 = ((150, 160), 0) := by rw [fal_fall 0 2 0 2 rfl rfl rfl, fal_02, fal_20]; rfl
theorem fal_loop : lvLoop falS [0, 1, 2] = ((-15, 15), 0) := by decide +kernel
set_option maxRecDepth 100000 in
theorem fal_runs : lvRuns falS [0, 1, 2, 3] = ([2, 2, 2], 0) := by
  have h : runsOf (svD falS).1 [0, 1, 2, 3] = [aboveB (-(svD falS).1 0 1) ((svD falS).1 1 0), aboveB (-(svD falS).1 1 2) ((svD falS).1 2 1), aboveB (-(svD falS).1 2 3) ((svD falS).1 3 2)] := rfl
  unfold lvRuns
  rw [falS_ok, fal_true, h, fal_01, fal_10, fal_12, fal_21, fal_23, fal_32]
  rfl

set_option maxRecDepth 100000 in
theorem fal_slope : lvSlope falS 0 = ((2, 4), 0) := by
  have h : thrAt falS 0 = some ⟨0, 2, 50000, 51000⟩ := rfl
  unfold lvSlope
  rw [falS_ok, h, if_neg (by simp)]
  dsimp only
  rw [fal_fall02]
  decide +kernel

/-- Crooked: no heights fit, nor with an error of 1; with one of 2 they do. -/
theorem crk_no (w : Int) (hw : w ≤ 1) (o : Nat → Bool) (h0 : o 0 = false) (h1 : o 1 = false) (h2 : o 2 = false) (h : Nat → Int) : ¬ FitSv crkS o w h := by
  intro hf
  unfold crkS at hf
  rw [exS_iff] at hf
  obtain ⟨_, r0, r1, r2, _, _⟩ := hf
  have r0 := r0 h0
  have r1 := r1 h1
  have r2 := r2 h2
  omega
theorem crk_fit {w : Int} {o : Nat → Bool} (l : List Int) (hb : ((-10000000 ≤ gl l 0 - gl l 4 ∧ gl l 0 - gl l 4 ≤ 10000000) ∧ (-10000000 ≤ gl l 1 - gl l 4 ∧ gl l 1 - gl l 4 ≤ 10000000) ∧ (-10000000 ≤ gl l 2 - gl l 4 ∧ gl l 2 - gl l 4 ≤ 10000000) ∧ (-10000000 ≤ gl l 3 - gl l 4 ∧ gl l 3 - gl l 4 ≤ 10000000)) ∧
    (o 0 = false → -110 - w ≤ gl l 1 - gl l 0 ∧ gl l 1 - gl l 0 ≤ -100 + w) ∧ (o 1 = false → -55 - w ≤ gl l 2 - gl l 1 ∧ gl l 2 - gl l 1 ≤ -45 + w) ∧
    (o 2 = false → -180 - w ≤ gl l 2 - gl l 0 ∧ gl l 2 - gl l 0 ≤ -170 + w) ∧ (o 3 = false → 20 - w ≤ gl l 2 - gl l 3 ∧ gl l 2 - gl l 3 ≤ 30 + w) ∧ (o 4 = false → 1000 - w ≤ gl l 0 - gl l 4 ∧ gl l 0 - gl l 4 ≤ 1000 + w)) (hw0 : 0 ≤ w) (hw2 : w ≤ 20000000) : (wkD crkS o w).2 = true :=
  (wkD_iff crkS_ok hw0 hw2).2 ⟨gl l, (exS_iff _ _ _ _ _).2 hb⟩
theorem crk_unfit {w : Int} {o : Nat → Bool} (hw0 : 0 ≤ w) (hw : w ≤ 1) (h0 : o 0 = false) (h1 : o 1 = false) (h2 : o 2 = false) : (wkD crkS o w).2 = false := by
  cases h : (wkD crkS o w).2
  · rfl
  · obtain ⟨g, hg⟩ := (wkD_iff crkS_ok hw0 (by omega)).1 h
    exact absurd hg (crk_no w hw o h0 h1 h2 g)
theorem crk_wid : ∀ m : Nat, m ≤ 20000000 → (wkD crkS (fun _ => false) (m : Int)).2 = decide (2 ≤ m) := fun m hm => by
  by_cases h : 2 ≤ m
  · rw [decide_eq_true h]
    have h2 : (wkD crkS (fun _ => false) 2).2 = true := crk_fit [1000, 888, 832, 807, 0] (by decide +kernel) (by omega) (by omega)
    obtain ⟨g, hg⟩ := (wkD_iff crkS_ok (by omega) (by omega)).1 h2
    exact (wkD_iff crkS_ok (by omega) (by omega)).2 ⟨g, fitSv_mono (by omega) hg⟩
  · rw [decide_eq_false h]
    exact crk_unfit (by omega) (by omega) rfl rfl rfl
theorem fal_wid : ∀ m : Nat, m ≤ 20000000 → (wkD falS (fun _ => false) (m : Int)).2 = decide (0 ≤ m) := fun m hm => by
  rw [decide_eq_true (Nat.zero_le _)]
  exact (wkD_iff falS_ok (by omega) (by omega)).2 ⟨_, fitSv_mono (by omega) fit_a⟩
theorem crk_clash : lvClash crkS = ([0, 1, 2], 0) := by
  have f0 : fitB crkS (upB (clOut (fitB crkS) 0) 0 true) = true := crk_fit [1000, 880, 830, 805, 0] (by decide +kernel) (by omega) (by omega)
  obtain ⟨o1, l1⟩ := clOut_yes f0
  have f1 : fitB crkS (upB (clOut (fitB crkS) 1) 1 true) = true := by
    rw [o1]
    exact crk_fit [1000, 895, 825, 800, 0] (by decide +kernel) (by omega) (by omega)
  obtain ⟨o2, l2⟩ := clOut_yes f1
  have f2 : fitB crkS (upB (clOut (fitB crkS) 2) 2 true) = true := by
    rw [o2, o1]
    exact crk_fit [1000, 895, 845, 820, 0] (by decide +kernel) (by omega) (by omega)
  obtain ⟨o3, l3⟩ := clOut_yes f2
  have f3 : fitB crkS (upB (clOut (fitB crkS) 3) 3 true) = false := by
    rw [o3, o2, o1]
    exact crk_unfit (by omega) (by omega) rfl rfl rfl
  obtain ⟨o4, l4⟩ := clOut_no f3
  have f4 : fitB crkS (upB (clOut (fitB crkS) 4) 4 true) = false := by
    rw [o4, o3, o2, o1]
    exact crk_unfit (by omega) (by omega) rfl rfl rfl
  obtain ⟨o5, l5⟩ := clOut_no f4
  rw [lvClash_some crkS_ok (crk_unfit (by omega) (by omega) rfl rfl rfl)]
  show (clL (fitB crkS) 5, (0 : Int)) = _
  rw [l5, l4, l3, l2, l1]
  rfl

end Go.Proofs.Ythlpomjdifnnkaa
