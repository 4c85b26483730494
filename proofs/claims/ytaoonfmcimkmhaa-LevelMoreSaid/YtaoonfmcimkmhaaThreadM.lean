/- Slopes along one thread whose length, or whose ends, are others. Conditions stand at each theorem. -/
import Derived.Test.YtaoonfmcimkmhaaOutM
import Derived.Test.YtaoonfmcimkmhaaLevSlope
import Derived.Test.YtaoonfmcimkmhaaLReach
set_option linter.unusedVariables false
namespace Go.Proofs.Ytaoonfmcimkmhaa
open Go.RowKit

/-- A survey with another thread in one place. -/
def setTh (s : Sv) (k : Nat) (y : Sh) : Sv := { s with threads := s.threads.set k y }
theorem setTh_ok {s : Sv} (hok : svOk s = true) (k : Nat) {y : Sh} (hy : shOk s.n 1 100000000 y = true) : svOk (setTh s k y) = true := by
  rw [svOk_iff] at hok ⊢
  obtain ⟨⟨h1, h2, h3, h4, h5⟩, h6, h7, h8⟩ := hok
  refine ⟨⟨h1, h2, h3, h4, by simp [setTh]; exact h5⟩, h6, h7, fun x hx => ?_⟩
  rcases List.mem_or_eq_of_mem_set hx with h | h
  · exact h8 x h
  · rw [h]; exact hy
theorem setTh_D (s : Sv) (k : Nat) (y : Sh) : svD (setTh s k y) = svD s := rfl

/-- The slopes along a thread of a survey whose heights fit. -/
def thF (s : Sv) (x : Sh) : Int × Int := (-(svD s).1 x.f.toNat x.t.toNat, (svD s).1 x.t.toNat x.f.toNat)
theorem slope_fit {s : Sv} (hok : svOk s = true) (hf : (svD s).2 = true) {k : Nat} {x : Sh} (hx : s.threads[k]? = some x) : lvSlope s k = (slp (thF s x).1 (thF s x).2 x.lo x.hi, 0) := by
  obtain ⟨_, _, _, h8⟩ := svOk_spec hok
  have hs := shOk_spec (h8 x (List.mem_of_getElem? hx))
  have ht : thrAt s (k : Int) = some x := by
    unfold thrAt
    rw [if_pos (by omega), Int.toNat_natCast]
    exact hx
  have hF2 : lvFall s x.f x.t = (thF s x, 0) := by
    have h := lvFall_fit hok hf (i := x.f.toNat) (j := x.t.toNat) (by omega) (by omega)
    rw [Int.toNat_of_nonneg (by omega), Int.toNat_of_nonneg (by omega)] at h
    exact h
  unfold lvSlope
  rw [hok, ht, if_neg (by simp)]
  dsimp only
  rw [hF2]
  rfl
theorem slope_apart {s : Sv} (hok : svOk s = true) (hf : (svD s).2 = false) {k : Nat} (hk : k < s.threads.length) : lvSlope s k = ((0, 0), 11) := by
  obtain ⟨_, _, _, h8⟩ := svOk_spec hok
  have hs := shOk_spec (h8 s.threads[k] (List.getElem_mem hk))
  have ht : thrAt s (k : Int) = some s.threads[k] := by
    unfold thrAt
    rw [if_pos (by omega), Int.toNat_natCast]
    exact List.getElem?_eq_getElem hk
  have hF2 : lvFall s s.threads[k].f s.threads[k].t = ((0, 0), 11) := by
    have h := lvFall_apart hok hf (i := s.threads[k].f.toNat) (j := s.threads[k].t.toNat) (by omega) (by omega)
    rw [Int.toNat_of_nonneg (by omega), Int.toNat_of_nonneg (by omega)] at h
    exact h
  unfold lvSlope
  rw [hok, ht, if_neg (by simp)]
  dsimp only
  rw [hF2]
  rfl
theorem thF_bd {s : Sv} (hok : svOk s = true) (hf : (svD s).2 = true) {k : Nat} {x : Sh} (hx : s.threads[k]? = some x) : (-20000000 ≤ (thF s x).1 ∧ (thF s x).1 ≤ 20000000) ∧ (-20000000 ≤ (thF s x).2 ∧ (thF s x).2 ≤ 20000000) := by
  obtain ⟨_, _, _, h8⟩ := svOk_spec hok
  have hs := shOk_spec (h8 x (List.mem_of_getElem? hx))
  have b1 := svD_bd hok hf (i := x.f.toNat) (j := x.t.toNat) (by omega) (by omega)
  have b2 := svD_bd hok hf (i := x.t.toNat) (j := x.f.toNat) (by omega) (by omega)
  unfold thF
  dsimp only
  omega

/-- A quotient by a number between two others is no less than the least of theirs. -/
theorem div_mid {n a b c : Int} (h1 : 1 ≤ a) (h2 : a ≤ c) (h3 : c ≤ b) : min (n / a) (n / b) ≤ n / c := by
  by_cases hn : 0 ≤ n
  · have : n / b ≤ n / c := by
      rw [Int.le_ediv_iff_mul_le (by omega)]
      have e1 := Int.ediv_mul_le n (show b ≠ 0 by omega)
      have e2 : 0 ≤ n / b := Int.ediv_nonneg hn (by omega)
      have e3 := Int.mul_le_mul_of_nonneg_left h3 e2
      omega
    omega
  · have : n / a ≤ n / c := by
      rw [Int.le_ediv_iff_mul_le (by omega)]
      have e1 := Int.ediv_mul_le n (show a ≠ 0 by omega)
      have e2 : n / a < 0 := Int.ediv_neg_of_neg_of_pos (by omega) (by omega)
      have e3 := Int.mul_le_mul_of_nonpos_left (show n / a ≤ 0 by omega) h2
      omega
    omega
theorem div_bd {n b : Int} (hb : 1 ≤ b) (g1 : -20000000000 ≤ n) (g2 : n ≤ 20000000000) : -20000000000 ≤ n / b ∧ n / b ≤ 20000000000 := by
  constructor
  · rw [Int.le_ediv_iff_mul_le (by omega)]
    have : (20000000000 : Int) * 1 ≤ 20000000000 * b := Int.mul_le_mul_of_nonneg_left hb (by omega)
    omega
  · refine Int.ediv_le_of_le_mul (by omega) ?_
    have : (20000000000 : Int) * 1 ≤ 20000000000 * b := Int.mul_le_mul_of_nonneg_left hb (by omega)
    omega
theorem slp_bd {F G lo hi : Int} (h1 : 1 ≤ lo) (h2 : lo ≤ hi) (f1 : -20000000 ≤ F) (f2 : F ≤ 20000000) (g1 : -20000000 ≤ G) (g2 : G ≤ 20000000) :
    (-20000000000 ≤ (slp F G lo hi).1 ∧ (slp F G lo hi).1 ≤ 20000000000) ∧ (-20000000000 ≤ (slp F G lo hi).2 ∧ (slp F G lo hi).2 ≤ 20000000000) := by
  have k1 := div_bd (n := F * 1000) (b := lo) (by omega) (by omega) (by omega)
  have k2 := div_bd (n := F * 1000) (b := hi) (by omega) (by omega) (by omega)
  have k3 := div_bd (n := -G * 1000) (b := lo) (by omega) (by omega) (by omega)
  have k4 := div_bd (n := -G * 1000) (b := hi) (by omega) (by omega) (by omega)
  unfold slp
  dsimp only
  omega
theorem slp_known {F G lo hi c : Int} (h1 : 1 ≤ lo) (h2 : lo ≤ c) (h3 : c ≤ hi) : (slp F G lo hi).1 ≤ (slp F G c hi).1 ∧ (slp F G c hi).2 ≤ (slp F G lo hi).2 := by
  have a1 := div_mid (n := F * 1000) h1 h2 h3
  have a2 := div_mid (n := -G * 1000) h1 h2 h3
  unfold slp
  dsimp only
  omega
theorem slp_back (F G lo hi : Int) : slp (-G) (-F) lo hi = (-(slp F G lo hi).2, -(slp F G lo hi).1) := by
  unfold slp
  dsimp only
  rw [Int.neg_neg]
  congr 1 <;> omega
theorem slp_long {F G lo hi : Int} (h1 : 1 ≤ lo) (h2 : lo ≤ hi) :
    ((slp F G (2 * lo) (2 * hi)).1 - 1) * 2 ≤ (slp F G lo hi).1 ∧ (slp F G lo hi).1 - 1 ≤ (slp F G (2 * lo) (2 * hi)).1 * 2 ∧ (slp F G lo hi).2 ≤ ((slp F G (2 * lo) (2 * hi)).2 + 1) * 2 ∧ (slp F G (2 * lo) (2 * hi)).2 * 2 ≤ (slp F G lo hi).2 + 1 := by
  have e : ∀ n b : Int, 1 ≤ b → n / (2 * b) = n / b / 2 := fun n b hb => by rw [Int.mul_comm, Int.ediv_ediv_of_nonneg (by omega)]
  have e1 := e (F * 1000) lo (by omega)
  have e2 := e (F * 1000) hi (by omega)
  have e3 := e (-G * 1000) lo (by omega)
  have e4 := e (-G * 1000) hi (by omega)
  unfold slp
  dsimp only
  rw [e1, e2, e3, e4]
  omega
/-- Falls that are told narrower give slopes that are. -/
theorem slp_mono {F G F' G' lo hi : Int} (h1 : 1 ≤ lo) (h2 : lo ≤ hi) (f : F ≤ F') (g : G' ≤ G) : (slp F G lo hi).1 ≤ (slp F' G' lo hi).1 ∧ (slp F' G' lo hi).2 ≤ (slp F G lo hi).2 := by
  have a1 := Int.ediv_le_ediv (show 0 < lo by omega) (show F * 1000 ≤ F' * 1000 by omega)
  have a2 := Int.ediv_le_ediv (show 0 < hi by omega) (show F * 1000 ≤ F' * 1000 by omega)
  have a3 := Int.ediv_le_ediv (show 0 < lo by omega) (show -G * 1000 ≤ -G' * 1000 by omega)
  have a4 := Int.ediv_le_ediv (show 0 < hi by omega) (show -G * 1000 ≤ -G' * 1000 by omega)
  unfold slp
  dsimp only
  omega

/-- What LevelThread's calls answer of a survey whose heights fit. -/
theorem thread_vals {s : Sv} (hok : svOk s = true) (hf : (svD s).2 = true) {k : Nat} {f t lo hi p : Int} (hx : s.threads[k]? = some ⟨f, t, lo, hi⟩) (hp1 : 0 ≤ p) (hp2 : p ≤ hi - lo) :
    ∃ v1 v2 a1 a2 c1 c2 : Int, lvSlope s k = ((v1, v2), 0) ∧ lvSlope (setTh s k ⟨f, t, lo + p, hi⟩) k = ((a1, a2), 0) ∧ lvSlope (setTh s k ⟨t, f, lo, hi⟩) k = ((-v2, -v1), 0) ∧
      (2 * hi ≤ 100000000 → lvSlope (setTh s k ⟨f, t, 2 * lo, 2 * hi⟩) k = ((c1, c2), 0)) ∧ (v1 ≤ a1 ∧ a2 ≤ v2 ∧ (c1 - 1) * 2 ≤ v1 ∧ v1 - 1 ≤ c1 * 2 ∧ v2 ≤ (c2 + 1) * 2 ∧ c2 * 2 ≤ v2 + 1) ∧
      ((-20000000000 ≤ v1 ∧ v1 ≤ 20000000000) ∧ (-20000000000 ≤ v2 ∧ v2 ≤ 20000000000) ∧ (-20000000000 ≤ a1 ∧ a1 ≤ 20000000000) ∧ (-20000000000 ≤ a2 ∧ a2 ≤ 20000000000) ∧ (-20000000000 ≤ c1 ∧ c1 ≤ 20000000000) ∧ (-20000000000 ≤ c2 ∧ c2 ≤ 20000000000)) := by
  obtain ⟨_, _, _, h8⟩ := svOk_spec hok
  have h9 := h8 _ (List.mem_of_getElem? hx)
  have hs := shOk_spec h9
  dsimp only at hs
  obtain ⟨y1, y2, y3, y4, y5, y6, y7, y8⟩ := hs
  have hk : k < s.threads.length := (List.getElem?_eq_some_iff.1 hx).1
  have hb := thF_bd hok hf hx
  have hget : ∀ y, (setTh s k y).threads[k]? = some y := fun y => by simp [setTh, hk]
  have hok2 : ∀ f' t' lo' hi' : Int, shOk s.n 1 100000000 ⟨f', t', lo', hi'⟩ = true ↔ (0 ≤ f' ∧ f' < s.n) ∧ (0 ≤ t' ∧ t' < s.n) ∧ f' ≠ t' ∧ 1 ≤ lo' ∧ lo' ≤ hi' ∧ hi' ≤ 100000000 := fun f' t' lo' hi' => by
    unfold shOk diffB inB spanB
    simp
    omega
  have g1 := setTh_ok hok k ((hok2 f t (lo + p) hi).2 (by omega))
  have g2 := setTh_ok hok k ((hok2 t f lo hi).2 (by omega))
  have e0 := slope_fit hok hf hx
  have e1 := slope_fit g1 hf (hget ⟨f, t, lo + p, hi⟩)
  have e2 := slope_fit g2 hf (hget ⟨t, f, lo, hi⟩)
  have t1 : thF (setTh s k ⟨f, t, lo + p, hi⟩) ⟨f, t, lo + p, hi⟩ = thF s ⟨f, t, lo, hi⟩ := rfl
  have t2 : thF (setTh s k ⟨t, f, lo, hi⟩) ⟨t, f, lo, hi⟩ = (-(thF s ⟨f, t, lo, hi⟩).2, -(thF s ⟨f, t, lo, hi⟩).1) := by
    unfold thF
    rw [setTh_D]
    dsimp only
    rw [Int.neg_neg]
  rw [t1] at e1
  rw [t2] at e2
  dsimp only at e0 e1 e2
  rw [slp_back] at e2
  obtain ⟨F, G, hFG⟩ : ∃ F G, thF s ⟨f, t, lo, hi⟩ = (F, G) := ⟨_, _, rfl⟩
  rw [hFG] at hb e0 e1 e2
  dsimp only at hb e0 e1 e2
  have k0 := slp_bd (F := F) (G := G) (lo := lo) (hi := hi) (by omega) (by omega) (by omega) (by omega) (by omega) (by omega)
  have k1 := slp_bd (F := F) (G := G) (lo := lo + p) (hi := hi) (by omega) (by omega) (by omega) (by omega) (by omega) (by omega)
  have k2 := slp_bd (F := F) (G := G) (lo := 2 * lo) (hi := 2 * hi) (by omega) (by omega) (by omega) (by omega) (by omega) (by omega)
  have m1 := slp_known (F := F) (G := G) (lo := lo) (hi := hi) (c := lo + p) (by omega) (by omega) (by omega)
  have m2 := slp_long (F := F) (G := G) (lo := lo) (hi := hi) (by omega) (by omega)
  refine ⟨_, _, _, _, (slp F G (2 * lo) (2 * hi)).1, (slp F G (2 * lo) (2 * hi)).2, e0, e1, e2, fun h => ?_, ?_, ?_⟩
  · have g3 := setTh_ok hok k ((hok2 f t (2 * lo) (2 * hi)).2 (by omega))
    have e3 := slope_fit g3 hf (hget ⟨f, t, 2 * lo, 2 * hi⟩)
    have t3 : thF (setTh s k ⟨f, t, 2 * lo, 2 * hi⟩) ⟨f, t, 2 * lo, 2 * hi⟩ = thF s ⟨f, t, lo, hi⟩ := rfl
    rw [t3, hFG] at e3
    exact e3
  · exact ⟨m1.1, m1.2, m2⟩
  · exact ⟨k0.1, k0.2, k1.1, k1.2, k2.1, k2.2⟩

end Go.Proofs.Ytaoonfmcimkmhaa
