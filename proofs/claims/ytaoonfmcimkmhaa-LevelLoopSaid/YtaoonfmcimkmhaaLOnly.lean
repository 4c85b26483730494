/- Some readings alone: the survey with just those, in Lean's words. No condition. -/
import Derived.Test.YtaoonfmcimkmhaaLReach
import Derived.Test.YtaoonfmcimkmhaaFloat
set_option linter.unusedVariables false
namespace Go.Proofs.Ytaoonfmcimkmhaa
open Go.RowKit

/-- Shots, and marks, whose numbers a list holds, in its order. -/
def onSh (s : Sv) (l : List Int) : List Sh := l.filterMap fun k => if k < (s.shots.length : Int) then s.shots[k.toNat]? else none
def onMk (s : Sv) (l : List Int) : List Mk := l.filterMap fun k => if k < (s.shots.length : Int) then none else s.marks[(k - (s.shots.length : Int)).toNat]?
def onlyS (s : Sv) (l : List Int) : Sv := ⟨s.n, onSh s l, onMk s l, []⟩
theorem onSh_yes {s : Sv} {l : List Int} {k : Int} {x : Sh} (h : k < (s.shots.length : Int)) (hx : s.shots[k.toNat]? = some x) : onSh s (l ++ [k]) = onSh s l ++ [x] ∧ onMk s (l ++ [k]) = onMk s l := by
  simp only [onSh, onMk, List.filterMap_append, List.filterMap_cons, List.filterMap_nil, if_pos h, hx, List.append_nil, and_self]
theorem onSh_no {s : Sv} {l : List Int} {k : Int} {x : Mk} (h : ¬ k < (s.shots.length : Int)) (hx : s.marks[(k - (s.shots.length : Int)).toNat]? = some x) : onSh s (l ++ [k]) = onSh s l ∧ onMk s (l ++ [k]) = onMk s l ++ [x] := by
  simp only [onSh, onMk, List.filterMap_append, List.filterMap_cons, List.filterMap_nil, if_neg h, hx, List.append_nil, and_self]
theorem onSh_len (s : Sv) (l : List Int) : (onSh s l).length ≤ l.length := List.length_filterMap_le _ _
theorem onMk_len (s : Sv) (l : List Int) : (onMk s l).length ≤ l.length := List.length_filterMap_le _ _

/-- The heights that fit those readings: as if all others were left out. -/
theorem fit_only {s : Sv} {l : List Int} (hl : ∀ k ∈ l, 0 ≤ k ∧ k < (s.shots.length : Int) + (s.marks.length : Int)) (f : Nat → Int) :
    FitSv (onlyS s l) (fun _ => false) 0 f ↔ FitSv s (fun j => !l.contains (j : Int)) 0 f := by
  rw [fitSv_mem]
  show (Within s.n.toNat f ∧ (∀ x ∈ onSh s l, Holds 0 x f) ∧ ∀ m ∈ onMk s l, Holds 0 ⟨s.n, m.p, m.lo, m.hi⟩ f) ↔ _
  constructor
  · rintro ⟨h1, h2, h3⟩
    refine ⟨h1, fun k hk ho => ?_⟩
    have hkl : (k : Int) ∈ l := by simpa using ho
    unfold rdAt
    by_cases hs : k < s.shots.length
    · rw [dif_pos hs]
      refine h2 _ ?_
      unfold onSh
      rw [List.mem_filterMap]
      exact ⟨k, hkl, by rw [if_pos (by omega), Int.toNat_natCast, List.getElem?_eq_getElem hs]⟩
    · rw [dif_neg hs, dif_pos (by omega)]
      refine h3 _ ?_
      unfold onMk
      rw [List.mem_filterMap]
      have e : ((k : Int) - (s.shots.length : Int)).toNat = k - s.shots.length := by omega
      exact ⟨k, hkl, by rw [if_neg (by omega), e, List.getElem?_eq_getElem (by omega)]⟩
  · rintro ⟨h1, h2⟩
    refine ⟨h1, fun x hx => ?_, fun m hm => ?_⟩
    · unfold onSh at hx
      rw [List.mem_filterMap] at hx
      obtain ⟨k, hk, hx⟩ := hx
      have hk2 := hl k hk
      have hkn : ((k.toNat : Nat) : Int) = k := by omega
      have hkc : l.contains k = true := by rw [List.contains_iff_mem]; exact hk
      split at hx
      · have h3 := h2 k.toNat (by omega) (show (!l.contains ((k.toNat : Nat) : Int)) = false by rw [hkn, hkc]; rfl)
        unfold rdAt at h3
        rw [dif_pos (by omega)] at h3
        rw [List.getElem?_eq_getElem (by omega)] at hx
        injection hx with hx
        subst hx
        exact h3
      · cases hx
    · unfold onMk at hm
      rw [List.mem_filterMap] at hm
      obtain ⟨k, hk, hx⟩ := hm
      have hk2 := hl k hk
      have hkn : ((k.toNat : Nat) : Int) = k := by omega
      have hkc : l.contains k = true := by rw [List.contains_iff_mem]; exact hk
      split at hx
      · cases hx
      · have h3 := h2 k.toNat (by omega) (show (!l.contains ((k.toNat : Nat) : Int)) = false by rw [hkn, hkc]; rfl)
        have e : (k - (s.shots.length : Int)).toNat = k.toNat - s.shots.length := by omega
        unfold rdAt at h3
        rw [dif_neg (by omega), dif_pos (by omega)] at h3
        rw [e, List.getElem?_eq_getElem (by omega)] at hx
        injection hx with hx
        subst hx
        exact h3
theorem onlyS_ok {s : Sv} (hok : svOk s = true) {l : List Int} (h1 : (onSh s l).length ≤ 60) (h2 : (onMk s l).length ≤ 20) : svOk (onlyS s l) = true := by
  obtain ⟨⟨g1, g2, g3, g4, g5⟩, g6, g7, g8⟩ := svOk_spec hok
  rw [svOk_iff]
  refine ⟨⟨g1, g2, h1, h2, Nat.zero_le _⟩, fun x hx => ?_, fun x hx => ?_, fun x hx => by cases hx⟩
  · have hx2 : x ∈ onSh s l := hx
    unfold onSh at hx2
    rw [List.mem_filterMap] at hx2
    obtain ⟨k, _, h⟩ := hx2
    split at h
    · exact g6 x (List.mem_of_getElem? h)
    · cases h
  · have hx2 : x ∈ onMk s l := hx
    unfold onMk at hx2
    rw [List.mem_filterMap] at hx2
    obtain ⟨k, _, h⟩ := hx2
    split at h
    · cases h
    · exact g7 x (List.mem_of_getElem? h)

/-- Of the readings that are named: their numbers, in order; what is left out, is not named. -/
theorem clL_mem (F : (Nat → Bool) → Bool) : ∀ n, (∀ k ∈ clL F n, 0 ≤ k ∧ k < (n : Int)) ∧ (∀ j : Nat, j < n → clOut F n j = !(clL F n).contains (j : Int)) ∧ ∀ j : Nat, n ≤ j → clOut F n j = false
  | 0 => ⟨by simp [clL], by simp, fun _ _ => rfl⟩
  | n + 1 => by
    obtain ⟨h1, h2, h3⟩ := clL_mem F n
    cases h : F (upB (clOut F n) n true)
    · obtain ⟨e1, e2⟩ := clOut_no h
      rw [e1, e2]
      refine ⟨fun k hk => by have := h1 k hk; omega, fun j hj => ?_, fun j hj => ?_⟩
      · unfold upB
        split
        · rename_i e
          subst e
          have : ¬ (j : Int) ∈ clL F j := fun hm => by have := h1 _ hm; omega
          simp [this]
        · exact h2 j (by omega)
      · unfold upB
        rw [if_neg (by omega)]
        exact h3 j (by omega)
    · obtain ⟨e1, e2⟩ := clOut_yes h
      rw [e1, e2]
      refine ⟨fun k hk => ?_, fun j hj => ?_, fun j hj => ?_⟩
      · rcases List.mem_append.1 hk with hk | hk
        · have := h1 k hk
          omega
        · have := List.mem_singleton.1 hk
          omega
      · unfold upB
        by_cases e : j = n
        · rw [if_pos e, e]
          simp
        · rw [if_neg e, if_neg e, h2 j (by omega)]
          have : ¬ ((j : Int) = (n : Int)) := by omega
          simp [this]
      · unfold upB
        rw [if_neg (by omega), if_neg (by omega)]
        exact h3 j (by omega)
theorem clL_sorted (F : (Nat → Bool) → Bool) : ∀ n, (clL F n).Pairwise (· < ·)
  | 0 => by simp [clL]
  | n + 1 => by
    cases h : F (upB (clOut F n) n true)
    · rw [(clOut_no h).2]
      exact clL_sorted F n
    · rw [(clOut_yes h).2, List.pairwise_append]
      refine ⟨clL_sorted F n, by simp, fun a ha b hb => ?_⟩
      have h1 := (clL_mem F n).1 a ha
      have h2 := List.mem_singleton.1 hb
      omega
/-- What is left out stays out: with fewer left out, it does not fit. -/
theorem clOut_not {F : (Nat → Bool) → Bool} (h0 : F (fun _ => false) = false) : ∀ n, F (clOut F n) = false
  | 0 => h0
  | n + 1 => by
    have hn := clOut_not h0 n
    cases h : F (upB (clOut F n) n true)
    · rw [(clOut_no h).1]
      exact h
    · have e : upB (upB (clOut F n) n true) n false = clOut F n := by
        funext j
        unfold upB
        by_cases e : j = n
        · rw [if_pos e, e, ((clL_mem F n).2.2 n (Nat.le_refl _))]
        · rw [if_neg e, if_neg e]
      rw [(clOut_yes h).1, e]
      exact hn
/-- Without any one that is named, the others that are named fit. -/
theorem clOut_one {F : (Nat → Bool) → Bool} (hmono : ∀ o o' : Nat → Bool, (∀ j, o j = true → o' j = true) → F o = true → F o' = true) : ∀ n, ∀ k : Nat, (k : Int) ∈ clL F n → F (upB (clOut F n) k true) = true
  | 0, k, hk => by simp [clL] at hk
  | n + 1, k, hk => by
    have hle : ∀ j, clOut F n j = true → clOut F (n + 1) j = true := fun j hj => by
      cases h : F (upB (clOut F n) n true)
      · rw [(clOut_no h).1]
        unfold upB
        split
        · rfl
        · exact hj
      · rw [(clOut_yes h).1]
        unfold upB
        by_cases e : j = n
        · rw [e, (clL_mem F n).2.2 n (Nat.le_refl _)] at hj
          cases hj
        · rw [if_neg e, if_neg e]
          exact hj
    have hup : ∀ j, upB (clOut F n) k true j = true → upB (clOut F (n + 1)) k true j = true := fun j hj => by
      unfold upB at hj ⊢
      split
      · rfl
      · rename_i e
        rw [if_neg e] at hj
        exact hle j hj
    cases h : F (upB (clOut F n) n true)
    · rw [(clOut_no h).2] at hk
      exact hmono _ _ hup (clOut_one hmono n k hk)
    · rw [(clOut_yes h).2] at hk
      rcases List.mem_append.1 hk with hk | hk
      · exact hmono _ _ hup (clOut_one hmono n k hk)
      · have e : k = n := by have := List.mem_singleton.1 hk; omega
        subst e
        exact hmono _ _ hup h

theorem fitB_mono {s : Sv} (hok : svOk s = true) (o o' : Nat → Bool) (h : ∀ j, o j = true → o' j = true) (hf : fitB s o = true) : fitB s o' = true := by
  obtain ⟨f, h1, h2⟩ := (wkD_iff hok (by omega) (by omega)).1 hf
  refine (wkD_iff hok (by omega) (by omega)).2 ⟨f, h1, fun k hk ho => h2 k hk ?_⟩
  cases e : o k
  · rfl
  · rw [h k e] at ho
    cases ho
theorem fitB_congr {s : Sv} (hok : svOk s = true) (o o' : Nat → Bool) (h : ∀ j, j < s.shots.length + s.marks.length → o j = o' j) : fitB s o = fitB s o' := by
  rw [Bool.eq_iff_iff]
  unfold fitB
  rw [wkD_iff hok (by omega) (by omega), wkD_iff hok (by omega) (by omega)]
  constructor
  · rintro ⟨f, h1, h2⟩
    exact ⟨f, h1, fun k hk ho => h2 k hk (by rw [h k hk]; exact ho)⟩
  · rintro ⟨f, h1, h2⟩
    exact ⟨f, h1, fun k hk ho => h2 k hk (by rw [← h k hk]; exact ho)⟩
theorem only_fit {s : Sv} (hok : svOk s = true) {l : List Int} (hl : ∀ k ∈ l, 0 ≤ k ∧ k < (s.shots.length : Int) + (s.marks.length : Int)) (h1 : (onSh s l).length ≤ 60) (h2 : (onMk s l).length ≤ 20) :
    (svD (onlyS s l)).2 = fitB s (fun j => !l.contains (j : Int)) := by
  rw [Bool.eq_iff_iff, svD_iff (onlyS_ok hok h1 h2)]
  unfold fitB
  rw [wkD_iff hok (by omega) (by omega)]
  exact exists_congr fun f => fit_only hl f

theorem onSh_cons (s : Sv) (x : Int) (l : List Int) : onSh s (x :: l) = onSh s [x] ++ onSh s l := by
  unfold onSh
  rw [← List.filterMap_append]
  rfl
theorem onMk_cons (s : Sv) (x : Int) (l : List Int) : onMk s (x :: l) = onMk s [x] ++ onMk s l := by
  unfold onMk
  rw [← List.filterMap_append]
  rfl
theorem onSh_sorted (s : Sv) : ∀ (l : List Int) (a : Int), l.Pairwise (· < ·) → (∀ k ∈ l, a ≤ k) → (onSh s l).length ≤ ((s.shots.length : Int) - a).toNat
  | [], _, _, _ => by simp [onSh]
  | x :: l, a, hp, ha => by
    rw [List.pairwise_cons] at hp
    have h1 := onSh_sorted s l (x + 1) hp.2 (fun k hk => by have := hp.1 k hk; omega)
    have h2 := ha x (by simp)
    rw [onSh_cons, List.length_append]
    by_cases hx : x < (s.shots.length : Int)
    · have h3 : (onSh s [x]).length ≤ 1 := onSh_len s [x]
      omega
    · have h3 : onSh s [x] = [] := by simp [onSh, hx]
      rw [h3, List.length_nil]
      omega
theorem onMk_sorted (s : Sv) : ∀ (l : List Int) (a : Int), l.Pairwise (· < ·) → (∀ k ∈ l, a ≤ k) → (onMk s l).length ≤ ((s.shots.length : Int) + s.marks.length - max a s.shots.length).toNat
  | [], _, _, _ => by simp [onMk]
  | x :: l, a, hp, ha => by
    rw [List.pairwise_cons] at hp
    have h1 := onMk_sorted s l (x + 1) hp.2 (fun k hk => by have := hp.1 k hk; omega)
    have h2 := ha x (by simp)
    rw [onMk_cons, List.length_append]
    by_cases hx : x < (s.shots.length : Int)
    · have h3 : onMk s [x] = [] := by simp [onMk, hx]
      rw [h3, List.length_nil]
      omega
    · by_cases hm : x < (s.shots.length : Int) + s.marks.length
      · have h3 : (onMk s [x]).length ≤ 1 := onMk_len s [x]
        omega
      · have h3 : onMk s [x] = [] := by
          have : s.marks.length ≤ (x - (s.shots.length : Int)).toNat := by omega
          simp only [onMk, List.filterMap_cons, List.filterMap_nil, if_neg hx, List.getElem?_eq_none this]
        rw [h3, List.length_nil]
        omega
theorem on_small {s : Sv} (hok : svOk s = true) {l : List Int} (hp : l.Pairwise (· < ·)) (hl : ∀ k ∈ l, 0 ≤ k) : (onSh s l).length ≤ 60 ∧ (onMk s l).length ≤ 20 := by
  obtain ⟨⟨_, _, g3, g4, _⟩, _⟩ := svOk_spec hok
  have h1 := onSh_sorted s l 0 hp hl
  have h2 := onMk_sorted s l 0 hp hl
  omega

/-- What LevelNamed's calls answer where heights do not fit. -/
theorem named_vals {s : Sv} (hok : svOk s = true) (hf : (svD s).2 = false) : ∃ CL : List Int, lvClash s = (CL, 0) ∧ 0 < CL.length ∧ CL.length ≤ 80 ∧ (∀ k ∈ CL, 0 ≤ k ∧ k < (s.shots.length : Int) + (s.marks.length : Int)) ∧ CL.Pairwise (· < ·) ∧
    lvHeights (onlyS s CL) = ([], 11) ∧ ∀ i, i < CL.length → ∃ L, lvHeights (onlyS s (CL.take i ++ CL.drop (i + 1))) = (L, 0) := by
  have h0 : fitB s (fun _ => false) = false := hf
  obtain ⟨⟨_, _, g3, g4, _⟩, _⟩ := svOk_spec hok
  obtain ⟨N, hN⟩ : ∃ N, s.shots.length + s.marks.length = N := ⟨_, rfl⟩
  obtain ⟨CL, hCL⟩ : ∃ CL, clL (fitB s) N = CL := ⟨_, rfl⟩
  have hlen := clL_len (fitB s) N
  obtain ⟨m1, m2, m3⟩ := clL_mem (fitB s) N
  have hs := clL_sorted (fitB s) N
  have hno := clOut_not h0 N
  have hone := fun k => clOut_one (F := fitB s) (fun o o' => fitB_mono hok o o') N k
  rw [hCL] at hlen m1 m2 hs hone
  have hr : ∀ k ∈ CL, 0 ≤ k ∧ k < (s.shots.length : Int) + (s.marks.length : Int) := fun k hk => by have := m1 k hk; omega
  have hsm := on_small hok hs (fun k hk => (hr k hk).1)
  have hD : (svD (onlyS s CL)).2 = false := by
    rw [only_fit hok hr hsm.1 hsm.2, ← hno]
    exact fitB_congr hok _ _ fun j hj => (m2 j (by omega)).symm
  have hclash := lvClash_some hok h0
  rw [hN, hCL] at hclash
  refine ⟨CL, hclash, ?_, by omega, hr, hs, ?_, fun i hi => ?_⟩
  · rcases Nat.eq_zero_or_pos CL.length with h | h
    · have h1 : CL = [] := List.eq_nil_of_length_eq_zero h
      have hz : FitSv s (fun j => !CL.contains (j : Int)) 0 (fun _ => 0) := ⟨fun i _ => by dsimp only; omega, fun k _ ho => by rw [h1] at ho; simp at ho⟩
      have h2 : (svD (onlyS s CL)).2 = true := (svD_iff (onlyS_ok hok hsm.1 hsm.2)).2 ⟨fun _ => 0, (fit_only hr _).2 hz⟩
      rw [hD] at h2
      cases h2
    · exact h
  · exact lvHeights_apart (onlyS_ok hok hsm.1 hsm.2) hD
  · have hsub : (CL.take i ++ CL.drop (i + 1)).Sublist CL := by rw [← List.eraseIdx_eq_take_drop_succ]; exact List.eraseIdx_sublist _ _
    have hr2 : ∀ k ∈ CL.take i ++ CL.drop (i + 1), 0 ≤ k ∧ k < (s.shots.length : Int) + (s.marks.length : Int) := fun k hk => hr k (hsub.subset hk)
    have hs2 := hs.sublist hsub
    have hsm2 := on_small hok hs2 (fun k hk => (hr2 k hk).1)
    have hx := hr _ (List.getElem_mem hi)
    have hmem : ((CL[i].toNat : Nat) : Int) ∈ CL := by
      have : ((CL[i].toNat : Nat) : Int) = CL[i] := by omega
      rw [this]
      exact List.getElem_mem hi
    refine ⟨_, lvHeights_fit (onlyS_ok hok hsm2.1 hsm2.2) ?_⟩
    rw [only_fit hok hr2 hsm2.1 hsm2.2, ← hone CL[i].toNat hmem]
    refine fitB_congr hok _ _ fun j hj => ?_
    have hCLsplit : CL = CL.take i ++ CL[i] :: CL.drop (i + 1) := by rw [List.getElem_cons_drop, List.take_append_drop]
    have hnd : ¬ CL[i] ∈ CL.take i ++ CL.drop (i + 1) := by
      intro hm
      rw [hCLsplit, List.pairwise_append, List.pairwise_cons] at hs
      rcases List.mem_append.1 hm with h | h
      · have := hs.2.2 _ h CL[i] (List.mem_cons.2 (.inl rfl))
        omega
      · have := hs.2.1.1 _ h
        omega
    unfold upB
    by_cases e : j = CL[i].toNat
    · rw [if_pos e]
      have e2 : (j : Int) = CL[i] := by omega
      have h3 : (CL.take i ++ CL.drop (i + 1)).contains (j : Int) = false := by
        rw [e2, ← Bool.not_eq_true, List.contains_iff_mem]
        exact hnd
      rw [h3]
      rfl
    · rw [if_neg e, m2 j (by omega)]
      congr 1
      rw [Bool.eq_iff_iff, List.contains_iff_mem, List.contains_iff_mem]
      constructor
      · exact fun h => hsub.subset h
      · intro h
        rw [hCLsplit] at h
        rcases List.mem_append.1 h with h | h
        · exact List.mem_append.2 (.inl h)
        · rcases List.mem_cons.1 h with h | h
          · omega
          · exact List.mem_append.2 (.inr h)

end Go.Proofs.Ytaoonfmcimkmhaa

/- LevelNamed's closure: the survey with some readings alone. Condition: the slices read below the heap's end, and the numbers are those of readings. -/
set_option linter.unusedVariables false
set_option linter.unusedSimpArgs false
namespace Go.Proofs.Ytaoonfmcimkmhaa
open Go.RowKit

theorem own_apart2 {v u u' : Value} {n : Nat} (h : u'.ownBlock = u.ownBlock ∨ u'.ownBlock = some n) (hv : ∀ k, v.ownBlock = some k → k < n) (hd : ∀ k, v.ownBlock = some k → u.ownBlock ≠ some k) : ∀ k, v.ownBlock = some k → u'.ownBlock ≠ some k := fun k hk e => by
  rcases h with h | h
  · exact hd k hk (h.symm.trans e)
  · have h2 := h.symm.trans e
    injection h2 with h2
    have := hv k hk
    omega
theorem keep_ne {v u : Value} (hd : ∀ k, v.ownBlock = some k → u.ownBlock ≠ some k) : v.ownBlock = none ∨ v.ownBlock ≠ u.ownBlock := by
  cases hv : v.ownBlock with
  | none => exact .inl rfl
  | some k => exact .inr fun e => hd k hv e.symm

set_option maxRecDepth 100000 in
set_option maxHeartbeats 8000000 in
theorem only_any (s : Sv) (l : List Int) (gs cl c1 c2 c3 : Nat) (AL A1 A2 A3 : Option Addr) (w : World)
    (HS : w.heap[gs]? = some (.cells #[.int .i64 s.n, .slice A1 s.shots.length c1, .slice A2 s.marks.length c2, .slice A3 s.threads.length c3] 26 (0, 0))) (rl : Rd w w.heap.size AL inV 1 l)
    (r1 : Rd w w.heap.size A1 shV 4 s.shots) (r2 : Rd w w.heap.size A2 mkV 3 s.marks) (l1 : s.shots.length ≤ 100) (l2 : s.marks.length ≤ 100) (l3 : l.length ≤ 1000)
    (hl : ∀ k ∈ l, 0 ≤ k ∧ k < (s.shots.length : Int) + (s.marks.length : Int)) :
    Calls Try.prog 42 #[.slice AL l.length cl, .pointer (some ⟨gs, 0, none⟩)] w fun e w' => (∃ B1 B2 d1 d2, e = .returned (.agg #[.int .i64 s.n, .slice B1 (onSh s l).length d1, .slice B2 (onMk s l).length d2, .slice none 0 0]) ∧
      Rd w' w'.heap.size B1 shV 4 (onSh s l) ∧ Rd w' w'.heap.size B2 mkV 3 (onMk s l)) ∧ Below w.heap.size w w' := by
  have R1 := Lib.hid r1
  have R2 := Lib.hid r2
  have RL := Lib.hid rl
  have KS := Lib.hid HS
  have HL := Lib.hid hl
  have s0 : w.cell? ⟨gs, 0, none⟩ = some (.int .i64 s.n) := cell_of_row w gs 0 _ _ _ HS
  have lts := (Array.getElem?_eq_some_iff.1 HS).1
  obtain ⟨i1, hi1, hz11, hz12, hz13⟩ := info_parts infoShot
  have I1 := Lib.hid (And.intro hi1 (And.intro hz11 (And.intro hz12 hz13)))
  obtain ⟨i2, hi2, hz21, hz22, hz23⟩ := info_parts infoMark
  have I2 := Lib.hid (And.intro hi2 (And.intro hz21 (And.intro hz22 hz23)))
  clear r1 r2 rl HS hl hi1 hz11 hz12 hz13 hi2 hz21 hz22 hz23
  go_enter Try.func42, Try.ntmps42
  go_upto_region 2 with fail
  obtain ⟨w2, hw2⟩ : ∃ w2, (w.alloc (.cells #[.int .i64 0, .slice none 0 0, .slice none 0 0, .slice none 0 0] 26)).alloc (.cells #[.int .i64 s.n, .slice none 0 0, .slice none 0 0, .slice none 0 0] 26) = w2 := ⟨_, rfl⟩
  rw [hw2]
  have T0 : w2.heap[w.heap.size + 1]? = some (.cells #[.int .i64 s.n, .slice none 0 0, .slice none 0 0, .slice none 0 0] 26 (0, 0)) := by rw [← hw2]; exact heap_alloc2_new _ _ _
  have RR0 : w2.heap[w.heap.size]? = some (.cells #[.int .i64 0, .slice none 0 0, .slice none 0 0, .slice none 0 0] 26 (0, 0)) := by rw [← hw2]; exact heap_alloc2_old _ _ _
  have hb2 : Below w.heap.size w w2 := by rw [← hw2]; (repeat' (first | (with_reducible exact Below.refl _ _) | (with_reducible refine Below.alloc ?_ ?_ _) | (with_reducible refine Below.drew ?_) | (with_reducible refine Below.drewN_ ?_ _) | (with_reducible refine Below.setCell ?_ ?_ _) | (with_reducible refine Below.setRow ?_ ?_ _) | (with_reducible refine Below.via ?_ (by with_reducible assumption) ?_) | go_size))
  have hz2 : w2.heap.size = w.heap.size + 2 := by rw [← hw2]; simp
  obtain ⟨B, hB⟩ : ∃ B, w2.heap.size = B := ⟨_, rfl⟩
  have HB := Lib.hid hB
  have hBw : w.heap.size + 1 < B := by omega
  have T0h := Lib.hid T0
  have RR0h := Lib.hid RR0
  clear hw2 hz2 hB T0 RR0 s0
  go_wp2
  go_loopw [12] (fun v12 W => ∃ (k : Nat) (A' B' : Option Addr) (da db : Nat), k ≤ l.length ∧ v12 = .int .i64 k ∧ W.heap[w.heap.size + 1]? = some (.cells #[.int .i64 s.n, .slice A' (onSh s (l.take k)).length da, .slice B' (onMk s (l.take k)).length db, .slice none 0 0] 26 (0, 0)) ∧
      Own W B 78 (.slice A' (onSh s (l.take k)).length da) shV 4 (onSh s (l.take k)) ∧ Own W B 75 (.slice B' (onMk s (l.take k)).length db) mkV 3 (onMk s (l.take k)) ∧
      (∀ g, (Value.slice A' (onSh s (l.take k)).length da).ownBlock = some g → (Value.slice B' (onMk s (l.take k)).length db).ownBlock ≠ some g) ∧ Below w.heap.size w W ∧ B ≤ W.heap.size ∧
      W.heap[w.heap.size]? = some (.cells #[.int .i64 0, .slice none 0 0, .slice none 0 0, .slice none 0 0] 26 (0, 0))) (fun i _ => l.length - (intOf i).toNat)
  case atStart =>
    exact ⟨0, none, none, 0, 0, by omega, rfl, T0h.out, Own.nil_ _ _ _ _ _, Own.nil_ _ _ _ _ _, (fun g hg => by simp [Value.ownBlock] at hg), hb2, by rw [HB.out]; exact Nat.le_refl _, RR0h.out⟩
  case round =>
    obtain ⟨k, A', B', da, db, hk, rfl, hT, hO1, hO2, hD, hbW, hBW, hRR⟩ := hrel
    have O1 := Lib.hid hO1
    have O2 := Lib.hid hO2
    have HD := Lib.hid hD
    have HT := Lib.hid hT
    have HRR := Lib.hid hRR
    have hn1 := onSh_len s (l.take k)
    have hn2 := onMk_len s (l.take k)
    have hn3 : (l.take k).length ≤ 1000 := by rw [List.length_take]; omega
    have L1 := Lib.hid (show ∀ g, (Value.slice A' (onSh s (l.take k)).length da).ownBlock = some g → g < wr.heap.size from fun g hg => (hO1.lt g hg).2)
    have L2 := Lib.hid (show ∀ g, (Value.slice B' (onMk s (l.take k)).length db).ownBlock = some g → g < wr.heap.size from fun g hg => (hO2.lt g hg).2)
    clear hO1 hO2 hD hT hRR
    by_cases hlt : k < l.length
    · obtain ⟨bl, ol, rfl, hbl, hcell⟩ := ((RL.out.below hbW).more hbW.size).at_ hlt
      have q0 := hcell 0 _ rfl
      simp only [Nat.add_zero, Nat.mul_one] at q0
      clear hcell
      obtain ⟨x, hx⟩ : ∃ x, l[k] = x := ⟨_, rfl⟩
      have hxr := HL.out _ (List.getElem_mem hlt)
      have hT1 : l.take (k + 1) = l.take k ++ [x] := by rw [List.take_add_one, List.getElem?_eq_getElem hlt, hx]; rfl
      have HT1 := Lib.hid hT1
      rw [hx] at q0 hxr
      obtain ⟨hx0, hx1⟩ := hxr
      have KW := Lib.hid (KS.out |> fun h => (hbW.block gs lts).trans h)
      have p0 : wr.cell? ⟨gs, 0, none⟩ = some (.int .i64 s.n) := cell_of_row wr gs 0 _ _ _ KW.out
      have p1 : wr.cell? ⟨gs, 1, none⟩ = some (.slice A1 s.shots.length c1) := cell_of_row wr gs 1 _ _ _ KW.out
      have p2 : wr.cell? ⟨gs, 2, none⟩ = some (.slice A2 s.marks.length c2) := cell_of_row wr gs 2 _ _ _ KW.out
      have m1 : wr.cell? ⟨w.heap.size + 1, 1, none⟩ = some (.slice A' (onSh s (l.take k)).length da) := cell_of_row wr _ 1 _ _ _ HT.out
      have m2 : wr.cell? ⟨w.heap.size + 1, 2, none⟩ = some (.slice B' (onMk s (l.take k)).length db) := cell_of_row wr _ 2 _ _ _ HT.out
      have ltsW := Nat.lt_of_lt_of_le lts hbW.size
      have ltT : w.heap.size + 1 < wr.heap.size := by omega
      clear hx hT1
      by_cases hxs : x < (s.shots.length : Int)
      · obtain ⟨q, rfl⟩ := Int.eq_ofNat_of_zero_le hx0
        have hq : q < s.shots.length := by omega
        obtain ⟨y, hy⟩ : ∃ y, s.shots[q]? = some y := ⟨_, List.getElem?_eq_getElem hq⟩
        have hon := onSh_yes (s := s) (l := l.take k) (k := (q : Int)) hxs (by rw [Int.toNat_natCast]; exact hy)
        obtain ⟨b1, o1, rfl, hb1, hc1⟩ := ((R1.out.below hbW).more hbW.size) (by omega)
        have e := hc1 q y hy
        have e0 := e 0 _ rfl
        have e1 := e 1 _ rfl
        have e2 := e 2 _ rfl
        have e3 := e 3 _ rfl
        simp only [Nat.add_zero] at e0
        have HON := Lib.hid hon
        have hxI : (q : Int) < (s.shots.length : Int) := by omega
        clear hc1 e hon hy
        go_upto_region 6 with fail
        refine (wpIn_wide (n := 3)).1 ?_
        refine wpIn_region_planYA (X := Nat) (by kernel_rfl) 8 (by decide +kernel) (by decide +kernel) (by omega)
          (fun x' i => if i = 7 then .slice (some ⟨x', 0, none⟩) 1 1 else (#[.pointer (some ⟨w.heap.size + 1, 1, none⟩), .slice A' (onSh s (l.take k)).length da, .pointer (some ⟨gs, 1, none⟩), .slice (some ⟨b1, o1, none⟩) s.shots.length c1, .int .i64 (q : Int), .pointer (some ⟨b1, o1 + q * 4, none⟩), .agg #[.int .i64 y.f, .int .i64 y.t, .int .i64 y.lo, .int .i64 y.hi], undef] : Array Value).getD i undef)
          (fun L x' W => Below wr.heap.size wr W ∧ (L 7 = true → W.heap[x']? = some (.cells #[.int .i64 y.f, .int .i64 y.t, .int .i64 y.lo, .int .i64 y.hi] 78 (0, 0)))) _ _ 0 ?aF1 ?hA1 ?hS1 ?hstep1 ?htail1
        case hA1 => intro x'; simp [putTo, putIf, dstAt, Act.put, List.range_succ]; rfl
        case hS1 => exact fun L hL => ⟨(Below.refl _ _).drew, fun h => (by rw [hL] at h; cases h)⟩
        case hstep1 =>
          intro i o' hi ho L x' W hL hcl hdep hW
          obtain ⟨hW, hW11⟩ := hW
          have HW11 := Lib.hid hW11
          clear hW11 hcl hdep
          have hzW := hW.size
          refine ⟨fun _ _ => trivial, ?_⟩
          have pp1 := (hW.cell (p := ⟨gs, 1, none⟩) ltsW).trans p1
          have pp2 := (hW.cell (p := ⟨gs, 2, none⟩) ltsW).trans p2
          have mm1 := (hW.cell (p := ⟨w.heap.size + 1, 1, none⟩) ltT).trans m1
          have mm2 := (hW.cell (p := ⟨w.heap.size + 1, 2, none⟩) ltT).trans m2
          have ee0 := (hW.cell (p := ⟨b1, o1 + q * 4, none⟩) hb1).trans e0
          have ee1 := (hW.cell (p := ⟨b1, o1 + q * 4 + 1, none⟩) hb1).trans e1
          have ee2 := (hW.cell (p := ⟨b1, o1 + q * 4 + 2, none⟩) hb1).trans e2
          have ee3 := (hW.cell (p := ⟨b1, o1 + q * 4 + 3, none⟩) hb1).trans e3
          match i, hi, ho with
          | 0, _, ho => simp only [List.getElem?_toArray, List.getElem?_cons_succ, List.getElem?_cons_zero, Option.some.injEq] at ho; subst ho; go_simp; exact ⟨x', fun _ _ => rfl, rfl, hW, fun h => HW11.out (by simpa using h)⟩
          | 1, _, ho => simp only [List.getElem?_toArray, List.getElem?_cons_succ, List.getElem?_cons_zero, Option.some.injEq] at ho; subst ho; go_simp; exact ⟨x', fun _ _ => rfl, rfl, hW, fun h => HW11.out (by simpa using h)⟩
          | 2, _, ho => simp only [List.getElem?_toArray, List.getElem?_cons_succ, List.getElem?_cons_zero, Option.some.injEq] at ho; subst ho; go_simp; exact ⟨x', fun _ _ => rfl, rfl, hW, fun h => HW11.out (by simpa using h)⟩
          | 3, _, ho => simp only [List.getElem?_toArray, List.getElem?_cons_succ, List.getElem?_cons_zero, Option.some.injEq] at ho; subst ho; go_simp; exact ⟨x', fun _ _ => rfl, rfl, hW, fun h => HW11.out (by simpa using h)⟩
          | 4, _, ho => simp only [List.getElem?_toArray, List.getElem?_cons_succ, List.getElem?_cons_zero, Option.some.injEq] at ho; subst ho; go_simp; exact ⟨x', fun _ _ => rfl, rfl, hW, fun h => HW11.out (by simpa using h)⟩
          | 5, _, ho => simp only [List.getElem?_toArray, List.getElem?_cons_succ, List.getElem?_cons_zero, Option.some.injEq] at ho; subst ho; go_simp; exact ⟨x', fun _ _ => rfl, rfl, hW, fun h => HW11.out (by simpa using h)⟩
          | 6, _, ho => simp only [List.getElem?_toArray, List.getElem?_cons_succ, List.getElem?_cons_zero, Option.some.injEq] at ho; subst ho; go_simp; exact ⟨x', fun _ _ => rfl, rfl, hW, fun h => HW11.out (by simpa using h)⟩
          | 7, _, ho => simp only [List.getElem?_toArray, List.getElem?_cons_succ, List.getElem?_cons_zero, Option.some.injEq] at ho; subst ho; go_simp; refine ⟨W.heap.size, fun j hj => ?_, rfl, hW.alloc hzW _, fun _ => heap_alloc_new _ _⟩; by_cases e : j = 7; (rw [e, hL] at hj; cases hj); (dsimp only; rw [if_neg e, if_neg e])
          | kk + 8, hk, _ => omega
        case htail1 =>
          intro L x' W hL hW
          obtain ⟨hbr, hW⟩ := hW
          have hxx := hW (hL 7 (by omega))
          have hzW := hbr.size
          have RX := Lib.hid (rd_row (enc := shV) (sz := 4) (fun _ => rfl) hxx [y] rfl)
          have P1 := Lib.hid (O1.out.below hbr)
          have P2 := Lib.hid (O2.out.below hbr)
          have HTW := Lib.hid (row_keep HT.out hbr)
          have HRW := Lib.hid (row_keep HRR.out hbr)
          have hbw := hbW.trans (hbr.mono hbW.size)
          have hvo : ∀ g, (Value.slice A' (onSh s (l.take k)).length da).ownBlock = some g → B ≤ g := fun g hg => (O1.out.lt g hg).1
          clear hW hL hxx m1 m2 p0 p1 p2 e0 e1 e2 e3 q0
          simp only [List.drop_succ_cons, List.drop_zero]
          refine wpListIn_append_rd rfl (.tmp 22) (.tmp 28) 22 rfl i1 _ 32 Try.underlying22 I1.out.1 I1.out.2.1 I1.out.2.2.1 I1.out.2.2.2 rfl (by omega) shV_len shV_one rfl (P1.out) rfl (m := 1) (news := [y]) rfl RX.out (by omega) (by omega) (by omega) ?_
          intro v' w5 ho5 hg5 hat5
          obtain ⟨AV, cV, hV⟩ := ho5.form
          have hg6 : W.grownBy w5 (Value.slice A' (onSh s (l.take k)).length da).ownBlock := hg5
          have hat6 : v'.ownBlock = (Value.slice A' (onSh s (l.take k)).length da).ownBlock ∨ v'.ownBlock = some W.heap.size := hat5
          have T5 : w5.heap[w.heap.size + 1]? = some (.cells #[.int .i64 s.n, .slice A' (onSh s (l.take k)).length da, .slice B' (onMk s (l.take k)).length db, .slice none 0 0] 26 (0, 0)) := (hg6.block _ (by omega) (fun e => by have := hvo _ e.symm; omega)).trans HTW.out
          have R5 := (hg6.block w.heap.size (by omega) (fun e => by have := hvo _ e.symm; omega)).trans HRW.out
          have Q5 := P2.out.keep hg6 (keep_ne (fun g hg e => HD.out g e hg))
          have hbw5 : Below w.heap.size w w5 := hbw.trans (below_grown hg6 (by omega) (fun g hg => by have := hvo g hg; omega))
          have hz5 : W.heap.size ≤ w5.heap.size := hg6.size
          have hD5 : ∀ g, (Value.slice B' (onMk s (l.take k)).length db).ownBlock = some g → v'.ownBlock ≠ some g := own_apart2 hat6 (fun g hg => Nat.lt_of_lt_of_le (L2.out g hg) hzW) (fun g hg e => HD.out g e hg)
          have t0 := frozen_of_row w5 (w.heap.size + 1) 1 _ _ T5
          have t1 : w5.cell? ⟨w.heap.size + 1, 1, none⟩ = some (.slice A' (onSh s (l.take k)).length da) := cell_of_row w5 _ 1 _ _ _ T5
          have HO5 := Lib.hid ho5
          have HQ5 := Lib.hid Q5
          have HD5 := Lib.hid hD5
          have HR5 := Lib.hid R5
          have HS5 := Lib.hid (heap_setCell_same w5 (w.heap.size + 1) 1 _ _ v' T5)
          obtain ⟨nV, hnV⟩ : ∃ n, ((onSh s (l.take k)) ++ [y]).length = n := ⟨_, rfl⟩
          rw [hnV] at hV
          subst hV
          clear ho5 hg5 hat5 hg6 hat6 T5 R5 Q5 hD5
          go_simp
          gi_wp2_with fail
          have HNV := Lib.hid hnV
          clear hnV
          go_wp2
          go_roundw
          case rel =>
            refine ⟨k + 1, AV, B', cV, db, by omega, by go_num, ?_⟩
            rw [HT1.out, HON.out.1, HON.out.2]
            rw [HNV.out]
            refine ⟨?_, ?_, ?_, ?_, hbw5.setCell (by dsimp only; omega) _, by simp; omega, ?_⟩
            · exact HS5.out
            · exact HO5.out.set_ (by show w.heap.size + 1 < _; omega) _
            · exact HQ5.out.set_ (by show w.heap.size + 1 < _; omega) _
            · exact fun g hg e => HD5.out g e hg
            · rw [Below.heap_setCell _ _ _ _ (by dsimp only; omega)]
              exact HR5.out
          case measure => (simp [intOf] <;> omega)
      · obtain ⟨q, hqx⟩ := Int.eq_ofNat_of_zero_le (show 0 ≤ x - (s.shots.length : Int) by omega)
        have hq : q < s.marks.length := by omega
        obtain ⟨y, hy⟩ : ∃ y, s.marks[q]? = some y := ⟨_, List.getElem?_eq_getElem hq⟩
        have hon := onSh_no (s := s) (l := l.take k) (k := x) hxs (by rw [hqx, Int.toNat_natCast]; exact hy)
        have hsub : IntKind.i64.wrap (x - (s.shots.length : Int)) = (q : Int) := by rw [hqx]; exact IntWalk.i64_in _ (by omega)
        obtain ⟨b1, o1, rfl, hb1, hc1⟩ := ((R2.out.below hbW).more hbW.size) (by omega)
        have e := hc1 q y hy
        have e0 := e 0 _ rfl
        have e1 := e 1 _ rfl
        have e2 := e 2 _ rfl
        simp only [Nat.add_zero] at e0
        have HON := Lib.hid hon
        have HQX := Lib.hid hqx
        have HSUB := Lib.hid hsub
        clear hqx hsub
        clear hc1 e hon hy
        go_upto_region 7 with fail
        refine (wpIn_wide (n := 3)).1 ?_
        refine wpIn_region_planYA (X := Nat) (by kernel_rfl) 12 (by decide +kernel) (by decide +kernel) (by omega)
          (fun x' i => if i = 11 then .slice (some ⟨x', 0, none⟩) 1 1 else (#[.pointer (some ⟨w.heap.size + 1, 2, none⟩), .slice B' (onMk s (l.take k)).length db, .pointer (some ⟨gs, 2, none⟩), .slice (some ⟨b1, o1, none⟩) s.marks.length c2, .int .i64 x, .pointer (some ⟨gs, 1, none⟩), .slice A1 s.shots.length c1, .int .i64 (s.shots.length : Int), .int .i64 (q : Int), .pointer (some ⟨b1, o1 + q * 3, none⟩), .agg #[.int .i64 y.p, .int .i64 y.lo, .int .i64 y.hi], undef] : Array Value).getD i undef)
          (fun L x' W => Below wr.heap.size wr W ∧ (L 11 = true → W.heap[x']? = some (.cells #[.int .i64 y.p, .int .i64 y.lo, .int .i64 y.hi] 75 (0, 0)))) _ _ 0 ?aF2 ?hA2 ?hS2 ?hstep2 ?htail2
        case hA2 => intro x'; simp [putTo, putIf, dstAt, Act.put, List.range_succ]; rfl
        case hS2 => exact fun L hL => ⟨(Below.refl _ _).drew, fun h => (by rw [hL] at h; cases h)⟩
        case hstep2 =>
          intro i o' hi ho L x' W hL hcl hdep hW
          obtain ⟨hW, hW11⟩ := hW
          have HW11 := Lib.hid hW11
          clear hW11 hcl hdep
          have hzW := hW.size
          refine ⟨fun _ _ => trivial, ?_⟩
          have pp1 := (hW.cell (p := ⟨gs, 1, none⟩) ltsW).trans p1
          have pp2 := (hW.cell (p := ⟨gs, 2, none⟩) ltsW).trans p2
          have mm1 := (hW.cell (p := ⟨w.heap.size + 1, 1, none⟩) ltT).trans m1
          have mm2 := (hW.cell (p := ⟨w.heap.size + 1, 2, none⟩) ltT).trans m2
          have ee0 := (hW.cell (p := ⟨b1, o1 + q * 3, none⟩) hb1).trans e0
          have ee1 := (hW.cell (p := ⟨b1, o1 + q * 3 + 1, none⟩) hb1).trans e1
          have ee2 := (hW.cell (p := ⟨b1, o1 + q * 3 + 2, none⟩) hb1).trans e2
          have hsub := HSUB.out
          match i, hi, ho with
          | 0, _, ho => simp only [List.getElem?_toArray, List.getElem?_cons_succ, List.getElem?_cons_zero, Option.some.injEq] at ho; subst ho; go_simp; exact ⟨x', fun _ _ => rfl, rfl, hW, fun h => HW11.out (by simpa using h)⟩
          | 1, _, ho => simp only [List.getElem?_toArray, List.getElem?_cons_succ, List.getElem?_cons_zero, Option.some.injEq] at ho; subst ho; go_simp; exact ⟨x', fun _ _ => rfl, rfl, hW, fun h => HW11.out (by simpa using h)⟩
          | 2, _, ho => simp only [List.getElem?_toArray, List.getElem?_cons_succ, List.getElem?_cons_zero, Option.some.injEq] at ho; subst ho; go_simp; exact ⟨x', fun _ _ => rfl, rfl, hW, fun h => HW11.out (by simpa using h)⟩
          | 3, _, ho => simp only [List.getElem?_toArray, List.getElem?_cons_succ, List.getElem?_cons_zero, Option.some.injEq] at ho; subst ho; go_simp; exact ⟨x', fun _ _ => rfl, rfl, hW, fun h => HW11.out (by simpa using h)⟩
          | 4, _, ho => simp only [List.getElem?_toArray, List.getElem?_cons_succ, List.getElem?_cons_zero, Option.some.injEq] at ho; subst ho; go_simp; exact ⟨x', fun _ _ => rfl, rfl, hW, fun h => HW11.out (by simpa using h)⟩
          | 5, _, ho => simp only [List.getElem?_toArray, List.getElem?_cons_succ, List.getElem?_cons_zero, Option.some.injEq] at ho; subst ho; go_simp; exact ⟨x', fun _ _ => rfl, rfl, hW, fun h => HW11.out (by simpa using h)⟩
          | 6, _, ho => simp only [List.getElem?_toArray, List.getElem?_cons_succ, List.getElem?_cons_zero, Option.some.injEq] at ho; subst ho; go_simp; exact ⟨x', fun _ _ => rfl, rfl, hW, fun h => HW11.out (by simpa using h)⟩
          | 7, _, ho => simp only [List.getElem?_toArray, List.getElem?_cons_succ, List.getElem?_cons_zero, Option.some.injEq] at ho; subst ho; go_simp; exact ⟨x', fun _ _ => rfl, rfl, hW, fun h => HW11.out (by simpa using h)⟩
          | 8, _, ho => simp only [List.getElem?_toArray, List.getElem?_cons_succ, List.getElem?_cons_zero, Option.some.injEq] at ho; subst ho; go_simp; exact ⟨x', fun _ _ => rfl, rfl, hW, fun h => HW11.out (by simpa using h)⟩
          | 9, _, ho => simp only [List.getElem?_toArray, List.getElem?_cons_succ, List.getElem?_cons_zero, Option.some.injEq] at ho; subst ho; go_simp; exact ⟨x', fun _ _ => rfl, rfl, hW, fun h => HW11.out (by simpa using h)⟩
          | 10, _, ho => simp only [List.getElem?_toArray, List.getElem?_cons_succ, List.getElem?_cons_zero, Option.some.injEq] at ho; subst ho; go_simp; exact ⟨x', fun _ _ => rfl, rfl, hW, fun h => HW11.out (by simpa using h)⟩
          | 11, _, ho => simp only [List.getElem?_toArray, List.getElem?_cons_succ, List.getElem?_cons_zero, Option.some.injEq] at ho; subst ho; go_simp; refine ⟨W.heap.size, fun j hj => ?_, rfl, hW.alloc hzW _, fun _ => heap_alloc_new _ _⟩; by_cases e : j = 11; (rw [e, hL] at hj; cases hj); (dsimp only; rw [if_neg e, if_neg e])
          | kk + 12, hk, _ => omega
        case htail2 =>
          intro L x' W hL hW
          obtain ⟨hbr, hW⟩ := hW
          have hxx := hW (hL 11 (by omega))
          have hzW := hbr.size
          have RX := Lib.hid (rd_row (enc := mkV) (sz := 3) (fun _ => rfl) hxx [y] rfl)
          have P1 := Lib.hid (O1.out.below hbr)
          have P2 := Lib.hid (O2.out.below hbr)
          have HTW := Lib.hid (row_keep HT.out hbr)
          have HRW := Lib.hid (row_keep HRR.out hbr)
          have hbw := hbW.trans (hbr.mono hbW.size)
          have hvo : ∀ g, (Value.slice B' (onMk s (l.take k)).length db).ownBlock = some g → B ≤ g := fun g hg => (O2.out.lt g hg).1
          clear hW hL hxx m1 m2 p0 p1 p2 e0 e1 e2 q0
          simp only [List.drop_succ_cons, List.drop_zero]
          refine wpListIn_append_rd rfl (.tmp 32) (.tmp 42) 23 rfl i2 _ 24 Try.underlying23 I2.out.1 I2.out.2.1 I2.out.2.2.1 I2.out.2.2.2 rfl (by omega) mkV_len mkV_one rfl (P2.out) rfl (m := 1) (news := [y]) rfl RX.out (by omega) (by omega) (by omega) ?_
          intro v' w5 ho5 hg5 hat5
          obtain ⟨AV, cV, hV⟩ := ho5.form
          have hg6 : W.grownBy w5 (Value.slice B' (onMk s (l.take k)).length db).ownBlock := hg5
          have hat6 : v'.ownBlock = (Value.slice B' (onMk s (l.take k)).length db).ownBlock ∨ v'.ownBlock = some W.heap.size := hat5
          have T5 : w5.heap[w.heap.size + 1]? = some (.cells #[.int .i64 s.n, .slice A' (onSh s (l.take k)).length da, .slice B' (onMk s (l.take k)).length db, .slice none 0 0] 26 (0, 0)) := (hg6.block _ (by omega) (fun e => by have := hvo _ e.symm; omega)).trans HTW.out
          have R5 := (hg6.block w.heap.size (by omega) (fun e => by have := hvo _ e.symm; omega)).trans HRW.out
          have Q5 := P1.out.keep hg6 (keep_ne HD.out)
          have hbw5 : Below w.heap.size w w5 := hbw.trans (below_grown hg6 (by omega) (fun g hg => by have := hvo g hg; omega))
          have hz5 : W.heap.size ≤ w5.heap.size := hg6.size
          have hD5 : ∀ g, (Value.slice A' (onSh s (l.take k)).length da).ownBlock = some g → v'.ownBlock ≠ some g := own_apart2 hat6 (fun g hg => Nat.lt_of_lt_of_le (L1.out g hg) hzW) (HD.out)
          have t0 := frozen_of_row w5 (w.heap.size + 1) 2 _ _ T5
          have t1 : w5.cell? ⟨w.heap.size + 1, 2, none⟩ = some (.slice B' (onMk s (l.take k)).length db) := cell_of_row w5 _ 2 _ _ _ T5
          have HO5 := Lib.hid ho5
          have HQ5 := Lib.hid Q5
          have HD5 := Lib.hid hD5
          have HR5 := Lib.hid R5
          have HS5 := Lib.hid (heap_setCell_same w5 (w.heap.size + 1) 2 _ _ v' T5)
          obtain ⟨nV, hnV⟩ : ∃ n, ((onMk s (l.take k)) ++ [y]).length = n := ⟨_, rfl⟩
          rw [hnV] at hV
          subst hV
          clear ho5 hg5 hat5 hg6 hat6 T5 R5 Q5 hD5
          go_simp
          gi_wp2_with fail
          have HNV := Lib.hid hnV
          clear hnV
          go_wp2
          go_roundw
          case rel =>
            refine ⟨k + 1, A', AV, da, cV, by omega, by go_num, ?_⟩
            rw [HT1.out, HON.out.1, HON.out.2]
            rw [HNV.out]
            refine ⟨?_, ?_, ?_, ?_, hbw5.setCell (by dsimp only; omega) _, by simp; omega, ?_⟩
            · exact HS5.out
            · exact HQ5.out.set_ (by show w.heap.size + 1 < _; omega) _
            · exact HO5.out.set_ (by show w.heap.size + 1 < _; omega) _
            · exact HD5.out
            · rw [Below.heap_setCell _ _ _ _ (by dsimp only; omega)]
              exact HR5.out
          case measure => (simp [intOf] <;> omega)
    · have hfull : l.take k = l := List.take_of_length_le (by omega)
      rw [hfull] at O1 O2 HT
      have m0 : wr.cell? ⟨w.heap.size + 1, 0, none⟩ = some (.int .i64 s.n) := cell_of_row wr _ 0 _ _ _ HT.out
      have m1 : wr.cell? ⟨w.heap.size + 1, 1, none⟩ = some (.slice A' (onSh s l).length da) := cell_of_row wr _ 1 _ _ _ HT.out
      have m2 : wr.cell? ⟨w.heap.size + 1, 2, none⟩ = some (.slice B' (onMk s l).length db) := cell_of_row wr _ 2 _ _ _ HT.out
      have m3 : wr.cell? ⟨w.heap.size + 1, 3, none⟩ = some (.slice none 0 0) := cell_of_row wr _ 3 _ _ _ HT.out
      have y0 : wr.cell? ⟨w.heap.size, 0, none⟩ = some (.int .i64 0) := cell_of_row wr _ 0 _ _ _ HRR.out
      have y1 : wr.cell? ⟨w.heap.size, 1, none⟩ = some (.slice none 0 0) := cell_of_row wr _ 1 _ _ _ HRR.out
      have y2 : wr.cell? ⟨w.heap.size, 2, none⟩ = some (.slice none 0 0) := cell_of_row wr _ 2 _ _ _ HRR.out
      have y3 : wr.cell? ⟨w.heap.size, 3, none⟩ = some (.slice none 0 0) := cell_of_row wr _ 3 _ _ _ HRR.out
      have f0 := frozen_of_row wr w.heap.size 0 _ _ HRR.out
      have f1 := frozen_of_row wr w.heap.size 1 _ _ HRR.out
      have f2 := frozen_of_row wr w.heap.size 2 _ _ HRR.out
      have f3 := frozen_of_row wr w.heap.size 3 _ _ HRR.out
      have hkl : ¬ (k : Int) < (l.length : Int) := by omega
      clear hfull hn1 hn2 hn3 L1 L2
      go_wp2
      refine bodyPost_ret (results_cell_row Try.results42 _ _ w.heap.size 26 #[.int .i64 s.n, .slice A' (onSh s l).length da, .slice B' (onMk s l).length db, .slice none 0 0] (0, 0) _ rfl (heap_set4 HRR.out) Try.underlying26 rfl infoSurvey) rfl ?_
      refine ⟨⟨A', B', ⟨da, db, rfl⟩, ?_, ?_⟩, by (repeat' (first | (with_reducible exact Below.refl _ _) | (with_reducible refine Below.alloc ?_ ?_ _) | (with_reducible refine Below.drew ?_) | (with_reducible refine Below.drewN_ ?_ _) | (with_reducible refine Below.setCell ?_ ?_ _) | (with_reducible refine Below.setRow ?_ ?_ _) | (with_reducible refine Below.via ?_ (by with_reducible assumption) ?_) | go_size))⟩
      · exact ((((O1.out.set_ (p := ⟨w.heap.size, 0, none⟩) (by show w.heap.size < _; omega) _).set_ (p := ⟨w.heap.size, 1, none⟩) (by show w.heap.size < _; omega) _).set_ (p := ⟨w.heap.size, 2, none⟩) (by show w.heap.size < _; omega) _).set_ (p := ⟨w.heap.size, 3, none⟩) (by show w.heap.size < _; omega) _).rd shV_len
      · exact ((((O2.out.set_ (p := ⟨w.heap.size, 0, none⟩) (by show w.heap.size < _; omega) _).set_ (p := ⟨w.heap.size, 1, none⟩) (by show w.heap.size < _; omega) _).set_ (p := ⟨w.heap.size, 2, none⟩) (by show w.heap.size < _; omega) _).set_ (p := ⟨w.heap.size, 3, none⟩) (by show w.heap.size < _; omega) _).rd mkV_len

end Go.Proofs.Ytaoonfmcimkmhaa
