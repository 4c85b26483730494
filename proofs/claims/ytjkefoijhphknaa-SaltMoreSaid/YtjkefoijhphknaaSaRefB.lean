/- The reference's need and Need. Condition of the first: numbers within bounds. -/
import Derived.Test.YtjkefoijhphknaaSaRef
namespace Go.Proofs.Ytjkefoijhphknaa
open Go.RowKit Go.IntWalk
attribute [local go_sem] wx_cell wx_frozen

set_option maxRecDepth 100000 in
set_option maxHeartbeats 4000000 in
theorem rneed_any (s : So) (w : World) (hB : SoB s 0) :
    Calls Try.prog 49 #[.agg #[.int .i64 s.saL, .int .i64 s.saH, .int .i64 s.lim, .int .i64 s.crop, .int .i64 s.miL, .int .i64 s.miH, .int .i64 s.waL, .int .i64 s.waH, .int .i64 s.riL, .int .i64 s.riH]] w fun e w' => (∃ v, e = .returned (.tuple #[.int .i64 v, .bool (needI s).isSome]) ∧ ∀ u, needI s = some u → v = u) ∧ Below w.heap.size w w' := by
  have c1 := hB.c1
  have c2 := hB.c2
  have l1 := hB.l1
  have l2 := hB.l2
  have w1 := hB.w1
  have w2 := hB.w2
  have m3 := hB.m3
  have m4 := hB.m4
  have CG : ∀ W, Calls Try.prog 77 #[.agg #[.int .i64 s.saL, .int .i64 s.saH, .int .i64 s.lim, .int .i64 s.crop, .int .i64 s.miL, .int .i64 s.miH, .int .i64 s.waL, .int .i64 s.waH, .int .i64 s.riL, .int .i64 s.riH], .int .i64 s.crop] W fun e w' => e = .returned (.int .i64 (mostI s s.crop)) ∧ Below W.heap.size W w' := fun W => rmost_any s s.crop W 0 hB (by omega) c1 c2
  have g1 := mostI_low hB c1 c2
  have g2 : mostI s s.crop ≤ 1000000000000000000 := by have := mostI_bnd hB c1 c2; have := hB.a4; have := hB.r4; omega
  have hn : needI s = needI s := rfl
  conv at hn => rhs; unfold needI
  generalize mostI s s.crop = M at CG g1 g2 hn
  have HCG := Lib.hid CG
  clear CG hB
  obtain ⟨N, hN⟩ : ∃ N, needI s = N := ⟨_, rfl⟩
  rw [hN] at hn ⊢
  clear hN
  by_cases hA : M ≤ 1000 * s.lim
  · rw [if_pos hA] at hn
    subst hn
    go_enter Try.func49, Try.ntmps49
    go_wp2
    generalize hw0 : w.alloc (Obj.cells #[.int .i64 s.saL, .int .i64 s.saH, .int .i64 s.lim, .int .i64 s.crop, .int .i64 s.miL, .int .i64 s.miH, .int .i64 s.waL, .int .i64 s.waH, .int .i64 s.riL, .int .i64 s.riH] 25) = w0
    have hA0 : w0.heap[w.heap.size]? = some (.cells #[.int .i64 s.saL, .int .i64 s.saH, .int .i64 s.lim, .int .i64 s.crop, .int .i64 s.miL, .int .i64 s.miH, .int .i64 s.waL, .int .i64 s.waH, .int .i64 s.riL, .int .i64 s.riH] 25 (0, 0)) := by rw [← hw0]; exact heap_alloc_new _ _
    have HB0 := Lib.hid (show Below w.heap.size w w0 by rw [← hw0]; exact (Below.refl _ _).alloc (Nat.le_refl _) _)
    have hl1 : w.heap.size < w0.heap.size := by rw [← hw0]; simp
    clear hw0
    have k0 := cell_of_row w0 _ 0 _ _ _ hA0
    have k1 := cell_of_row w0 _ 1 _ _ _ hA0
    have k2 := cell_of_row w0 _ 2 _ _ _ hA0
    have k3 := cell_of_row w0 _ 3 _ _ _ hA0
    have k4 := cell_of_row w0 _ 4 _ _ _ hA0
    have k5 := cell_of_row w0 _ 5 _ _ _ hA0
    have k6 := cell_of_row w0 _ 6 _ _ _ hA0
    have k7 := cell_of_row w0 _ 7 _ _ _ hA0
    have k8 := cell_of_row w0 _ 8 _ _ _ hA0
    have k9 := cell_of_row w0 _ 9 _ _ _ hA0
    simp only [List.getElem?_toArray, List.getElem?_cons_zero, List.getElem?_cons_succ] at k0 k1 k2 k3 k4 k5 k6 k7 k8 k9
    clear hA0
    refine wp_region_calm (by kernel_rfl) (by kernel_rfl) ?_
    repeat (go_big_quiet_step (((go_at_call 77; exact calm_of (HCG.out _)))))
    refine wpQuiet_nil ?_; rintro _ ⟨dx, rfl⟩
    obtain ⟨wy, hwy⟩ : ∃ wy, wx _ dx = wy := ⟨_, rfl⟩; have hby := wx_below _ dx; rw [hwy] at hby ⊢
    obtain ⟨hcb, hcf⟩ := bcell hby
    replace k0 := (hcb _ _ hl1).trans k0
    replace k1 := (hcb _ _ hl1).trans k1
    replace k2 := (hcb _ _ hl1).trans k2
    replace k3 := (hcb _ _ hl1).trans k3
    replace k4 := (hcb _ _ hl1).trans k4
    replace k5 := (hcb _ _ hl1).trans k5
    replace k6 := (hcb _ _ hl1).trans k6
    replace k7 := (hcb _ _ hl1).trans k7
    replace k8 := (hcb _ _ hl1).trans k8
    replace k9 := (hcb _ _ hl1).trans k9
    replace hl1 : w.heap.size < wy.heap.size := by have := hby.size; omega
    replace HB0 := Lib.hid (HB0.out.trans (hby.mono (by have := HB0.out.size; omega)))
    clear hby hcb hcf
    go_wp2
    go_ret2
    exact ⟨⟨_, rfl, fun u hu => by injection hu⟩, HB0.out⟩
  · rw [if_neg hA] at hn
    by_cases hD : s.waL - s.miH ≤ 0
    · rw [if_pos hD] at hn
      subst hn
      go_enter Try.func49, Try.ntmps49
      go_wp2
      generalize hw0 : w.alloc (Obj.cells #[.int .i64 s.saL, .int .i64 s.saH, .int .i64 s.lim, .int .i64 s.crop, .int .i64 s.miL, .int .i64 s.miH, .int .i64 s.waL, .int .i64 s.waH, .int .i64 s.riL, .int .i64 s.riH] 25) = w0
      have hA0 : w0.heap[w.heap.size]? = some (.cells #[.int .i64 s.saL, .int .i64 s.saH, .int .i64 s.lim, .int .i64 s.crop, .int .i64 s.miL, .int .i64 s.miH, .int .i64 s.waL, .int .i64 s.waH, .int .i64 s.riL, .int .i64 s.riH] 25 (0, 0)) := by rw [← hw0]; exact heap_alloc_new _ _
      have HB0 := Lib.hid (show Below w.heap.size w w0 by rw [← hw0]; exact (Below.refl _ _).alloc (Nat.le_refl _) _)
      have hl1 : w.heap.size < w0.heap.size := by rw [← hw0]; simp
      clear hw0
      have k0 := cell_of_row w0 _ 0 _ _ _ hA0
      have k1 := cell_of_row w0 _ 1 _ _ _ hA0
      have k2 := cell_of_row w0 _ 2 _ _ _ hA0
      have k3 := cell_of_row w0 _ 3 _ _ _ hA0
      have k4 := cell_of_row w0 _ 4 _ _ _ hA0
      have k5 := cell_of_row w0 _ 5 _ _ _ hA0
      have k6 := cell_of_row w0 _ 6 _ _ _ hA0
      have k7 := cell_of_row w0 _ 7 _ _ _ hA0
      have k8 := cell_of_row w0 _ 8 _ _ _ hA0
      have k9 := cell_of_row w0 _ 9 _ _ _ hA0
      simp only [List.getElem?_toArray, List.getElem?_cons_zero, List.getElem?_cons_succ] at k0 k1 k2 k3 k4 k5 k6 k7 k8 k9
      clear hA0
      refine wp_region_calm (by kernel_rfl) (by kernel_rfl) ?_
      repeat (go_big_quiet_step (((go_at_call 77; exact calm_of (HCG.out _)))))
      refine wpQuiet_nil ?_; rintro _ ⟨dx, rfl⟩
      obtain ⟨wy, hwy⟩ : ∃ wy, wx _ dx = wy := ⟨_, rfl⟩; have hby := wx_below _ dx; rw [hwy] at hby ⊢
      obtain ⟨hcb, hcf⟩ := bcell hby
      replace k0 := (hcb _ _ hl1).trans k0
      replace k1 := (hcb _ _ hl1).trans k1
      replace k2 := (hcb _ _ hl1).trans k2
      replace k3 := (hcb _ _ hl1).trans k3
      replace k4 := (hcb _ _ hl1).trans k4
      replace k5 := (hcb _ _ hl1).trans k5
      replace k6 := (hcb _ _ hl1).trans k6
      replace k7 := (hcb _ _ hl1).trans k7
      replace k8 := (hcb _ _ hl1).trans k8
      replace k9 := (hcb _ _ hl1).trans k9
      replace hl1 : w.heap.size < wy.heap.size := by have := hby.size; omega
      replace HB0 := Lib.hid (HB0.out.trans (hby.mono (by have := HB0.out.size; omega)))
      clear hby hcb hcf
      go_wp2
      go_ret2
      exact ⟨⟨_, rfl, fun u hu => by cases hu⟩, HB0.out⟩
    · rw [if_neg hD] at hn
      have hb0 : (s.waL - s.miH == 0) = false := by simp; omega
      have q0 : 0 ≤ (M - 1000 * s.lim + (s.waL - s.miH) - 1) / (s.waL - s.miH) := Int.ediv_nonneg (by omega) (by omega)
      have q1 : (M - 1000 * s.lim + (s.waL - s.miH) - 1) / (s.waL - s.miH) ≤ M - 1000 * s.lim + (s.waL - s.miH) - 1 := Int.ediv_le_self _ (by omega)
      have qe : (M - 1000 * s.lim + (s.waL - s.miH) - 1).tdiv (s.waL - s.miH) = (M - 1000 * s.lim + (s.waL - s.miH) - 1) / (s.waL - s.miH) := Int.tdiv_eq_ediv_of_nonneg (by omega)
      have HQE := Lib.hid qe
      have HN := Lib.hid hn
      clear hn qe
      go_enter Try.func49, Try.ntmps49
      go_wp2
      generalize hw0 : w.alloc (Obj.cells #[.int .i64 s.saL, .int .i64 s.saH, .int .i64 s.lim, .int .i64 s.crop, .int .i64 s.miL, .int .i64 s.miH, .int .i64 s.waL, .int .i64 s.waH, .int .i64 s.riL, .int .i64 s.riH] 25) = w0
      have hA0 : w0.heap[w.heap.size]? = some (.cells #[.int .i64 s.saL, .int .i64 s.saH, .int .i64 s.lim, .int .i64 s.crop, .int .i64 s.miL, .int .i64 s.miH, .int .i64 s.waL, .int .i64 s.waH, .int .i64 s.riL, .int .i64 s.riH] 25 (0, 0)) := by rw [← hw0]; exact heap_alloc_new _ _
      have HB0 := Lib.hid (show Below w.heap.size w w0 by rw [← hw0]; exact (Below.refl _ _).alloc (Nat.le_refl _) _)
      have hl1 : w.heap.size < w0.heap.size := by rw [← hw0]; simp
      clear hw0
      have k0 := cell_of_row w0 _ 0 _ _ _ hA0
      have k1 := cell_of_row w0 _ 1 _ _ _ hA0
      have k2 := cell_of_row w0 _ 2 _ _ _ hA0
      have k3 := cell_of_row w0 _ 3 _ _ _ hA0
      have k4 := cell_of_row w0 _ 4 _ _ _ hA0
      have k5 := cell_of_row w0 _ 5 _ _ _ hA0
      have k6 := cell_of_row w0 _ 6 _ _ _ hA0
      have k7 := cell_of_row w0 _ 7 _ _ _ hA0
      have k8 := cell_of_row w0 _ 8 _ _ _ hA0
      have k9 := cell_of_row w0 _ 9 _ _ _ hA0
      simp only [List.getElem?_toArray, List.getElem?_cons_zero, List.getElem?_cons_succ] at k0 k1 k2 k3 k4 k5 k6 k7 k8 k9
      clear hA0
      refine wp_region_calm (by kernel_rfl) (by kernel_rfl) ?_
      repeat (go_big_quiet_step (((go_at_call 77; exact calm_of (HCG.out _)))))
      refine wpQuiet_nil ?_; rintro _ ⟨dx, rfl⟩
      obtain ⟨wy, hwy⟩ : ∃ wy, wx _ dx = wy := ⟨_, rfl⟩; have hby := wx_below _ dx; rw [hwy] at hby ⊢
      obtain ⟨hcb, hcf⟩ := bcell hby
      replace k0 := (hcb _ _ hl1).trans k0
      replace k1 := (hcb _ _ hl1).trans k1
      replace k2 := (hcb _ _ hl1).trans k2
      replace k3 := (hcb _ _ hl1).trans k3
      replace k4 := (hcb _ _ hl1).trans k4
      replace k5 := (hcb _ _ hl1).trans k5
      replace k6 := (hcb _ _ hl1).trans k6
      replace k7 := (hcb _ _ hl1).trans k7
      replace k8 := (hcb _ _ hl1).trans k8
      replace k9 := (hcb _ _ hl1).trans k9
      replace hl1 : w.heap.size < wy.heap.size := by have := hby.size; omega
      replace HB0 := Lib.hid (HB0.out.trans (hby.mono (by have := HB0.out.size; omega)))
      clear hby hcb hcf
      go_wp2
      refine wp_region_calm (by kernel_rfl) (by kernel_rfl) ?_
      repeat (go_big_quiet_step (((go_at_call 77; exact calm_of (HCG.out _)))))
      refine wpQuiet_nil ?_; rintro _ ⟨dx, rfl⟩
      obtain ⟨wy, hwy⟩ : ∃ wy, wx _ dx = wy := ⟨_, rfl⟩; have hby := wx_below _ dx; rw [hwy] at hby ⊢
      obtain ⟨hcb, hcf⟩ := bcell hby
      replace k0 := (hcb _ _ hl1).trans k0
      replace k1 := (hcb _ _ hl1).trans k1
      replace k2 := (hcb _ _ hl1).trans k2
      replace k3 := (hcb _ _ hl1).trans k3
      replace k4 := (hcb _ _ hl1).trans k4
      replace k5 := (hcb _ _ hl1).trans k5
      replace k6 := (hcb _ _ hl1).trans k6
      replace k7 := (hcb _ _ hl1).trans k7
      replace k8 := (hcb _ _ hl1).trans k8
      replace k9 := (hcb _ _ hl1).trans k9
      replace hl1 : w.heap.size < wy.heap.size := by have := hby.size; omega
      replace HB0 := Lib.hid (HB0.out.trans (hby.mono (by have := HB0.out.size; omega)))
      clear hby hcb hcf
      go_wp2
      go_quiet (fail)
      go_wp2
      go_ret2
      have hn := HN.out
      generalize (M - 1000 * s.lim + (s.waL - s.miH) - 1) / (s.waL - s.miH) = q at hn q0 q1 ⊢
      rw [hn]
      refine ⟨⟨s.crop + q, ?_, fun u hu => ?_⟩, Below.drewN_ HB0.out _⟩
      · by_cases hq : s.crop + q ≤ 1000000000
        · simp [hq]
        · simp [hq]
      · by_cases hq : s.crop + q ≤ 1000000000
        · rw [if_pos hq] at hu; injection hu
        · rw [if_neg hq] at hu; cases hu

/-- What Need answers. -/
def saNeed (s : So) : Int × Int := if soOk s = false then (0, 60) else match needI s with
  | some u => (u, 0)
  | none => (0, 6)
theorem saNeed_bad {s : So} (h : soOk s = false) : saNeed s = (0, 60) := by unfold saNeed; rw [if_pos h]
theorem saNeed_some {s : So} (h : soOk s = true) {u : Int} (h2 : needI s = some u) : saNeed s = (u, 0) := by unfold saNeed; rw [if_neg (by rw [h]; simp), h2]
theorem saNeed_none {s : So} (h : soOk s = true) (h2 : needI s = none) : saNeed s = (0, 6) := by unfold saNeed; rw [if_neg (by rw [h]; simp), h2]

set_option maxRecDepth 100000 in
set_option maxHeartbeats 4000000 in
theorem rNeed_any (s : So) (w : World) :
    Calls Try.prog 15 #[.agg #[.int .i64 s.saL, .int .i64 s.saH, .int .i64 s.lim, .int .i64 s.crop, .int .i64 s.miL, .int .i64 s.miH, .int .i64 s.waL, .int .i64 s.waH, .int .i64 s.riL, .int .i64 s.riH]] w fun e w' => e = .returned (.tuple #[.int .i64 (saNeed s).1, .int .i64 (saNeed s).2]) ∧ Below w.heap.size w w' := by
  have HC := Lib.hid (rsCheck_any s)
  cases h : soOk s
  · rw [saNeed_bad h]
    rw [h] at HC
    clear h
    go_enter Try.func15, Try.ntmps15
    go_wp2_with (go_at_call 17; refine (HC.out _).mono ?_; rintro e w' ⟨rfl, hb1⟩; obtain ⟨hc1, hf1⟩ := bcell hb1; have hz1 := hb1.size; (try simp at hz1); (try have hy1 : w.heap.size < w'.heap.size := by omega))
    go_ret2
    exact ⟨rfl, by (repeat' (first | (with_reducible exact Below.refl _ _) | (with_reducible refine Below.alloc ?_ ?_ _) | (with_reducible refine Below.drew ?_) | (with_reducible refine Below.drewN_ ?_ _) | (with_reducible refine Below.setCell ?_ ?_ _) | (with_reducible refine Below.setRow ?_ ?_ _) | (with_reducible refine Below.via ?_ (by with_reducible assumption) ?_) | go_size))⟩
  · have HN := Lib.hid (fun W => rneed_any s W (SoB.of_ok h))
    rw [h] at HC
    cases hn : needI s with
    | none =>
      rw [saNeed_none h hn]
      rw [hn] at HN
      clear h hn
      go_enter Try.func15, Try.ntmps15
      go_wp2_with (first | (go_at_call 17; refine (HC.out _).mono ?_; rintro e w' ⟨rfl, hb1⟩; obtain ⟨hc1, hf1⟩ := bcell hb1; have hz1 := hb1.size; (try simp at hz1); (try have hy1 : w.heap.size < w'.heap.size := by omega)) | (go_at_call 49; refine (HN.out _).mono ?_; rintro e w'' ⟨⟨v, rfl, _⟩, hb2⟩))
      go_ret2
      exact ⟨rfl, by (repeat' (first | (with_reducible exact Below.refl _ _) | (with_reducible refine Below.alloc ?_ ?_ _) | (with_reducible refine Below.drew ?_) | (with_reducible refine Below.drewN_ ?_ _) | (with_reducible refine Below.setCell ?_ ?_ _) | (with_reducible refine Below.setRow ?_ ?_ _) | (with_reducible refine Below.via ?_ (by with_reducible assumption) ?_) | go_size))⟩
    | some u =>
      rw [saNeed_some h hn]
      rw [hn] at HN
      clear h hn
      go_enter Try.func15, Try.ntmps15
      go_wp2_with (first | (go_at_call 17; refine (HC.out _).mono ?_; rintro e w' ⟨rfl, hb1⟩; obtain ⟨hc1, hf1⟩ := bcell hb1; have hz1 := hb1.size; (try simp at hz1); (try have hy1 : w.heap.size < w'.heap.size := by omega)) | (go_at_call 49; refine (HN.out _).mono ?_; rintro e w'' ⟨⟨v, rfl, hu⟩, hb2⟩; obtain rfl := hu u rfl; clear hu))
      go_ret2
      exact ⟨rfl, by (repeat' (first | (with_reducible exact Below.refl _ _) | (with_reducible refine Below.alloc ?_ ?_ _) | (with_reducible refine Below.drew ?_) | (with_reducible refine Below.drewN_ ?_ _) | (with_reducible refine Below.setCell ?_ ?_ _) | (with_reducible refine Below.setRow ?_ ?_ _) | (with_reducible refine Below.via ?_ (by with_reducible assumption) ?_) | go_size))⟩
end Go.Proofs.Ytjkefoijhphknaa
