/- told at both ends, for a soil whose numbers are within bounds. -/
import Derived.Test.YtjkefoijhphknaaSaEnds
import Derived.Deep.Cut
namespace Go.Proofs.Ytjkefoijhphknaa
open Go.RowKit Go.IntWalk
attribute [local go_sem] wx_cell wx_frozen

theorem withI_nonneg (sa mi wa ri crop x : Int) : 0 ≤ withI sa mi wa ri crop x := by unfold withI; omega
theorem withI_lo {s : So} {k : Nat} (h : SoB s k) (hk : k ≤ 100) {x : Int} (x0 : 0 ≤ x) (x1 : x ≤ 1000000000) : withI s.saL s.miL s.waH s.riL s.crop x ≤ 500000000000000000 := by
  rw [withI_eq]
  have := leastI_bnd h x0 x1
  have h1 := h.a2
  have h2 := h.r2
  unfold leastI at this
  omega
theorem withI_hi {s : So} {k : Nat} (h : SoB s k) (hk : k ≤ 100) {x : Int} (x0 : 0 ≤ x) (x1 : x ≤ 1000000000) : withI s.saH s.miH s.waL s.riH s.crop x ≤ 500000000000000000 := by
  rw [withI_eq]
  have := mostI_bnd h x0 x1
  have h1 := h.a4
  have h2 := h.r4
  unfold mostI at this
  omega

set_option maxRecDepth 100000 in
set_option maxHeartbeats 4000000 in
theorem told_lo_any (s : So) (wl wh : Int) (w : World) (k : Nat) (hB : SoB s k) (hk : k ≤ 100) (x0 : 0 ≤ wl) (x1 : wl ≤ wh) (x2 : wh ≤ 1000000000) :
    Calls Try.prog 73 #[.agg #[.int .i64 s.saL, .int .i64 s.saH, .int .i64 s.lim, .int .i64 s.crop, .int .i64 s.miL, .int .i64 s.miH, .int .i64 s.waL, .int .i64 s.waH, .int .i64 s.riL, .int .i64 s.riH, .int .i64 wl, .int .i64 wh], .agg #[.func (.func 113) #[] #[], .func (.func 114) #[] #[], .func (.func 115) #[] #[], .func (.func 116) #[] #[]]] w fun e w' => e = .returned (.int .i64 (max 0 (min (leastI s wl) (leastI s wh)) / 1000)) ∧ Below w.heap.size w w' := by
  have c1 := hB.c1
  have c2 := hB.c2
  have ht : turnI s.crop wl wh = min (max s.crop wl) wh := rfl
  obtain ⟨t, h_t⟩ : ∃ t, turnI s.crop wl wh = t := ⟨_, rfl⟩
  have t0 : 0 ≤ t ∧ t ≤ 1000000000 := by omega
  have CF0 : ∀ u W, 0 ≤ u → u ≤ 1000000000 → Calls Try.prog 79 #[.agg #[.int .i64 s.saL, .int .i64 s.saH, .int .i64 s.lim, .int .i64 s.crop, .int .i64 s.miL, .int .i64 s.miH, .int .i64 s.waL, .int .i64 s.waH, .int .i64 s.riL, .int .i64 s.riH, .int .i64 wl, .int .i64 wh], .int .i64 u, .agg #[.func (.func 113) #[] #[], .func (.func 114) #[] #[], .func (.func 115) #[] #[], .func (.func 116) #[] #[]]] W fun e w' => e = .returned (.int .i64 (withI s.saL s.miL s.waH s.riL s.crop u)) ∧ Below W.heap.size W w' := fun u W h1 h2 => with_lo s wl wh u W k hB hk h1 h2
  have hF0 : ∀ u, 0 ≤ u → u ≤ 1000000000 → 0 ≤ withI s.saL s.miL s.waH s.riL s.crop u ∧ withI s.saL s.miL s.waH s.riL s.crop u ≤ 500000000000000000 := fun u h1 h2 => ⟨withI_nonneg _ _ _ _ _ _, withI_lo hB hk h1 h2⟩
  have hr : (max 0 (min (leastI s wl) (leastI s wh)) / 1000 : Int) = min (min (withI s.saL s.miL s.waH s.riL s.crop wl) (withI s.saL s.miL s.waH s.riL s.crop wh)) (withI s.saL s.miL s.waH s.riL s.crop (turnI s.crop wl wh)) / 1000 := by rw [← told_lo hB x1]; simp only [withI_eq]; rfl
  rw [hr, h_t]
  rw [ht] at h_t
  obtain ⟨F, hF⟩ : ∃ F : Int → Int, F = fun u => withI s.saL s.miL s.waH s.riL s.crop u := ⟨_, rfl⟩
  have CF : ∀ u W, 0 ≤ u → u ≤ 1000000000 → Calls Try.prog 79 #[.agg #[.int .i64 s.saL, .int .i64 s.saH, .int .i64 s.lim, .int .i64 s.crop, .int .i64 s.miL, .int .i64 s.miH, .int .i64 s.waL, .int .i64 s.waH, .int .i64 s.riL, .int .i64 s.riH, .int .i64 wl, .int .i64 wh], .int .i64 u, .agg #[.func (.func 113) #[] #[], .func (.func 114) #[] #[], .func (.func 115) #[] #[], .func (.func 116) #[] #[]]] W fun e w' => e = .returned (.int .i64 (F u)) ∧ Below W.heap.size W w' := by rw [hF]; exact CF0
  have hFb : ∀ u, 0 ≤ u → u ≤ 1000000000 → 0 ≤ F u ∧ F u ≤ 500000000000000000 := by rw [hF]; exact hF0
  have hFF : ∀ u, withI s.saL s.miL s.waH s.riL s.crop u = F u := fun u => by rw [hF]
  simp only [hFF]
  have bl := hFb wl (by omega) (by omega)
  have bh := hFb wh (by omega) (by omega)
  have bt := hFb s.crop (by omega) (by omega)
  have HCF := Lib.hid CF
  have HT := Lib.hid h_t
  clear hF CF hFb hFF CF0 hF0 hr ht h_t hB
  go_enter Try.func73, Try.ntmps73
  go_upto_region 1 with (fail)
  generalize hw0 : (w.alloc (Obj.cells #[.int .i64 s.saL, .int .i64 s.saH, .int .i64 s.lim, .int .i64 s.crop, .int .i64 s.miL, .int .i64 s.miH, .int .i64 s.waL, .int .i64 s.waH, .int .i64 s.riL, .int .i64 s.riH, .int .i64 wl, .int .i64 wh] 96)).alloc (Obj.cells #[.func (.func 113) #[] #[], .func (.func 114) #[] #[], .func (.func 115) #[] #[], .func (.func 116) #[] #[]] 137) = w0
  have hb0 : Below w.heap.size w w0 := by rw [← hw0]; (repeat' (first | (with_reducible exact Below.refl _ _) | (with_reducible refine Below.alloc ?_ ?_ _) | (with_reducible refine Below.drew ?_) | (with_reducible refine Below.drewN_ ?_ _) | (with_reducible refine Below.setCell ?_ ?_ _) | (with_reducible refine Below.setRow ?_ ?_ _) | (with_reducible refine Below.via ?_ (by with_reducible assumption) ?_) | go_size))
  have hsz : w0.heap.size = w.heap.size + 1 + 1 := by rw [← hw0]; simp
  have k0 : w0.cell? ⟨w.heap.size, 0, none⟩ = some (.int .i64 s.saL) := by rw [← hw0]; simp
  have k1 : w0.cell? ⟨w.heap.size, 1, none⟩ = some (.int .i64 s.saH) := by rw [← hw0]; simp
  have k2 : w0.cell? ⟨w.heap.size, 2, none⟩ = some (.int .i64 s.lim) := by rw [← hw0]; simp
  have k3 : w0.cell? ⟨w.heap.size, 3, none⟩ = some (.int .i64 s.crop) := by rw [← hw0]; simp
  have k4 : w0.cell? ⟨w.heap.size, 4, none⟩ = some (.int .i64 s.miL) := by rw [← hw0]; simp
  have k5 : w0.cell? ⟨w.heap.size, 5, none⟩ = some (.int .i64 s.miH) := by rw [← hw0]; simp
  have k6 : w0.cell? ⟨w.heap.size, 6, none⟩ = some (.int .i64 s.waL) := by rw [← hw0]; simp
  have k7 : w0.cell? ⟨w.heap.size, 7, none⟩ = some (.int .i64 s.waH) := by rw [← hw0]; simp
  have k8 : w0.cell? ⟨w.heap.size, 8, none⟩ = some (.int .i64 s.riL) := by rw [← hw0]; simp
  have k9 : w0.cell? ⟨w.heap.size, 9, none⟩ = some (.int .i64 s.riH) := by rw [← hw0]; simp
  have k10 : w0.cell? ⟨w.heap.size, 10, none⟩ = some (.int .i64 wl) := by rw [← hw0]; simp
  have k11 : w0.cell? ⟨w.heap.size, 11, none⟩ = some (.int .i64 wh) := by rw [← hw0]; simp
  have e0 : w0.cell? ⟨w.heap.size + 1, 0, none⟩ = some (.func (.func 113) #[] #[]) := by rw [← hw0]; simp
  have e1 : w0.cell? ⟨w.heap.size + 1, 1, none⟩ = some (.func (.func 114) #[] #[]) := by rw [← hw0]; simp
  have e2 : w0.cell? ⟨w.heap.size + 1, 2, none⟩ = some (.func (.func 115) #[] #[]) := by rw [← hw0]; simp
  have e3 : w0.cell? ⟨w.heap.size + 1, 3, none⟩ = some (.func (.func 116) #[] #[]) := by rw [← hw0]; simp
  have hl1 : w.heap.size < w0.heap.size := by omega
  have hl2 : w.heap.size + 1 < w0.heap.size := by omega
  have HW0 := Lib.hid hw0
  have HS := Lib.hid hsz
  have HB0 := Lib.hid hb0
  clear hw0 hsz hb0
  go_wp2
  all_goals
    refine wp_region_calm (by kernel_rfl) (by kernel_rfl) ?_
    repeat (go_big_quiet_step ((first | (go_at_call 79; exact calm_of (HCF.out _ _ (by omega) (by omega))) | (go_at_call 115; exact calm_same (min_any _ _ _)))))
    refine wpQuiet_nil ?_; rintro _ ⟨dx, rfl⟩
    obtain ⟨wy, hwy⟩ : ∃ wy, wx _ dx = wy := ⟨_, rfl⟩; have hby := wx_below _ dx; rw [hwy] at hby ⊢
    obtain ⟨hcb, hcf⟩ := bcell hby
    replace k0 := (hcb _ _ hl1).trans k0
    replace k1 := (hcb _ _ hl1).trans k1
    replace k2 := (hcb _ _ hl1).trans k2
    replace k3 := (hcb _ _ hl1).trans k3
    replace k4 := (hcb _ _ hl1).trans k4
    replace k5 := (hcb _ _ hl1).trans k5
    replace k6 := (hcb _ _ hl1).trans k6
    replace k7 := (hcb _ _ hl1).trans k7
    replace k8 := (hcb _ _ hl1).trans k8
    replace k9 := (hcb _ _ hl1).trans k9
    replace k10 := (hcb _ _ hl1).trans k10
    replace k11 := (hcb _ _ hl1).trans k11
    replace e0 := (hcb _ _ hl2).trans e0
    replace e1 := (hcb _ _ hl2).trans e1
    replace e2 := (hcb _ _ hl2).trans e2
    replace e3 := (hcb _ _ hl2).trans e3
    replace hl1 : w.heap.size < wy.heap.size := by have := hby.size; omega
    replace hl2 : w.heap.size + 1 < wy.heap.size := by have := hby.size; omega
    have HB1 := Lib.hid (HB0.out.trans (hby.mono (by have := HS.out; omega)))
    clear hby hcb hcf
    go_wp2
    refine wp_region_calm (by kernel_rfl) (by kernel_rfl) ?_
    repeat (go_big_quiet_step ((first | (go_at_call 79; exact calm_of (HCF.out _ _ (by omega) (by omega))) | (go_at_call 115; exact calm_same (min_any _ _ _)) | (go_at_call 116; exact calm_same (sdown_any _ _ (by omega) (by omega))))))
    refine wpQuiet_nil ?_; rintro _ ⟨dx, rfl⟩
    obtain ⟨wz, hwz⟩ : ∃ wz, wx wy dx = wz := ⟨_, rfl⟩
    have hbz := wx_below wy dx
    rw [hwz] at hbz ⊢
    go_wp2
    go_ret
    refine ⟨?_, HB1.out.trans (hbz.mono (by have := HB1.out.size; omega))⟩
    have hT := HT.out
    first | (rw [show t = wl by omega]; first | (simp; done) | (simp; omega)) | (rw [show t = wh by omega]; first | (simp; done) | (simp; omega)) | (rw [show t = s.crop by omega]; first | (simp; done) | (simp; omega))

set_option maxRecDepth 100000 in
set_option maxHeartbeats 4000000 in
theorem told_hi_any (s : So) (wl wh : Int) (w : World) (k : Nat) (hB : SoB s k) (hk : k ≤ 100) (x0 : 0 ≤ wl) (x1 : wl ≤ wh) (x2 : wh ≤ 1000000000) :
    Calls Try.prog 73 #[.agg #[.int .i64 s.saL, .int .i64 s.saH, .int .i64 s.lim, .int .i64 s.crop, .int .i64 s.miL, .int .i64 s.miH, .int .i64 s.waL, .int .i64 s.waH, .int .i64 s.riL, .int .i64 s.riH, .int .i64 wl, .int .i64 wh], .agg #[.func (.func 114) #[] #[], .func (.func 113) #[] #[], .func (.func 117) #[] #[], .func (.func 118) #[] #[]]] w fun e w' => e = .returned (.int .i64 ((max 0 (cycHi s wl wh) + 999) / 1000)) ∧ Below w.heap.size w w' := by
  have c1 := hB.c1
  have c2 := hB.c2
  have ht : turnI s.crop wl wh = min (max s.crop wl) wh := rfl
  obtain ⟨t, h_t⟩ : ∃ t, turnI s.crop wl wh = t := ⟨_, rfl⟩
  have t0 : 0 ≤ t ∧ t ≤ 1000000000 := by omega
  have CF0 : ∀ u W, 0 ≤ u → u ≤ 1000000000 → Calls Try.prog 79 #[.agg #[.int .i64 s.saL, .int .i64 s.saH, .int .i64 s.lim, .int .i64 s.crop, .int .i64 s.miL, .int .i64 s.miH, .int .i64 s.waL, .int .i64 s.waH, .int .i64 s.riL, .int .i64 s.riH, .int .i64 wl, .int .i64 wh], .int .i64 u, .agg #[.func (.func 114) #[] #[], .func (.func 113) #[] #[], .func (.func 117) #[] #[], .func (.func 118) #[] #[]]] W fun e w' => e = .returned (.int .i64 (withI s.saH s.miH s.waL s.riH s.crop u)) ∧ Below W.heap.size W w' := fun u W h1 h2 => with_hi s wl wh u W k hB hk h1 h2
  have hF0 : ∀ u, 0 ≤ u → u ≤ 1000000000 → 0 ≤ withI s.saH s.miH s.waL s.riH s.crop u ∧ withI s.saH s.miH s.waL s.riH s.crop u ≤ 500000000000000000 := fun u h1 h2 => ⟨withI_nonneg _ _ _ _ _ _, withI_hi hB hk h1 h2⟩
  have hr : ((max 0 (cycHi s wl wh) + 999) / 1000 : Int) = (max (max (withI s.saH s.miH s.waL s.riH s.crop wl) (withI s.saH s.miH s.waL s.riH s.crop wh)) (withI s.saH s.miH s.waL s.riH s.crop (turnI s.crop wl wh)) + 999) / 1000 := by rw [← told_hi x1]; simp only [withI_eq]; rfl
  rw [hr, h_t]
  rw [ht] at h_t
  obtain ⟨F, hF⟩ : ∃ F : Int → Int, F = fun u => withI s.saH s.miH s.waL s.riH s.crop u := ⟨_, rfl⟩
  have CF : ∀ u W, 0 ≤ u → u ≤ 1000000000 → Calls Try.prog 79 #[.agg #[.int .i64 s.saL, .int .i64 s.saH, .int .i64 s.lim, .int .i64 s.crop, .int .i64 s.miL, .int .i64 s.miH, .int .i64 s.waL, .int .i64 s.waH, .int .i64 s.riL, .int .i64 s.riH, .int .i64 wl, .int .i64 wh], .int .i64 u, .agg #[.func (.func 114) #[] #[], .func (.func 113) #[] #[], .func (.func 117) #[] #[], .func (.func 118) #[] #[]]] W fun e w' => e = .returned (.int .i64 (F u)) ∧ Below W.heap.size W w' := by rw [hF]; exact CF0
  have hFb : ∀ u, 0 ≤ u → u ≤ 1000000000 → 0 ≤ F u ∧ F u ≤ 500000000000000000 := by rw [hF]; exact hF0
  have hFF : ∀ u, withI s.saH s.miH s.waL s.riH s.crop u = F u := fun u => by rw [hF]
  simp only [hFF]
  have bl := hFb wl (by omega) (by omega)
  have bh := hFb wh (by omega) (by omega)
  have bt := hFb s.crop (by omega) (by omega)
  have HCF := Lib.hid CF
  have HT := Lib.hid h_t
  clear hF CF hFb hFF CF0 hF0 hr ht h_t hB
  go_enter Try.func73, Try.ntmps73
  go_upto_region 1 with (fail)
  generalize hw0 : (w.alloc (Obj.cells #[.int .i64 s.saL, .int .i64 s.saH, .int .i64 s.lim, .int .i64 s.crop, .int .i64 s.miL, .int .i64 s.miH, .int .i64 s.waL, .int .i64 s.waH, .int .i64 s.riL, .int .i64 s.riH, .int .i64 wl, .int .i64 wh] 96)).alloc (Obj.cells #[.func (.func 114) #[] #[], .func (.func 113) #[] #[], .func (.func 117) #[] #[], .func (.func 118) #[] #[]] 137) = w0
  have hb0 : Below w.heap.size w w0 := by rw [← hw0]; (repeat' (first | (with_reducible exact Below.refl _ _) | (with_reducible refine Below.alloc ?_ ?_ _) | (with_reducible refine Below.drew ?_) | (with_reducible refine Below.drewN_ ?_ _) | (with_reducible refine Below.setCell ?_ ?_ _) | (with_reducible refine Below.setRow ?_ ?_ _) | (with_reducible refine Below.via ?_ (by with_reducible assumption) ?_) | go_size))
  have hsz : w0.heap.size = w.heap.size + 1 + 1 := by rw [← hw0]; simp
  have k0 : w0.cell? ⟨w.heap.size, 0, none⟩ = some (.int .i64 s.saL) := by rw [← hw0]; simp
  have k1 : w0.cell? ⟨w.heap.size, 1, none⟩ = some (.int .i64 s.saH) := by rw [← hw0]; simp
  have k2 : w0.cell? ⟨w.heap.size, 2, none⟩ = some (.int .i64 s.lim) := by rw [← hw0]; simp
  have k3 : w0.cell? ⟨w.heap.size, 3, none⟩ = some (.int .i64 s.crop) := by rw [← hw0]; simp
  have k4 : w0.cell? ⟨w.heap.size, 4, none⟩ = some (.int .i64 s.miL) := by rw [← hw0]; simp
  have k5 : w0.cell? ⟨w.heap.size, 5, none⟩ = some (.int .i64 s.miH) := by rw [← hw0]; simp
  have k6 : w0.cell? ⟨w.heap.size, 6, none⟩ = some (.int .i64 s.waL) := by rw [← hw0]; simp
  have k7 : w0.cell? ⟨w.heap.size, 7, none⟩ = some (.int .i64 s.waH) := by rw [← hw0]; simp
  have k8 : w0.cell? ⟨w.heap.size, 8, none⟩ = some (.int .i64 s.riL) := by rw [← hw0]; simp
  have k9 : w0.cell? ⟨w.heap.size, 9, none⟩ = some (.int .i64 s.riH) := by rw [← hw0]; simp
  have k10 : w0.cell? ⟨w.heap.size, 10, none⟩ = some (.int .i64 wl) := by rw [← hw0]; simp
  have k11 : w0.cell? ⟨w.heap.size, 11, none⟩ = some (.int .i64 wh) := by rw [← hw0]; simp
  have e0 : w0.cell? ⟨w.heap.size + 1, 0, none⟩ = some (.func (.func 114) #[] #[]) := by rw [← hw0]; simp
  have e1 : w0.cell? ⟨w.heap.size + 1, 1, none⟩ = some (.func (.func 113) #[] #[]) := by rw [← hw0]; simp
  have e2 : w0.cell? ⟨w.heap.size + 1, 2, none⟩ = some (.func (.func 117) #[] #[]) := by rw [← hw0]; simp
  have e3 : w0.cell? ⟨w.heap.size + 1, 3, none⟩ = some (.func (.func 118) #[] #[]) := by rw [← hw0]; simp
  have hl1 : w.heap.size < w0.heap.size := by omega
  have hl2 : w.heap.size + 1 < w0.heap.size := by omega
  have HW0 := Lib.hid hw0
  have HS := Lib.hid hsz
  have HB0 := Lib.hid hb0
  clear hw0 hsz hb0
  go_wp2
  all_goals
    refine wp_region_calm (by kernel_rfl) (by kernel_rfl) ?_
    repeat (go_big_quiet_step ((first | (go_at_call 79; exact calm_of (HCF.out _ _ (by omega) (by omega))) | (go_at_call 117; exact calm_same (max_any _ _ _)))))
    refine wpQuiet_nil ?_; rintro _ ⟨dx, rfl⟩
    obtain ⟨wy, hwy⟩ : ∃ wy, wx _ dx = wy := ⟨_, rfl⟩; have hby := wx_below _ dx; rw [hwy] at hby ⊢
    obtain ⟨hcb, hcf⟩ := bcell hby
    replace k0 := (hcb _ _ hl1).trans k0
    replace k1 := (hcb _ _ hl1).trans k1
    replace k2 := (hcb _ _ hl1).trans k2
    replace k3 := (hcb _ _ hl1).trans k3
    replace k4 := (hcb _ _ hl1).trans k4
    replace k5 := (hcb _ _ hl1).trans k5
    replace k6 := (hcb _ _ hl1).trans k6
    replace k7 := (hcb _ _ hl1).trans k7
    replace k8 := (hcb _ _ hl1).trans k8
    replace k9 := (hcb _ _ hl1).trans k9
    replace k10 := (hcb _ _ hl1).trans k10
    replace k11 := (hcb _ _ hl1).trans k11
    replace e0 := (hcb _ _ hl2).trans e0
    replace e1 := (hcb _ _ hl2).trans e1
    replace e2 := (hcb _ _ hl2).trans e2
    replace e3 := (hcb _ _ hl2).trans e3
    replace hl1 : w.heap.size < wy.heap.size := by have := hby.size; omega
    replace hl2 : w.heap.size + 1 < wy.heap.size := by have := hby.size; omega
    have HB1 := Lib.hid (HB0.out.trans (hby.mono (by have := HS.out; omega)))
    clear hby hcb hcf
    go_wp2
    refine wp_region_calm (by kernel_rfl) (by kernel_rfl) ?_
    repeat (go_big_quiet_step ((first | (go_at_call 79; exact calm_of (HCF.out _ _ (by omega) (by omega))) | (go_at_call 117; exact calm_same (max_any _ _ _)) | (go_at_call 118; exact calm_same (sup_any _ _ (by omega) (by omega))))))
    refine wpQuiet_nil ?_; rintro _ ⟨dx, rfl⟩
    obtain ⟨wz, hwz⟩ : ∃ wz, wx wy dx = wz := ⟨_, rfl⟩
    have hbz := wx_below wy dx
    rw [hwz] at hbz ⊢
    go_wp2
    go_ret
    refine ⟨?_, HB1.out.trans (hbz.mono (by have := HB1.out.size; omega))⟩
    have hT := HT.out
    first | (rw [show t = wl by omega]; first | (simp; done) | (simp; omega)) | (rw [show t = wh by omega]; first | (simp; done) | (simp; omega)) | (rw [show t = s.crop by omega]; first | (simp; done) | (simp; omega))

end Go.Proofs.Ytjkefoijhphknaa
