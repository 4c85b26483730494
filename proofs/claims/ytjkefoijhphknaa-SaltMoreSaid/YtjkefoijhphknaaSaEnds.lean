/- with at both ends, for a soil whose numbers are within bounds. -/
import Derived.Test.YtjkefoijhphknaaSaWith
namespace Go.Proofs.Ytjkefoijhphknaa
open Go.RowKit Go.IntWalk
attribute [local go_sem] wx_cell wx_frozen

set_option maxRecDepth 100000 in
set_option maxHeartbeats 4000000 in
theorem with_lo (s : So) (wl wh x : Int) (w : World) (k : Nat) (hB : SoB s k) (hk : k ≤ 100) (x0 : 0 ≤ x) (x1 : x ≤ 1000000000) :
    Calls Try.prog 79 #[.agg #[.int .i64 s.saL, .int .i64 s.saH, .int .i64 s.lim, .int .i64 s.crop, .int .i64 s.miL, .int .i64 s.miH, .int .i64 s.waL, .int .i64 s.waH, .int .i64 s.riL, .int .i64 s.riH, .int .i64 wl, .int .i64 wh], .int .i64 x, .agg #[.func (.func 113) #[] #[], .func (.func 114) #[] #[], .func (.func 115) #[] #[], .func (.func 116) #[] #[]]] w fun e w' => e = .returned (.int .i64 (withI s.saL s.miL s.waH s.riL s.crop x)) ∧ Below w.heap.size w w' := by
  have b1 := hB.a1
  have b2 : s.saL ≤ 100000000000000 := by have := hB.a2; omega
  have b3 := hB.r1
  have b4 := hB.r2
  have b5 := hB.c1
  have b6 := hB.c2
  have p1 := mul_le_of x0 x1 hB.m1 hB.m2
  have p2 := mul_le_of (show 0 ≤ max (x - s.crop) 0 by omega) (show max (x - s.crop) 0 ≤ 1000000000 by omega) hB.w3 hB.w4
  simp only [Int.reduceMul] at p1 p2
  clear hB hk
  by_cases hc : x - s.crop < 0
  · have hm : withI s.saL s.miL s.waH s.riL s.crop x = max ((s.saL + s.riL) * 1000 + x * s.miL) 0 := by unfold withI; rw [show max (x - s.crop) 0 = 0 by omega, Int.zero_mul, Int.sub_zero]
    rw [hm]
    clear hm p2
    go_enter Try.func79, Try.ntmps79
    go_wp2
    generalize hw0 : (w.alloc (Obj.cells #[.int .i64 s.saL, .int .i64 s.saH, .int .i64 s.lim, .int .i64 s.crop, .int .i64 s.miL, .int .i64 s.miH, .int .i64 s.waL, .int .i64 s.waH, .int .i64 s.riL, .int .i64 s.riH, .int .i64 wl, .int .i64 wh] 96)).alloc (Obj.cells #[.func (.func 113) #[] #[], .func (.func 114) #[] #[], .func (.func 115) #[] #[], .func (.func 116) #[] #[]] 137) = w0
    have hb0 : Below w.heap.size w w0 := by rw [← hw0]; (repeat' (first | (with_reducible exact Below.refl _ _) | (with_reducible refine Below.alloc ?_ ?_ _) | (with_reducible refine Below.drew ?_) | (with_reducible refine Below.drewN_ ?_ _) | (with_reducible refine Below.setCell ?_ ?_ _) | (with_reducible refine Below.setRow ?_ ?_ _) | (with_reducible refine Below.via ?_ (by with_reducible assumption) ?_) | go_size))
    have hsz : w0.heap.size = w.heap.size + 1 + 1 := by rw [← hw0]; simp
    have k0 : w0.cell? ⟨w.heap.size, 0, none⟩ = some (.int .i64 s.saL) := by rw [← hw0]; simp
    have k1 : w0.cell? ⟨w.heap.size, 1, none⟩ = some (.int .i64 s.saH) := by rw [← hw0]; simp
    have k2 : w0.cell? ⟨w.heap.size, 2, none⟩ = some (.int .i64 s.lim) := by rw [← hw0]; simp
    have k3 : w0.cell? ⟨w.heap.size, 3, none⟩ = some (.int .i64 s.crop) := by rw [← hw0]; simp
    have k4 : w0.cell? ⟨w.heap.size, 4, none⟩ = some (.int .i64 s.miL) := by rw [← hw0]; simp
    have k5 : w0.cell? ⟨w.heap.size, 5, none⟩ = some (.int .i64 s.miH) := by rw [← hw0]; simp
    have k6 : w0.cell? ⟨w.heap.size, 6, none⟩ = some (.int .i64 s.waL) := by rw [← hw0]; simp
    have k7 : w0.cell? ⟨w.heap.size, 7, none⟩ = some (.int .i64 s.waH) := by rw [← hw0]; simp
    have k8 : w0.cell? ⟨w.heap.size, 8, none⟩ = some (.int .i64 s.riL) := by rw [← hw0]; simp
    have k9 : w0.cell? ⟨w.heap.size, 9, none⟩ = some (.int .i64 s.riH) := by rw [← hw0]; simp
    have k10 : w0.cell? ⟨w.heap.size, 10, none⟩ = some (.int .i64 wl) := by rw [← hw0]; simp
    have k11 : w0.cell? ⟨w.heap.size, 11, none⟩ = some (.int .i64 wh) := by rw [← hw0]; simp
    have e0 : w0.cell? ⟨w.heap.size + 1, 0, none⟩ = some (.func (.func 113) #[] #[]) := by rw [← hw0]; simp
    have e1 : w0.cell? ⟨w.heap.size + 1, 1, none⟩ = some (.func (.func 114) #[] #[]) := by rw [← hw0]; simp
    have e2 : w0.cell? ⟨w.heap.size + 1, 2, none⟩ = some (.func (.func 115) #[] #[]) := by rw [← hw0]; simp
    have e3 : w0.cell? ⟨w.heap.size + 1, 3, none⟩ = some (.func (.func 116) #[] #[]) := by rw [← hw0]; simp
    have hl1 : w.heap.size < w0.heap.size := by omega
    have hl2 : w.heap.size + 1 < w0.heap.size := by omega
    have HW0 := Lib.hid hw0
    have HS := Lib.hid hsz
    clear hw0 hsz
    refine wp_region_calm (by kernel_rfl) (by kernel_rfl) ?_
    repeat (go_big_quiet_step ((first | (go_at_call 113; exact calm_of (lo_any _ _ _)) | (go_at_call 114; exact calm_of (hi_any _ _ _)))))
    refine wpQuiet_nil ?_; rintro _ ⟨dx, rfl⟩
    obtain ⟨wy, hwy⟩ : ∃ wy, wx _ dx = wy := ⟨_, rfl⟩; have hby := wx_below _ dx; rw [hwy] at hby ⊢
    obtain ⟨hcb, hcf⟩ := bcell hby
    replace k0 := (hcb _ _ hl1).trans k0
    replace k1 := (hcb _ _ hl1).trans k1
    replace k2 := (hcb _ _ hl1).trans k2
    replace k3 := (hcb _ _ hl1).trans k3
    replace k4 := (hcb _ _ hl1).trans k4
    replace k5 := (hcb _ _ hl1).trans k5
    replace k6 := (hcb _ _ hl1).trans k6
    replace k7 := (hcb _ _ hl1).trans k7
    replace k8 := (hcb _ _ hl1).trans k8
    replace k9 := (hcb _ _ hl1).trans k9
    replace k10 := (hcb _ _ hl1).trans k10
    replace k11 := (hcb _ _ hl1).trans k11
    replace e0 := (hcb _ _ hl2).trans e0
    replace e1 := (hcb _ _ hl2).trans e1
    replace e2 := (hcb _ _ hl2).trans e2
    replace e3 := (hcb _ _ hl2).trans e3
    replace hl1 : w.heap.size < wy.heap.size := by have := hby.size; omega
    replace hl2 : w.heap.size + 1 < wy.heap.size := by have := hby.size; omega
    have hb1 : Below w.heap.size w wy := hb0.trans (hby.mono (by have := HS.out; omega))
    clear hby hb0 hcb hcf
    go_wp2
    have HB1 := Lib.hid hb1
    clear hb1
    refine wp_region_calm (by kernel_rfl) (by kernel_rfl) ?_
    repeat (go_big_quiet_step ((first | (go_at_call 113; exact calm_of (lo_any _ _ _)) | (go_at_call 114; exact calm_of (hi_any _ _ _)))))
    refine wpQuiet_nil ?_; rintro _ ⟨dx, rfl⟩
    rename_i wq _
    obtain ⟨wz, hwz⟩ : ∃ wz, wx wy dx = wz := ⟨_, rfl⟩
    have hbz := wx_below wy dx
    rw [hwz] at hbz ⊢
    go_wp2
    all_goals go_ret
    all_goals refine ⟨?_, HB1.out.trans (hbz.mono (by have := HB1.out.size; omega))⟩
    all_goals simp
    all_goals (first | omega | (simp only [wrap64_in _ (show -9223372036854775808 ≤ (0 : Int) ∧ (0 : Int) ≤ 9223372036854775807 by omega)]; omega) | (simp only [wrap64] at *; omega))
  · rw [show max (x - s.crop) 0 = x - s.crop by omega] at p2
    have hm : withI s.saL s.miL s.waH s.riL s.crop x = max ((s.saL + s.riL) * 1000 + x * s.miL - (x - s.crop) * s.waH) 0 := by unfold withI; rw [show max (x - s.crop) 0 = x - s.crop by omega]
    rw [hm]
    clear hm
    go_enter Try.func79, Try.ntmps79
    go_wp2
    generalize hw0 : (w.alloc (Obj.cells #[.int .i64 s.saL, .int .i64 s.saH, .int .i64 s.lim, .int .i64 s.crop, .int .i64 s.miL, .int .i64 s.miH, .int .i64 s.waL, .int .i64 s.waH, .int .i64 s.riL, .int .i64 s.riH, .int .i64 wl, .int .i64 wh] 96)).alloc (Obj.cells #[.func (.func 113) #[] #[], .func (.func 114) #[] #[], .func (.func 115) #[] #[], .func (.func 116) #[] #[]] 137) = w0
    have hb0 : Below w.heap.size w w0 := by rw [← hw0]; (repeat' (first | (with_reducible exact Below.refl _ _) | (with_reducible refine Below.alloc ?_ ?_ _) | (with_reducible refine Below.drew ?_) | (with_reducible refine Below.drewN_ ?_ _) | (with_reducible refine Below.setCell ?_ ?_ _) | (with_reducible refine Below.setRow ?_ ?_ _) | (with_reducible refine Below.via ?_ (by with_reducible assumption) ?_) | go_size))
    have hsz : w0.heap.size = w.heap.size + 1 + 1 := by rw [← hw0]; simp
    have k0 : w0.cell? ⟨w.heap.size, 0, none⟩ = some (.int .i64 s.saL) := by rw [← hw0]; simp
    have k1 : w0.cell? ⟨w.heap.size, 1, none⟩ = some (.int .i64 s.saH) := by rw [← hw0]; simp
    have k2 : w0.cell? ⟨w.heap.size, 2, none⟩ = some (.int .i64 s.lim) := by rw [← hw0]; simp
    have k3 : w0.cell? ⟨w.heap.size, 3, none⟩ = some (.int .i64 s.crop) := by rw [← hw0]; simp
    have k4 : w0.cell? ⟨w.heap.size, 4, none⟩ = some (.int .i64 s.miL) := by rw [← hw0]; simp
    have k5 : w0.cell? ⟨w.heap.size, 5, none⟩ = some (.int .i64 s.miH) := by rw [← hw0]; simp
    have k6 : w0.cell? ⟨w.heap.size, 6, none⟩ = some (.int .i64 s.waL) := by rw [← hw0]; simp
    have k7 : w0.cell? ⟨w.heap.size, 7, none⟩ = some (.int .i64 s.waH) := by rw [← hw0]; simp
    have k8 : w0.cell? ⟨w.heap.size, 8, none⟩ = some (.int .i64 s.riL) := by rw [← hw0]; simp
    have k9 : w0.cell? ⟨w.heap.size, 9, none⟩ = some (.int .i64 s.riH) := by rw [← hw0]; simp
    have k10 : w0.cell? ⟨w.heap.size, 10, none⟩ = some (.int .i64 wl) := by rw [← hw0]; simp
    have k11 : w0.cell? ⟨w.heap.size, 11, none⟩ = some (.int .i64 wh) := by rw [← hw0]; simp
    have e0 : w0.cell? ⟨w.heap.size + 1, 0, none⟩ = some (.func (.func 113) #[] #[]) := by rw [← hw0]; simp
    have e1 : w0.cell? ⟨w.heap.size + 1, 1, none⟩ = some (.func (.func 114) #[] #[]) := by rw [← hw0]; simp
    have e2 : w0.cell? ⟨w.heap.size + 1, 2, none⟩ = some (.func (.func 115) #[] #[]) := by rw [← hw0]; simp
    have e3 : w0.cell? ⟨w.heap.size + 1, 3, none⟩ = some (.func (.func 116) #[] #[]) := by rw [← hw0]; simp
    have hl1 : w.heap.size < w0.heap.size := by omega
    have hl2 : w.heap.size + 1 < w0.heap.size := by omega
    have HW0 := Lib.hid hw0
    have HS := Lib.hid hsz
    clear hw0 hsz
    refine wp_region_calm (by kernel_rfl) (by kernel_rfl) ?_
    repeat (go_big_quiet_step ((first | (go_at_call 113; exact calm_of (lo_any _ _ _)) | (go_at_call 114; exact calm_of (hi_any _ _ _)))))
    refine wpQuiet_nil ?_; rintro _ ⟨dx, rfl⟩
    obtain ⟨wy, hwy⟩ : ∃ wy, wx _ dx = wy := ⟨_, rfl⟩; have hby := wx_below _ dx; rw [hwy] at hby ⊢
    obtain ⟨hcb, hcf⟩ := bcell hby
    replace k0 := (hcb _ _ hl1).trans k0
    replace k1 := (hcb _ _ hl1).trans k1
    replace k2 := (hcb _ _ hl1).trans k2
    replace k3 := (hcb _ _ hl1).trans k3
    replace k4 := (hcb _ _ hl1).trans k4
    replace k5 := (hcb _ _ hl1).trans k5
    replace k6 := (hcb _ _ hl1).trans k6
    replace k7 := (hcb _ _ hl1).trans k7
    replace k8 := (hcb _ _ hl1).trans k8
    replace k9 := (hcb _ _ hl1).trans k9
    replace k10 := (hcb _ _ hl1).trans k10
    replace k11 := (hcb _ _ hl1).trans k11
    replace e0 := (hcb _ _ hl2).trans e0
    replace e1 := (hcb _ _ hl2).trans e1
    replace e2 := (hcb _ _ hl2).trans e2
    replace e3 := (hcb _ _ hl2).trans e3
    replace hl1 : w.heap.size < wy.heap.size := by have := hby.size; omega
    replace hl2 : w.heap.size + 1 < wy.heap.size := by have := hby.size; omega
    have hb1 : Below w.heap.size w wy := hb0.trans (hby.mono (by have := HS.out; omega))
    clear hby hb0 hcb hcf
    go_wp2
    have HB1 := Lib.hid hb1
    clear hb1
    refine wp_region_calm (by kernel_rfl) (by kernel_rfl) ?_
    repeat (go_big_quiet_step ((first | (go_at_call 113; exact calm_of (lo_any _ _ _)) | (go_at_call 114; exact calm_of (hi_any _ _ _)))))
    refine wpQuiet_nil ?_; rintro _ ⟨dx, rfl⟩
    rename_i wq _
    obtain ⟨wz, hwz⟩ : ∃ wz, wx wy dx = wz := ⟨_, rfl⟩
    have hbz := wx_below wy dx
    rw [hwz] at hbz ⊢
    go_wp2
    all_goals go_ret
    all_goals refine ⟨?_, HB1.out.trans (hbz.mono (by have := HB1.out.size; omega))⟩
    all_goals simp
    all_goals (first | omega | (simp only [wrap64_in _ (show -9223372036854775808 ≤ (0 : Int) ∧ (0 : Int) ≤ 9223372036854775807 by omega)]; omega) | (simp only [wrap64] at *; omega))
set_option maxRecDepth 100000 in
set_option maxHeartbeats 4000000 in
theorem with_hi (s : So) (wl wh x : Int) (w : World) (k : Nat) (hB : SoB s k) (hk : k ≤ 100) (x0 : 0 ≤ x) (x1 : x ≤ 1000000000) :
    Calls Try.prog 79 #[.agg #[.int .i64 s.saL, .int .i64 s.saH, .int .i64 s.lim, .int .i64 s.crop, .int .i64 s.miL, .int .i64 s.miH, .int .i64 s.waL, .int .i64 s.waH, .int .i64 s.riL, .int .i64 s.riH, .int .i64 wl, .int .i64 wh], .int .i64 x, .agg #[.func (.func 114) #[] #[], .func (.func 113) #[] #[], .func (.func 117) #[] #[], .func (.func 118) #[] #[]]] w fun e w' => e = .returned (.int .i64 (withI s.saH s.miH s.waL s.riH s.crop x)) ∧ Below w.heap.size w w' := by
  have b1 := hB.a3
  have b2 : s.saH ≤ 100000000000000 := by have := hB.a4; omega
  have b3 := hB.r3
  have b4 := hB.r4
  have b5 := hB.c1
  have b6 := hB.c2
  have p1 := mul_le_of x0 x1 hB.m3 hB.m4
  have p2 := mul_le_of (show 0 ≤ max (x - s.crop) 0 by omega) (show max (x - s.crop) 0 ≤ 1000000000 by omega) hB.w1 hB.w2
  simp only [Int.reduceMul] at p1 p2
  clear hB hk
  by_cases hc : x - s.crop < 0
  · have hm : withI s.saH s.miH s.waL s.riH s.crop x = max ((s.saH + s.riH) * 1000 + x * s.miH) 0 := by unfold withI; rw [show max (x - s.crop) 0 = 0 by omega, Int.zero_mul, Int.sub_zero]
    rw [hm]
    clear hm p2
    go_enter Try.func79, Try.ntmps79
    go_wp2
    generalize hw0 : (w.alloc (Obj.cells #[.int .i64 s.saL, .int .i64 s.saH, .int .i64 s.lim, .int .i64 s.crop, .int .i64 s.miL, .int .i64 s.miH, .int .i64 s.waL, .int .i64 s.waH, .int .i64 s.riL, .int .i64 s.riH, .int .i64 wl, .int .i64 wh] 96)).alloc (Obj.cells #[.func (.func 114) #[] #[], .func (.func 113) #[] #[], .func (.func 117) #[] #[], .func (.func 118) #[] #[]] 137) = w0
    have hb0 : Below w.heap.size w w0 := by rw [← hw0]; (repeat' (first | (with_reducible exact Below.refl _ _) | (with_reducible refine Below.alloc ?_ ?_ _) | (with_reducible refine Below.drew ?_) | (with_reducible refine Below.drewN_ ?_ _) | (with_reducible refine Below.setCell ?_ ?_ _) | (with_reducible refine Below.setRow ?_ ?_ _) | (with_reducible refine Below.via ?_ (by with_reducible assumption) ?_) | go_size))
    have hsz : w0.heap.size = w.heap.size + 1 + 1 := by rw [← hw0]; simp
    have k0 : w0.cell? ⟨w.heap.size, 0, none⟩ = some (.int .i64 s.saL) := by rw [← hw0]; simp
    have k1 : w0.cell? ⟨w.heap.size, 1, none⟩ = some (.int .i64 s.saH) := by rw [← hw0]; simp
    have k2 : w0.cell? ⟨w.heap.size, 2, none⟩ = some (.int .i64 s.lim) := by rw [← hw0]; simp
    have k3 : w0.cell? ⟨w.heap.size, 3, none⟩ = some (.int .i64 s.crop) := by rw [← hw0]; simp
    have k4 : w0.cell? ⟨w.heap.size, 4, none⟩ = some (.int .i64 s.miL) := by rw [← hw0]; simp
    have k5 : w0.cell? ⟨w.heap.size, 5, none⟩ = some (.int .i64 s.miH) := by rw [← hw0]; simp
    have k6 : w0.cell? ⟨w.heap.size, 6, none⟩ = some (.int .i64 s.waL) := by rw [← hw0]; simp
    have k7 : w0.cell? ⟨w.heap.size, 7, none⟩ = some (.int .i64 s.waH) := by rw [← hw0]; simp
    have k8 : w0.cell? ⟨w.heap.size, 8, none⟩ = some (.int .i64 s.riL) := by rw [← hw0]; simp
    have k9 : w0.cell? ⟨w.heap.size, 9, none⟩ = some (.int .i64 s.riH) := by rw [← hw0]; simp
    have k10 : w0.cell? ⟨w.heap.size, 10, none⟩ = some (.int .i64 wl) := by rw [← hw0]; simp
    have k11 : w0.cell? ⟨w.heap.size, 11, none⟩ = some (.int .i64 wh) := by rw [← hw0]; simp
    have e0 : w0.cell? ⟨w.heap.size + 1, 0, none⟩ = some (.func (.func 114) #[] #[]) := by rw [← hw0]; simp
    have e1 : w0.cell? ⟨w.heap.size + 1, 1, none⟩ = some (.func (.func 113) #[] #[]) := by rw [← hw0]; simp
    have e2 : w0.cell? ⟨w.heap.size + 1, 2, none⟩ = some (.func (.func 117) #[] #[]) := by rw [← hw0]; simp
    have e3 : w0.cell? ⟨w.heap.size + 1, 3, none⟩ = some (.func (.func 118) #[] #[]) := by rw [← hw0]; simp
    have hl1 : w.heap.size < w0.heap.size := by omega
    have hl2 : w.heap.size + 1 < w0.heap.size := by omega
    have HW0 := Lib.hid hw0
    have HS := Lib.hid hsz
    clear hw0 hsz
    refine wp_region_calm (by kernel_rfl) (by kernel_rfl) ?_
    repeat (go_big_quiet_step ((first | (go_at_call 113; exact calm_of (lo_any _ _ _)) | (go_at_call 114; exact calm_of (hi_any _ _ _)))))
    refine wpQuiet_nil ?_; rintro _ ⟨dx, rfl⟩
    obtain ⟨wy, hwy⟩ : ∃ wy, wx _ dx = wy := ⟨_, rfl⟩; have hby := wx_below _ dx; rw [hwy] at hby ⊢
    obtain ⟨hcb, hcf⟩ := bcell hby
    replace k0 := (hcb _ _ hl1).trans k0
    replace k1 := (hcb _ _ hl1).trans k1
    replace k2 := (hcb _ _ hl1).trans k2
    replace k3 := (hcb _ _ hl1).trans k3
    replace k4 := (hcb _ _ hl1).trans k4
    replace k5 := (hcb _ _ hl1).trans k5
    replace k6 := (hcb _ _ hl1).trans k6
    replace k7 := (hcb _ _ hl1).trans k7
    replace k8 := (hcb _ _ hl1).trans k8
    replace k9 := (hcb _ _ hl1).trans k9
    replace k10 := (hcb _ _ hl1).trans k10
    replace k11 := (hcb _ _ hl1).trans k11
    replace e0 := (hcb _ _ hl2).trans e0
    replace e1 := (hcb _ _ hl2).trans e1
    replace e2 := (hcb _ _ hl2).trans e2
    replace e3 := (hcb _ _ hl2).trans e3
    replace hl1 : w.heap.size < wy.heap.size := by have := hby.size; omega
    replace hl2 : w.heap.size + 1 < wy.heap.size := by have := hby.size; omega
    have hb1 : Below w.heap.size w wy := hb0.trans (hby.mono (by have := HS.out; omega))
    clear hby hb0 hcb hcf
    go_wp2
    have HB1 := Lib.hid hb1
    clear hb1
    refine wp_region_calm (by kernel_rfl) (by kernel_rfl) ?_
    repeat (go_big_quiet_step ((first | (go_at_call 113; exact calm_of (lo_any _ _ _)) | (go_at_call 114; exact calm_of (hi_any _ _ _)))))
    refine wpQuiet_nil ?_; rintro _ ⟨dx, rfl⟩
    rename_i wq _
    obtain ⟨wz, hwz⟩ : ∃ wz, wx wy dx = wz := ⟨_, rfl⟩
    have hbz := wx_below wy dx
    rw [hwz] at hbz ⊢
    go_wp2
    all_goals go_ret
    all_goals refine ⟨?_, HB1.out.trans (hbz.mono (by have := HB1.out.size; omega))⟩
    all_goals simp
    all_goals (first | omega | (simp only [wrap64_in _ (show -9223372036854775808 ≤ (0 : Int) ∧ (0 : Int) ≤ 9223372036854775807 by omega)]; omega) | (simp only [wrap64] at *; omega))
  · rw [show max (x - s.crop) 0 = x - s.crop by omega] at p2
    have hm : withI s.saH s.miH s.waL s.riH s.crop x = max ((s.saH + s.riH) * 1000 + x * s.miH - (x - s.crop) * s.waL) 0 := by unfold withI; rw [show max (x - s.crop) 0 = x - s.crop by omega]
    rw [hm]
    clear hm
    go_enter Try.func79, Try.ntmps79
    go_wp2
    generalize hw0 : (w.alloc (Obj.cells #[.int .i64 s.saL, .int .i64 s.saH, .int .i64 s.lim, .int .i64 s.crop, .int .i64 s.miL, .int .i64 s.miH, .int .i64 s.waL, .int .i64 s.waH, .int .i64 s.riL, .int .i64 s.riH, .int .i64 wl, .int .i64 wh] 96)).alloc (Obj.cells #[.func (.func 114) #[] #[], .func (.func 113) #[] #[], .func (.func 117) #[] #[], .func (.func 118) #[] #[]] 137) = w0
    have hb0 : Below w.heap.size w w0 := by rw [← hw0]; (repeat' (first | (with_reducible exact Below.refl _ _) | (with_reducible refine Below.alloc ?_ ?_ _) | (with_reducible refine Below.drew ?_) | (with_reducible refine Below.drewN_ ?_ _) | (with_reducible refine Below.setCell ?_ ?_ _) | (with_reducible refine Below.setRow ?_ ?_ _) | (with_reducible refine Below.via ?_ (by with_reducible assumption) ?_) | go_size))
    have hsz : w0.heap.size = w.heap.size + 1 + 1 := by rw [← hw0]; simp
    have k0 : w0.cell? ⟨w.heap.size, 0, none⟩ = some (.int .i64 s.saL) := by rw [← hw0]; simp
    have k1 : w0.cell? ⟨w.heap.size, 1, none⟩ = some (.int .i64 s.saH) := by rw [← hw0]; simp
    have k2 : w0.cell? ⟨w.heap.size, 2, none⟩ = some (.int .i64 s.lim) := by rw [← hw0]; simp
    have k3 : w0.cell? ⟨w.heap.size, 3, none⟩ = some (.int .i64 s.crop) := by rw [← hw0]; simp
    have k4 : w0.cell? ⟨w.heap.size, 4, none⟩ = some (.int .i64 s.miL) := by rw [← hw0]; simp
    have k5 : w0.cell? ⟨w.heap.size, 5, none⟩ = some (.int .i64 s.miH) := by rw [← hw0]; simp
    have k6 : w0.cell? ⟨w.heap.size, 6, none⟩ = some (.int .i64 s.waL) := by rw [← hw0]; simp
    have k7 : w0.cell? ⟨w.heap.size, 7, none⟩ = some (.int .i64 s.waH) := by rw [← hw0]; simp
    have k8 : w0.cell? ⟨w.heap.size, 8, none⟩ = some (.int .i64 s.riL) := by rw [← hw0]; simp
    have k9 : w0.cell? ⟨w.heap.size, 9, none⟩ = some (.int .i64 s.riH) := by rw [← hw0]; simp
    have k10 : w0.cell? ⟨w.heap.size, 10, none⟩ = some (.int .i64 wl) := by rw [← hw0]; simp
    have k11 : w0.cell? ⟨w.heap.size, 11, none⟩ = some (.int .i64 wh) := by rw [← hw0]; simp
    have e0 : w0.cell? ⟨w.heap.size + 1, 0, none⟩ = some (.func (.func 114) #[] #[]) := by rw [← hw0]; simp
    have e1 : w0.cell? ⟨w.heap.size + 1, 1, none⟩ = some (.func (.func 113) #[] #[]) := by rw [← hw0]; simp
    have e2 : w0.cell? ⟨w.heap.size + 1, 2, none⟩ = some (.func (.func 117) #[] #[]) := by rw [← hw0]; simp
    have e3 : w0.cell? ⟨w.heap.size + 1, 3, none⟩ = some (.func (.func 118) #[] #[]) := by rw [← hw0]; simp
    have hl1 : w.heap.size < w0.heap.size := by omega
    have hl2 : w.heap.size + 1 < w0.heap.size := by omega
    have HW0 := Lib.hid hw0
    have HS := Lib.hid hsz
    clear hw0 hsz
    refine wp_region_calm (by kernel_rfl) (by kernel_rfl) ?_
    repeat (go_big_quiet_step ((first | (go_at_call 113; exact calm_of (lo_any _ _ _)) | (go_at_call 114; exact calm_of (hi_any _ _ _)))))
    refine wpQuiet_nil ?_; rintro _ ⟨dx, rfl⟩
    obtain ⟨wy, hwy⟩ : ∃ wy, wx _ dx = wy := ⟨_, rfl⟩; have hby := wx_below _ dx; rw [hwy] at hby ⊢
    obtain ⟨hcb, hcf⟩ := bcell hby
    replace k0 := (hcb _ _ hl1).trans k0
    replace k1 := (hcb _ _ hl1).trans k1
    replace k2 := (hcb _ _ hl1).trans k2
    replace k3 := (hcb _ _ hl1).trans k3
    replace k4 := (hcb _ _ hl1).trans k4
    replace k5 := (hcb _ _ hl1).trans k5
    replace k6 := (hcb _ _ hl1).trans k6
    replace k7 := (hcb _ _ hl1).trans k7
    replace k8 := (hcb _ _ hl1).trans k8
    replace k9 := (hcb _ _ hl1).trans k9
    replace k10 := (hcb _ _ hl1).trans k10
    replace k11 := (hcb _ _ hl1).trans k11
    replace e0 := (hcb _ _ hl2).trans e0
    replace e1 := (hcb _ _ hl2).trans e1
    replace e2 := (hcb _ _ hl2).trans e2
    replace e3 := (hcb _ _ hl2).trans e3
    replace hl1 : w.heap.size < wy.heap.size := by have := hby.size; omega
    replace hl2 : w.heap.size + 1 < wy.heap.size := by have := hby.size; omega
    have hb1 : Below w.heap.size w wy := hb0.trans (hby.mono (by have := HS.out; omega))
    clear hby hb0 hcb hcf
    go_wp2
    have HB1 := Lib.hid hb1
    clear hb1
    refine wp_region_calm (by kernel_rfl) (by kernel_rfl) ?_
    repeat (go_big_quiet_step ((first | (go_at_call 113; exact calm_of (lo_any _ _ _)) | (go_at_call 114; exact calm_of (hi_any _ _ _)))))
    refine wpQuiet_nil ?_; rintro _ ⟨dx, rfl⟩
    rename_i wq _
    obtain ⟨wz, hwz⟩ : ∃ wz, wx wy dx = wz := ⟨_, rfl⟩
    have hbz := wx_below wy dx
    rw [hwz] at hbz ⊢
    go_wp2
    all_goals go_ret
    all_goals refine ⟨?_, HB1.out.trans (hbz.mono (by have := HB1.out.size; omega))⟩
    all_goals simp
    all_goals (first | omega | (simp only [wrap64_in _ (show -9223372036854775808 ≤ (0 : Int) ∧ (0 : Int) ≤ 9223372036854775807 by omega)]; omega) | (simp only [wrap64] at *; omega))

end Go.Proofs.Ytjkefoijhphknaa
