/- The reference's least, most, cycle, After and Need of a soil. Condition of the first three: numbers within bounds. -/
import Derived.Test.YtjkefoijhphknaaSaWith
import Derived.Test.YtjkefoijhphknaaOwn
import Derived.Test.YtjkefoijhphknaaSpans
import Derived.IntWalk
import Derived.Deep.Cut
import Derived.Deep.RegionWith
import Derived.Deep.CutRange
namespace Go.Proofs.Ytjkefoijhphknaa
open Go.RowKit Go.IntWalk
attribute [local go_sem] wx_cell wx_frozen

theorem info_parts {o : Option TypeInfo} {z : Value} {a b : Nat} (h : o.map (fun i => (i.zero, i.size, i.bytes)) = some (some z, a, b)) : ∃ i, o = some i ∧ i.zero = some z ∧ i.size = a ∧ i.bytes = b := by
  cases o with
  | none => cases h
  | some i => simp only [Option.map_some, Option.some.injEq, Prod.mk.injEq] at h; exact ⟨i, rfl, h.1, h.2.1, h.2.2⟩
theorem infoSpanI : (Try.prog.info? 23).map (fun i => (i.zero, i.size, i.bytes)) = some (some (.agg #[.int .i64 0, .int .i64 0]), 2, 16) := by kernel_rfl

set_option maxHeartbeats 1000000 in
theorem rleast_any (s : So) (x : Int) (w : World) (k : Nat) (hB : SoB s k) (hk : k ≤ 100) (x0 : 0 ≤ x) (x1 : x ≤ 1000000000) :
    Calls Try.prog 76 #[.agg #[.int .i64 s.saL, .int .i64 s.saH, .int .i64 s.lim, .int .i64 s.crop, .int .i64 s.miL, .int .i64 s.miH, .int .i64 s.waL, .int .i64 s.waH, .int .i64 s.riL, .int .i64 s.riH], .int .i64 x] w fun e w' => e = .returned (.int .i64 (leastI s x)) ∧ Below w.heap.size w w' := by
  have a2 := hB.a2
  have CT := Lib.hid (fun W => rthen_any s.saL s.miL s.waH s.riL s.crop x W hB.a1 (by omega) hB.r1 hB.r2 x0 x1 hB.m1 hB.m2 hB.w3 hB.w4 hB.c1 hB.c2)
  obtain ⟨v, hv⟩ : ∃ v, leastI s x = v := ⟨_, rfl⟩
  rw [hv]
  unfold leastI at hv
  rw [hv] at CT
  clear hv hB a2
  go_enter Try.func76, Try.ntmps76
  go_wp2_with (go_at_call 119; refine (CT.out _).mono ?_; rintro e w' ⟨rfl, rfl⟩)
  go_ret
  exact ⟨rfl, by (repeat' (first | (with_reducible exact Below.refl _ _) | (with_reducible refine Below.alloc ?_ ?_ _) | (with_reducible refine Below.drew ?_) | (with_reducible refine Below.drewN_ ?_ _) | (with_reducible refine Below.setCell ?_ ?_ _) | (with_reducible refine Below.setRow ?_ ?_ _) | (with_reducible refine Below.via ?_ (by with_reducible assumption) ?_) | go_size))⟩
set_option maxHeartbeats 1000000 in
theorem rmost_any (s : So) (x : Int) (w : World) (k : Nat) (hB : SoB s k) (hk : k ≤ 100) (x0 : 0 ≤ x) (x1 : x ≤ 1000000000) :
    Calls Try.prog 77 #[.agg #[.int .i64 s.saL, .int .i64 s.saH, .int .i64 s.lim, .int .i64 s.crop, .int .i64 s.miL, .int .i64 s.miH, .int .i64 s.waL, .int .i64 s.waH, .int .i64 s.riL, .int .i64 s.riH], .int .i64 x] w fun e w' => e = .returned (.int .i64 (mostI s x)) ∧ Below w.heap.size w w' := by
  have a2 := hB.a4
  have CT := Lib.hid (fun W => rthen_any s.saH s.miH s.waL s.riH s.crop x W hB.a3 (by omega) hB.r3 hB.r4 x0 x1 hB.m3 hB.m4 hB.w1 hB.w2 hB.c1 hB.c2)
  obtain ⟨v, hv⟩ : ∃ v, mostI s x = v := ⟨_, rfl⟩
  rw [hv]
  unfold mostI at hv
  rw [hv] at CT
  clear hv hB a2
  go_enter Try.func77, Try.ntmps77
  go_wp2_with (go_at_call 119; refine (CT.out _).mono ?_; rintro e w' ⟨rfl, rfl⟩)
  go_ret
  exact ⟨rfl, by (repeat' (first | (with_reducible exact Below.refl _ _) | (with_reducible refine Below.alloc ?_ ?_ _) | (with_reducible refine Below.drew ?_) | (with_reducible refine Below.drewN_ ?_ _) | (with_reducible refine Below.setCell ?_ ?_ _) | (with_reducible refine Below.setRow ?_ ?_ _) | (with_reducible refine Below.via ?_ (by with_reducible assumption) ?_) | go_size))⟩

theorem leastI_low {s : So} {k : Nat} (h : SoB s k) {x : Int} (x0 : 0 ≤ x) (x1 : x ≤ 1000000000) : -100000000000000 ≤ leastI s x := by
  have h1 := Int.mul_nonneg x0 h.m1
  have h2 := mul_le_of h.w3 h.w4 (show 0 ≤ max 0 (x - s.crop) by omega) (show max 0 (x - s.crop) ≤ 1000000000 by have := h.c1; omega)
  simp only [Int.reduceMul] at h2
  have h3 := h.a1
  have h4 := h.r1
  unfold leastI thenI
  generalize s.waH * max 0 (x - s.crop) = p at *
  generalize x * s.miL = q at *
  omega
theorem mostI_low {s : So} {k : Nat} (h : SoB s k) {x : Int} (x0 : 0 ≤ x) (x1 : x ≤ 1000000000) : -100000000000000 ≤ mostI s x := by
  have h1 := Int.mul_nonneg x0 h.m3
  have h2 := mul_le_of h.w1 h.w2 (show 0 ≤ max 0 (x - s.crop) by omega) (show max 0 (x - s.crop) ≤ 1000000000 by have := h.c1; omega)
  simp only [Int.reduceMul] at h2
  have h3 := h.a3
  have h4 := h.r3
  unfold mostI thenI
  generalize s.waL * max 0 (x - s.crop) = p at *
  generalize x * s.miH = q at *
  omega

set_option maxRecDepth 100000 in
set_option maxHeartbeats 4000000 in
theorem rcycle_any (s : So) (wl wh : Int) (w : World) (k : Nat) (hB : SoB s k) (hk : k ≤ 100) (x0 : 0 ≤ wl) (x1 : wl ≤ wh) (x2 : wh ≤ 1000000000) :
    Calls Try.prog 47 #[.agg #[.int .i64 s.saL, .int .i64 s.saH, .int .i64 s.lim, .int .i64 s.crop, .int .i64 s.miL, .int .i64 s.miH, .int .i64 s.waL, .int .i64 s.waH, .int .i64 s.riL, .int .i64 s.riH], .agg #[.int .i64 wl, .int .i64 wh]] w fun e w' => e = .returned (.agg #[.int .i64 (cyc s wl wh).saL, .int .i64 (cyc s wl wh).saH]) ∧ Below w.heap.size w w' := by
  have a2 := hB.a2
  have a4 := hB.a4
  have r2 := hB.r2
  have r4 := hB.r4
  have c1 := hB.c1
  have c2 := hB.c2
  obtain ⟨F, hF⟩ : ∃ F : Int → Int, F = fun u => leastI s u := ⟨_, rfl⟩
  obtain ⟨G, hG⟩ : ∃ G : Int → Int, G = fun u => mostI s u := ⟨_, rfl⟩
  have CF : ∀ u W, 0 ≤ u → u ≤ 1000000000 → Calls Try.prog 76 #[.agg #[.int .i64 s.saL, .int .i64 s.saH, .int .i64 s.lim, .int .i64 s.crop, .int .i64 s.miL, .int .i64 s.miH, .int .i64 s.waL, .int .i64 s.waH, .int .i64 s.riL, .int .i64 s.riH], .int .i64 u] W fun e w' => e = .returned (.int .i64 (F u)) ∧ Below W.heap.size W w' := by rw [hF]; exact fun u W h1 h2 => rleast_any s u W k hB hk h1 h2
  have CG : ∀ u W, 0 ≤ u → u ≤ 1000000000 → Calls Try.prog 77 #[.agg #[.int .i64 s.saL, .int .i64 s.saH, .int .i64 s.lim, .int .i64 s.crop, .int .i64 s.miL, .int .i64 s.miH, .int .i64 s.waL, .int .i64 s.waH, .int .i64 s.riL, .int .i64 s.riH], .int .i64 u] W fun e w' => e = .returned (.int .i64 (G u)) ∧ Below W.heap.size W w' := by rw [hG]; exact fun u W h1 h2 => rmost_any s u W k hB hk h1 h2
  have bF : ∀ u, 0 ≤ u → u ≤ 1000000000 → -100000000000000 ≤ F u ∧ F u ≤ 1000000000000000000 := by
    rw [hF]; exact fun u h1 h2 => ⟨leastI_low hB h1 h2, by have := leastI_bnd hB h1 h2; dsimp only; omega⟩
  have bG : ∀ u, 0 ≤ u → u ≤ 1000000000 → -100000000000000 ≤ G u ∧ G u ≤ 1000000000000000000 := by
    rw [hG]; exact fun u h1 h2 => ⟨mostI_low hB h1 h2, by have := mostI_bnd hB h1 h2; dsimp only; omega⟩
  have e1 : (cyc s wl wh).saL = max 0 (min (F wl) (F wh)) / 1000 := by rw [hF]; rfl
  have e2 : (cyc s wl wh).saH = (max 0 (if wl ≤ s.crop ∧ s.crop ≤ wh then max (max (G wl) (G wh)) (G s.crop) else max (G wl) (G wh)) + 999) / 1000 := by rw [hG]; rfl
  have b1 := bF wl (by omega) (by omega)
  have b2 := bF wh (by omega) (by omega)
  have b3 := bG wl (by omega) (by omega)
  have b4 := bG wh (by omega) (by omega)
  have b5 := bG s.crop (by omega) (by omega)
  obtain ⟨P, hP⟩ : ∃ P, min (F wl) (F wh) = P := ⟨_, rfl⟩
  obtain ⟨Q, hQ⟩ : ∃ Q, max (G wl) (G wh) = Q := ⟨_, rfl⟩
  have p1 : P = if F wh < F wl then F wh else F wl := by rw [← hP]; split <;> omega
  have q1 : Q = if G wl < G wh then G wh else G wl := by rw [← hQ]; split <;> omega
  have p2 : -100000000000000 ≤ P ∧ P ≤ 1000000000000000000 := by omega
  have q2 : -100000000000000 ≤ Q ∧ Q ≤ 1000000000000000000 := by omega
  rw [e1, e2, hP, hQ]
  have HP := Lib.hid p1
  have HQ := Lib.hid q1
  have HCF := Lib.hid CF
  have HCG := Lib.hid CG
  obtain ⟨u, hu⟩ : ∃ u, (if wl ≤ s.crop ∧ s.crop ≤ wh then max Q (G s.crop) else Q) = u := ⟨_, rfl⟩
  rw [hu]
  cases hc : soIn s.crop wl wh
  all_goals
    have hcc := hc
    simp [soIn] at hcc
    have hu2 := hu
    first | rw [if_neg (by omega)] at hu2 | rw [if_pos (by omega)] at hu2
    have HU := Lib.hid hu2
    clear hF hG CF CG bF bG e1 e2 hP hQ p1 q1 hu hu2 hcc hB hk a2 a4 r2 r4
    go_enter Try.func47, Try.ntmps47
    go_wp2
    generalize hw0 : ((w.alloc (Obj.cells #[.int .i64 s.saL, .int .i64 s.saH, .int .i64 s.lim, .int .i64 s.crop, .int .i64 s.miL, .int .i64 s.miH, .int .i64 s.waL, .int .i64 s.waH, .int .i64 s.riL, .int .i64 s.riH] 25)).alloc (Obj.cells #[.int .i64 wl, .int .i64 wh] 23)).alloc (Obj.cells #[.int .i64 0, .int .i64 0] 23) = w0
    have hb0 : Below w.heap.size w w0 := by rw [← hw0]; (repeat' (first | (with_reducible exact Below.refl _ _) | (with_reducible refine Below.alloc ?_ ?_ _) | (with_reducible refine Below.drew ?_) | (with_reducible refine Below.drewN_ ?_ _) | (with_reducible refine Below.setCell ?_ ?_ _) | (with_reducible refine Below.setRow ?_ ?_ _) | (with_reducible refine Below.via ?_ (by with_reducible assumption) ?_) | go_size))
    have hsz : w0.heap.size = w.heap.size + 1 + 1 + 1 := by rw [← hw0]; simp
    have hA : w0.heap[w.heap.size]? = some (.cells #[.int .i64 s.saL, .int .i64 s.saH, .int .i64 s.lim, .int .i64 s.crop, .int .i64 s.miL, .int .i64 s.miH, .int .i64 s.waL, .int .i64 s.waH, .int .i64 s.riL, .int .i64 s.riH] 25 (0, 0)) := by rw [← hw0]; exact (Below.heap_alloc _ _ _ (by simp; omega)).trans ((Below.heap_alloc _ _ _ (by simp)).trans (heap_alloc_new _ _))
    have hA2 : w0.heap[w.heap.size + 1]? = some (.cells #[.int .i64 wl, .int .i64 wh] 23 (0, 0)) := by rw [← hw0]; exact (Below.heap_alloc _ _ _ (by simp)).trans (heap_alloc2_new _ _ _)
    have k0 : w0.cell? ⟨w.heap.size, 0, none⟩ = some (.int .i64 s.saL) := cell_of_row w0 _ 0 _ _ _ hA
    have k1 : w0.cell? ⟨w.heap.size, 1, none⟩ = some (.int .i64 s.saH) := cell_of_row w0 _ 1 _ _ _ hA
    have k2 : w0.cell? ⟨w.heap.size, 2, none⟩ = some (.int .i64 s.lim) := cell_of_row w0 _ 2 _ _ _ hA
    have k3 : w0.cell? ⟨w.heap.size, 3, none⟩ = some (.int .i64 s.crop) := cell_of_row w0 _ 3 _ _ _ hA
    have k4 : w0.cell? ⟨w.heap.size, 4, none⟩ = some (.int .i64 s.miL) := cell_of_row w0 _ 4 _ _ _ hA
    have k5 : w0.cell? ⟨w.heap.size, 5, none⟩ = some (.int .i64 s.miH) := cell_of_row w0 _ 5 _ _ _ hA
    have k6 : w0.cell? ⟨w.heap.size, 6, none⟩ = some (.int .i64 s.waL) := cell_of_row w0 _ 6 _ _ _ hA
    have k7 : w0.cell? ⟨w.heap.size, 7, none⟩ = some (.int .i64 s.waH) := cell_of_row w0 _ 7 _ _ _ hA
    have k8 : w0.cell? ⟨w.heap.size, 8, none⟩ = some (.int .i64 s.riL) := cell_of_row w0 _ 8 _ _ _ hA
    have k9 : w0.cell? ⟨w.heap.size, 9, none⟩ = some (.int .i64 s.riH) := cell_of_row w0 _ 9 _ _ _ hA
    have v0 : w0.cell? ⟨w.heap.size + 1, 0, none⟩ = some (.int .i64 wl) := cell_of_row w0 _ 0 _ _ _ hA2
    have v1 : w0.cell? ⟨w.heap.size + 1, 1, none⟩ = some (.int .i64 wh) := cell_of_row w0 _ 1 _ _ _ hA2
    have hrow : w0.heap[w.heap.size + 1 + 1]? = some (.cells #[.int .i64 0, .int .i64 0] 23 (0, 0)) := by rw [← hw0]; have := heap_alloc_new ((w.alloc (Obj.cells #[.int .i64 s.saL, .int .i64 s.saH, .int .i64 s.lim, .int .i64 s.crop, .int .i64 s.miL, .int .i64 s.miH, .int .i64 s.waL, .int .i64 s.waH, .int .i64 s.riL, .int .i64 s.riH] 25)).alloc (Obj.cells #[.int .i64 wl, .int .i64 wh] 23)) (Obj.cells #[.int .i64 0, .int .i64 0] 23); simpa using this
    have hl1 : w.heap.size < w0.heap.size := by omega
    have hl2 : w.heap.size + 1 < w0.heap.size := by omega
    have hl3 : w.heap.size + 1 + 1 < w0.heap.size := by omega
    have HW0 := Lib.hid hw0
    have HS := Lib.hid hsz
    have HR := Lib.hid hrow
    have HB0 := Lib.hid hb0
    clear hw0 hsz hrow hb0 hA hA2
    refine wp_region_calm (by kernel_rfl) (by kernel_rfl) ?_
    repeat (go_big_quiet_step (((go_at_call 76; exact calm_of (HCF.out _ _ (by omega) (by omega))))))
    refine wpQuiet_nil ?_; rintro _ ⟨dx, rfl⟩
    obtain ⟨wy, hwy⟩ : ∃ wy, wx _ dx = wy := ⟨_, rfl⟩; have hby := wx_below _ dx; rw [hwy] at hby ⊢
    obtain ⟨hcb, hcf⟩ := bcell hby
    replace k0 := (hcb _ _ hl1).trans k0
    replace k1 := (hcb _ _ hl1).trans k1
    replace k2 := (hcb _ _ hl1).trans k2
    replace k3 := (hcb _ _ hl1).trans k3
    replace k4 := (hcb _ _ hl1).trans k4
    replace k5 := (hcb _ _ hl1).trans k5
    replace k6 := (hcb _ _ hl1).trans k6
    replace k7 := (hcb _ _ hl1).trans k7
    replace k8 := (hcb _ _ hl1).trans k8
    replace k9 := (hcb _ _ hl1).trans k9
    replace v0 := (hcb _ _ hl2).trans v0
    replace v1 := (hcb _ _ hl2).trans v1
    replace HR := Lib.hid ((hby.block _ hl3).trans HR.out)
    replace hl1 : w.heap.size < wy.heap.size := by have := hby.size; omega
    replace hl2 : w.heap.size + 1 < wy.heap.size := by have := hby.size; omega
    replace hl3 : w.heap.size + 1 + 1 < wy.heap.size := by have := hby.size; omega
    replace HB0 := Lib.hid (HB0.out.trans (hby.mono (by have := HB0.out.size; omega)))
    clear hby hcb hcf
    rw [← HP.out]
    go_wp2
    refine wp_region_calm (by kernel_rfl) (by kernel_rfl) ?_
    repeat (go_big_quiet_step (((go_at_call 77; exact calm_of (HCG.out _ _ (by omega) (by omega))))))
    refine wpQuiet_nil ?_; rintro _ ⟨dx, rfl⟩
    obtain ⟨wy, hwy⟩ : ∃ wy, wx _ dx = wy := ⟨_, rfl⟩; have hby := wx_below _ dx; rw [hwy] at hby ⊢
    obtain ⟨hcb, hcf⟩ := bcell hby
    replace k0 := (hcb _ _ hl1).trans k0
    replace k1 := (hcb _ _ hl1).trans k1
    replace k2 := (hcb _ _ hl1).trans k2
    replace k3 := (hcb _ _ hl1).trans k3
    replace k4 := (hcb _ _ hl1).trans k4
    replace k5 := (hcb _ _ hl1).trans k5
    replace k6 := (hcb _ _ hl1).trans k6
    replace k7 := (hcb _ _ hl1).trans k7
    replace k8 := (hcb _ _ hl1).trans k8
    replace k9 := (hcb _ _ hl1).trans k9
    replace v0 := (hcb _ _ hl2).trans v0
    replace v1 := (hcb _ _ hl2).trans v1
    replace HR := Lib.hid ((hby.block _ hl3).trans HR.out)
    replace hl1 : w.heap.size < wy.heap.size := by have := hby.size; omega
    replace hl2 : w.heap.size + 1 < wy.heap.size := by have := hby.size; omega
    replace hl3 : w.heap.size + 1 + 1 < wy.heap.size := by have := hby.size; omega
    replace HB0 := Lib.hid (HB0.out.trans (hby.mono (by have := HB0.out.size; omega)))
    clear hby hcb hcf
    rw [← HQ.out]
    have z0 := cell_of_row wy _ 0 _ _ _ HR.out
    have z1 := cell_of_row wy _ 1 _ _ _ HR.out
    have f0 := frozen_of_row wy _ 0 _ _ HR.out
    have f1 := frozen_of_row wy _ 1 _ _ HR.out
    simp only [List.getElem?_toArray, List.getElem?_cons_zero, List.getElem?_cons_succ] at z0 z1
    go_wp2_with (first | (go_at_call 46; refine (r6within_any _ _ _ _).mono ?_; rintro e w' ⟨rfl, rfl⟩) | (go_at_call 77; refine (HCG.out _ _ (by omega) (by omega)).mono ?_; rintro e w' ⟨rfl, hb1⟩; replace HR := Lib.hid ((hb1.block _ hl3).trans HR.out); replace hl3 : w.heap.size + 1 + 1 < w'.heap.size := (by have := hb1.size; omega); replace HB0 := Lib.hid (HB0.out.trans (hb1.mono (by have := HB0.out.size; omega))); have z2 := cell_of_row w' _ 0 _ _ _ HR.out; have z3 := cell_of_row w' _ 1 _ _ _ HR.out; have f2 := frozen_of_row w' _ 0 _ _ HR.out; have f3 := frozen_of_row w' _ 1 _ _ HR.out; simp only [List.getElem?_toArray, List.getElem?_cons_zero, List.getElem?_cons_succ] at z2 z3))
    all_goals
      have hU := HU.out
      refine bodyPost_ret (results_cell_row Try.results47 _ _ (w.heap.size + 1 + 1) 23 _ (0, 0) _ rfl (heap_set2 HR.out) Try.underlying23 rfl infoSpan) rfl ?_
      refine ⟨?_, Below.setCell (Below.setCell HB0.out (by show w.heap.size ≤ w.heap.size + 1 + 1; omega) _) (by show w.heap.size ≤ w.heap.size + 1 + 1; omega) _⟩
      simp
      omega
end Go.Proofs.Ytjkefoijhphknaa
