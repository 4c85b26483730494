/- The reference's After, and salt.Need. No condition. -/
import Derived.Test.YtjkefoijhphknaaSaRefB
import Derived.Test.YtjkefoijhphknaaSaNeed
import Derived.Test.YtjkefoijhphknaaSaAfterB
namespace Go.Proofs.Ytjkefoijhphknaa
open Go.RowKit Go.IntWalk

set_option maxRecDepth 100000 in
set_option maxHeartbeats 4000000 in
theorem Need_any (s : So) (w : World) :
    Calls Try.prog 14 #[.agg #[.int .i64 s.saL, .int .i64 s.saH, .int .i64 s.lim, .int .i64 s.crop, .int .i64 s.miL, .int .i64 s.miH, .int .i64 s.waL, .int .i64 s.waH, .int .i64 s.riL, .int .i64 s.riH]] w fun e w' => e = .returned (.tuple #[.int .i64 (saNeed s).1, .int .i64 (saNeed s).2]) ∧ Below w.heap.size w w' := by
  have HC := Lib.hid (scheck_any s)
  cases h : soOk s
  · rw [saNeed_bad h]
    rw [h] at HC
    clear h
    go_enter Try.func14, Try.ntmps14
    go_wp2_with (go_at_call 16; refine (HC.out _).mono ?_; rintro e w' ⟨rfl, hb1⟩; obtain ⟨hc1, hf1⟩ := bcell hb1; have hz1 := hb1.size; (try simp at hz1); (try have hy1 : w.heap.size < w'.heap.size := by omega))
    go_ret2
    exact ⟨rfl, by (repeat' (first | (with_reducible exact Below.refl _ _) | (with_reducible refine Below.alloc ?_ ?_ _) | (with_reducible refine Below.drew ?_) | (with_reducible refine Below.drewN_ ?_ _) | (with_reducible refine Below.setCell ?_ ?_ _) | (with_reducible refine Below.setRow ?_ ?_ _) | (with_reducible refine Below.via ?_ (by with_reducible assumption) ?_) | go_size))⟩
  · have HN := Lib.hid (fun W => wneed_any s 0 0 W (SoB.of_ok h))
    rw [h] at HC
    cases hn : needI s with
    | none =>
      rw [saNeed_none h hn]
      rw [hn] at HN
      clear h hn
      go_enter Try.func14, Try.ntmps14
      go_wp2_with (first | (go_at_call 16; refine (HC.out _).mono ?_; rintro e w' ⟨rfl, hb1⟩; obtain ⟨hc1, hf1⟩ := bcell hb1; have hz1 := hb1.size; (try simp at hz1); (try have hy1 : w.heap.size < w'.heap.size := by omega)) | (go_at_call 48; refine (HN.out _).mono ?_; rintro e w'' ⟨⟨v, rfl, _⟩, hb2⟩))
      go_ret2
      exact ⟨rfl, by (repeat' (first | (with_reducible exact Below.refl _ _) | (with_reducible refine Below.alloc ?_ ?_ _) | (with_reducible refine Below.drew ?_) | (with_reducible refine Below.drewN_ ?_ _) | (with_reducible refine Below.setCell ?_ ?_ _) | (with_reducible refine Below.setRow ?_ ?_ _) | (with_reducible refine Below.via ?_ (by with_reducible assumption) ?_) | go_size))⟩
    | some u =>
      rw [saNeed_some h hn]
      rw [hn] at HN
      clear h hn
      go_enter Try.func14, Try.ntmps14
      go_wp2_with (first | (go_at_call 16; refine (HC.out _).mono ?_; rintro e w' ⟨rfl, hb1⟩; obtain ⟨hc1, hf1⟩ := bcell hb1; have hz1 := hb1.size; (try simp at hz1); (try have hy1 : w.heap.size < w'.heap.size := by omega)) | (go_at_call 48; refine (HN.out _).mono ?_; rintro e w'' ⟨⟨v, rfl, hu⟩, hb2⟩; obtain rfl := hu u rfl; clear hu))
      go_ret2
      exact ⟨rfl, by (repeat' (first | (with_reducible exact Below.refl _ _) | (with_reducible refine Below.alloc ?_ ?_ _) | (with_reducible refine Below.drew ?_) | (with_reducible refine Below.drewN_ ?_ _) | (with_reducible refine Below.setCell ?_ ?_ _) | (with_reducible refine Below.setRow ?_ ?_ _) | (with_reducible refine Below.via ?_ (by with_reducible assumption) ?_) | go_size))⟩

theorem row10_set {w : World} {g : Nat} {x0 x1 x2 x3 x4 x5 x6 x7 x8 x9 a b : Value} {t : TypeId} (h : w.heap[g]? = some (.cells #[x0, x1, x2, x3, x4, x5, x6, x7, x8, x9] t (0, 0))) :
    ((w.setCell ⟨g, 0, none⟩ a).setCell ⟨g, 1, none⟩ b).heap[g]? = some (.cells #[a, b, x2, x3, x4, x5, x6, x7, x8, x9] t (0, 0)) :=
  (heap_setCell_same _ g 1 _ _ b (heap_setCell_same w g 0 _ _ a h)).trans rfl
/-- The cells of a soil. -/
def soA (σ : So) : Array Value := #[.int .i64 σ.saL, .int .i64 σ.saH, .int .i64 σ.lim, .int .i64 σ.crop, .int .i64 σ.miL, .int .i64 σ.miH, .int .i64 σ.waL, .int .i64 σ.waH, .int .i64 σ.riL, .int .i64 σ.riH]

set_option maxRecDepth 100000 in
set_option maxHeartbeats 4000000 in
theorem rAfter_bad (s : So) (wl wh n : Int) (w : World) (h : soOk s = false) :
    Calls Try.prog 13 #[.agg #[.int .i64 s.saL, .int .i64 s.saH, .int .i64 s.lim, .int .i64 s.crop, .int .i64 s.miL, .int .i64 s.miH, .int .i64 s.waL, .int .i64 s.waH, .int .i64 s.riL, .int .i64 s.riH], .agg #[.int .i64 wl, .int .i64 wh], .int .i64 n] w (AfterPost s wl wh n w) := by
  have hv : saAfter s wl wh n = ([], 60) := by unfold saAfter; rw [if_pos h]
  unfold AfterPost
  rw [hv]
  have HC := Lib.hid (rsCheck_any s)
  rw [h] at HC
  clear hv h
  go_enter Try.func13, Try.ntmps13
  go_wp2_with (go_at_call 17; refine (HC.out _).mono ?_; rintro e w' ⟨rfl, hb1⟩; obtain ⟨hc1, hf1⟩ := bcell hb1; have hz1 := hb1.size; (try simp at hz1); (try have hy1 : w.heap.size < w'.heap.size := by omega))
  go_ret2
  exact ⟨⟨none, 0, rfl, fun h => absurd h (by simp)⟩, by (repeat' (first | (with_reducible exact Below.refl _ _) | (with_reducible refine Below.alloc ?_ ?_ _) | (with_reducible refine Below.drew ?_) | (with_reducible refine Below.drewN_ ?_ _) | (with_reducible refine Below.setCell ?_ ?_ _) | (with_reducible refine Below.setRow ?_ ?_ _) | (with_reducible refine Below.via ?_ (by with_reducible assumption) ?_) | go_size))⟩

set_option maxRecDepth 100000 in
set_option maxHeartbeats 4000000 in
theorem rAfter_arg (s : So) (wl wh n : Int) (w : World) (h : soOk s = true) (h2 : (so1 wl wh 1000000000 && soIn n 0 100) = false) :
    Calls Try.prog 13 #[.agg #[.int .i64 s.saL, .int .i64 s.saH, .int .i64 s.lim, .int .i64 s.crop, .int .i64 s.miL, .int .i64 s.miH, .int .i64 s.waL, .int .i64 s.waH, .int .i64 s.riL, .int .i64 s.riH], .agg #[.int .i64 wl, .int .i64 wh], .int .i64 n] w (AfterPost s wl wh n w) := by
  have hv : saAfter s wl wh n = ([], 2) := by unfold saAfter; rw [if_neg (by rw [h]; simp), if_pos h2]
  unfold AfterPost
  rw [hv]
  have HC := Lib.hid (rsCheck_any s)
  rw [h] at HC
  clear hv h
  cases h3 : so1 wl wh 1000000000
  case' true => (cases h4 : soIn n 0 100; case' true => (rw [h3, h4] at h2; cases h2))
  all_goals
    clear h2
    go_enter Try.func13, Try.ntmps13
    go_wp2_with (first | (go_at_call 17; refine (HC.out _).mono ?_; rintro e w' ⟨rfl, hb1⟩; obtain ⟨hc1, hf1⟩ := bcell hb1; have hz1 := hb1.size; (try simp at hz1); (try have hy1 : w.heap.size < w'.heap.size := by omega)) | (go_at_call 34; refine (spanned_any _ _ _ _).mono ?_; rintro e w'' ⟨rfl, hb2⟩; have hz2 := hb2.size) | (go_at_call 46; refine (r6within_any _ _ _ _).mono ?_; rintro e w' ⟨rfl, rfl⟩))
    go_ret2
    exact ⟨⟨none, 0, rfl, fun h => absurd h (by simp)⟩, by (repeat' (first | (with_reducible exact Below.refl _ _) | (with_reducible refine Below.alloc ?_ ?_ _) | (with_reducible refine Below.drew ?_) | (with_reducible refine Below.drewN_ ?_ _) | (with_reducible refine Below.setCell ?_ ?_ _) | (with_reducible refine Below.setRow ?_ ?_ _) | (with_reducible refine Below.via ?_ (by with_reducible assumption) ?_) | go_size))⟩

set_option maxRecDepth 100000 in
set_option maxHeartbeats 4000000 in
theorem rAfter_good (s : So) (wl wh n : Int) (w : World) (h : soOk s = true) (h2 : (so1 wl wh 1000000000 && soIn n 0 100) = true) :
    Calls Try.prog 13 #[.agg #[.int .i64 s.saL, .int .i64 s.saH, .int .i64 s.lim, .int .i64 s.crop, .int .i64 s.miL, .int .i64 s.miH, .int .i64 s.waL, .int .i64 s.waH, .int .i64 s.riL, .int .i64 s.riH], .agg #[.int .i64 wl, .int .i64 wh], .int .i64 n] w (AfterPost s wl wh n w) := by
  have hv : saAfter s wl wh n = (aftS s wl wh n.toNat, 0) := by unfold saAfter; rw [if_neg (by rw [h]; simp), if_neg (by rw [h2]; simp)]
  unfold AfterPost
  rw [hv]
  have HC := Lib.hid (rsCheck_any s)
  rw [h] at HC
  have hB := SoB.of_ok h
  rw [Bool.and_eq_true] at h2
  obtain ⟨h3, h4⟩ := h2
  have h5 := h3
  have h6 := h4
  simp only [so1, soIn, Bool.and_eq_true, decide_eq_true_eq] at h5 h6
  obtain ⟨⟨y0, y1⟩, y2⟩ := h5
  obtain ⟨N, rfl⟩ := Int.eq_ofNat_of_zero_le h6.1
  have hN : N ≤ 100 := by omega
  rw [show ((N : Int)).toNat = N by simp]
  have HB := Lib.hid (fun k => itS_bnd hB y0 y1 y2 k)
  clear hv h hB h6
  go_enter Try.func13, Try.ntmps13
  go_upto_region 5 with (first | (go_at_call 17; refine (HC.out _).mono ?_; rintro e w' ⟨rfl, hb1⟩; obtain ⟨hc1, hf1⟩ := bcell hb1; have hz1 := hb1.size; (try simp at hz1); (try have hy1 : w.heap.size < w'.heap.size := by omega)) | (go_at_call 34; refine (spanned_any _ _ _ _).mono ?_; rintro e w'' ⟨rfl, hb2⟩; have hz2 := hb2.size) | (go_at_call 46; refine (r6within_any _ _ _ _).mono ?_; rintro e w' ⟨rfl, rfl⟩))
  have hbw : Below w.heap.size w w'' := by (repeat' (first | (with_reducible exact Below.refl _ _) | (with_reducible refine Below.alloc ?_ ?_ _) | (with_reducible refine Below.drew ?_) | (with_reducible refine Below.drewN_ ?_ _) | (with_reducible refine Below.setCell ?_ ?_ _) | (with_reducible refine Below.setRow ?_ ?_ _) | (with_reducible refine Below.via ?_ (by with_reducible assumption) ?_) | go_size))
  have hz1 := hb1.size
  have r1 : w''.heap[w.heap.size]? = some (.cells #[.int .i64 s.saL, .int .i64 s.saH, .int .i64 s.lim, .int .i64 s.crop, .int .i64 s.miL, .int .i64 s.miH, .int .i64 s.waL, .int .i64 s.waH, .int .i64 s.riL, .int .i64 s.riH] 25 (0, 0)) := (hb2.block _ (by simp at hz1; omega)).trans ((hb1.block _ (by simp; omega)).trans ((Below.heap_alloc _ _ _ (by simp)).trans (heap_alloc_new _ _)))
  have r2 : w''.heap[w.heap.size + 1]? = some (.cells #[.int .i64 wl, .int .i64 wh] 23 (0, 0)) := (hb2.block _ (by simp at hz1; omega)).trans ((hb1.block _ (by simp)).trans (heap_alloc2_new _ _ _))
  have R1 := Lib.hid r1
  have R2 := Lib.hid r2
  have HBW := Lib.hid hbw
  have hl2 : w.heap.size + 1 < w''.heap.size := (Array.getElem?_eq_some_iff.1 r2).1
  obtain ⟨i0, hi0, hz0, hz1, hz2⟩ := info_parts infoSpanI
  have I0 := Lib.hid (And.intro hi0 (And.intro hz0 (And.intro hz1 hz2)))
  clear hb1 hb2 hz1 hz2 r1 r2 hbw hi0 hz0
  go_wp2
  go_loopw [8, 9] (fun v8 v9 W => ∃ k : Nat, k ≤ N ∧ v9 = .int .i64 k ∧ Own W (w.heap.size + 1 + 1) 23 v8 spV 2 (aftS s wl wh k) ∧ W.heap[w.heap.size]? = some (.cells (soA (itS s wl wh k)) 25 (0, 0)) ∧ W.heap[w.heap.size + 1]? = some (.cells #[.int .i64 wl, .int .i64 wh] 23 (0, 0)) ∧ Below w.heap.size w W) (fun _ i _ => N - (intOf i).toNat)
  case atStart => exact ⟨0, by omega, rfl, Own.nil_ _ _ _ _ _, R1.out, R2.out, HBW.out⟩
  case round =>
    obtain ⟨k, hk, rfl, hO, hS, hW, hbk⟩ := hrel
    clear R1 R2 HBW hl2
    have HO := Lib.hid hO
    clear hO
    by_cases hlt : k < N
    · have hltI : (k : Int) < (N : Int) := by omega
      have hl2 : w.heap.size + 1 < wr.heap.size := (Array.getElem?_eq_some_iff.1 hW).1
      have hl1 : w.heap.size < wr.heap.size := by omega
      have hx : aftS s wl wh (k + 1) = aftS s wl wh k ++ [((cyc (itS s wl wh k) wl wh).saL, (cyc (itS s wl wh k) wl wh).saH)] := aftS_succ s wl wh k
      have HX := Lib.hid hx
      have hlen : (aftS s wl wh k).length ≤ 100 := by simp; omega
      have CC : ∀ W', Calls Try.prog 47 #[.agg (soA (itS s wl wh k)), .agg #[.int .i64 wl, .int .i64 wh]] W' fun e w' => e = .returned (.agg #[.int .i64 (cyc (itS s wl wh k) wl wh).saL, .int .i64 (cyc (itS s wl wh k) wl wh).saH]) ∧ Below W'.heap.size W' w' := fun W' => rcycle_any (itS s wl wh k) wl wh W' k (HB.out k) (by omega) y0 y1 y2
      have HN : Hid (∀ (A1 : Array Value) (W1 : World), A1 = soA { itS s wl wh k with saL := (cyc (itS s wl wh k) wl wh).saL, saH := (cyc (itS s wl wh k) wl wh).saH } → W1.heap[w.heap.size]? = some (.cells A1 25 (0, 0)) → W1.heap[w.heap.size]? = some (.cells (soA (itS s wl wh (k + 1))) 25 (0, 0))) := Lib.hid (fun _ _ h1 h => by subst h1; exact h)
      clear hx
      generalize (cyc (itS s wl wh k) wl wh).saL = na at *
      generalize (cyc (itS s wl wh k) wl wh).saH = nb at *
      generalize itS s wl wh k = σ at *
      simp only [soA] at CC hS
      have HCC := Lib.hid CC
      have HS := Lib.hid hS
      have HW := Lib.hid hW
      have k0 := cell_of_row wr w.heap.size 0 _ _ _ hS
      have k1 := cell_of_row wr w.heap.size 1 _ _ _ hS
      have k2 := cell_of_row wr w.heap.size 2 _ _ _ hS
      have k3 := cell_of_row wr w.heap.size 3 _ _ _ hS
      have k4 := cell_of_row wr w.heap.size 4 _ _ _ hS
      have k5 := cell_of_row wr w.heap.size 5 _ _ _ hS
      have k6 := cell_of_row wr w.heap.size 6 _ _ _ hS
      have k7 := cell_of_row wr w.heap.size 7 _ _ _ hS
      have k8 := cell_of_row wr w.heap.size 8 _ _ _ hS
      have k9 := cell_of_row wr w.heap.size 9 _ _ _ hS
      have v0 := cell_of_row wr (w.heap.size + 1) 0 _ _ _ hW
      have v1 := cell_of_row wr (w.heap.size + 1) 1 _ _ _ hW
      simp only [List.getElem?_toArray, List.getElem?_cons_zero, List.getElem?_cons_succ] at k0 k1 k2 k3 k4 k5 k6 k7 k8 k9 v0 v1
      clear CC hS hW
      go_upto_region 10 with (go_at_call 47; refine (HCC.out _).mono ?_; rintro e w3 ⟨rfl, hb3⟩; have hl3 : w.heap.size < w3.heap.size := (by have := hb3.size; omega); have c0 := (hb3.cell (p := ⟨w.heap.size, 0, none⟩) hl1).trans k0; have c1 := (hb3.cell (p := ⟨w.heap.size, 1, none⟩) hl1).trans k1; have f0 := frozen_of_row w3 w.heap.size 0 _ _ ((hb3.block _ hl1).trans HS.out); have f1 := frozen_of_row w3 w.heap.size 1 _ _ ((hb3.block _ hl1).trans HS.out))
      obtain ⟨w4, hw4⟩ : ∃ w4, (w3.setCell ⟨w.heap.size, 0, none⟩ (.int .i64 na)).setCell ⟨w.heap.size, 1, none⟩ (.int .i64 nb) = w4 := ⟨_, rfl⟩
      rw [hw4]
      have d1 : w4.heap[w.heap.size]? = some (.cells #[.int .i64 na, .int .i64 nb, .int .i64 σ.lim, .int .i64 σ.crop, .int .i64 σ.miL, .int .i64 σ.miH, .int .i64 σ.waL, .int .i64 σ.waH, .int .i64 σ.riL, .int .i64 σ.riH] 25 (0, 0)) := by rw [← hw4]; exact row10_set ((hb3.block _ hl1).trans HS.out)
      have d2 : w4.heap[w.heap.size + 1]? = some (.cells #[.int .i64 wl, .int .i64 wh] 23 (0, 0)) := by rw [← hw4]; exact (Below.heap_setCell _ _ _ _ (by show w.heap.size + 1 ≠ w.heap.size; omega)).trans ((Below.heap_setCell _ _ _ _ (by show w.heap.size + 1 ≠ w.heap.size; omega)).trans ((hb3.block _ hl2).trans HW.out))
      have d3 : Own w4 (w.heap.size + 1 + 1) 23 u8 spV 2 (aftS s wl wh k) := by rw [← hw4]; exact ((HO.out.below hb3).set_ (p := ⟨w.heap.size, 0, none⟩) (by show w.heap.size < _; omega) _).set_ (p := ⟨w.heap.size, 1, none⟩) (by show w.heap.size < _; omega) _
      have d4 : Below w.heap.size w w4 := by rw [← hw4]; exact Below.setCell (Below.setCell (hbk.trans (hb3.mono hbk.size)) (Nat.le_refl _) _) (Nat.le_refl _) _
      clear hw4 c0 c1 f0 f1 hl3 hb3 k0 k1 k2 k3 k4 k5 k6 k7 k8 k9 v0 v1 HS HW HO
      have q0 := cell_of_row w4 w.heap.size 0 _ _ _ d1
      have q1 := cell_of_row w4 w.heap.size 1 _ _ _ d1
      simp only [List.getElem?_toArray, List.getElem?_cons_zero, List.getElem?_cons_succ] at q0 q1
      have hl4 : w.heap.size + 1 < w4.heap.size := (Array.getElem?_eq_some_iff.1 d2).1
      have D1 := Lib.hid d1
      have D2 := Lib.hid d2
      have D3 := Lib.hid d3
      have D4 := Lib.hid d4
      clear d1 d2 d3 d4
      go_wp2_with (at_builtin; refine wpList_append_rd rfl (.tmp 30) (.tmp 33) 26 rfl i0 _ 16 Try.underlying26 I0.out.1 I0.out.2.1 I0.out.2.2.1 I0.out.2.2.2 rfl (by omega) spV_len spV_one rfl (D3.out.below ((Below.refl _ _).alloc (Nat.le_refl _) _)) rfl rfl (Rd.one _ (na, nb) #[.int .i64 na, .int .i64 nb] 23 rfl) (by omega) (by omega) (by simp; omega) ?_; intro v' w5 ho5 hg5 hat5; have HO5 := Lib.hid ho5; have HG5 := Lib.hid hg5; clear ho5 hg5 hat5)
      have hkeep : ∀ b, b < w.heap.size + 1 + 1 → w5.heap[b]? = w4.heap[b]? := fun b hb => (HG5.out.block b (by simp; omega) (fun e => by have := (D3.out.row e.symm).1; omega)).trans (Below.heap_alloc _ _ _ (by omega))
      go_roundw
      case rel => exact ⟨k + 1, by omega, by go_num, by rw [HX.out]; exact HO5.out, HN.out _ _ rfl ((hkeep _ (by omega)).trans D1.out), (hkeep _ (by omega)).trans D2.out, D4.out.trans ⟨HG5.out.os, HG5.out.tape, HG5.out.output, by have := HG5.out.size; simp at this; omega, fun b hb => hkeep b (by omega)⟩⟩
      case measure => (simp [intOf] <;> omega)
    · obtain rfl : k = N := by omega
      go_wp2
      go_ret2
      obtain ⟨A, c, rfl⟩ := HO.out.form
      exact ⟨⟨A, c, by simp, HO.out.rd spV_len⟩, hbk⟩

theorem rAfter_any (s : So) (wl wh n : Int) (w : World) :
    Calls Try.prog 13 #[.agg #[.int .i64 s.saL, .int .i64 s.saH, .int .i64 s.lim, .int .i64 s.crop, .int .i64 s.miL, .int .i64 s.miH, .int .i64 s.waL, .int .i64 s.waH, .int .i64 s.riL, .int .i64 s.riH], .agg #[.int .i64 wl, .int .i64 wh], .int .i64 n] w (AfterPost s wl wh n w) := by
  cases h : soOk s
  · exact rAfter_bad s wl wh n w h
  · cases h2 : (so1 wl wh 1000000000 && soIn n 0 100)
    · exact rAfter_arg s wl wh n w h h2
    · exact rAfter_good s wl wh n w h h2
end Go.Proofs.Ytjkefoijhphknaa
