/- Whether a soil is too salty with more water; the search for the last such litre; Need. Condition: numbers within bounds. -/
import Derived.Test.YtjkefoijhphknaaSaTold
import Derived.Deep.LoopGhost
import Derived.Shelf.Abstract
import Derived.IntWalk
namespace Go.Proofs.Ytjkefoijhphknaa
open Go.RowKit Go.IntWalk
attribute [local go_sem] wx_cell wx_frozen

set_option maxRecDepth 100000 in
set_option maxHeartbeats 4000000 in
/-- sort.Search of a function that only makes memory, false up to a place and true from it. -/
theorem search_any (g : Nat) (cb : Array Value) (n : Nat) (p : Nat → Bool) (w : World) (eg : ∀ args w, (callFunc g args).run Try.prog w = .ok (.enter g args) w) (hsz : n ≤ 1000000000)
    (hf : ∀ (W : World) (i : Nat), i < n → Below w.heap.size w W → Calls Try.prog g (#[.int .i64 i] ++ cb) W fun e w' => e = .returned (.bool (p i)) ∧ Below W.heap.size W w')
    (hmono : ∀ a b, a ≤ b → b < n → p a = true → p b = true) :
    Calls Try.prog 120 #[.int .i64 n, .func (.func g) #[] cb] w fun e w' => (∃ k : Nat, e = .returned (.int .i64 k) ∧ k ≤ n ∧ (∀ t, t < k → p t = false) ∧ (∀ t, k ≤ t → t < n → p t = true)) ∧ Below w.heap.size w w' := by
  have HF := Lib.hid hf
  have M := Lib.hid hmono
  clear hf hmono
  go_enter Try.func120, Try.ntmps120
  go_wp2
  go_loopg [5, 6] n (fun kx s5 s6 wr => ∃ (lo hi : Nat), s5 = .int .i64 lo ∧ s6 = .int .i64 hi ∧ lo ≤ hi ∧ hi ≤ n ∧ hi - lo ≤ kx ∧ Below w.heap.size w wr ∧
    Hid ((∀ t, t < lo → p t = false) ∧ (∀ t, hi ≤ t → t < n → p t = true)))
  case atStart => exact ⟨0, n, rfl, rfl, Nat.zero_le _, Nat.le_refl _, by omega, Below.refl _ _, Lib.hid (⟨fun t ht => absurd ht (Nat.not_lt_zero _), fun t h1 h2 => by omega⟩ : (∀ t, t < 0 → p t = false) ∧ (∀ t, n ≤ t → t < n → p t = true))⟩
  case round =>
    obtain ⟨lo, hi, rfl, rfl, hlh, hin, hg, hbw, I⟩ := hrel
    have HBW := Lib.hid hbw
    clear hbw
    by_cases hlt : lo < hi
    · have hc := fun W (h : Below w.heap.size w W) => HF.out W ((lo + hi) / 2) (by omega) h
      rw [show (((lo + hi) / 2 : Nat) : Int) = ((lo : Int) + (hi : Int)) / 2 by omega] at hc
      cases hp : p ((lo + hi) / 2) <;> rw [hp] at hc
      · have HP := Lib.hid hp
        have HC := Lib.hid hc
        clear hp hc
        go_wp2_with (go_at_fn g; refine (HC.out _ HBW.out).mono ?_; rintro e w' ⟨rfl, hb1⟩)
        go_roundg (hi - ((lo + hi) / 2 + 1))
        case measure => omega
        case rel =>
          have I2 : Hid ((∀ t, t < (lo + hi) / 2 + 1 → p t = false) ∧ (∀ t, hi ≤ t → t < n → p t = true)) := Lib.hid ⟨fun t ht => (by
            cases h : p t with
            | false => rfl
            | true => have := M.out t ((lo + hi) / 2) (by omega) (by omega) h; rw [HP.out] at this; cases this), I.out.2⟩
          exact ⟨(lo + hi) / 2 + 1, hi, by rw [show ((lo : Int) + (hi : Int)) / 2 + 1 = (((lo + hi) / 2 + 1 : Nat) : Int) by omega], rfl, by omega, hin, Nat.le_refl _, HBW.out.trans (hb1.mono HBW.out.size), I2⟩
      · have HP := Lib.hid hp
        have HC := Lib.hid hc
        clear hp hc
        go_wp2_with (go_at_fn g; refine (HC.out _ HBW.out).mono ?_; rintro e w' ⟨rfl, hb1⟩)
        go_roundg ((lo + hi) / 2 - lo)
        case measure => omega
        case rel =>
          have I2 : Hid ((∀ t, t < lo → p t = false) ∧ (∀ t, (lo + hi) / 2 ≤ t → t < n → p t = true)) := Lib.hid ⟨I.out.1, fun t ht htn => M.out ((lo + hi) / 2) t ht htn HP.out⟩
          exact ⟨lo, (lo + hi) / 2, rfl, by rw [show ((lo : Int) + (hi : Int)) / 2 = (((lo + hi) / 2 : Nat) : Int) by omega], by omega, by omega, Nat.le_refl _, HBW.out.trans (hb1.mono HBW.out.size), I2⟩
    · obtain rfl : hi = lo := by omega
      go_wp2
      go_ret
      exact ⟨⟨hi, rfl, hin, I.out.1, I.out.2⟩, HBW.out⟩

theorem salty_with (s : So) (j : Int) : salty s j = decide (s.lim * 1000 < withI s.saH s.miH s.waL s.riH s.crop (s.crop + j)) := by
  unfold salty; rw [withI_eq]; rfl

set_option maxRecDepth 100000 in
set_option maxHeartbeats 4000000 in
/-- Whether a soil is too salty with so many litres more than Crop. -/
theorem salty_any (s : So) (wl wh j : Int) (W : World) (b : Nat) (hb : W.heap[b]? = some (.cells #[.int .i64 s.saL, .int .i64 s.saH, .int .i64 s.lim, .int .i64 s.crop, .int .i64 s.miL, .int .i64 s.miH, .int .i64 s.waL, .int .i64 s.waH, .int .i64 s.riL, .int .i64 s.riH, .int .i64 wl, .int .i64 wh] 96 (0, 0))) (hB : SoB s 0) (j0 : 0 ≤ j) (j1 : s.crop + j ≤ 1000000000) :
    Calls Try.prog 78 (#[.int .i64 j] ++ #[.pointer (some ⟨b, 0, none⟩)]) W fun e w' => e = .returned (.bool (salty s j)) ∧ Below W.heap.size W w' := by
  have hbl : b < W.heap.size := (Array.getElem?_eq_some_iff.1 hb).1
  have k0 := cell_of_row W b 0 _ _ _ hb
  have k1 := cell_of_row W b 1 _ _ _ hb
  have k2 := cell_of_row W b 2 _ _ _ hb
  have k3 := cell_of_row W b 3 _ _ _ hb
  have k4 := cell_of_row W b 4 _ _ _ hb
  have k5 := cell_of_row W b 5 _ _ _ hb
  have k6 := cell_of_row W b 6 _ _ _ hb
  have k7 := cell_of_row W b 7 _ _ _ hb
  have k8 := cell_of_row W b 8 _ _ _ hb
  have k9 := cell_of_row W b 9 _ _ _ hb
  have k10 := cell_of_row W b 10 _ _ _ hb
  have k11 := cell_of_row W b 11 _ _ _ hb
  simp only [List.getElem?_toArray, List.getElem?_cons_zero, List.getElem?_cons_succ] at k0 k1 k2 k3 k4 k5 k6 k7 k8 k9 k10 k11
  have CF : ∀ W, Calls Try.prog 79 #[.agg #[.int .i64 s.saL, .int .i64 s.saH, .int .i64 s.lim, .int .i64 s.crop, .int .i64 s.miL, .int .i64 s.miH, .int .i64 s.waL, .int .i64 s.waH, .int .i64 s.riL, .int .i64 s.riH, .int .i64 wl, .int .i64 wh], .int .i64 (s.crop + j), .agg #[.func (.func 114) #[] #[], .func (.func 113) #[] #[], .func (.func 117) #[] #[], .func (.func 118) #[] #[]]] W fun e w' => e = .returned (.int .i64 (withI s.saH s.miH s.waL s.riH s.crop (s.crop + j))) ∧ Below W.heap.size W w' := fun W => with_hi s wl wh (s.crop + j) W 0 hB (by omega) (by have := hB.c1; omega) j1
  have v1 : 0 ≤ withI s.saH s.miH s.waL s.riH s.crop (s.crop + j) := withI_nonneg _ _ _ _ _ _
  rw [salty_with]
  generalize withI s.saH s.miH s.waL s.riH s.crop (s.crop + j) = v at CF v1 ⊢
  have c1 := hB.c1
  have c2 := hB.c2
  have l1 := hB.l1
  have l2 := hB.l2
  have HB := Lib.hid hb
  have HCF := Lib.hid CF
  clear hb hB CF
  obtain ⟨r, hr⟩ : ∃ r, decide (s.lim * 1000 < v) = r := ⟨_, rfl⟩
  rw [hr]
  have HRR := Lib.hid hr
  clear hr
  simp only [List.append_toArray, List.cons_append, List.nil_append]
  go_enter Try.func78, Try.ntmps78
  go_wp2
  refine wp_region_calm (by kernel_rfl) (by kernel_rfl) ?_
  repeat (go_big_quiet_step ((first | (go_at_call 75; exact calm_of (highest_any _)) | (go_at_call 79; exact calm_of (HCF.out _)))))
  refine wpQuiet_nil ?_; rintro _ ⟨dx, rfl⟩
  obtain ⟨wy, hwy⟩ : ∃ wy, wx _ dx = wy := ⟨_, rfl⟩; have hby := wx_below _ dx; rw [hwy] at hby ⊢
  go_wp2
  go_ret
  exact ⟨by rw [← HRR.out]; rfl, hby⟩

set_option maxRecDepth 100000 in
set_option maxHeartbeats 4000000 in
theorem greatest1_any (g : Nat) (cb : Array Value) (r : Bool) (i : Nat) (W : World) (b : Nat) (eg : ∀ args w, (callFunc g args).run Try.prog w = .ok (.enter g args) w) (hi : i ≤ 1000000000)
    (hc : W.cell? ⟨b, 0, none⟩ = some (.func (.func g) #[] cb)) (hf : Calls Try.prog g (#[.int .i64 ((i + 1 : Nat) : Int)] ++ cb) W fun e w' => e = .returned (.bool r) ∧ Below W.heap.size W w') :
    Calls Try.prog 121 (#[.int .i64 (i : Int)] ++ #[.pointer (some ⟨b, 0, none⟩)]) W fun e w' => e = .returned (.bool (!r)) ∧ Below W.heap.size W w' := by
  rw [show ((i + 1 : Nat) : Int) = (i : Int) + 1 by omega] at hf
  have HF := Lib.hid hf
  clear hf
  simp only [List.append_toArray, List.cons_append, List.nil_append]
  go_enter Try.func121, Try.ntmps121
  go_wp2_with (go_at_fn g; refine HF.out.mono ?_; rintro e w' ⟨rfl, hb1⟩)
  go_ret
  exact ⟨rfl, hb1⟩

set_option maxRecDepth 100000 in
set_option maxHeartbeats 4000000 in
/-- The greatest number from 0 to n for which something is so. -/
theorem greatest_any (g : Nat) (cb : Array Value) (n : Nat) (so : Nat → Bool) (w : World) (eg : ∀ args w, (callFunc g args).run Try.prog w = .ok (.enter g args) w) (hsz : n ≤ 1000000000)
    (hf : ∀ (W : World) (i : Nat), 1 ≤ i → i ≤ n → Below w.heap.size w W → Calls Try.prog g (#[.int .i64 (i : Int)] ++ cb) W fun e w' => e = .returned (.bool (so i)) ∧ Below W.heap.size W w')
    (hmono : ∀ a b, 1 ≤ a → a ≤ b → b ≤ n → so a = false → so b = false) :
    Calls Try.prog 80 #[.int .i64 (n : Int), .func (.func g) #[] cb] w fun e w' => (∃ k : Nat, e = .returned (.int .i64 k) ∧ k ≤ n ∧ (∀ t, t < k → so (t + 1) = true) ∧ (∀ t, k ≤ t → t < n → so (t + 1) = false)) ∧ Below w.heap.size w w' := by
  have e121 : ∀ args w, (callFunc 121 args).run Try.prog w = .ok (.enter 121 args) w := enters_of Try.func121 (by kernel_rfl) rfl
  have b0 : Below w.heap.size w (w.alloc (.cells #[.func (.func g) #[] cb] 76)) := by (repeat' (first | (with_reducible exact Below.refl _ _) | (with_reducible refine Below.alloc ?_ ?_ _) | (with_reducible refine Below.drew ?_) | (with_reducible refine Below.drewN_ ?_ _) | (with_reducible refine Below.setCell ?_ ?_ _) | (with_reducible refine Below.setRow ?_ ?_ _) | (with_reducible refine Below.via ?_ (by with_reducible assumption) ?_) | go_size))
  have cc : (w.alloc (.cells #[.func (.func g) #[] cb] 76)).cell? ⟨w.heap.size, 0, none⟩ = some (.func (.func g) #[] cb) := by simp
  have hS := search_any 121 #[.pointer (some ⟨w.heap.size, 0, none⟩)] n (fun i => !so (i + 1)) (w.alloc (.cells #[.func (.func g) #[] cb] 76)) e121 hsz
    (fun W i hi hb => greatest1_any g cb (so (i + 1)) i W w.heap.size eg (by omega) ((hb.cell (p := ⟨w.heap.size, 0, none⟩) (by simp)).trans cc) (hf W (i + 1) (by omega) (by omega) (b0.trans (hb.mono (by simp)))))
    (fun a b hab hb h => by
      have h1 : so (a + 1) = false := by simpa using h
      have := hmono (a + 1) (b + 1) (by omega) (by omega) (by omega) h1
      simp [this])
  have HS := Lib.hid hS
  clear hS cc hf hmono e121
  go_enter Try.func80, Try.ntmps80
  go_wp2_with (go_at_call 120; refine HS.out.mono ?_; rintro e w' ⟨⟨k, rfl, hk, h1, h2⟩, hb1⟩; (have H1 := Lib.hid h1); (have H2 := Lib.hid h2); clear h1 h2)
  go_ret
  exact ⟨⟨k, rfl, hk, fun t ht => by have := H1.out t ht; simpa using this, fun t h3 h4 => by have := H2.out t h3 h4; simpa using this⟩, b0.trans (hb1.mono (by simp))⟩

set_option maxRecDepth 100000 in
set_option maxHeartbeats 4000000 in
theorem wneed_any (s : So) (wl wh : Int) (w : World) (hB : SoB s 0) :
    Calls Try.prog 48 #[.agg #[.int .i64 s.saL, .int .i64 s.saH, .int .i64 s.lim, .int .i64 s.crop, .int .i64 s.miL, .int .i64 s.miH, .int .i64 s.waL, .int .i64 s.waH, .int .i64 s.riL, .int .i64 s.riH, .int .i64 wl, .int .i64 wh]] w fun e w' => (∃ v, e = .returned (.tuple #[.int .i64 v, .bool (needI s).isSome]) ∧ ∀ u, needI s = some u → v = u) ∧ Below w.heap.size w w' := by
  have b0 : Below w.heap.size w (w.alloc (.cells #[.int .i64 s.saL, .int .i64 s.saH, .int .i64 s.lim, .int .i64 s.crop, .int .i64 s.miL, .int .i64 s.miH, .int .i64 s.waL, .int .i64 s.waH, .int .i64 s.riL, .int .i64 s.riH, .int .i64 wl, .int .i64 wh] 96)) := by (repeat' (first | (with_reducible exact Below.refl _ _) | (with_reducible refine Below.alloc ?_ ?_ _) | (with_reducible refine Below.drew ?_) | (with_reducible refine Below.drewN_ ?_ _) | (with_reducible refine Below.setCell ?_ ?_ _) | (with_reducible refine Below.setRow ?_ ?_ _) | (with_reducible refine Below.via ?_ (by with_reducible assumption) ?_) | go_size))
  have row := heap_alloc_new w (.cells #[.int .i64 s.saL, .int .i64 s.saH, .int .i64 s.lim, .int .i64 s.crop, .int .i64 s.miL, .int .i64 s.miH, .int .i64 s.waL, .int .i64 s.waH, .int .i64 s.riL, .int .i64 s.riH, .int .i64 wl, .int .i64 wh] 96)
  have e78 : ∀ args w, (callFunc 78 args).run Try.prog w = .ok (.enter 78 args) w := enters_of Try.func78 (by kernel_rfl) rfl
  have c1 := hB.c1
  have c2 := hB.c2
  have l1 := hB.l1
  have HS : ∀ (W : World) (j : Int), Below (w.heap.size + 1) (w.alloc (.cells #[.int .i64 s.saL, .int .i64 s.saH, .int .i64 s.lim, .int .i64 s.crop, .int .i64 s.miL, .int .i64 s.miH, .int .i64 s.waL, .int .i64 s.waH, .int .i64 s.riL, .int .i64 s.riH, .int .i64 wl, .int .i64 wh] 96)) W → 0 ≤ j → s.crop + j ≤ 1000000000 → Calls Try.prog 78 (#[.int .i64 j] ++ #[.pointer (some ⟨w.heap.size, 0, none⟩)]) W fun e w' => e = .returned (.bool (salty s j)) ∧ Below W.heap.size W w' :=
    fun W j hb j0 j1 => salty_any s wl wh j W w.heap.size ((hb.block _ (Nat.lt_succ_self _)).trans row) hB j0 j1
  obtain ⟨m, hm⟩ := Int.eq_ofNat_of_zero_le (show 0 ≤ 1000000000 - s.crop by omega)
  generalize hw0 : w.alloc (.cells #[.int .i64 s.saL, .int .i64 s.saH, .int .i64 s.lim, .int .i64 s.crop, .int .i64 s.miL, .int .i64 s.miH, .int .i64 s.waL, .int .i64 s.waH, .int .i64 s.riL, .int .i64 s.riH, .int .i64 wl, .int .i64 wh] 96) = w0 at HS b0
  have hz0 : w0.heap.size = w.heap.size + 1 := by rw [← hw0]; simp
  rw [hw0] at row
  cases h0 : salty s 0
  · have hn := need_zero l1 h0
    rw [hn]
    have HN := Lib.hid hn
    have H0 := Lib.hid h0
    have H := Lib.hid HS
    have HW := Lib.hid hw0
    have HZ := Lib.hid hz0
    have HM := Lib.hid hm
    have HR := Lib.hid row
    clear hn h0 HS hw0 hz0 hm row
    go_enter Try.func48, Try.ntmps48
    go_upto_region 1 with (fail)
    rw [HW.out]
    have k3 := cell_of_row w0 _ 3 _ _ _ HR.out
    simp only [List.getElem?_toArray, List.getElem?_cons_zero, List.getElem?_cons_succ] at k3
    have C0 := H.out w0 0 (by rw [← HZ.out]; exact Below.refl _ _) (by omega) (by omega)
    rw [H0.out] at C0
    simp only [List.append_toArray, List.cons_append, List.nil_append] at C0
    have HC0 := Lib.hid C0
    have hl : w.heap.size < w0.heap.size := by rw [HZ.out]; exact Nat.lt_succ_self _
    clear C0 hB e78
    go_wp2_with (go_at_call 78; refine HC0.out.mono ?_; rintro e w1 ⟨rfl, hb1⟩; obtain ⟨hc1, hf1⟩ := bcell hb1)
    go_ret2
    exact ⟨⟨_, rfl, fun u hu => by injection hu⟩, b0.trans (hb1.mono b0.size)⟩
  · have HN := Lib.hid (fun (k : Nat) (hk : k ≤ m) h1 h2 => need_at (s := s) l1 h0 (m := m) (k := k) (by omega) hk h1 h2)
    have H0 := Lib.hid h0
    have HMO := Lib.hid (fun (a b : Nat) (_ : 1 ≤ a) (hab : a ≤ b) (_ : b ≤ m) (h : salty s (a : Int) = false) => salty_mono (s := s) l1 h0 (i := (a : Int)) (j := (b : Int)) (by omega) (by omega) h)
    have H := Lib.hid HS
    have HW := Lib.hid hw0
    have HZ := Lib.hid hz0
    have HR := Lib.hid row
    have HM := Lib.hid hm
    clear h0 HS hw0 hz0 row hm
    go_enter Try.func48, Try.ntmps48
    go_upto_region 1 with (fail)
    rw [HW.out]
    have k3 := cell_of_row w0 _ 3 _ _ _ HR.out
    simp only [List.getElem?_toArray, List.getElem?_cons_zero, List.getElem?_cons_succ] at k3
    have C0 := H.out w0 0 (by rw [← HZ.out]; exact Below.refl _ _) (by omega) (by omega)
    rw [H0.out] at C0
    simp only [List.append_toArray, List.cons_append, List.nil_append] at C0
    have HC0 := Lib.hid C0
    have hl : w.heap.size < w0.heap.size := by rw [HZ.out]; exact Nat.lt_succ_self _
    have E78 := Lib.hid e78
    clear C0 hB e78
    have hm := HM.out
    have hm2 : (m : Int) ≤ 1000000000 := by omega
    go_wp2_with (first
      | (go_at_call 80; refine (greatest_any 78 #[.pointer (some ⟨w.heap.size, 0, none⟩)] m (fun i => salty s (i : Int)) _ E78.out (by omega) (fun W i i1 i2 hb => H.out W (i : Int) (by rw [← HZ.out]; exact hb1.trans (hb.mono hb1.size)) (by omega) (by omega)) HMO.out).mono ?_; rintro e w2 ⟨⟨k, rfl, hk, h1, h2⟩, hb2⟩; (have H1 := Lib.hid h1); (have H2 := Lib.hid h2); clear h1 h2; (have k4 : w2.cell? ⟨w.heap.size, 3, none⟩ = some (.int .i64 s.crop) := (hb2.cell (p := ⟨w.heap.size, 3, none⟩) (by have := hb1.size; show w.heap.size < _; omega)).trans (hc1 _ _ hl |>.trans k3)); (have hl2 : w.heap.size < w2.heap.size := (by have := hb1.size; have := hb2.size; omega)))
      | (go_at_call 78; refine HC0.out.mono ?_; rintro e w1 ⟨rfl, hb1⟩; obtain ⟨hc1, hf1⟩ := bcell hb1))
    go_quiet (fail)
    go_wp2
    go_ret2
    have hn := HN.out k hk (fun t ht => by have := H1.out t ht; simpa using this) (fun t h3 h4 => by have := H2.out t h3 h4; simpa using this)
    rw [← hn]
    refine ⟨⟨s.crop + ((k : Int) + 1), ?_, fun u hu => ?_⟩, b0.trans ((hb1.mono b0.size).trans ((hb2.mono (Nat.le_trans b0.size hb1.size)).trans (by (repeat' (first | (with_reducible exact Below.refl _ _) | (with_reducible refine Below.alloc ?_ ?_ _) | (with_reducible refine Below.drew ?_) | (with_reducible refine Below.drewN_ ?_ _) | (with_reducible refine Below.setCell ?_ ?_ _) | (with_reducible refine Below.setRow ?_ ?_ _) | (with_reducible refine Below.via ?_ (by with_reducible assumption) ?_) | go_size)))))⟩
    · by_cases hkm : k < m
      · simp [hkm]; omega
      · simp [hkm]; omega
    · by_cases hkm : k < m
      · rw [if_pos hkm] at hu; injection hu
      · rw [if_neg hkm] at hu; cases hu
end Go.Proofs.Ytjkefoijhphknaa
