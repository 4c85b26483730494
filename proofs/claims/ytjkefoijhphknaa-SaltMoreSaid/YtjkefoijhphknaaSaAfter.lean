/- The iterator over a soil after each of some cycles. Condition: numbers within bounds. -/
import Derived.Test.YtjkefoijhphknaaSaTold
import Derived.Test.YtjkefoijhphknaaRangeW
import Derived.Test.YtjkefoijhphknaaOwn
import Derived.Test.YtjkefoijhphknaaSpans
import Derived.Shelf.Abstract
import Derived.Shelf.RegionOpen
import Derived.Stop.RegionWithIn
import Derived.BigRegionIn
import Derived.OwnWalkIn
import Derived.TacticsInMore
import Derived.LoopNIn
import Derived.LoopIn
namespace Go.Proofs.Ytjkefoijhphknaa
open Go.RowKit Go.Shelf Go.IntWalk
attribute [local go_sem] Oper.semAt_some
attribute [local go_sem] wx_cell wx_frozen

/-- The cells of a soil at work. -/
def wkA (σ : So) (wl wh : Int) : Array Value := #[.int .i64 σ.saL, .int .i64 σ.saH, .int .i64 σ.lim, .int .i64 σ.crop, .int .i64 σ.miL, .int .i64 σ.miH, .int .i64 σ.waL, .int .i64 σ.waH, .int .i64 σ.riL, .int .i64 σ.riH, .int .i64 wl, .int .i64 wh]
def KpW (A B : World) : Prop := A.heap.size ≤ B.heap.size ∧ ∀ (b : Nat) c fr, A.heap[b]? = some (.cells c 96 fr) → B.heap[b]? = some (.cells c 96 fr)
theorem kpW_t {A B C : World} (h : KpW A B) (k : KpW B C) : KpW A C := ⟨Nat.le_trans h.1 k.1, fun b c fr e => k.2 b c fr (h.2 b c fr e)⟩
theorem kpW_b (W : World) (l : Nat) (o o' : Obj) (h : W.heap[l]? = some o) (hc : o.isCells = false) : KpW W (W.putObj l o') :=
  ⟨by simp [World.putObj], fun b c fr e => cells_putObj h hc e⟩

set_option maxRecDepth 100000 in
set_option maxHeartbeats 400000 in
theorem wafter_any (s : So) (wl wh n : Int) (w : World) :
    Calls Try.prog 45 #[.agg #[.int .i64 s.saL, .int .i64 s.saH, .int .i64 s.lim, .int .i64 s.crop, .int .i64 s.miL, .int .i64 s.miH, .int .i64 s.waL, .int .i64 s.waH, .int .i64 s.riL, .int .i64 s.riH, .int .i64 wl, .int .i64 wh], .int .i64 n] w fun e w' => e = .returned (.func (.func 72) #[] #[.pointer (some ⟨w.heap.size, 0, none⟩), .pointer (some ⟨w.heap.size + 1, 0, none⟩)]) ∧
      (w.alloc (.cells #[.int .i64 s.saL, .int .i64 s.saH, .int .i64 s.lim, .int .i64 s.crop, .int .i64 s.miL, .int .i64 s.miH, .int .i64 s.waL, .int .i64 s.waH, .int .i64 s.riL, .int .i64 s.riH, .int .i64 wl, .int .i64 wh] 96)).alloc (.cells #[.int .i64 n] 3) = w' := by
  go_enter Try.func45, Try.ntmps45
  go_wp2
  go_ret
  exact ⟨rfl, rfl⟩

theorem grown_set (w : World) (p : Addr) (u : Value) : w.grownBy (w.setCell p u) (some p.block) := ⟨rfl, rfl, rfl, by simp [World.setCell], fun k hk hne => Below.heap_setCell w p u k (fun e => hne (by rw [e]))⟩
theorem row12_set {w : World} {g : Nat} {x0 x1 x2 x3 x4 x5 x6 x7 x8 x9 x10 x11 a b : Value} {t : TypeId} (h : w.heap[g]? = some (.cells #[x0, x1, x2, x3, x4, x5, x6, x7, x8, x9, x10, x11] t (0, 0))) :
    (w.setCell ⟨g, 0, none⟩ a).heap[g]? = some (.cells #[a, x1, x2, x3, x4, x5, x6, x7, x8, x9, x10, x11] t (0, 0)) ∧ ((w.setCell ⟨g, 0, none⟩ a).setCell ⟨g, 1, none⟩ b).heap[g]? = some (.cells #[a, b, x2, x3, x4, x5, x6, x7, x8, x9, x10, x11] t (0, 0)) := by
  have h1 := heap_setCell_same w g 0 _ _ a h
  exact ⟨h1.trans rfl, (heap_setCell_same _ g 1 _ _ b h1).trans rfl⟩

set_option maxRecDepth 100000 in
set_option maxHeartbeats 4000000 in
theorem after1_seq (s : So) (wl wh : Int) (N : Nat) (hB : SoB s 0) (x0 : 0 ≤ wl) (x1 : wl ≤ wh) (x2 : wh ≤ 1000000000) (hN : N ≤ 100) (Bn Cn : Nat) (w : World)
    (h1 : w.heap[Bn]? = some (.cells (wkA s wl wh) 96 (0, 0))) (h2 : w.heap[Cn]? = some (.cells #[.int .i64 (N : Int)] 3 (0, 0))) :
    SeqW Try.prog 72 #[.pointer (some ⟨Bn, 0, none⟩), .pointer (some ⟨Cn, 0, none⟩)] (fun k => #[.agg (wkA (itS s wl wh (k + 1)) wl wh)]) 96 N KpW w := by
  intro l J W hW hJ hY hJ0
  replace h1 := (hW.block _ (Array.getElem?_eq_some_iff.1 h1).1).trans h1
  replace h2 := (hW.block _ (Array.getElem?_eq_some_iff.1 h2).1).trans h2
  have hBl : Bn < W.heap.size := (Array.getElem?_eq_some_iff.1 h1).1
  have hCl : Cn < W.heap.size := (Array.getElem?_eq_some_iff.1 h2).1
  have k0 := cell_of_row W Bn 0 _ _ _ h1
  have k1 := cell_of_row W Bn 1 _ _ _ h1
  have k2 := cell_of_row W Bn 2 _ _ _ h1
  have k3 := cell_of_row W Bn 3 _ _ _ h1
  have k4 := cell_of_row W Bn 4 _ _ _ h1
  have k5 := cell_of_row W Bn 5 _ _ _ h1
  have k6 := cell_of_row W Bn 6 _ _ _ h1
  have k7 := cell_of_row W Bn 7 _ _ _ h1
  have k8 := cell_of_row W Bn 8 _ _ _ h1
  have k9 := cell_of_row W Bn 9 _ _ _ h1
  have k10 := cell_of_row W Bn 10 _ _ _ h1
  have k11 := cell_of_row W Bn 11 _ _ _ h1
  have kn := cell_of_row W Cn 0 _ _ _ h2
  simp only [wkA, List.getElem?_toArray, List.getElem?_cons_zero, List.getElem?_cons_succ] at k0 k1 k2 k3 k4 k5 k6 k7 k8 k9 k10 k11 kn
  have HJ := Lib.hid hJ
  have HY := Lib.hid hY
  have HB := Lib.hid (fun k => itS_bnd hB x0 x1 x2 k)
  have hj0 : J 0 (W.alloc (.cells #[.int .i64 s.saL, .int .i64 s.saH, .int .i64 s.lim, .int .i64 s.crop, .int .i64 s.miL, .int .i64 s.miH, .int .i64 s.waL, .int .i64 s.waH, .int .i64 s.riL, .int .i64 s.riH, .int .i64 wl, .int .i64 wh] 96)) := hJ 0 _ _ none hJ0 (World.grownBy_alloc _ _ none) (fun r e => by cases e)
  have HJ0 := Lib.hid hj0
  clear hJ hY hJ0 hj0 h1 h2 hW hB
  simp only [List.append_toArray, List.cons_append, List.nil_append]
  refine callsIn_of_wp Try.func72 rfl trivial ?_ rfl
  simp only [Try.ntmps72, List.size_toArray, List.length_cons, List.length_nil, Nat.reduceAdd, Nat.reduceSub, Array.replicate_succ, Array.replicate_zero, List.push_toArray, List.append_toArray, List.nil_append, List.cons_append]
  gi_wp2
  clear k0 k1 k2 k3 k4 k5 k6 k7 k8 k9 k10 k11 kn
  gi_loopw [7] (fun i wr => ∃ k : Nat, k ≤ N ∧ i = .int .i64 k ∧ J k wr ∧ wr.heap[W.heap.size]? = some (.cells (wkA (itS s wl wh k) wl wh) 96 (0, 0))) (fun i _ => N - (intOf i).toNat)
  case atStart => exact ⟨0, Nat.zero_le _, rfl, HJ0.out, heap_alloc_new _ _⟩
  case round =>
    obtain ⟨k, hk, rfl, hJs, hrow⟩ := hrel
    have hbl : W.heap.size < wr.heap.size := (Array.getElem?_eq_some_iff.1 hrow).1
    have hBk := HB.out k
    have e1 : (itS s wl wh (k + 1)).saL = max 0 (min (leastI (itS s wl wh k) wl) (leastI (itS s wl wh k) wh)) / 1000 := rfl
    have e2 : (itS s wl wh (k + 1)).saH = (max 0 (cycHi (itS s wl wh k) wl wh) + 999) / 1000 := rfl
    have e3 : itS s wl wh (k + 1) = { itS s wl wh k with saL := (itS s wl wh (k + 1)).saL, saH := (itS s wl wh (k + 1)).saH } := rfl
    rw [← e1] at e1
    have CL : ∀ W', Calls Try.prog 73 #[.agg (wkA (itS s wl wh k) wl wh), .agg #[.func (.func 113) #[] #[], .func (.func 114) #[] #[], .func (.func 115) #[] #[], .func (.func 116) #[] #[]]] W' fun e w' => e = .returned (.int .i64 (itS s wl wh (k + 1)).saL) ∧ Below W'.heap.size W' w' := fun W' => told_lo_any (itS s wl wh k) wl wh W' k hBk (by omega) x0 x1 x2
    have CH : ∀ W', Calls Try.prog 73 #[.agg (wkA (itS s wl wh k) wl wh), .agg #[.func (.func 114) #[] #[], .func (.func 113) #[] #[], .func (.func 117) #[] #[], .func (.func 118) #[] #[]]] W' fun e w' => e = .returned (.int .i64 (itS s wl wh (k + 1)).saH) ∧ Below W'.heap.size W' w' := fun W' => told_hi_any (itS s wl wh k) wl wh W' k hBk (by omega) x0 x1 x2
    have HY1 : Hid (∀ W1, k < N → J k W1 → YieldAt Fence.wide 1 Try.prog l #[.agg (wkA (itS s wl wh (k + 1)) wl wh)] W1 fun e W' => e = .returned (.bool true) ∧ J (k + 1) W' ∧ KpW W1 W') := Lib.hid (HY.out k)
    have HN : Hid (∀ (A1 : Array Value) (W1 : World), A1 = wkA { itS s wl wh k with saL := (itS s wl wh (k + 1)).saL, saH := (itS s wl wh (k + 1)).saH } wl wh → W1.heap[W.heap.size]? = some (.cells A1 96 (0, 0)) → W1.heap[W.heap.size]? = some (.cells (wkA (itS s wl wh (k + 1)) wl wh) 96 (0, 0))) := Lib.hid (fun _ _ h1 h => by subst h1; exact h)
    clear e1 e2 hBk
    rw [e3] at HY1
    clear e3
    generalize (itS s wl wh (k + 1)).saL = na at *
    generalize (itS s wl wh (k + 1)).saH = nb at *
    generalize itS s wl wh k = σ at *
    simp only [wkA] at HY1 CL CH hrow
    have HCL := Lib.hid CL
    have HCH := Lib.hid CH
    have k0 := cell_of_row wr W.heap.size 0 _ _ _ hrow
    have k1 := cell_of_row wr W.heap.size 1 _ _ _ hrow
    have k2 := cell_of_row wr W.heap.size 2 _ _ _ hrow
    have k3 := cell_of_row wr W.heap.size 3 _ _ _ hrow
    have k4 := cell_of_row wr W.heap.size 4 _ _ _ hrow
    have k5 := cell_of_row wr W.heap.size 5 _ _ _ hrow
    have k6 := cell_of_row wr W.heap.size 6 _ _ _ hrow
    have k7 := cell_of_row wr W.heap.size 7 _ _ _ hrow
    have k8 := cell_of_row wr W.heap.size 8 _ _ _ hrow
    have k9 := cell_of_row wr W.heap.size 9 _ _ _ hrow
    have k10 := cell_of_row wr W.heap.size 10 _ _ _ hrow
    have k11 := cell_of_row wr W.heap.size 11 _ _ _ hrow
    have f0 := frozen_of_row wr W.heap.size 0 _ _ hrow
    have f1 := frozen_of_row wr W.heap.size 1 _ _ hrow
    simp only [List.getElem?_toArray, List.getElem?_cons_zero, List.getElem?_cons_succ] at k0 k1 k2 k3 k4 k5 k6 k7 k8 k9 k10 k11
    have HR := Lib.hid hrow
    have HJs := Lib.hid hJs
    clear hrow CL CH hJs
    by_cases hlt : k < N
    · have hltI : (k : Int) < (N : Int) := by omega
      gi_wp2
      refine wpIn_wide.2 ?_
      refine wp_region_calm_tail 9 (by kernel_rfl) (by decide +kernel) (by omega) ?_
      (simp only [List.take_succ_cons, List.take_zero, List.drop_succ_cons, List.drop_zero])
      iterate 3 (go_big_quiet_step ((first | (go_at_call 74; exact calm_of (lowest_any _)) | (go_at_call 73; exact calm_of (HCL.out _)))))
      repeat (go_big_quiet_step ((first | (go_at_call 75; exact calm_of (highest_any _)) | (go_at_call 73; exact calm_of (HCH.out _)))))
      refine wpQuiet_nil ?_
      rintro _ ⟨dx, rfl⟩
      obtain ⟨wy, hwy⟩ : ∃ wy, wx _ dx = wy := ⟨_, rfl⟩; have hby := wx_below _ dx; rw [hwy] at hby ⊢
      have hJy : J k wy := HJ.out k wr wy none HJs.out (grown_of_below hby) (fun r e => by cases e)
      have hry := (hby.block _ hbl).trans HR.out
      have hbly : W.heap.size < wy.heap.size := (Array.getElem?_eq_some_iff.1 hry).1
      obtain ⟨hr1, hr2⟩ := row12_set (a := .int .i64 na) (b := .int .i64 nb) hry
      have hJ5 : J k ((wy.setCell ⟨W.heap.size, 0, none⟩ (.int .i64 na)).setCell ⟨W.heap.size, 1, none⟩ (.int .i64 nb)) :=
        HJ.out k _ _ (some W.heap.size) (HJ.out k _ _ (some W.heap.size) hJy (grown_set wy ⟨W.heap.size, 0, none⟩ _) (fun r e => by cases e; exact ⟨Nat.le_refl _, _, _, hry⟩)) (grown_set _ ⟨W.heap.size, 1, none⟩ _) (fun r e => by cases e; exact ⟨Nat.le_refl _, _, _, hr1⟩)
      obtain ⟨fn, tmps, assign, body, hy, hR⟩ := HY1.out _ hlt hJ5
      have HRR := Lib.hid hR
      have HR2 := Lib.hid hr2
      replace k0 := (hby.cell (p := ⟨W.heap.size, 0, none⟩) hbl).trans k0
      replace k1 := (hby.cell (p := ⟨W.heap.size, 1, none⟩) hbl).trans k1
      replace k2 := (hby.cell (p := ⟨W.heap.size, 2, none⟩) hbl).trans k2
      replace k3 := (hby.cell (p := ⟨W.heap.size, 3, none⟩) hbl).trans k3
      replace k4 := (hby.cell (p := ⟨W.heap.size, 4, none⟩) hbl).trans k4
      replace k5 := (hby.cell (p := ⟨W.heap.size, 5, none⟩) hbl).trans k5
      replace k6 := (hby.cell (p := ⟨W.heap.size, 6, none⟩) hbl).trans k6
      replace k7 := (hby.cell (p := ⟨W.heap.size, 7, none⟩) hbl).trans k7
      replace k8 := (hby.cell (p := ⟨W.heap.size, 8, none⟩) hbl).trans k8
      replace k9 := (hby.cell (p := ⟨W.heap.size, 9, none⟩) hbl).trans k9
      replace k10 := (hby.cell (p := ⟨W.heap.size, 10, none⟩) hbl).trans k10
      replace k11 := (hby.cell (p := ⟨W.heap.size, 11, none⟩) hbl).trans k11
      replace f0 := (hby.frozen (p := ⟨W.heap.size, 0, none⟩) hbl).trans f0
      replace f1 := (hby.frozen (p := ⟨W.heap.size, 1, none⟩) hbl).trans f1
      clear hR hr1 hr2 hJy hJ5 hry hby hwy
      gi_wp2_with fail
      gi_wp2
      refine HRR.out.mono ?_
      rintro e W3 ⟨rfl, hJ3, hk3⟩
      have HK3 := Lib.hid hk3
      clear hk3
      gi_wp2
      go_roundw
      case rel => exact ⟨k + 1, by omega, by simp, hJ3, HN.out _ W3 rfl (HK3.out.2 _ _ _ HR2.out)⟩
      case measure => simp [intOf]; omega
    · obtain rfl : k = N := by omega
      gi_wp2
      go_end0
      exact ⟨⟨_, rfl⟩, HJs.out⟩

/-- The list of the salts after k cycles is that of the soils yielded. -/
theorem aftS_upto (s : So) (wl wh : Int) (n : Nat) : aftS s wl wh n = upto (fun k => saS (itS s wl wh (k + 1))) n := rfl
end Go.Proofs.Ytjkefoijhphknaa
