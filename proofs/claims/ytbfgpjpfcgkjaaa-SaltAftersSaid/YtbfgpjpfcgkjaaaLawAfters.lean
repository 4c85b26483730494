/- SaltAfters returns true for any soil, water and cycles; what lay in memory stays. No condition. -/
import Derived.Test.YtbfgpjpfcgkjaaaSaRefC
namespace Go.Proofs.Ytbfgpjpfcgkjaaa
open Go.RowKit Go.IntWalk
attribute [local go_sem] wx_cell wx_frozen

set_option maxRecDepth 100000 in
set_option maxHeartbeats 8000000 in
theorem lawAfters_any (s : So) (wl wh n : Int) (w : World) :
    Calls Try.prog 3 #[.agg #[.int .i64 s.saL, .int .i64 s.saH, .int .i64 s.lim, .int .i64 s.crop, .int .i64 s.miL, .int .i64 s.miH, .int .i64 s.waL, .int .i64 s.waH, .int .i64 s.riL, .int .i64 s.riH], .agg #[.int .i64 wl, .int .i64 wh], .int .i64 n] w fun e w' => e = .returned (.bool true) ∧ Below w.heap.size w w' := by
  obtain ⟨L, hL⟩ : ∃ L, (saAfter s wl wh n).1 = L := ⟨_, rfl⟩
  obtain ⟨z, hz⟩ : ∃ z, (saAfter s wl wh n).2 = z := ⟨_, rfl⟩
  have CA := fun W => After_any s wl wh n W
  have CB := fun W => rAfter_any s wl wh n W
  have CN := fun W => Need_any s W
  have CM := fun W => rNeed_any s W
  unfold AfterPost at CA CB
  rw [hL, hz] at CA CB
  have hlen : L.length ≤ 1000000000 := by
    rw [← hL]
    unfold saAfter
    split
    · simp
    · split
      · simp
      · rename_i h1 h2
        have h3 : (so1 wl wh 1000000000 && soIn n 0 100) = true := by simpa using h2
        rw [Bool.and_eq_true] at h3
        have h4 := h3.2
        simp only [soIn, Bool.and_eq_true, decide_eq_true_eq] at h4
        simp
        omega
  obtain ⟨n1, hn1⟩ : ∃ x, (saNeed s).1 = x := ⟨_, rfl⟩
  obtain ⟨n2, hn2⟩ : ∃ x, (saNeed s).2 = x := ⟨_, rfl⟩
  obtain ⟨k, hk⟩ : ∃ x : Int, (if soOk s then 0 else 60) = x := ⟨_, rfl⟩
  have CS := fun W => scheck_any s W
  have CR := fun W => rsCheck_any s W
  rw [hn1, hn2] at CN CM
  rw [hk] at CS CR
  have HCA := Lib.hid CA
  have HCB := Lib.hid CB
  have HCN := Lib.hid CN
  have HCM := Lib.hid CM
  have HCS := Lib.hid CS
  have HCR := Lib.hid CR
  clear CA CB CN CM CS CR hL hz hn1 hn2 hk
  go_enter Try.func3, Try.ntmps3
  go_upto_region 1 with (fail)
  generalize hw0 : (w.alloc (Obj.cells #[.int .i64 s.saL, .int .i64 s.saH, .int .i64 s.lim, .int .i64 s.crop, .int .i64 s.miL, .int .i64 s.miH, .int .i64 s.waL, .int .i64 s.waH, .int .i64 s.riL, .int .i64 s.riH] 25)).alloc (Obj.cells #[.int .i64 wl, .int .i64 wh] 23) = w0
  have r1 : w0.heap[w.heap.size]? = some (.cells #[.int .i64 s.saL, .int .i64 s.saH, .int .i64 s.lim, .int .i64 s.crop, .int .i64 s.miL, .int .i64 s.miH, .int .i64 s.waL, .int .i64 s.waH, .int .i64 s.riL, .int .i64 s.riH] 25 (0, 0)) := by rw [← hw0]; exact (Below.heap_alloc _ _ _ (by simp)).trans (heap_alloc_new _ _)
  have r2 : w0.heap[w.heap.size + 1]? = some (.cells #[.int .i64 wl, .int .i64 wh] 23 (0, 0)) := by rw [← hw0]; exact heap_alloc2_new _ _ _
  have hb0 : Below w.heap.size w w0 := by rw [← hw0]; (repeat' (first | (with_reducible exact Below.refl _ _) | (with_reducible refine Below.alloc ?_ ?_ _) | (with_reducible refine Below.drew ?_) | (with_reducible refine Below.drewN_ ?_ _) | (with_reducible refine Below.setCell ?_ ?_ _) | (with_reducible refine Below.setRow ?_ ?_ _) | (with_reducible refine Below.via ?_ (by with_reducible assumption) ?_) | go_size))
  have hl1 : w.heap.size < w0.heap.size := (Array.getElem?_eq_some_iff.1 r1).1
  have hl2 : w.heap.size + 1 < w0.heap.size := (Array.getElem?_eq_some_iff.1 r2).1
  have k0 := cell_of_row w0 w.heap.size 0 _ _ _ r1
  have k1 := cell_of_row w0 w.heap.size 1 _ _ _ r1
  have k2 := cell_of_row w0 w.heap.size 2 _ _ _ r1
  have k3 := cell_of_row w0 w.heap.size 3 _ _ _ r1
  have k4 := cell_of_row w0 w.heap.size 4 _ _ _ r1
  have k5 := cell_of_row w0 w.heap.size 5 _ _ _ r1
  have k6 := cell_of_row w0 w.heap.size 6 _ _ _ r1
  have k7 := cell_of_row w0 w.heap.size 7 _ _ _ r1
  have k8 := cell_of_row w0 w.heap.size 8 _ _ _ r1
  have k9 := cell_of_row w0 w.heap.size 9 _ _ _ r1
  have v0 := cell_of_row w0 (w.heap.size + 1) 0 _ _ _ r2
  have v1 := cell_of_row w0 (w.heap.size + 1) 1 _ _ _ r2
  simp only [List.getElem?_toArray, List.getElem?_cons_zero, List.getElem?_cons_succ] at k0 k1 k2 k3 k4 k5 k6 k7 k8 k9 v0 v1
  have HB0 := Lib.hid hb0
  clear hw0 r1 r2 hb0
  go_upto_region 5 with (first
    | (go_at_call 12; refine (HCA.out _).mono ?_; rintro e w1 ⟨⟨A1, c1, rfl, rd1⟩, hb1⟩; obtain ⟨hc1, hf1⟩ := bcell hb1; have hz1 := hb1.size; replace k0 := (hc1 _ _ hl1).trans k0; replace k1 := (hc1 _ _ hl1).trans k1; replace k2 := (hc1 _ _ hl1).trans k2; replace k3 := (hc1 _ _ hl1).trans k3; replace k4 := (hc1 _ _ hl1).trans k4; replace k5 := (hc1 _ _ hl1).trans k5; replace k6 := (hc1 _ _ hl1).trans k6; replace k7 := (hc1 _ _ hl1).trans k7; replace k8 := (hc1 _ _ hl1).trans k8; replace k9 := (hc1 _ _ hl1).trans k9; replace v0 := (hc1 _ _ hl2).trans v0; replace v1 := (hc1 _ _ hl2).trans v1; replace hl1 : w.heap.size < w1.heap.size := (by omega); replace hl2 : w.heap.size + 1 < w1.heap.size := (by omega); clear hc1 hf1; have RD1 := Lib.hid rd1; clear rd1)
    | (go_at_call 13; refine (HCB.out _).mono ?_; rintro e w2 ⟨⟨A2, c2, rfl, rd2⟩, hb2⟩; obtain ⟨hc2, hf2⟩ := bcell hb2; have hz2 := hb2.size; replace k0 := (hc2 _ _ hl1).trans k0; replace k1 := (hc2 _ _ hl1).trans k1; replace k2 := (hc2 _ _ hl1).trans k2; replace k3 := (hc2 _ _ hl1).trans k3; replace k4 := (hc2 _ _ hl1).trans k4; replace k5 := (hc2 _ _ hl1).trans k5; replace k6 := (hc2 _ _ hl1).trans k6; replace k7 := (hc2 _ _ hl1).trans k7; replace k8 := (hc2 _ _ hl1).trans k8; replace k9 := (hc2 _ _ hl1).trans k9; replace v0 := (hc2 _ _ hl2).trans v0; replace v1 := (hc2 _ _ hl2).trans v1; replace hl1 : w.heap.size < w2.heap.size := (by omega); replace hl2 : w.heap.size + 1 < w2.heap.size := (by omega); clear hc2 hf2; have RD2 := Lib.hid rd2; clear rd2; replace RD1 := Lib.hid ((RD1.out.below hb2).more hb2.size))
    | (go_at_call 14; refine (HCN.out _).mono ?_; rintro e w3 ⟨rfl, hb3⟩; obtain ⟨hc3, hf3⟩ := bcell hb3; have hz3 := hb3.size; replace k0 := (hc3 _ _ hl1).trans k0; replace k1 := (hc3 _ _ hl1).trans k1; replace k2 := (hc3 _ _ hl1).trans k2; replace k3 := (hc3 _ _ hl1).trans k3; replace k4 := (hc3 _ _ hl1).trans k4; replace k5 := (hc3 _ _ hl1).trans k5; replace k6 := (hc3 _ _ hl1).trans k6; replace k7 := (hc3 _ _ hl1).trans k7; replace k8 := (hc3 _ _ hl1).trans k8; replace k9 := (hc3 _ _ hl1).trans k9; replace v0 := (hc3 _ _ hl2).trans v0; replace v1 := (hc3 _ _ hl2).trans v1; replace hl1 : w.heap.size < w3.heap.size := (by omega); replace hl2 : w.heap.size + 1 < w3.heap.size := (by omega); clear hc3 hf3; replace RD1 := Lib.hid ((RD1.out.below hb3).more hb3.size); replace RD2 := Lib.hid ((RD2.out.below hb3).more hb3.size))
    | (go_at_call 15; refine (HCM.out _).mono ?_; rintro e w4 ⟨rfl, hb4⟩; obtain ⟨hc4, hf4⟩ := bcell hb4; have hz4 := hb4.size; replace k0 := (hc4 _ _ hl1).trans k0; replace k1 := (hc4 _ _ hl1).trans k1; replace k2 := (hc4 _ _ hl1).trans k2; replace k3 := (hc4 _ _ hl1).trans k3; replace k4 := (hc4 _ _ hl1).trans k4; replace k5 := (hc4 _ _ hl1).trans k5; replace k6 := (hc4 _ _ hl1).trans k6; replace k7 := (hc4 _ _ hl1).trans k7; replace k8 := (hc4 _ _ hl1).trans k8; replace k9 := (hc4 _ _ hl1).trans k9; replace v0 := (hc4 _ _ hl2).trans v0; replace v1 := (hc4 _ _ hl2).trans v1; replace hl1 : w.heap.size < w4.heap.size := (by omega); replace hl2 : w.heap.size + 1 < w4.heap.size := (by omega); clear hc4 hf4; replace RD1 := Lib.hid ((RD1.out.below hb4).more hb4.size); replace RD2 := Lib.hid ((RD2.out.below hb4).more hb4.size)))
  have hb : Below w.heap.size w w4 := HB0.out.trans ((hb1.mono HB0.out.size).trans ((hb2.mono (Nat.le_trans HB0.out.size hz1)).trans ((hb3.mono (Nat.le_trans (Nat.le_trans HB0.out.size hz1) hz2)).trans (hb4.mono (Nat.le_trans (Nat.le_trans (Nat.le_trans HB0.out.size hz1) hz2) hz3)))))
  have HB := Lib.hid hb
  clear hb hb1 hb2 hb3 hb4 hz1 hz2 hz3 hz4 HB0
  have HSS : Hid (∀ W, Below w4.heap.size w4 W → Calls Try.prog 18 #[.slice A1 L.length c1, .slice A2 L.length c2] W fun e w' => e = .returned (.bool true) ∧ Below W.heap.size W w') := Lib.hid (fun W hW => by
    have := sameSpans_any L L c1 c2 A1 A2 W ((RD1.out.below hW).more hW.size) ((RD2.out.below hW).more hW.size) hlen hlen
    simpa using this)
  refine wp_region_calm (by kernel_rfl) (by kernel_rfl) ?_
  repeat (go_big_quiet_step ((first | (go_at_call 16; exact calm_of (HCS.out _)) | (go_at_call 17; exact calm_of (HCR.out _)) | (go_at_call 18; exact calm_of (HSS.out _ (wx_below _ _))))))
  refine wpQuiet_nil ?_; rintro _ ⟨dx, rfl⟩
  obtain ⟨wy, hwy⟩ : ∃ wy, wx _ dx = wy := ⟨_, rfl⟩; have hby := wx_below _ dx; rw [hwy] at hby ⊢
  go_wp2
  go_ret
  exact ⟨by simp, HB.out.trans (hby.mono HB.out.size)⟩
end Go.Proofs.Ytbfgpjpfcgkjaaa
