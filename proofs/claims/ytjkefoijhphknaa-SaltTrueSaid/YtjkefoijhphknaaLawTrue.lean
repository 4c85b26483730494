/- SaltTrue returns true for any soil, water, cycles and numbers. No condition. -/
import Derived.Test.YtjkefoijhphknaaSaFine
set_option linter.unusedSimpArgs false
set_option linter.unusedVariables false
namespace Go.Proofs.Ytjkefoijhphknaa
open Go.RowKit Go.IntWalk
attribute [local go_sem] wx_cell wx_frozen

theorem at_anyB (l : List U32) (i : Nat) (A : Option Addr) (c : Nat) (w : World) (r : Rd w w.heap.size A uV 1 l) (hl : l.length ≤ 9223372036854775807) (hi : i ≤ 1000000000) :
    Calls Try.prog 36 #[.slice A l.length c, .int .i64 (i : Int)] w fun e w' => e = .returned (.int .u32 (atI l i)) ∧ Below w.heap.size w w' :=
  (at_any l i A c w r hl hi).mono fun e w' ⟨h1, h2⟩ => ⟨h1, by rw [← h2]; exact Below.refl _ _⟩
theorem itS_form (s : So) (wl wh : Int) : ∀ k, ∃ a b, itS s wl wh k = { s with saL := a, saH := b }
  | 0 => ⟨s.saL, s.saH, rfl⟩
  | k + 1 => by
    obtain ⟨a, b, h⟩ := itS_form s wl wh k
    exact ⟨_, _, by show cyc (itS s wl wh k) wl wh = _; rw [h]; rfl⟩
theorem aftS_get (s : So) (wl wh : Int) {n k : Nat} (h : k < n) : (aftS s wl wh n)[k]'(by simpa using h) = saS (itS s wl wh (k + 1)) := by
  unfold aftS
  simp
/-- One step of what is so in truth. -/
theorem true_step {s : So} (hs : SoB s 0) {wl wh : Int} (x0 : 0 ≤ wl) (x1 : wl ≤ wh) (x2 : wh ≤ 1000000000) {k : Nat} {now v mi ri wa : Int} (n1 : 1000 * (itS s wl wh k).saL ≤ now) (n2 : now ≤ 1000 * (itS s wl wh k).saH)
    (v1 : wl ≤ v) (v2 : v ≤ wh) (m1 : s.miL ≤ mi) (m2 : mi ≤ s.miH) (r1 : s.riL ≤ ri) (r2 : ri ≤ s.riH) (w1 : s.waL ≤ wa) (w2 : wa ≤ s.waH) :
    1000 * (itS s wl wh (k + 1)).saL ≤ nowI s now v mi ri wa ∧ nowI s now v mi ri wa ≤ 1000 * (itS s wl wh (k + 1)).saH := by
  have hb := itS_bnd hs x0 x1 x2 k
  obtain ⟨a, b, e⟩ := itS_form s wl wh k
  have := now_in (v := v) (mi := mi) (ri := ri) (wa := wa) (now := now) hb x0 n1 n2 v1 v2 (by rw [e]; exact m1) (by rw [e]; exact m2) (by rw [e]; exact r1) (by rw [e]; exact r2) (by rw [e]; exact w1) (by rw [e]; exact w2)
  have e2 : nowI (itS s wl wh k) now v mi ri wa = nowI s now v mi ri wa := by unfold nowI; rw [itS_crop]
  rw [e2] at this
  exact this

set_option maxRecDepth 100000 in
set_option maxHeartbeats 8000000 in
theorem lawTrue_any (s : So) (wl wh n : Int) (by_ : List U32) (c : Nat) (A : Option Addr) (w : World) (n0 : 0 ≤ n) (n1 : n ≤ 255) (r : Rd w w.heap.size A uV 1 by_) (hl : by_.length ≤ 9223372036854775807) :
    Calls Try.prog 6 #[.agg #[.int .i64 s.saL, .int .i64 s.saH, .int .i64 s.lim, .int .i64 s.crop, .int .i64 s.miL, .int .i64 s.miH, .int .i64 s.waL, .int .i64 s.waH, .int .i64 s.riL, .int .i64 s.riH], .agg #[.int .i64 wl, .int .i64 wh], .int .u8 n, .slice A by_.length c] w fun e w' => e = .returned (.bool true) ∧ Below w.heap.size w w' := by
  obtain ⟨N, rfl⟩ := Int.eq_ofNat_of_zero_le n0
  have AL := Lib.hid alive_any
  have CR := Lib.hid (fun W => rsCheck_any s W)
  have CS := Lib.hid (fun W => spanned_any wl wh 1000000000 W)
  have CA := Lib.hid (fun W => After_any s wl wh (N : Int) W)
  have HR := Lib.hid r
  have HL := Lib.hid hl
  clear r hl
  obtain ⟨m, hm⟩ : ∃ m, by_.length = m := ⟨_, rfl⟩
  rw [hm]
  have HM := Lib.hid hm
  clear hm
  go_enter Try.func6, Try.ntmps6
  go_upto_region 1 with (fail)
  obtain ⟨B, hB⟩ : ∃ B, w.heap.size = B := ⟨_, rfl⟩
  obtain ⟨w0, hw0⟩ : ∃ w0, (w.alloc (Obj.cells (soA s) 25)).alloc (Obj.cells #[.int .i64 wl, .int .i64 wh] 23) = w0 := ⟨_, rfl⟩
  have r0 : w0.heap[B]? = some (.cells (soA s) 25 (0, 0)) := by rw [← hw0, ← hB]; exact (Below.heap_alloc _ _ _ (by simp)).trans (heap_alloc_new _ _)
  have s0 : w0.heap[B + 1]? = some (.cells #[.int .i64 wl, .int .i64 wh] 23 (0, 0)) := by rw [← hw0, ← hB]; exact heap_alloc2_new _ _ _
  have b0 : Below w.heap.size w w0 := by rw [← hw0]; (repeat' (first | (with_reducible exact Below.refl _ _) | (with_reducible refine Below.alloc ?_ ?_ _) | (with_reducible refine Below.drew ?_) | (with_reducible refine Below.drewN_ ?_ _) | (with_reducible refine Below.setCell ?_ ?_ _) | (with_reducible refine Below.setRow ?_ ?_ _) | (with_reducible refine Below.via ?_ (by with_reducible assumption) ?_) | go_size))
  unfold soA at hw0
  rw [hw0, hB]
  clear hw0 hB
  go_upto_region 4 with (go_at_call 33; refine (AL.out _).mono ?_; rintro e w1 ⟨rfl, hb1⟩)
  have R1 := Lib.hid (row_keep r0 hb1)
  have S1 := Lib.hid (row_keep s0 hb1)
  have B1 := Lib.hid (below_keep b0 b0.size hb1)
  clear hb1 r0 b0 s0 AL
  have T1 : Hid True := Lib.hid trivial
  cases h : soOk s
  · simp only [h] at CR
    go_upto_region 6 with (first | (go_at_call 17; refine (CR.out _).mono ?_; rintro e w2 ⟨rfl, hb2⟩) | (refine wpList_load_row rfl 25 (.tmp 4) rfl B rfl 25 (soA s) (0, 0) _ R1.out Try.underlying25 rfl (infoSoil s) ?_))
    go_ret
    exact ⟨rfl, below_keep B1.out B1.out.size hb2⟩
  simp only [h, if_true] at CR
  cases h2 : so1 wl wh 1000000000
  · rw [h2] at CS
    go_upto_region 6 with (first | (go_at_call 17; refine (CR.out _).mono ?_; rintro e w2 ⟨rfl, hb2⟩; have v0 : w2.cell? ⟨B + 1, 0, none⟩ = some (.int .i64 wl) := cell_of_row w2 (B + 1) 0 _ _ _ (row_keep S1.out hb2); have v1 : w2.cell? ⟨B + 1, 1, none⟩ = some (.int .i64 wh) := cell_of_row w2 (B + 1) 1 _ _ _ (row_keep S1.out hb2)) | (go_at_call 34; refine (CS.out _).mono ?_; rintro e w3 ⟨rfl, hb3⟩) | (refine wpList_load_row rfl 25 (.tmp 4) rfl B rfl 25 (soA s) (0, 0) _ R1.out Try.underlying25 rfl (infoSoil s) ?_))
    go_ret
    exact ⟨rfl, below_keep (below_keep B1.out B1.out.size hb2) (below_keep B1.out B1.out.size hb2).size hb3⟩
  rw [h2] at CS
  by_cases h40 : (N : Int) > 40
  · go_upto_region 6 with (first | (go_at_call 17; refine (CR.out _).mono ?_; rintro e w2 ⟨rfl, hb2⟩; have v0 : w2.cell? ⟨B + 1, 0, none⟩ = some (.int .i64 wl) := cell_of_row w2 (B + 1) 0 _ _ _ (row_keep S1.out hb2); have v1 : w2.cell? ⟨B + 1, 1, none⟩ = some (.int .i64 wh) := cell_of_row w2 (B + 1) 1 _ _ _ (row_keep S1.out hb2)) | (go_at_call 34; refine (CS.out _).mono ?_; rintro e w3 ⟨rfl, hb3⟩) | (refine wpList_load_row rfl 25 (.tmp 4) rfl B rfl 25 (soA s) (0, 0) _ R1.out Try.underlying25 rfl (infoSoil s) ?_))
    go_ret
    exact ⟨rfl, below_keep (below_keep B1.out B1.out.size hb2) (below_keep B1.out B1.out.size hb2).size hb3⟩
  go_upto_region 6 with (first | (go_at_call 17; refine (CR.out _).mono ?_; rintro e w2 ⟨rfl, hb2⟩; have v0 : w2.cell? ⟨B + 1, 0, none⟩ = some (.int .i64 wl) := cell_of_row w2 (B + 1) 0 _ _ _ (row_keep S1.out hb2); have v1 : w2.cell? ⟨B + 1, 1, none⟩ = some (.int .i64 wh) := cell_of_row w2 (B + 1) 1 _ _ _ (row_keep S1.out hb2)) | (go_at_call 34; refine (CS.out _).mono ?_; rintro e w3 ⟨rfl, hb3⟩) | (refine wpList_load_row rfl 25 (.tmp 4) rfl B rfl 25 (soA s) (0, 0) _ R1.out Try.underlying25 rfl (infoSoil s) ?_))
  have R3 := Lib.hid (row_keep (row_keep R1.out hb2) hb3)
  have S3 := Lib.hid (row_keep (row_keep S1.out hb2) hb3)
  have B3 := Lib.hid (below_keep (below_keep B1.out B1.out.size hb2) (below_keep B1.out B1.out.size hb2).size hb3)
  clear hb2 hb3 v0 v1 R1 S1 B1 CR CS T1
  have hS := SoB.of_ok h
  have hN40 : N ≤ 40 := by omega
  have hw : 0 ≤ wl ∧ wl ≤ wh ∧ wh ≤ 1000000000 := by simpa [so1, and_assoc] using h2
  obtain ⟨x0, x1, x2⟩ := hw
  have hord : s.saL ≤ s.saH ∧ s.miL ≤ s.miH ∧ s.waL ≤ s.waH ∧ s.riL ≤ s.riH := by
    simp only [soOk, so1, soIn, Bool.and_eq_true, decide_eq_true_eq] at h
    omega
  obtain ⟨o1, o2, o3, o4⟩ := hord
  have hsa : saAfter s wl wh (N : Int) = (aftS s wl wh N, 0) := by
    have h3 : (so1 wl wh 1000000000 && soIn (N : Int) 0 100) = true := by rw [h2]; simp [soIn]; omega
    unfold saAfter
    rw [if_neg (by rw [h]; simp), if_neg (by rw [h3]; simp)]
    rfl
  unfold AfterPost at CA
  rw [hsa] at CA
  simp only [aftS_length] at CA
  clear h h2 hsa
  have HS := Lib.hid hS
  have v0 : w3.cell? ⟨B + 1, 0, none⟩ = some (.int .i64 wl) := cell_of_row w3 (B + 1) 0 _ _ _ S3.out
  have v1 : w3.cell? ⟨B + 1, 1, none⟩ = some (.int .i64 wh) := cell_of_row w3 (B + 1) 1 _ _ _ S3.out
  go_upto_region 9 with (first | (go_at_call 12; refine (CA.out _).mono ?_; rintro e w4 ⟨⟨AA, cc, rfl, rd4⟩, hb4⟩) | (refine wpList_load_row rfl 25 (.tmp 4) rfl B rfl 25 (soA s) (0, 0) _ R3.out Try.underlying25 rfl (infoSoil s) ?_))
  have R4 := Lib.hid (row_keep R3.out hb4)
  have S4 := Lib.hid (row_keep S3.out hb4)
  have B4 := Lib.hid (below_keep B3.out B3.out.size hb4)
  have RD4 := Lib.hid rd4
  have hlt : B + 1 < w4.heap.size := (Array.getElem?_eq_some_iff.1 S4.out).1
  have hltB : B < w4.heap.size := by omega
  have CELLS := Lib.hid (fun W (hW : Below w4.heap.size w4 W) => (⟨cell_of_row W B 0 _ _ _ (row_keep R4.out hW), cell_of_row W B 1 _ _ _ (row_keep R4.out hW), cell_of_row W B 3 _ _ _ (row_keep R4.out hW), cell_of_row W B 4 _ _ _ (row_keep R4.out hW), cell_of_row W B 5 _ _ _ (row_keep R4.out hW), cell_of_row W B 6 _ _ _ (row_keep R4.out hW), cell_of_row W B 7 _ _ _ (row_keep R4.out hW), cell_of_row W B 8 _ _ _ (row_keep R4.out hW), cell_of_row W B 9 _ _ _ (row_keep R4.out hW), cell_of_row W (B + 1) 0 _ _ _ (row_keep S4.out hW), cell_of_row W (B + 1) 1 _ _ _ (row_keep S4.out hW)⟩ :
    W.cell? ⟨B, 0, none⟩ = some (.int .i64 s.saL) ∧ W.cell? ⟨B, 1, none⟩ = some (.int .i64 s.saH) ∧ W.cell? ⟨B, 3, none⟩ = some (.int .i64 s.crop) ∧ W.cell? ⟨B, 4, none⟩ = some (.int .i64 s.miL) ∧ W.cell? ⟨B, 5, none⟩ = some (.int .i64 s.miH) ∧ W.cell? ⟨B, 6, none⟩ = some (.int .i64 s.waL) ∧ W.cell? ⟨B, 7, none⟩ = some (.int .i64 s.waH) ∧ W.cell? ⟨B, 8, none⟩ = some (.int .i64 s.riL) ∧ W.cell? ⟨B, 9, none⟩ = some (.int .i64 s.riH) ∧ W.cell? ⟨B + 1, 0, none⟩ = some (.int .i64 wl) ∧ W.cell? ⟨B + 1, 1, none⟩ = some (.int .i64 wh)))
  have AT : Hid (∀ (z : Int) (i : Nat) W, z = (i : Int) → i ≤ 1000 → Below w4.heap.size w4 W → Calls Try.prog 36 #[.slice A m c, .int .i64 z] W fun e w' => e = .returned (.int .u32 (atI by_ i)) ∧ Below W.heap.size W w') := Lib.hid (fun z i W hz hi hW => by
    subst hz
    have := at_anyB by_ i A c W (rd_keep HR.out (below_keep B4.out B4.out.size hW)) HL.out (by omega)
    rw [HM.out] at this
    exact this)
  have PK : Hid (∀ lo hi i W, 0 ≤ lo → lo ≤ hi → hi ≤ 1000000000 → Calls Try.prog 35 #[.agg #[.int .i64 lo, .int .i64 hi], .int .u32 (atI by_ i)] W fun e w' => e = .returned (.int .i64 (pickI lo hi (atI by_ i))) ∧ Below W.heap.size W w') := Lib.hid (fun lo hi i W h0 h1 h2 => pick_any lo hi _ W h0 h1 h2 (atI_b by_ i).1 (atI_b by_ i).2)
  clear v0 v1 R3 S3 B3 hb4 rd4 CA HR HL HM
  obtain ⟨a1, a2, a3, a4, l1, l2, c1, c2, m1, m2, m3, m4, w1', w2', w3', w4', r1, r2, r3, r4⟩ := hS
  obtain ⟨k0, k1, _⟩ := CELLS.out w4 (Below.refl _ _)
  have PI : ∀ lo hi i, lo ≤ hi → lo ≤ pickI lo hi (atI by_ i) ∧ pickI lo hi (atI by_ i) ≤ hi := fun lo hi i h => pickI_in h
  have AT0 := Lib.hid (fun W (hW : Below w4.heap.size w4 W) => AT.out 0 0 W (by omega) (by omega) hW)
  have PK0 := Lib.hid (fun W => PK.out s.saL s.saH 0 W a1 o1 (by omega))
  have hp0 := PI s.saL s.saH 0 o1
  have HP0 : ∃ p, pickI s.saL s.saH (atI by_ 0) = p := ⟨_, rfl⟩
  obtain ⟨p0, hp0e⟩ := HP0
  rw [hp0e] at PK0 hp0
  clear hp0e
  refine wp_region_calm (by kernel_rfl) (by kernel_rfl) ?_
  repeat (go_big_quiet_step ((first | (go_at_call 36; exact calm_of (AT0.out _ (wx_below _ _))) | (go_at_call 35; exact calm_of (PK0.out _)))))
  refine wpQuiet_nil ?_; rintro _ ⟨dx, rfl⟩
  obtain ⟨wy, hwy⟩ : ∃ wy, wx _ dx = wy := ⟨_, rfl⟩; have hby := wx_below _ dx; rw [hwy] at hby ⊢
  have HBY := Lib.hid hby
  have it0 : itS s wl wh 0 = s := rfl
  clear hwy hby k0 k1 AT0 PK0
  go_wp2
  go_loopw [12, 57] (fun v12 v57 W => ∃ (k : Nat) (now : Int), k ≤ N ∧ v12 = .int .i64 now ∧ v57 = .int .i64 k ∧ 1000 * (itS s wl wh k).saL ≤ now ∧ now ≤ 1000 * (itS s wl wh k).saH ∧ Below w4.heap.size w4 W) (fun _ i _ => N - (intOf i).toNat)
  case atStart => exact ⟨0, _, by omega, rfl, rfl, by rw [it0]; omega, by rw [it0]; omega, HBY.out⟩
  case round =>
    obtain ⟨k, now, hk, rfl, rfl, g1, g2, hb⟩ := hrel
    clear it0
    by_cases hlk : k < N
    · have hlkI : (k : Int) < (N : Int) := by omega
      obtain ⟨bb, oo, rfl, hbl, hcell⟩ := (rd_keep RD4.out hb).at_ (show k < (aftS s wl wh N).length by simpa using hlk)
      rw [aftS_get s wl wh hlk] at hcell
      have q0 := hcell 0 _ rfl
      have q1 := hcell 1 _ rfl
      simp only [Nat.add_zero] at q0 q1
      have hbk := itS_bnd HS.out x0 x1 x2 k
      have hbk1 := itS_bnd HS.out x0 x1 x2 (k + 1)
      have e1 := hbk.a2
      have e2 := hbk.a4
      have e0 := hbk.a1
      have e3 := hbk1.a2
      have e4 := hbk1.a4
      have e5 := hbk1.a1
      have e6 := hbk1.a3
      push_cast at e1 e2 e3 e4
      clear hcell hbk hbk1
      have STEP := Lib.hid (fun v mi ri wa v1 v2 m1 m2 r1 r2 w1 w2 => true_step (v := v) (mi := mi) (ri := ri) (wa := wa) HS.out x0 x1 x2 (k := k) (now := now) g1 g2 v1 v2 m1 m2 r1 r2 w1 w2)
      have IT1 := Lib.hid (rfl : itS s wl wh (k + 1) = itS s wl wh (k + 1))
      obtain ⟨lo1, hlo1⟩ : ∃ x, (itS s wl wh (k + 1)).saL = x := ⟨_, rfl⟩
      obtain ⟨hi1, hhi1⟩ : ∃ x, (itS s wl wh (k + 1)).saH = x := ⟨_, rfl⟩
      have q0' : wr.cell? ⟨bb, oo + k * 2, none⟩ = some (.int .i64 lo1) := by rw [← hlo1]; exact q0
      have q1' : wr.cell? ⟨bb, oo + k * 2 + 1, none⟩ = some (.int .i64 hi1) := by rw [← hhi1]; exact q1
      rw [hlo1] at STEP e3 e5
      rw [hhi1] at STEP e4 e6
      have HLO := Lib.hid hlo1
      have HHI := Lib.hid hhi1
      clear q0 q1 hlo1 hhi1
      go_upto_region 13 with (fail)
      obtain ⟨w5, hw5⟩ : ∃ w5, wr.alloc (Obj.cells #[.int .i64 lo1, .int .i64 hi1] 23) = w5 := ⟨_, rfl⟩
      obtain ⟨X, hX⟩ : ∃ X, wr.heap.size = X := ⟨_, rfl⟩
      have b5 : Below w4.heap.size w4 w5 := by rw [← hw5]; exact hb.alloc hb.size _
      have x5 : w5.heap[X]? = some (.cells #[.int .i64 lo1, .int .i64 hi1] 23 (0, 0)) := by rw [← hw5, ← hX]; exact heap_alloc_new _ _
      rw [hw5, hX]
      clear hw5 hX hb q0' q1'
      have X5 := Lib.hid x5
      have BB5 := Lib.hid b5
      have hz5 := b5.size
      obtain ⟨_, _, _, _, _, _, _, _, _, j0, j1⟩ := CELLS.out w5 b5
      have hl5 : B + 1 < w5.heap.size := by omega
      clear x5 b5
      have AT1 := Lib.hid (fun W (hW : Below w5.heap.size w5 W) => AT.out (4 * (k : Int) + 1) (4 * k + 1) W (by omega) (by omega) (BB5.out.trans (hW.mono hz5)))
      have PK1 := Lib.hid (fun W => PK.out wl wh (4 * k + 1) W x0 x1 x2)
      have hv := PI wl wh (4 * k + 1) x1
      obtain ⟨v, hve⟩ : ∃ v, pickI wl wh (atI by_ (4 * k + 1)) = v := ⟨_, rfl⟩
      rw [hve] at PK1 hv
      generalize atI by_ (4 * k + 1) = y1 at *
      clear hve
      refine wp_region_calm (by kernel_rfl) (by kernel_rfl) ?_
      repeat (go_big_quiet_step ((first | (go_at_call 36; exact calm_of (AT1.out _ (wx_below _ _))) | (go_at_call 35; exact calm_of (PK1.out _)))))
      refine wpQuiet_nil ?_; rintro _ ⟨dx, rfl⟩
      obtain ⟨wy, hwy⟩ : ∃ wy, wx _ dx = wy := ⟨_, rfl⟩; have hby := wx_below _ dx; rw [hwy] at hby ⊢
      go_upto_region 14 with (fail)
      have hzy := hby.size
      have X6 := Lib.hid (row_keep X5.out hby)
      have BB6 := Lib.hid (BB5.out.trans (hby.mono hz5))
      clear hwy X5 BB5 AT1 PK1 j0 j1 hl5
      have hz6 := BB6.out.size
      obtain ⟨_, _, j3, j4, j5, j6, j7, j8, j9, _, _⟩ := CELLS.out wy BB6.out
      have hl6 : B < wy.heap.size := by omega
      obtain ⟨i2, hi2⟩ : ∃ i : Int, 4 * (k : Int) + 2 = i := ⟨_, rfl⟩
      obtain ⟨i3, hi3⟩ : ∃ i : Int, 4 * (k : Int) + 3 = i := ⟨_, rfl⟩
      obtain ⟨i4, hi4⟩ : ∃ i : Int, 4 * (k : Int) + 4 = i := ⟨_, rfl⟩
      have AT2 := Lib.hid (fun W (hW : Below wy.heap.size wy W) => AT.out i2 (4 * k + 2) W (by omega) (by omega) (BB6.out.trans (hW.mono hz6)))
      have AT3 := Lib.hid (fun W (hW : Below wy.heap.size wy W) => AT.out i3 (4 * k + 3) W (by omega) (by omega) (BB6.out.trans (hW.mono hz6)))
      have AT4 := Lib.hid (fun W (hW : Below wy.heap.size wy W) => AT.out i4 (4 * k + 4) W (by omega) (by omega) (BB6.out.trans (hW.mono hz6)))
      have PK2 := Lib.hid (fun W => PK.out s.miL s.miH (4 * k + 2) W m1 o2 (by omega))
      have PK3 := Lib.hid (fun W => PK.out s.riL s.riH (4 * k + 3) W r1 o4 (by omega))
      have PK4 := Lib.hid (fun W => PK.out s.waL s.waH (4 * k + 4) W w1' o3 (by omega))
      have hmi := PI s.miL s.miH (4 * k + 2) o2
      have hri := PI s.riL s.riH (4 * k + 3) o4
      have hwa := PI s.waL s.waH (4 * k + 4) o3
      obtain ⟨mi, hmie⟩ : ∃ v, pickI s.miL s.miH (atI by_ (4 * k + 2)) = v := ⟨_, rfl⟩
      obtain ⟨ri, hrie⟩ : ∃ v, pickI s.riL s.riH (atI by_ (4 * k + 3)) = v := ⟨_, rfl⟩
      obtain ⟨wa, hwae⟩ : ∃ v, pickI s.waL s.waH (atI by_ (4 * k + 4)) = v := ⟨_, rfl⟩
      rw [hmie] at PK2 hmi
      rw [hrie] at PK3 hri
      rw [hwae] at PK4 hwa
      generalize atI by_ (4 * k + 2) = y2 at *
      generalize atI by_ (4 * k + 3) = y3 at *
      generalize atI by_ (4 * k + 4) = y4 at *
      clear hmie hrie hwae
      have st := STEP.out v mi ri wa hv.1 hv.2 hmi.1 hmi.2 hri.1 hri.2 hwa.1 hwa.2
      unfold nowI at st
      have pm := mul_le_of (x := v) (m := mi) (X := 1000000000) (M := 100000) (by omega) (by omega) (by omega) (by omega)
      simp only [Int.reduceMul] at pm
      have pw1 : IntKind.i64.wrap (v * mi) = v * mi := IntWalk.i64_in _ (by omega)
      have pn := mul_le_of (x := wa) (m := max 0 (v - s.crop)) (X := 100000) (M := 1000000000) (by omega) (by omega) (by omega) (by omega)
      simp only [Int.reduceMul] at pn
      have pw2 : IntKind.i64.wrap (wa * max 0 (v - s.crop)) = wa * max 0 (v - s.crop) := IntWalk.i64_in _ (by omega)
      have ST := Lib.hid st
      clear st STEP
      refine wp_region_calm (by kernel_rfl) (by kernel_rfl) ?_
      repeat (go_big_quiet_step ((first | (go_at_call 36; first | with_reducible exact calm_of (AT2.out _ (wx_below _ _)) | with_reducible exact calm_of (AT3.out _ (wx_below _ _)) | with_reducible exact calm_of (AT4.out _ (wx_below _ _))) | (go_at_call 35; first | with_reducible exact calm_of (PK2.out _) | with_reducible exact calm_of (PK3.out _) | with_reducible exact calm_of (PK4.out _)))))
      refine wpQuiet_nil ?_; rintro _ ⟨dx, rfl⟩
      obtain ⟨wy, hwy⟩ : ∃ wy, wx _ dx = wy := ⟨_, rfl⟩; have hby := wx_below _ dx; rw [hwy] at hby ⊢
      go_upto_region 15 with (fail)
      obtain ⟨d, hd⟩ : ∃ d, now + (v * mi + 1000 * ri - wa * max 0 (v - s.crop)) = d := ⟨_, rfl⟩
      have st := ST.out
      rw [hd] at st ⊢
      have hd1 : -1000000000000000 ≤ d ∧ d ≤ 1000000000000000000 := by omega
      have X7 := Lib.hid (row_keep X6.out hby)
      have BB7 := Lib.hid (BB6.out.trans (hby.mono hz6))
      clear hwy hby X6 BB6 AT2 AT3 AT4 PK2 PK3 PK4 j3 j4 j5 j6 j7 j8 j9 hl6 hd ST pw1 pw2
      have x0' := cell_of_row wy X 0 _ _ _ X7.out
      have x1' := cell_of_row wy X 1 _ _ _ X7.out
      simp only [List.getElem?_toArray, List.getElem?_cons_zero, List.getElem?_cons_succ] at x0' x1'
      have hX7 : X < wy.heap.size := (Array.getElem?_eq_some_iff.1 X7.out).1
      by_cases hp : 0 < d
      · rw [show max 0 d = d by omega] at st
        have s1 := st.1
        have s2 := st.2
        have HST := Lib.hid st
        have HLH := Lib.hid (⟨HLO.out, HHI.out⟩ : _ ∧ _)
        clear st
        go_wp2
        go_roundw
        case rel =>
          refine ⟨k + 1, d, by omega, by go_num, by go_num, ?_, ?_, BB7.out⟩
          · rw [HLH.out.1]; exact HST.out.1
          · rw [HLH.out.2]; exact HST.out.2
        case measure => simp [intOf]; omega
      · rw [show max 0 d = 0 by omega] at st
        have s1 := st.1
        have s2 := st.2
        have HST := Lib.hid st
        have HLH := Lib.hid (⟨HLO.out, HHI.out⟩ : _ ∧ _)
        clear st
        go_wp2
        go_roundw
        case rel =>
          refine ⟨k + 1, 0, by omega, by go_num, by go_num, ?_, ?_, BB7.out⟩
          · rw [HLH.out.1]; exact HST.out.1
          · rw [HLH.out.2]; exact HST.out.2
        case measure => simp [intOf]; omega
    · obtain rfl : k = N := by omega
      have HBB := Lib.hid hb
      clear hb
      go_wp2
      go_ret
      exact ⟨rfl, below_keep B4.out B4.out.size HBB.out⟩
end Go.Proofs.Ytjkefoijhphknaa
