/- SaltNeed returns true for any soil and number. No condition. -/
import Derived.Test.YtjkefoijhphknaaSaFine
set_option linter.unusedSimpArgs false
set_option linter.unusedVariables false
namespace Go.Proofs.Ytjkefoijhphknaa
open Go.RowKit Go.IntWalk
attribute [local go_sem] wx_cell wx_frozen

set_option maxRecDepth 100000 in
set_option maxHeartbeats 8000000 in
theorem lawNeed_any (s : So) (n : Int) (w : World) (n0 : 0 ≤ n) (n1 : n ≤ 4294967295) :
    Calls Try.prog 7 #[.agg #[.int .i64 s.saL, .int .i64 s.saH, .int .i64 s.lim, .int .i64 s.crop, .int .i64 s.miL, .int .i64 s.miH, .int .i64 s.waL, .int .i64 s.waH, .int .i64 s.riL, .int .i64 s.riH], .int .u32 n] w fun e w' => e = .returned (.bool true) ∧ Below w.heap.size w w' := by
  have AL := Lib.hid alive_any
  have CR := Lib.hid (fun W => rsCheck_any s W)
  have CN := Lib.hid (fun W => Need_any s W)
  have FI := Lib.hid (fun B x W => fine_any s B x W)
  go_enter Try.func7, Try.ntmps7
  go_upto_region 1 with (fail)
  obtain ⟨B, hB⟩ : ∃ B, w.heap.size = B := ⟨_, rfl⟩
  obtain ⟨w0, hw0⟩ : ∃ w0, w.alloc (Obj.cells (soA s) 25) = w0 := ⟨_, rfl⟩
  have r0 : w0.heap[B]? = some (.cells (soA s) 25 (0, 0)) := by rw [← hw0, ← hB]; exact heap_alloc_new _ _
  have b0 : Below w.heap.size w w0 := by rw [← hw0]; (repeat' (first | (with_reducible exact Below.refl _ _) | (with_reducible refine Below.alloc ?_ ?_ _) | (with_reducible refine Below.drew ?_) | (with_reducible refine Below.drewN_ ?_ _) | (with_reducible refine Below.setCell ?_ ?_ _) | (with_reducible refine Below.setRow ?_ ?_ _) | (with_reducible refine Below.via ?_ (by with_reducible assumption) ?_) | go_size))
  unfold soA at hw0
  rw [hw0, hB]
  clear hw0 hB
  go_upto_region 4 with (go_at_call 33; refine (AL.out _).mono ?_; rintro e w1 ⟨rfl, hb1⟩)
  have R1 := Lib.hid (row_keep r0 hb1)
  have B1 := Lib.hid (below_keep b0 b0.size hb1)
  clear hb1 r0 b0
  cases h : soOk s
  · simp only [h] at CR
    go_upto_region 6 with (first | (go_at_call 17; refine (CR.out _).mono ?_; rintro e w2 ⟨rfl, hb2⟩) | (refine wpList_load_row rfl 25 (.tmp 2) rfl B rfl 25 (soA s) (0, 0) _ R1.out Try.underlying25 rfl (infoSoil s) ?_))
    go_ret
    exact ⟨rfl, below_keep B1.out B1.out.size hb2⟩
  · simp only [h, if_true] at CR
    have hS := SoB.of_ok h
    have hNI := Lib.hid (need_is s hS.c2)
    have hcr0 := hS.c1
    have hcr1 := hS.c2
    have hl := hS.l1
    go_upto_region 7 with (first | (go_at_call 17; refine (CR.out _).mono ?_; rintro e w2 ⟨rfl, hb2⟩) | (refine wpList_load_row rfl 25 (.tmp 2) rfl B rfl 25 (soA s) (0, 0) _ R1.out Try.underlying25 rfl (infoSoil s) ?_))
    have R2 := Lib.hid (row_keep R1.out hb2)
    have B2 := Lib.hid (below_keep B1.out B1.out.size hb2)
    clear hb2 R1 B1
    have ht : Int.tmod n (1000000000 - s.crop + 1) = n % (1000000000 - s.crop + 1) := Int.tmod_eq_emod_of_nonneg n0
    have w1 : IntKind.i64.wrap (1000000000 - s.crop + 1) = 1000000000 - s.crop + 1 := IntWalk.i64_in _ (by omega)
    have hnz : ¬ 1000000000 - s.crop + 1 = 0 := by omega
    have hr0 := Int.emod_nonneg n hnz
    have hr1 := Int.emod_lt_of_pos n (show 0 < 1000000000 - s.crop + 1 by omega)
    generalize n % (1000000000 - s.crop + 1) = r at *
    cases hn : needI s with
    | none =>
      rw [hn] at hNI
      have hN := hNI.out
      unfold NeedIs at hN
      simp only [saNeed_none h hn] at CN
      go_upto_region 8 with (first | (go_at_call 14; refine (CN.out _).mono ?_; rintro e w3 ⟨rfl, hb3⟩) | (refine wpList_load_row rfl 25 (.tmp 2) rfl B rfl 25 (soA s) (0, 0) _ R2.out Try.underlying25 rfl (infoSoil s) ?_))
      have r3 := row_keep R2.out hb3
      have k3 : w3.cell? ⟨B, 3, none⟩ = some (.int .i64 s.crop) := cell_of_row w3 B 3 _ _ _ r3
      have hB3 : B < w3.heap.size := (Array.getElem?_eq_some_iff.1 r3).1
      have R3 := Lib.hid r3
      have B3 := Lib.hid (below_keep B2.out B2.out.size hb3)
      clear hb3 r3 R2 B2
      go_quiet (fail)
      obtain ⟨w4, hw4⟩ : ∃ w4, w3.drewN nq = w4 := ⟨_, rfl⟩
      have hb4 : Below w3.heap.size w3 w4 := by rw [← hw4]; (repeat' (first | (with_reducible exact Below.refl _ _) | (with_reducible refine Below.alloc ?_ ?_ _) | (with_reducible refine Below.drew ?_) | (with_reducible refine Below.drewN_ ?_ _) | (with_reducible refine Below.setCell ?_ ?_ _) | (with_reducible refine Below.setRow ?_ ?_ _) | (with_reducible refine Below.via ?_ (by with_reducible assumption) ?_) | go_size))
      rw [hw4]
      clear hw4
      have r4 := row_keep R3.out hb4
      have k4 : w4.cell? ⟨B, 3, none⟩ = some (.int .i64 s.crop) := cell_of_row w4 B 3 _ _ _ r4
      have B4 := Lib.hid (below_keep B3.out B3.out.size hb4)
      have FJ := Lib.hid (fun x W (hW : Below w4.heap.size w4 W) (h0 : 0 ≤ x) (h1 : x ≤ 1000000000) => fine_any s B x W (row_keep r4 hW) h h0 h1)
      have KC := Lib.hid (fun W (hW : Below w4.heap.size w4 W) => (hW.cell (p := ⟨B, 3, none⟩) (by have := (Array.getElem?_eq_some_iff.1 r4).1; exact this)).trans k4)
      have FF : Hid (∀ x W, Below w4.heap.size w4 W → s.crop ≤ x → x ≤ 1000000000 → Calls Try.prog 37 #[.int .i64 x, .pointer (some ⟨B, 0, none⟩)] W fun e w' => e = .returned (.bool false) ∧ Below W.heap.size W w') := Lib.hid (fun x W hW h0 h1 => by
        have h2 := FJ.out x W hW (by omega) h1
        have h3 : decide ((cyc s x x).saH ≤ s.lim) = false := by
          rw [decide_eq_false_iff_not, fine_iff s hl x]
          have := hN x h0 h1
          omega
        rw [h3] at h2
        exact h2)
      clear FJ FI hN hNI hn k3 R3 B3 hB3 hb4 CR CN AL r4
      have t1 : Hid True := Lib.hid trivial
      have t2 : Hid True := Lib.hid trivial
      have t3 : Hid True := Lib.hid trivial
      go_wp2_with (go_at_call 37; first
        | (have _t := t1; clear t1 _t; refine (FF.out _ _ (Below.refl _ _) (by omega) (by omega)).mono ?_; rintro e wa ⟨rfl, hba⟩; have ka := KC.out wa hba)
        | (have _t := t2; clear t2 _t; refine (FF.out _ _ hba (by omega) (by omega)).mono ?_; rintro e wb ⟨rfl, hbb⟩; have K2 := below_keep hba hba.size hbb)
        | (have _t := t3; clear t3 _t; refine (FF.out _ _ K2 (by omega) (by omega)).mono ?_; rintro e wc ⟨rfl, hbc⟩; have K3 := below_keep K2 K2.size hbc))
      go_ret
      exact ⟨rfl, below_keep B4.out B4.out.size K3⟩
    | some u =>
      rw [hn] at hNI
      have hN := hNI.out
      obtain ⟨u0, u1, u2, u3⟩ := hN
      simp only [saNeed_some h hn] at CN
      go_upto_region 8 with (first | (go_at_call 14; refine (CN.out _).mono ?_; rintro e w3 ⟨rfl, hb3⟩) | (refine wpList_load_row rfl 25 (.tmp 2) rfl B rfl 25 (soA s) (0, 0) _ R2.out Try.underlying25 rfl (infoSoil s) ?_))
      have r3 := row_keep R2.out hb3
      have k3 : w3.cell? ⟨B, 3, none⟩ = some (.int .i64 s.crop) := cell_of_row w3 B 3 _ _ _ r3
      have hB3 : B < w3.heap.size := (Array.getElem?_eq_some_iff.1 r3).1
      have R3 := Lib.hid r3
      have B3 := Lib.hid (below_keep B2.out B2.out.size hb3)
      clear hb3 r3 R2 B2
      go_quiet (fail)
      obtain ⟨w4, hw4⟩ : ∃ w4, w3.drewN nq = w4 := ⟨_, rfl⟩
      have hb4 : Below w3.heap.size w3 w4 := by rw [← hw4]; (repeat' (first | (with_reducible exact Below.refl _ _) | (with_reducible refine Below.alloc ?_ ?_ _) | (with_reducible refine Below.drew ?_) | (with_reducible refine Below.drewN_ ?_ _) | (with_reducible refine Below.setCell ?_ ?_ _) | (with_reducible refine Below.setRow ?_ ?_ _) | (with_reducible refine Below.via ?_ (by with_reducible assumption) ?_) | go_size))
      rw [hw4]
      clear hw4
      have r4 := row_keep R3.out hb4
      have k4 : w4.cell? ⟨B, 3, none⟩ = some (.int .i64 s.crop) := cell_of_row w4 B 3 _ _ _ r4
      have B4 := Lib.hid (below_keep B3.out B3.out.size hb4)
      have FJ := Lib.hid (fun x W (hW : Below w4.heap.size w4 W) (h0 : 0 ≤ x) (h1 : x ≤ 1000000000) => fine_any s B x W (row_keep r4 hW) h h0 h1)
      have KC := Lib.hid (fun W (hW : Below w4.heap.size w4 W) => (hW.cell (p := ⟨B, 3, none⟩) (by have := (Array.getElem?_eq_some_iff.1 r4).1; exact this)).trans k4)
      have FF : Hid (∀ x W, Below w4.heap.size w4 W → s.crop ≤ x → x < u → Calls Try.prog 37 #[.int .i64 x, .pointer (some ⟨B, 0, none⟩)] W fun e w' => e = .returned (.bool false) ∧ Below W.heap.size W w') := Lib.hid (fun x W hW h0 h1 => by
        have h2 := FJ.out x W hW (by omega) (by omega)
        have h3 : decide ((cyc s x x).saH ≤ s.lim) = false := by
          rw [decide_eq_false_iff_not, fine_iff s hl x]
          have := u3 x h0 h1
          omega
        rw [h3] at h2
        exact h2)
      have FT : Hid (Calls Try.prog 37 #[.int .i64 u, .pointer (some ⟨B, 0, none⟩)] w4 fun e w' => e = .returned (.bool true) ∧ Below w4.heap.size w4 w') := Lib.hid (by
        have h2 := FJ.out u w4 (Below.refl _ _) (by omega) u1
        rw [show decide ((cyc s u u).saH ≤ s.lim) = true by rw [decide_eq_true_eq, fine_iff s hl u]; exact u2] at h2
        exact h2)
      clear FJ FI u2 u3 hNI hn k3 R3 B3 hB3 hb4 CR CN AL r4
      by_cases hgt : u > s.crop
      · have t1 : Hid True := Lib.hid trivial
        go_upto_region 13 with (go_at_call 37; first
          | (have _t := t1; clear t1 _t; refine FT.out.mono ?_; rintro e wa ⟨rfl, hba⟩; have ka := KC.out wa hba)
          | (refine (FF.out _ _ hba (by omega) (by omega)).mono ?_; rintro e wb ⟨rfl, hbb⟩; have K2 := below_keep hba hba.size hbb))
        by_cases hge : s.crop + r ≥ u
        · go_wp2
          go_ret
          exact ⟨rfl, below_keep B4.out B4.out.size K2⟩
        · go_wp2_with (go_at_call 37; refine (FF.out _ _ K2 (by omega) (by omega)).mono ?_; rintro e wc ⟨rfl, hbc⟩; have K3 := below_keep K2 K2.size hbc)
          go_ret
          exact ⟨rfl, below_keep B4.out B4.out.size K3⟩
      · go_upto_region 13 with (go_at_call 37; refine FT.out.mono ?_; rintro e wa ⟨rfl, hba⟩; have ka := KC.out wa hba)
        have hge : s.crop + r ≥ u := by omega
        go_wp2
        go_ret
        exact ⟨rfl, below_keep B4.out B4.out.size hba⟩
end Go.Proofs.Ytjkefoijhphknaa
