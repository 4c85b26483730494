/- SaltMore returns true for any soil, water and numbers. No condition. -/
import Derived.Test.YtjkefoijhphknaaSaMoreA
set_option linter.unusedSimpArgs false
set_option linter.unusedVariables false
namespace Go.Proofs.Ytjkefoijhphknaa
open Go.RowKit Go.IntWalk
attribute [local go_sem] wx_cell wx_frozen

theorem infoSoilZ : (Try.prog.info? 25).map (·.size) = some soZ.size := by kernel_rfl

set_option maxRecDepth 100000 in
set_option maxHeartbeats 16000000 in
theorem lawMore_any (s : So) (wl wh : Int) (by_ : List U32) (c : Nat) (A : Option Addr) (w : World) (r : Rd w w.heap.size A uV 1 by_) (hl : by_.length ≤ 9223372036854775807) :
    Calls Try.prog 8 #[.agg #[.int .i64 s.saL, .int .i64 s.saH, .int .i64 s.lim, .int .i64 s.crop, .int .i64 s.miL, .int .i64 s.miH, .int .i64 s.waL, .int .i64 s.waH, .int .i64 s.riL, .int .i64 s.riH], .agg #[.int .i64 wl, .int .i64 wh], .slice A by_.length c] w fun e w' => e = .returned (.bool true) ∧ Below w.heap.size w w' := by
  have AL := Lib.hid alive_any
  have CR := Lib.hid (fun W => rsCheck_any s W)
  have CS := Lib.hid (fun W => spanned_any wl wh 1000000000 W)
  have HR := Lib.hid r
  have HL := Lib.hid hl
  clear r hl
  obtain ⟨m, hm⟩ : ∃ m, by_.length = m := ⟨_, rfl⟩
  rw [hm]
  have HM := Lib.hid hm
  clear hm
  go_enter Try.func8, Try.ntmps8
  go_upto_region 1 with (fail)
  obtain ⟨B, hB⟩ : ∃ B, w.heap.size = B := ⟨_, rfl⟩
  obtain ⟨w0, hw0⟩ : ∃ w0, (w.alloc (Obj.cells (soA s) 25)).alloc (Obj.cells #[.int .i64 wl, .int .i64 wh] 23) = w0 := ⟨_, rfl⟩
  have r0 : w0.heap[B]? = some (.cells (soA s) 25 (0, 0)) := by rw [← hw0, ← hB]; exact (Below.heap_alloc _ _ _ (by simp)).trans (heap_alloc_new _ _)
  have s0 : w0.heap[B + 1]? = some (.cells #[.int .i64 wl, .int .i64 wh] 23 (0, 0)) := by rw [← hw0, ← hB]; exact heap_alloc2_new _ _ _
  have b0 : Below w.heap.size w w0 := by rw [← hw0]; (repeat' (first | (with_reducible exact Below.refl _ _) | (with_reducible refine Below.alloc ?_ ?_ _) | (with_reducible refine Below.drew ?_) | (with_reducible refine Below.drewN_ ?_ _) | (with_reducible refine Below.setCell ?_ ?_ _) | (with_reducible refine Below.setRow ?_ ?_ _) | (with_reducible refine Below.via ?_ (by with_reducible assumption) ?_) | go_size))
  have BW := Lib.hid hB
  unfold soA at hw0
  rw [hw0, hB]
  clear hw0 hB
  go_upto_region 4 with (go_at_call 33; refine (AL.out _).mono ?_; rintro e w1 ⟨rfl, hb1⟩)
  have R1 := Lib.hid (row_keep r0 hb1)
  have S1' := Lib.hid (row_keep s0 hb1)
  have B1 := Lib.hid (below_keep b0 b0.size hb1)
  clear hb1 r0 b0 s0 AL
  cases h : soOk s
  · simp only [h] at CR
    go_upto_region 6 with (first | (go_at_call 17; refine (CR.out _).mono ?_; rintro e w2 ⟨rfl, hb2⟩) | (refine wpList_load_row rfl 25 (.tmp 3) rfl B rfl 25 (soA s) (0, 0) _ R1.out Try.underlying25 rfl (infoSoil s) ?_))
    go_ret
    exact ⟨rfl, below_keep B1.out B1.out.size hb2⟩
  simp only [h, if_true] at CR
  cases h2 : so1 wl wh 1000000000
  · rw [h2] at CS
    go_upto_region 6 with (first | (go_at_call 17; refine (CR.out _).mono ?_; rintro e w2 ⟨rfl, hb2⟩; have v0 : w2.cell? ⟨B + 1, 0, none⟩ = some (.int .i64 wl) := cell_of_row w2 (B + 1) 0 _ _ _ (row_keep S1'.out hb2); have v1 : w2.cell? ⟨B + 1, 1, none⟩ = some (.int .i64 wh) := cell_of_row w2 (B + 1) 1 _ _ _ (row_keep S1'.out hb2)) | (go_at_call 34; refine (CS.out _).mono ?_; rintro e w3 ⟨rfl, hb3⟩) | (refine wpList_load_row rfl 25 (.tmp 3) rfl B rfl 25 (soA s) (0, 0) _ R1.out Try.underlying25 rfl (infoSoil s) ?_))
    go_ret
    exact ⟨rfl, below_keep (below_keep B1.out B1.out.size hb2) (below_keep B1.out B1.out.size hb2).size hb3⟩
  rw [h2] at CS
  go_upto_region 7 with (first | (go_at_call 17; refine (CR.out _).mono ?_; rintro e w2 ⟨rfl, hb2⟩; have v0 : w2.cell? ⟨B + 1, 0, none⟩ = some (.int .i64 wl) := cell_of_row w2 (B + 1) 0 _ _ _ (row_keep S1'.out hb2); have v1 : w2.cell? ⟨B + 1, 1, none⟩ = some (.int .i64 wh) := cell_of_row w2 (B + 1) 1 _ _ _ (row_keep S1'.out hb2)) | (go_at_call 34; refine (CS.out _).mono ?_; rintro e w3 ⟨rfl, hb3⟩) | (refine wpList_load_row rfl 25 (.tmp 3) rfl B rfl 25 (soA s) (0, 0) _ R1.out Try.underlying25 rfl (infoSoil s) ?_))
  have R3 := Lib.hid (row_keep (row_keep R1.out hb2) hb3)
  have S3' := Lib.hid (row_keep (row_keep S1'.out hb2) hb3)
  have B3 := Lib.hid (below_keep (below_keep B1.out B1.out.size hb2) (below_keep B1.out B1.out.size hb2).size hb3)
  have hz3 : w.heap.size ≤ w3.heap.size := B3.out.size
  have hB3 : B + 1 < w3.heap.size := lt_row S3'.out
  clear hb2 hb3 v0 v1 R1 S1' B1 CR CS
  refine (wpIn_wide (n := 3)).1 ?_
  refine wpIn_region_planYA (X := Nat × Nat × Nat) (by kernel_rfl) 9 (by decide +kernel) (by decide +kernel) (by omega)
    (fun x i => if i = 3 then .pointer (some ⟨x.1, 0, none⟩) else if i = 4 then .pointer (some ⟨x.2.1, 0, none⟩) else if i = 5 then .pointer (some ⟨x.2.2, 0, none⟩) else (#[.agg (soA s), .agg (soA s), .agg (soA s)] : Array Value).getD i undef)
    (fun L x W => S3 s w3 (L 3) (L 4) (L 5) (L 6) (L 7) (L 8) x.1 x.2.1 x.2.2 W) _ _ (0, 0, 0) ?aF ?hA ?hS ?hstep ?htail
  case hA => intro x; simp [putTo, putIf, dstAt, Act.put, List.range_succ]; rfl
  case hS => exact fun L hL => by simp only [hL]; exact ⟨(Below.refl _ _).drew, (fun h => by cases h), (fun h => by cases h), (fun h => by cases h), (fun h => by cases h), (fun h => by cases h), (fun h => by cases h)⟩
  case hstep =>
    intro i o' hi' ho L x W hL hcl hdep hW
    obtain ⟨x1, x2, x3⟩ := x
    have H2 := Lib.hid hW
    have hld := run_loadVar_row (P := Try.prog) W B 25 25 (soA s) (0, 0) _ (row_keep R3.out hW.b) Try.underlying25 rfl (infoSoil s)
    clear hW
    refine ⟨fun _ _ => trivial, ?_⟩
    match i, hi', ho with
    | 0, _, ho => simp only [List.getElem?_toArray, List.getElem?_cons_succ, List.getElem?_cons_zero, Option.some.injEq] at ho; subst ho; simp only [execOp, Act.eval, List.getElem?_toArray, Array.getD_eq_getD_getElem?, List.getElem?_cons_succ, List.getElem?_cons_zero, Option.getD_some, Instr.loadAt, Instr.sureAddr, Sem.run_bind, Sem.run_pure, Result.andThen_ok, hld]; exact ⟨(x1, x2, x3), fun _ _ => rfl, rfl, by simpa using H2.out⟩
    | 1, _, ho => simp only [List.getElem?_toArray, List.getElem?_cons_succ, List.getElem?_cons_zero, Option.some.injEq] at ho; subst ho; simp only [execOp, Act.eval, List.getElem?_toArray, Array.getD_eq_getD_getElem?, List.getElem?_cons_succ, List.getElem?_cons_zero, Option.getD_some, Instr.loadAt, Instr.sureAddr, Sem.run_bind, Sem.run_pure, Result.andThen_ok, hld]; exact ⟨(x1, x2, x3), fun _ _ => rfl, rfl, by simpa using H2.out⟩
    | 2, _, ho => simp only [List.getElem?_toArray, List.getElem?_cons_succ, List.getElem?_cons_zero, Option.some.injEq] at ho; subst ho; simp only [execOp, Act.eval, List.getElem?_toArray, Array.getD_eq_getD_getElem?, List.getElem?_cons_succ, List.getElem?_cons_zero, Option.getD_some, Instr.loadAt, Instr.sureAddr, Sem.run_bind, Sem.run_pure, Result.andThen_ok, hld]; exact ⟨(x1, x2, x3), fun _ _ => rfl, rfl, by simpa using H2.out⟩
    | 3, _, ho =>
      simp only [List.getElem?_toArray, List.getElem?_cons_succ, List.getElem?_cons_zero, Option.some.injEq] at ho; subst ho
      have h6 : L 6 = false := by
        cases e : L 6
        · rfl
        · have h0 := hcl 6 _ e rfl { on := 3, ground := Ground.data } (by simp) rfl
          rw [hL] at h0
          cases h0
      have hS := Lib.hid (H2.out.alloc1 h6)
      go_simp
      refine ⟨(W.heap.size, x2, x3), fun j hj => ?_, rfl, by simpa [soZ] using hS.out⟩
      have hne : j ≠ 3 := fun e => by rw [e, hL] at hj; cases hj
      dsimp only
      repeat' split
      all_goals first | rfl | omega
    | 4, _, ho =>
      simp only [List.getElem?_toArray, List.getElem?_cons_succ, List.getElem?_cons_zero, Option.some.injEq] at ho; subst ho
      have h6 : L 7 = false := by
        cases e : L 7
        · rfl
        · have h0 := hcl 7 _ e rfl { on := 4, ground := Ground.data } (by simp) rfl
          rw [hL] at h0
          cases h0
      have hS := Lib.hid (H2.out.alloc2 h6)
      go_simp
      refine ⟨(x1, W.heap.size, x3), fun j hj => ?_, rfl, by simpa [soZ] using hS.out⟩
      have hne : j ≠ 4 := fun e => by rw [e, hL] at hj; cases hj
      dsimp only
      repeat' split
      all_goals first | rfl | omega
    | 5, _, ho =>
      simp only [List.getElem?_toArray, List.getElem?_cons_succ, List.getElem?_cons_zero, Option.some.injEq] at ho; subst ho
      have h6 : L 8 = false := by
        cases e : L 8
        · rfl
        · have h0 := hcl 8 _ e rfl { on := 5, ground := Ground.data } (by simp) rfl
          rw [hL] at h0
          cases h0
      have hS := Lib.hid (H2.out.alloc3 h6)
      go_simp
      refine ⟨(x1, x2, W.heap.size), fun j hj => ?_, rfl, by simpa [soZ] using hS.out⟩
      have hne : j ≠ 5 := fun e => by rw [e, hL] at hj; cases hj
      dsimp only
      repeat' split
      all_goals first | rfl | omega
    | 6, _, ho =>
      simp only [List.getElem?_toArray, List.getElem?_cons_succ, List.getElem?_cons_zero, Option.some.injEq] at ho; subst ho
      have h3 : L 3 = true := hdep { on := 3, ground := Ground.data } (by simp) rfl
      have h6 : L 6 = false := hL
      have hrow := (H2.out.r1 h3).2
      rw [h6, show ∀ x y, ifS false x y = y from fun _ _ => rfl] at hrow
      have hss := run_storeVar_row (P := Try.prog) W x1 25 25 _ (soA s) hrow (infoSoil s) (by simp [soA, soZ]) (soA_one s)
      have hS := Lib.hid (H2.out.store1 h3)
      simp only [execOp, Act.eval, List.getElem?_toArray, Array.getD_eq_getD_getElem?, List.getElem?_cons_succ, List.getElem?_cons_zero, Option.getD_some, Instr.storeAt, Instr.sureAddr, Sem.run_bind, Sem.run_pure, Result.andThen_ok, hss]; exact ⟨(x1, x2, x3), fun _ _ => rfl, rfl, by simpa using hS.out⟩
    | 7, _, ho =>
      simp only [List.getElem?_toArray, List.getElem?_cons_succ, List.getElem?_cons_zero, Option.some.injEq] at ho; subst ho
      have h3 : L 4 = true := hdep { on := 4, ground := Ground.data } (by simp) rfl
      have h6 : L 7 = false := hL
      have hrow := (H2.out.r2 h3).2
      rw [h6, show ∀ x y, ifS false x y = y from fun _ _ => rfl] at hrow
      have hss := run_storeVar_row (P := Try.prog) W x2 25 25 _ (soA s) hrow (infoSoil s) (by simp [soA, soZ]) (soA_one s)
      have hS := Lib.hid (H2.out.store2 h3)
      simp only [execOp, Act.eval, List.getElem?_toArray, Array.getD_eq_getD_getElem?, List.getElem?_cons_succ, List.getElem?_cons_zero, Option.getD_some, Instr.storeAt, Instr.sureAddr, Sem.run_bind, Sem.run_pure, Result.andThen_ok, hss]; exact ⟨(x1, x2, x3), fun _ _ => rfl, rfl, by simpa using hS.out⟩
    | 8, _, ho =>
      simp only [List.getElem?_toArray, List.getElem?_cons_succ, List.getElem?_cons_zero, Option.some.injEq] at ho; subst ho
      have h3 : L 5 = true := hdep { on := 5, ground := Ground.data } (by simp) rfl
      have h6 : L 8 = false := hL
      have hrow := (H2.out.r3 h3).2
      rw [h6, show ∀ x y, ifS false x y = y from fun _ _ => rfl] at hrow
      have hss := run_storeVar_row (P := Try.prog) W x3 25 25 _ (soA s) hrow (infoSoil s) (by simp [soA, soZ]) (soA_one s)
      have hS := Lib.hid (H2.out.store3 h3)
      simp only [execOp, Act.eval, List.getElem?_toArray, Array.getD_eq_getD_getElem?, List.getElem?_cons_succ, List.getElem?_cons_zero, Option.getD_some, Instr.storeAt, Instr.sureAddr, Sem.run_bind, Sem.run_pure, Result.andThen_ok, hss]; exact ⟨(x1, x2, x3), fun _ _ => rfl, rfl, by simpa using hS.out⟩
    | k + 9, hk, _ => omega
  case htail =>
    intro L x W7 hL hW
    obtain ⟨X1, X2, X3⟩ := x
    rw [hL 3 (by omega), hL 4 (by omega), hL 5 (by omega), hL 6 (by omega), hL 7 (by omega), hL 8 (by omega)] at hW
    have q1 := hW.r1 rfl
    have q2 := hW.r2 rfl
    have q3 := hW.r3 rfl
    rw [show ∀ x y, ifS true x y = x from fun _ _ => rfl] at q1 q2 q3
    obtain ⟨p1, Q1⟩ := q1
    obtain ⟨p2, Q2⟩ := q2
    obtain ⟨p3, Q3⟩ := q3
    dsimp only at p1 p2 p3 Q1 Q2 Q3
    have n12 : X1 ≠ X2 := hW.n12 rfl rfl
    have n13 : X1 ≠ X3 := hW.n13 rfl rfl
    have n23 : X2 ≠ X3 := hW.n23 rfl rfl
    have RB := Lib.hid (row_keep R3.out hW.b)
    have SB := Lib.hid (row_keep S3'.out hW.b)
    have BB := Lib.hid (below_keep B3.out B3.out.size hW.b)
    have G1 := Lib.hid Q1
    have G2 := Lib.hid Q2
    have G3 := Lib.hid Q3
    have hord : (0 ≤ s.saL ∧ s.saL ≤ s.saH ∧ s.saH ≤ 100000000) ∧ (0 ≤ s.miL ∧ s.miL ≤ s.miH ∧ s.miH ≤ 100000) ∧ (0 ≤ s.waL ∧ s.waL ≤ s.waH ∧ s.waH ≤ 100000) ∧ (0 ≤ s.riL ∧ s.riL ≤ s.riH ∧ s.riH ≤ 100000000) := by
      simp only [soOk, so1, soIn, Bool.and_eq_true, decide_eq_true_eq] at h
      omega
    obtain ⟨⟨o1, o2, o3⟩, ⟨o4, o5, o6⟩, ⟨o7, o8, o9⟩, ⟨o10, o11, o12⟩⟩ := hord
    have AT : Hid (∀ (i : Nat) W, i ≤ 10 → Below w.heap.size w W → Calls Try.prog 36 #[.slice A m c, .int .i64 (i : Int)] W fun e w' => e = .returned (.int .u32 (atI by_ i)) ∧ Below W.heap.size W w') := Lib.hid (fun i W hi hW => by
      have := at_anyM by_ i A c W (rd_keep HR.out hW) HL.out (by omega)
      rw [HM.out] at this
      exact this)
    have AT0 : Hid (∀ W, Below w.heap.size w W → Calls Try.prog 36 #[.slice A m c, .int .i64 0] W fun e w' => e = .returned (.int .u32 (atI by_ 0)) ∧ Below W.heap.size W w') := Lib.hid (fun W hW => AT.out 0 W (by omega) hW)
    have AT1 : Hid (∀ W, Below w.heap.size w W → Calls Try.prog 36 #[.slice A m c, .int .i64 1] W fun e w' => e = .returned (.int .u32 (atI by_ 1)) ∧ Below W.heap.size W w') := Lib.hid (fun W hW => AT.out 1 W (by omega) hW)
    have AT2 : Hid (∀ W, Below w.heap.size w W → Calls Try.prog 36 #[.slice A m c, .int .i64 2] W fun e w' => e = .returned (.int .u32 (atI by_ 2)) ∧ Below W.heap.size W w') := Lib.hid (fun W hW => AT.out 2 W (by omega) hW)
    have AT3 : Hid (∀ W, Below w.heap.size w W → Calls Try.prog 36 #[.slice A m c, .int .i64 3] W fun e w' => e = .returned (.int .u32 (atI by_ 3)) ∧ Below W.heap.size W w') := Lib.hid (fun W hW => AT.out 3 W (by omega) hW)
    have AT4 : Hid (∀ W, Below w.heap.size w W → Calls Try.prog 36 #[.slice A m c, .int .i64 4] W fun e w' => e = .returned (.int .u32 (atI by_ 4)) ∧ Below W.heap.size W w') := Lib.hid (fun W hW => AT.out 4 W (by omega) hW)
    have UB : ∀ i, 0 ≤ atI by_ i ∧ atI by_ i ≤ 4294967295 := fun i => atI_b by_ i
    have UP0 := Lib.hid (fun W => up_any s.saL s.saH 100000000 (atI by_ 0) W o1 o2 o3 (by omega) (UB 0).1 (UB 0).2)
    have UP1 := Lib.hid (fun W => up_any s.riL s.riH 100000000 (atI by_ 1) W o10 o11 o12 (by omega) (UB 1).1 (UB 1).2)
    have UP2 := Lib.hid (fun W => up_any s.waL s.waH 100000 (atI by_ 2) W o7 o8 o9 (by omega) (UB 2).1 (UB 2).2)
    have PK3 := Lib.hid (fun W => pick_any s.saL s.saH (atI by_ 3) W o1 o2 (by omega) (UB 3).1 (UB 3).2)
    have PK4 := Lib.hid (fun W => pick_any s.miL s.miH (atI by_ 4) W o4 o5 (by omega) (UB 4).1 (UB 4).2)
    have f0 := upI_in (n := atI by_ 0) o3
    have f1 := upI_in (n := atI by_ 1) o12
    have f2 := upI_in (n := atI by_ 2) o9
    have f3 := pickI_in (n := atI by_ 3) o2
    have f4 := pickI_in (n := atI by_ 4) o5
    generalize upI s.saH 100000000 (atI by_ 0) = k0 at *
    generalize upI s.riH 100000000 (atI by_ 1) = k1 at *
    generalize upI s.waH 100000 (atI by_ 2) = k2 at *
    generalize pickI s.saL s.saH (atI by_ 3) = p3' at *
    generalize pickI s.miL s.miH (atI by_ 4) = p4' at *
    generalize atI by_ 0 = y0 at *
    generalize atI by_ 1 = y1 at *
    generalize atI by_ 2 = y2 at *
    generalize atI by_ 3 = y3 at *
    generalize atI by_ 4 = y4 at *
    have lX1 := lt_row Q1
    have lX2 := lt_row Q2
    have lX3 := lt_row Q3
    have lB : B + 1 < W7.heap.size := lt_row SB.out
    have e1 : w.heap.size ≤ X1 := by omega
    have e2 : w.heap.size ≤ X2 := by omega
    have e3 : w.heap.size ≤ X3 := by omega
    have hne : B < X1 ∧ B < X2 ∧ B < X3 ∧ B + 1 < X1 ∧ B + 1 < X2 ∧ B + 1 < X3 := by omega
    have zB := BB.out.size
    clear hW Q1 Q2 Q3 R3 S3' B3 hL AT UB HR HL HM p1 p2 p3
    simp only [List.drop_succ_cons, List.drop_nil]
    gi_wp2
    go_upto_region 8 with (fail)
    refine (wpIn_wide (n := 3)).1 ?_
    refine wpIn_region_planYA (X := Unit) (by kernel_rfl) 16 (by decide +kernel) (by decide +kernel) (by omega)
      (fun _ i => (#[.func (.func 39) #[] #[], .pointer (some ⟨B, 0, none⟩), .agg #[.int .i64 (s.saL), .int .i64 (s.saH)], .slice A m c, .int .u32 y0, .agg #[.int .i64 (s.saL + k0), .int .i64 (s.saH + k0)], .func (.func 39) #[] #[], .pointer (some ⟨B, 8, none⟩), .agg #[.int .i64 (s.riL), .int .i64 (s.riH)], .slice A m c, .int .u32 y1, .agg #[.int .i64 (s.riL + k1), .int .i64 (s.riH + k1)], .pointer (some ⟨X1, 0, none⟩), undef, .pointer (some ⟨X1, 8, none⟩), undef] : Array Value).getD i undef)
      (fun L _ W => S1 W7 w.heap.size X1 (soA (sltB s k0 k1 (L 13) (L 15))) W) _ _ () ?aF8 ?hA8 ?hS8 ?hstep8 ?htail8
    case hA8 => intro x; simp [putTo, putIf, dstAt, Act.put, List.range_succ]; rfl
    case hS8 => exact fun L hL => ⟨Nat.le_refl _, fun _ _ _ => rfl, by simp only [hL]; rw [slt_ff]; exact G1.out, (Below.refl _ _).drew⟩
    case hstep8 =>
      intro i o' hi' ho L x W hL hcl hdep hW
      have rB := (hW.k B (by omega) (by omega)).trans RB.out
      have HW := Lib.hid hW
      have hbw := Lib.hid (BB.out.trans hW.b)
      have c0 : W.cell? ⟨B, 0, none⟩ = some (.int .i64 s.saL) := cell_of_row W B 0 _ _ _ rB
      have c1 : W.cell? ⟨B, 1, none⟩ = some (.int .i64 s.saH) := cell_of_row W B 1 _ _ _ rB
      have c8 : W.cell? ⟨B, 8, none⟩ = some (.int .i64 s.riL) := cell_of_row W B 8 _ _ _ rB
      have c9 : W.cell? ⟨B, 9, none⟩ = some (.int .i64 s.riH) := cell_of_row W B 9 _ _ _ rB
      clear hW rB
      refine ⟨fun _ _ => trivial, ?_⟩
      match i, hi', ho with
      | 0, _, ho => simp only [List.getElem?_toArray, List.getElem?_cons_succ, List.getElem?_cons_zero, Option.some.injEq] at ho; subst ho; go_simp; exact ⟨(), fun _ _ => rfl, rfl, by simpa using HW.out⟩
      | 1, _, ho => simp only [List.getElem?_toArray, List.getElem?_cons_succ, List.getElem?_cons_zero, Option.some.injEq] at ho; subst ho; go_simp; exact ⟨(), fun _ _ => rfl, rfl, by simpa using HW.out⟩
      | 2, _, ho => simp only [List.getElem?_toArray, List.getElem?_cons_succ, List.getElem?_cons_zero, Option.some.injEq] at ho; subst ho; go_simp; exact ⟨(), fun _ _ => rfl, rfl, by simpa using HW.out⟩
      | 3, _, ho => simp only [List.getElem?_toArray, List.getElem?_cons_succ, List.getElem?_cons_zero, Option.some.injEq] at ho; subst ho; go_simp; exact ⟨(), fun _ _ => rfl, rfl, by simpa using HW.out⟩
      | 4, _, ho =>
        simp only [List.getElem?_toArray, List.getElem?_cons_succ, List.getElem?_cons_zero, Option.some.injEq] at ho; subst ho
        go_simp
        refine ⟨by simp, callsIn_wide.2 ((AT0.out W hbw.out).mono ?_)⟩
        rintro e w' ⟨rfl, hb⟩
        exact ⟨_, rfl, (), fun _ _ => rfl, rfl, by simpa using HW.out.below (by omega) zB hb⟩
      | 5, _, ho =>
        simp only [List.getElem?_toArray, List.getElem?_cons_succ, List.getElem?_cons_zero, Option.some.injEq] at ho; subst ho
        go_simp
        refine ⟨by simp, callsIn_wide.2 ((UP0.out W).mono ?_)⟩
        rintro e w' ⟨rfl, hb⟩
        exact ⟨_, rfl, (), fun _ _ => rfl, rfl, by simpa using HW.out.below (by omega) zB hb⟩
      | 6, _, ho => simp only [List.getElem?_toArray, List.getElem?_cons_succ, List.getElem?_cons_zero, Option.some.injEq] at ho; subst ho; go_simp; exact ⟨(), fun _ _ => rfl, rfl, by simpa using HW.out⟩
      | 7, _, ho => simp only [List.getElem?_toArray, List.getElem?_cons_succ, List.getElem?_cons_zero, Option.some.injEq] at ho; subst ho; go_simp; exact ⟨(), fun _ _ => rfl, rfl, by simpa using HW.out⟩
      | 8, _, ho => simp only [List.getElem?_toArray, List.getElem?_cons_succ, List.getElem?_cons_zero, Option.some.injEq] at ho; subst ho; go_simp; exact ⟨(), fun _ _ => rfl, rfl, by simpa using HW.out⟩
      | 9, _, ho => simp only [List.getElem?_toArray, List.getElem?_cons_succ, List.getElem?_cons_zero, Option.some.injEq] at ho; subst ho; go_simp; exact ⟨(), fun _ _ => rfl, rfl, by simpa using HW.out⟩
      | 10, _, ho =>
        simp only [List.getElem?_toArray, List.getElem?_cons_succ, List.getElem?_cons_zero, Option.some.injEq] at ho; subst ho
        go_simp
        refine ⟨by simp, callsIn_wide.2 ((AT1.out W hbw.out).mono ?_)⟩
        rintro e w' ⟨rfl, hb⟩
        exact ⟨_, rfl, (), fun _ _ => rfl, rfl, by simpa using HW.out.below (by omega) zB hb⟩
      | 11, _, ho =>
        simp only [List.getElem?_toArray, List.getElem?_cons_succ, List.getElem?_cons_zero, Option.some.injEq] at ho; subst ho
        go_simp
        refine ⟨by simp, callsIn_wide.2 ((UP1.out W).mono ?_)⟩
        rintro e w' ⟨rfl, hb⟩
        exact ⟨_, rfl, (), fun _ _ => rfl, rfl, by simpa using HW.out.below (by omega) zB hb⟩
      | 12, _, ho => simp only [List.getElem?_toArray, List.getElem?_cons_succ, List.getElem?_cons_zero, Option.some.injEq] at ho; subst ho; go_simp; exact ⟨(), fun _ _ => rfl, rfl, by simpa using HW.out⟩
      | 13, _, ho =>
        simp only [List.getElem?_toArray, List.getElem?_cons_succ, List.getElem?_cons_zero, Option.some.injEq] at ho; subst ho
        have hr := HW.out.r
        simp only [hL] at hr
        have z0 := cell_of_row W X1 0 _ _ _ hr
        have u0 := frozen_of_row W X1 0 _ _ hr
        have z1 := cell_of_row W X1 1 _ _ _ hr
        have u1 := frozen_of_row W X1 1 _ _ hr
        simp only [soA, List.getElem?_toArray, List.getElem?_cons_zero, List.getElem?_cons_succ] at z0 z1
        have hS := HW.out
        simp only [hL] at hS
        have hS2 := ((hS.set (i := 0) (u := .int .i64 (s.saL + k0)) (by omega)).set (i := 1) (u := .int .i64 (s.saH + k0)) (by omega))
        rw [slt_a] at hS2
        have HS2 := Lib.hid hS2
        clear hr hS hS2
        go_simp
        exact ⟨(), fun _ _ => rfl, rfl, by simpa using HS2.out⟩
      | 14, _, ho => simp only [List.getElem?_toArray, List.getElem?_cons_succ, List.getElem?_cons_zero, Option.some.injEq] at ho; subst ho; go_simp; exact ⟨(), fun _ _ => rfl, rfl, by simpa using HW.out⟩
      | 15, _, ho =>
        simp only [List.getElem?_toArray, List.getElem?_cons_succ, List.getElem?_cons_zero, Option.some.injEq] at ho; subst ho
        have hr := HW.out.r
        simp only [hL] at hr
        have z0 := cell_of_row W X1 8 _ _ _ hr
        have u0 := frozen_of_row W X1 8 _ _ hr
        have z1 := cell_of_row W X1 9 _ _ _ hr
        have u1 := frozen_of_row W X1 9 _ _ hr
        simp only [soA, List.getElem?_toArray, List.getElem?_cons_zero, List.getElem?_cons_succ] at z0 z1
        have hS := HW.out
        simp only [hL] at hS
        have hS2 := ((hS.set (i := 8) (u := .int .i64 (s.riL + k1)) (by omega)).set (i := 9) (u := .int .i64 (s.riH + k1)) (by omega))
        rw [slt_b] at hS2
        have HS2 := Lib.hid hS2
        clear hr hS hS2
        go_simp
        exact ⟨(), fun _ _ => rfl, rfl, by simpa using HS2.out⟩
      | k + 16, hk, _ => omega
    case htail8 =>
      intro L x W8 hL hW
      clear x
      rw [hL 13 (by omega), hL 15 (by omega)] at hW
      replace RB := Lib.hid ((hW.k B (by omega) (by omega)).trans RB.out)
      replace SB := Lib.hid ((hW.k (B + 1) (by omega) (by omega)).trans SB.out)
      replace G1 := Lib.hid hW.r
      replace G2 := Lib.hid ((hW.k X2 (by omega) (by omega)).trans G2.out)
      replace G3 := Lib.hid ((hW.k X3 (by omega) (by omega)).trans G3.out)
      replace BB := Lib.hid (BB.out.trans hW.b)
      have zz := hW.z
      replace lX1 : X1 < W8.heap.size := by omega
      replace lX2 : X2 < W8.heap.size := by omega
      replace lX3 : X3 < W8.heap.size := by omega
      replace lB : B + 1 < W8.heap.size := by omega
      replace zB : w.heap.size ≤ W8.heap.size := by omega
      clear hW hL zz
      simp only [List.drop_succ_cons, List.drop_nil]
      gi_wp2
      go_upto_region 9 with (fail)
      refine (wpIn_wide (n := 3)).1 ?_
      refine wpIn_region_planYA (X := Unit) (by kernel_rfl) 8 (by decide +kernel) (by decide +kernel) (by omega)
        (fun _ i => (#[.func (.func 39) #[] #[], .pointer (some ⟨B, 6, none⟩), .agg #[.int .i64 (s.waL), .int .i64 (s.waH)], .slice A m c, .int .u32 y2, .agg #[.int .i64 (s.waL + k2), .int .i64 (s.waH + k2)], .pointer (some ⟨X2, 6, none⟩), undef] : Array Value).getD i undef)
        (fun L _ W => S1 W8 w.heap.size X2 (soA (wasB s k2 (L 7))) W) _ _ () ?aF9 ?hA9 ?hS9 ?hstep9 ?htail9
      case hA9 => intro x; simp [putTo, putIf, dstAt, Act.put, List.range_succ]; rfl
      case hS9 => exact fun L hL => ⟨Nat.le_refl _, fun _ _ _ => rfl, by simp only [hL]; rw [was_f]; exact G2.out, (Below.refl _ _).drew⟩
      case hstep9 =>
        intro i o' hi' ho L x W hL hcl hdep hW
        have rB := (hW.k B (by omega) (by omega)).trans RB.out
        have HW := Lib.hid hW
        have hbw := Lib.hid (BB.out.trans hW.b)
        have c6 : W.cell? ⟨B, 6, none⟩ = some (.int .i64 s.waL) := cell_of_row W B 6 _ _ _ rB
        have c7 : W.cell? ⟨B, 7, none⟩ = some (.int .i64 s.waH) := cell_of_row W B 7 _ _ _ rB
        clear hW rB
        refine ⟨fun _ _ => trivial, ?_⟩
        match i, hi', ho with
        | 0, _, ho => simp only [List.getElem?_toArray, List.getElem?_cons_succ, List.getElem?_cons_zero, Option.some.injEq] at ho; subst ho; go_simp; exact ⟨(), fun _ _ => rfl, rfl, by simpa using HW.out⟩
        | 1, _, ho => simp only [List.getElem?_toArray, List.getElem?_cons_succ, List.getElem?_cons_zero, Option.some.injEq] at ho; subst ho; go_simp; exact ⟨(), fun _ _ => rfl, rfl, by simpa using HW.out⟩
        | 2, _, ho => simp only [List.getElem?_toArray, List.getElem?_cons_succ, List.getElem?_cons_zero, Option.some.injEq] at ho; subst ho; go_simp; exact ⟨(), fun _ _ => rfl, rfl, by simpa using HW.out⟩
        | 3, _, ho => simp only [List.getElem?_toArray, List.getElem?_cons_succ, List.getElem?_cons_zero, Option.some.injEq] at ho; subst ho; go_simp; exact ⟨(), fun _ _ => rfl, rfl, by simpa using HW.out⟩
        | 4, _, ho =>
          simp only [List.getElem?_toArray, List.getElem?_cons_succ, List.getElem?_cons_zero, Option.some.injEq] at ho; subst ho
          go_simp
          refine ⟨by simp, callsIn_wide.2 ((AT2.out W hbw.out).mono ?_)⟩
          rintro e w' ⟨rfl, hb⟩
          exact ⟨_, rfl, (), fun _ _ => rfl, rfl, by simpa using HW.out.below (by omega) zB hb⟩
        | 5, _, ho =>
          simp only [List.getElem?_toArray, List.getElem?_cons_succ, List.getElem?_cons_zero, Option.some.injEq] at ho; subst ho
          go_simp
          refine ⟨by simp, callsIn_wide.2 ((UP2.out W).mono ?_)⟩
          rintro e w' ⟨rfl, hb⟩
          exact ⟨_, rfl, (), fun _ _ => rfl, rfl, by simpa using HW.out.below (by omega) zB hb⟩
        | 6, _, ho => simp only [List.getElem?_toArray, List.getElem?_cons_succ, List.getElem?_cons_zero, Option.some.injEq] at ho; subst ho; go_simp; exact ⟨(), fun _ _ => rfl, rfl, by simpa using HW.out⟩
        | 7, _, ho =>
          simp only [List.getElem?_toArray, List.getElem?_cons_succ, List.getElem?_cons_zero, Option.some.injEq] at ho; subst ho
          have hr := HW.out.r
          simp only [hL] at hr
          have z0 := cell_of_row W X2 6 _ _ _ hr
          have u0 := frozen_of_row W X2 6 _ _ hr
          have z1 := cell_of_row W X2 7 _ _ _ hr
          have u1 := frozen_of_row W X2 7 _ _ hr
          simp only [soA, List.getElem?_toArray, List.getElem?_cons_zero, List.getElem?_cons_succ] at z0 z1
          have hS := HW.out
          simp only [hL] at hS
          have hS2 := ((hS.set (i := 6) (u := .int .i64 (s.waL + k2)) (by omega)).set (i := 7) (u := .int .i64 (s.waH + k2)) (by omega))
          rw [was_a] at hS2
          have HS2 := Lib.hid hS2
          clear hr hS hS2
          go_simp
          exact ⟨(), fun _ _ => rfl, rfl, by simpa using HS2.out⟩
        | k + 8, hk, _ => omega
      case htail9 =>
        intro L x W9 hL hW
        clear x
        rw [hL 7 (by omega)] at hW
        replace RB := Lib.hid ((hW.k B (by omega) (by omega)).trans RB.out)
        replace SB := Lib.hid ((hW.k (B + 1) (by omega) (by omega)).trans SB.out)
        replace G1 := Lib.hid ((hW.k X1 (by omega) (by omega)).trans G1.out)
        replace G2 := Lib.hid hW.r
        replace G3 := Lib.hid ((hW.k X3 (by omega) (by omega)).trans G3.out)
        replace BB := Lib.hid (BB.out.trans hW.b)
        have zz := hW.z
        replace lX1 : X1 < W9.heap.size := by omega
        replace lX2 : X2 < W9.heap.size := by omega
        replace lX3 : X3 < W9.heap.size := by omega
        replace lB : B + 1 < W9.heap.size := by omega
        replace zB : w.heap.size ≤ W9.heap.size := by omega
        clear hW hL zz
        simp only [List.drop_succ_cons, List.drop_nil]
        gi_wp2
        go_upto_region 10 with (fail)
        refine (wpIn_wide (n := 3)).1 ?_
        refine wpIn_region_planYA (X := Unit) (by kernel_rfl) 16 (by decide +kernel) (by decide +kernel) (by omega)
          (fun _ i => (#[.pointer (some ⟨B, 0, none⟩), .agg #[.int .i64 (s.saL), .int .i64 (s.saH)], .slice A m c, .int .u32 y3, .int .i64 (p3'), .pointer (some ⟨B, 4, none⟩), .agg #[.int .i64 (s.miL), .int .i64 (s.miH)], .slice A m c, .int .u32 y4, .int .i64 (p4'), .pointer (some ⟨X3, 0, none⟩), .pointer (some ⟨X3, 0, none⟩), undef, .pointer (some ⟨X3, 4, none⟩), .pointer (some ⟨X3, 5, none⟩), undef] : Array Value).getD i undef)
          (fun L _ W => S1 W9 w.heap.size X3 (soA (knoB s p3' p4' (L 12) (L 15))) W) _ _ () ?aF10 ?hA10 ?hS10 ?hstep10 ?htail10
        case hA10 => intro x; simp [putTo, putIf, dstAt, Act.put, List.range_succ]; rfl
        case hS10 => exact fun L hL => ⟨Nat.le_refl _, fun _ _ _ => rfl, by simp only [hL]; rw [kno_ff]; exact G3.out, (Below.refl _ _).drew⟩
        case hstep10 =>
          intro i o' hi' ho L x W hL hcl hdep hW
          have rB := (hW.k B (by omega) (by omega)).trans RB.out
          have HW := Lib.hid hW
          have hbw := Lib.hid (BB.out.trans hW.b)
          have c0 : W.cell? ⟨B, 0, none⟩ = some (.int .i64 s.saL) := cell_of_row W B 0 _ _ _ rB
          have c1 : W.cell? ⟨B, 1, none⟩ = some (.int .i64 s.saH) := cell_of_row W B 1 _ _ _ rB
          have c4 : W.cell? ⟨B, 4, none⟩ = some (.int .i64 s.miL) := cell_of_row W B 4 _ _ _ rB
          have c5 : W.cell? ⟨B, 5, none⟩ = some (.int .i64 s.miH) := cell_of_row W B 5 _ _ _ rB
          clear hW rB
          refine ⟨fun _ _ => trivial, ?_⟩
          match i, hi', ho with
          | 0, _, ho => simp only [List.getElem?_toArray, List.getElem?_cons_succ, List.getElem?_cons_zero, Option.some.injEq] at ho; subst ho; go_simp; exact ⟨(), fun _ _ => rfl, rfl, by simpa using HW.out⟩
          | 1, _, ho => simp only [List.getElem?_toArray, List.getElem?_cons_succ, List.getElem?_cons_zero, Option.some.injEq] at ho; subst ho; go_simp; exact ⟨(), fun _ _ => rfl, rfl, by simpa using HW.out⟩
          | 2, _, ho => simp only [List.getElem?_toArray, List.getElem?_cons_succ, List.getElem?_cons_zero, Option.some.injEq] at ho; subst ho; go_simp; exact ⟨(), fun _ _ => rfl, rfl, by simpa using HW.out⟩
          | 3, _, ho =>
            simp only [List.getElem?_toArray, List.getElem?_cons_succ, List.getElem?_cons_zero, Option.some.injEq] at ho; subst ho
            go_simp
            refine ⟨by simp, callsIn_wide.2 ((AT3.out W hbw.out).mono ?_)⟩
            rintro e w' ⟨rfl, hb⟩
            exact ⟨_, rfl, (), fun _ _ => rfl, rfl, by simpa using HW.out.below (by omega) zB hb⟩
          | 4, _, ho =>
            simp only [List.getElem?_toArray, List.getElem?_cons_succ, List.getElem?_cons_zero, Option.some.injEq] at ho; subst ho
            go_simp
            refine ⟨by simp, callsIn_wide.2 ((PK3.out W).mono ?_)⟩
            rintro e w' ⟨rfl, hb⟩
            exact ⟨_, rfl, (), fun _ _ => rfl, rfl, by simpa using HW.out.below (by omega) zB hb⟩
          | 5, _, ho => simp only [List.getElem?_toArray, List.getElem?_cons_succ, List.getElem?_cons_zero, Option.some.injEq] at ho; subst ho; go_simp; exact ⟨(), fun _ _ => rfl, rfl, by simpa using HW.out⟩
          | 6, _, ho => simp only [List.getElem?_toArray, List.getElem?_cons_succ, List.getElem?_cons_zero, Option.some.injEq] at ho; subst ho; go_simp; exact ⟨(), fun _ _ => rfl, rfl, by simpa using HW.out⟩
          | 7, _, ho => simp only [List.getElem?_toArray, List.getElem?_cons_succ, List.getElem?_cons_zero, Option.some.injEq] at ho; subst ho; go_simp; exact ⟨(), fun _ _ => rfl, rfl, by simpa using HW.out⟩
          | 8, _, ho =>
            simp only [List.getElem?_toArray, List.getElem?_cons_succ, List.getElem?_cons_zero, Option.some.injEq] at ho; subst ho
            go_simp
            refine ⟨by simp, callsIn_wide.2 ((AT4.out W hbw.out).mono ?_)⟩
            rintro e w' ⟨rfl, hb⟩
            exact ⟨_, rfl, (), fun _ _ => rfl, rfl, by simpa using HW.out.below (by omega) zB hb⟩
          | 9, _, ho =>
            simp only [List.getElem?_toArray, List.getElem?_cons_succ, List.getElem?_cons_zero, Option.some.injEq] at ho; subst ho
            go_simp
            refine ⟨by simp, callsIn_wide.2 ((PK4.out W).mono ?_)⟩
            rintro e w' ⟨rfl, hb⟩
            exact ⟨_, rfl, (), fun _ _ => rfl, rfl, by simpa using HW.out.below (by omega) zB hb⟩
          | 10, _, ho => simp only [List.getElem?_toArray, List.getElem?_cons_succ, List.getElem?_cons_zero, Option.some.injEq] at ho; subst ho; go_simp; exact ⟨(), fun _ _ => rfl, rfl, by simpa using HW.out⟩
          | 11, _, ho => simp only [List.getElem?_toArray, List.getElem?_cons_succ, List.getElem?_cons_zero, Option.some.injEq] at ho; subst ho; go_simp; exact ⟨(), fun _ _ => rfl, rfl, by simpa using HW.out⟩
          | 12, _, ho =>
            simp only [List.getElem?_toArray, List.getElem?_cons_succ, List.getElem?_cons_zero, Option.some.injEq] at ho; subst ho
            have hr := HW.out.r
            simp only [hL] at hr
            have z0 := cell_of_row W X3 0 _ _ _ hr
            have u0 := frozen_of_row W X3 0 _ _ hr
            simp only [soA, List.getElem?_toArray, List.getElem?_cons_zero, List.getElem?_cons_succ] at z0
            have hS := HW.out
            simp only [hL] at hS
            have hS2 := (hS.set (i := 0) (u := .int .i64 (p3')) (by omega))
            rw [kno_a] at hS2
            have HS2 := Lib.hid hS2
            clear hr hS hS2
            go_simp
            exact ⟨(), fun _ _ => rfl, rfl, by simpa using HS2.out⟩
          | 13, _, ho => simp only [List.getElem?_toArray, List.getElem?_cons_succ, List.getElem?_cons_zero, Option.some.injEq] at ho; subst ho; go_simp; exact ⟨(), fun _ _ => rfl, rfl, by simpa using HW.out⟩
          | 14, _, ho => simp only [List.getElem?_toArray, List.getElem?_cons_succ, List.getElem?_cons_zero, Option.some.injEq] at ho; subst ho; go_simp; exact ⟨(), fun _ _ => rfl, rfl, by simpa using HW.out⟩
          | 15, _, ho =>
            simp only [List.getElem?_toArray, List.getElem?_cons_succ, List.getElem?_cons_zero, Option.some.injEq] at ho; subst ho
            have hr := HW.out.r
            simp only [hL] at hr
            have z0 := cell_of_row W X3 5 _ _ _ hr
            have u0 := frozen_of_row W X3 5 _ _ hr
            simp only [soA, List.getElem?_toArray, List.getElem?_cons_zero, List.getElem?_cons_succ] at z0
            have hS := HW.out
            simp only [hL] at hS
            have hS2 := (hS.set (i := 5) (u := .int .i64 (p4')) (by omega))
            rw [kno_b] at hS2
            have HS2 := Lib.hid hS2
            clear hr hS hS2
            go_simp
            exact ⟨(), fun _ _ => rfl, rfl, by simpa using HS2.out⟩
          | k + 16, hk, _ => omega
        case htail10 =>
          intro L x W10 hL hW
          clear x
          rw [hL 12 (by omega), hL 15 (by omega)] at hW
          replace RB := Lib.hid ((hW.k B (by omega) (by omega)).trans RB.out)
          replace SB := Lib.hid ((hW.k (B + 1) (by omega) (by omega)).trans SB.out)
          replace G1 := Lib.hid ((hW.k X1 (by omega) (by omega)).trans G1.out)
          replace G2 := Lib.hid ((hW.k X2 (by omega) (by omega)).trans G2.out)
          replace G3 := Lib.hid hW.r
          replace BB := Lib.hid (BB.out.trans hW.b)
          have zz := hW.z
          replace lX1 : X1 < W10.heap.size := by omega
          replace lX2 : X2 < W10.heap.size := by omega
          replace lX3 : X3 < W10.heap.size := by omega
          replace lB : B + 1 < W10.heap.size := by omega
          replace zB : w.heap.size ≤ W10.heap.size := by omega
          clear hW hL zz
          simp only [List.drop_succ_cons, List.drop_nil]
          gi_wp2
          obtain ⟨sl, hsl⟩ : ∃ x, sltB s k0 k1 true true = x := ⟨_, rfl⟩
          obtain ⟨ws, hws⟩ : ∃ x, wasB s k2 true = x := ⟨_, rfl⟩
          obtain ⟨kn, hkn⟩ : ∃ x, knoB s p3' p4' true true = x := ⟨_, rfl⟩
          rw [hsl] at G1
          rw [hws] at G2
          rw [hkn] at G3
          have oksl : soOk sl = true := by rw [← hsl]; simp only [soOk, so1, soIn, sltB, Bool.and_eq_true, decide_eq_true_eq, if_true] at h ⊢; omega
          have okws : soOk ws = true := by rw [← hws]; simp only [soOk, so1, soIn, wasB, Bool.and_eq_true, decide_eq_true_eq, if_true] at h ⊢; omega
          have okkn : soOk kn = true := by rw [← hkn]; simp only [soOk, so1, soIn, knoB, Bool.and_eq_true, decide_eq_true_eq, if_true] at h ⊢; omega
          have c1 : LoLe s sl := by rw [← hsl]; constructor <;> simp only [sltB, if_true] <;> omega
          have c2 : HiLe s sl := by rw [← hsl]; constructor <;> simp only [sltB, if_true] <;> omega
          have c3 : LoLe ws s := by rw [← hws]; constructor <;> simp only [wasB, if_true] <;> omega
          have c4 : HiLe ws s := by rw [← hws]; constructor <;> simp only [wasB, if_true] <;> omega
          have c5 : LoLe s kn := by rw [← hkn]; constructor <;> simp only [knoB, if_true] <;> omega
          have c6 : HiLe kn s := by rw [← hkn]; constructor <;> simp only [knoB, if_true] <;> omega
          have l1 : sl.lim = s.lim := by rw [← hsl]; rfl
          have l2 : ws.lim = s.lim := by rw [← hws]; rfl
          have hw : 0 ≤ wl ∧ wl ≤ wh ∧ wh ≤ 1000000000 := by simpa [so1, and_assoc] using h2
          have hcr := (SoB.of_ok h).c1
          have hcr2 := (SoB.of_ok h).c2
          have A2 := Lib.hid (fun (S : So) (ok : soOk S = true) (W : World) => (after2 S wl wh ok h2 W))
          have ORD := Lib.hid (fun k => (⟨(c1.its hw.1 hw.2.1 k).a, (c2.its hw.1 hw.2.1 hcr k).a, (c3.its hw.1 hw.2.1 k).a, (c4.its hw.1 hw.2.1 (by rw [← c4.c]; exact hcr) k).a, (c5.its hw.1 hw.2.1 k).a, (c6.its hw.1 hw.2.1 (by rw [← c6.c]; exact hcr) k).a⟩ : _ ∧ _ ∧ _ ∧ _ ∧ _ ∧ _))
          have ND1 : Hid (∀ n, needI s = some n → ∃ o, needI ws = some o ∧ o ≤ n) := Lib.hid (fun n hn => need_less c4.c.symm l2 hcr2 (fun x hx _ => c4.most (by omega)) hn)
          have ND2 : Hid (∀ n, needI sl = some n → ∃ o, needI s = some o ∧ o ≤ n) := Lib.hid (fun n hn => need_less c2.c.symm l1.symm (by rw [c2.c]; exact hcr2) (fun x hx _ => c2.most (by rw [c2.c] at hx; omega)) hn)
          have CN := Lib.hid (fun S W => Need_any S W)
          have HOK := Lib.hid h
          have HSL := Lib.hid oksl
          have HWS := Lib.hid okws
          have HKN := Lib.hid okkn
          clear hsl hws hkn oksl okws okkn c1 c2 c3 c4 c5 c6 l1 l2 h h2 hcr hcr2 hw lX1 lX2 lX3 lB zB e1 e2 e3 hne n12 n13 n23 AT0 AT1 AT2 AT3 AT4 UP0 UP1 UP2 PK3 PK4
          clear f0 f1 f2 f3 f4 o1 o2 o3 o4 o5 o6 o7 o8 o9 o10 o11 o12
          go_upto_region 12 with (first | (go_at_call 12; refine (A2.out s HOK.out _).mono ?_; rintro e v11 ⟨⟨Aa, ca, rfl, rd⟩, hb⟩) | (refine wpList_load_row rfl 25 (.tmp 3) rfl B rfl 25 (soA s) (0, 0) _ RB.out Try.underlying25 rfl (infoSoil s) ?_) | (refine wpList_load_row rfl 23 (.tmp 4) rfl (B + 1) rfl 23 #[.int .i64 wl, .int .i64 wh] (0, 0) _ SB.out Try.underlying23 rfl infoSpan ?_))
          replace RB := Lib.hid (row_keep RB.out hb)
          replace SB := Lib.hid (row_keep SB.out hb)
          replace G1 := Lib.hid (row_keep G1.out hb)
          replace G2 := Lib.hid (row_keep G2.out hb)
          replace G3 := Lib.hid (row_keep G3.out hb)
          replace BB := Lib.hid (below_keep BB.out BB.out.size hb)
          clear hb
          have RDa := Lib.hid rd
          clear rd
          go_upto_region 13 with (first | (go_at_call 12; refine (A2.out sl HSL.out _).mono ?_; rintro e v12 ⟨⟨Ab, cb, rfl, rd⟩, hb⟩) | (refine wpList_load_row rfl 25 (.tmp 9) rfl X1 rfl 25 (soA sl) (0, 0) _ G1.out Try.underlying25 rfl (infoSoil sl) ?_) | (refine wpList_load_row rfl 23 (.tmp 4) rfl (B + 1) rfl 23 #[.int .i64 wl, .int .i64 wh] (0, 0) _ SB.out Try.underlying23 rfl infoSpan ?_))
          replace RB := Lib.hid (row_keep RB.out hb)
          replace SB := Lib.hid (row_keep SB.out hb)
          replace G1 := Lib.hid (row_keep G1.out hb)
          replace G2 := Lib.hid (row_keep G2.out hb)
          replace G3 := Lib.hid (row_keep G3.out hb)
          replace RDa := Lib.hid (rd_keep RDa.out hb)
          replace BB := Lib.hid (below_keep BB.out BB.out.size hb)
          clear hb
          have RDb := Lib.hid rd
          clear rd
          go_upto_region 14 with (first | (go_at_call 12; refine (A2.out ws HWS.out _).mono ?_; rintro e v13 ⟨⟨Ac, cc, rfl, rd⟩, hb⟩) | (refine wpList_load_row rfl 25 (.tmp 10) rfl X2 rfl 25 (soA ws) (0, 0) _ G2.out Try.underlying25 rfl (infoSoil ws) ?_) | (refine wpList_load_row rfl 23 (.tmp 4) rfl (B + 1) rfl 23 #[.int .i64 wl, .int .i64 wh] (0, 0) _ SB.out Try.underlying23 rfl infoSpan ?_))
          replace RB := Lib.hid (row_keep RB.out hb)
          replace SB := Lib.hid (row_keep SB.out hb)
          replace G1 := Lib.hid (row_keep G1.out hb)
          replace G2 := Lib.hid (row_keep G2.out hb)
          replace G3 := Lib.hid (row_keep G3.out hb)
          replace RDa := Lib.hid (rd_keep RDa.out hb)
          replace RDb := Lib.hid (rd_keep RDb.out hb)
          replace BB := Lib.hid (below_keep BB.out BB.out.size hb)
          clear hb
          have RDc := Lib.hid rd
          clear rd
          go_upto_region 15 with (first | (go_at_call 12; refine (A2.out kn HKN.out _).mono ?_; rintro e v14 ⟨⟨Ad, cd, rfl, rd⟩, hb⟩) | (refine wpList_load_row rfl 25 (.tmp 11) rfl X3 rfl 25 (soA kn) (0, 0) _ G3.out Try.underlying25 rfl (infoSoil kn) ?_) | (refine wpList_load_row rfl 23 (.tmp 4) rfl (B + 1) rfl 23 #[.int .i64 wl, .int .i64 wh] (0, 0) _ SB.out Try.underlying23 rfl infoSpan ?_))
          replace RB := Lib.hid (row_keep RB.out hb)
          replace SB := Lib.hid (row_keep SB.out hb)
          replace G1 := Lib.hid (row_keep G1.out hb)
          replace G2 := Lib.hid (row_keep G2.out hb)
          replace G3 := Lib.hid (row_keep G3.out hb)
          replace RDa := Lib.hid (rd_keep RDa.out hb)
          replace RDb := Lib.hid (rd_keep RDb.out hb)
          replace RDc := Lib.hid (rd_keep RDc.out hb)
          replace BB := Lib.hid (below_keep BB.out BB.out.size hb)
          clear hb
          have RDd := Lib.hid rd
          clear rd
          go_wp2
          go_loopw [137] (fun v137 W => ∃ k : Nat, k ≤ 2 ∧ v137 = .int .i64 k ∧ Below v14.heap.size v14 W) (fun i _ => 2 - (intOf i).toNat)
          case atStart => exact ⟨0, by omega, rfl, Below.refl _ _⟩
          case round =>
            obtain ⟨k, hk, rfl, hb⟩ := hrel
            by_cases hlk : k < 2
            · have hlkI : (k : Int) < 2 := by omega
              obtain ⟨ba, oa, rfl, hla, hca⟩ := (rd_keep RDa.out hb).at_ (show k < (aftS s wl wh 2).length by simpa using hlk)
              rw [aftS_getM s wl wh hlk] at hca
              have qa0 := hca 0 _ rfl
              have qa1 := hca 1 _ rfl
              simp only [Nat.add_zero] at qa0 qa1
              clear hca
              obtain ⟨bb, ob, rfl, hlb, hcb⟩ := (rd_keep RDb.out hb).at_ (show k < (aftS sl wl wh 2).length by simpa using hlk)
              rw [aftS_getM sl wl wh hlk] at hcb
              have qb0 := hcb 0 _ rfl
              have qb1 := hcb 1 _ rfl
              simp only [Nat.add_zero] at qb0 qb1
              clear hcb
              obtain ⟨bc, oc, rfl, hlc, hcc⟩ := (rd_keep RDc.out hb).at_ (show k < (aftS ws wl wh 2).length by simpa using hlk)
              rw [aftS_getM ws wl wh hlk] at hcc
              have qc0 := hcc 0 _ rfl
              have qc1 := hcc 1 _ rfl
              simp only [Nat.add_zero] at qc0 qc1
              clear hcc
              obtain ⟨bd, od, rfl, hld, hcd⟩ := (rd_keep RDd.out hb).at_ (show k < (aftS kn wl wh 2).length by simpa using hlk)
              rw [aftS_getM kn wl wh hlk] at hcd
              have qd0 := hcd 0 _ rfl
              have qd1 := hcd 1 _ rfl
              simp only [Nat.add_zero] at qd0 qd1
              clear hcd
              obtain ⟨g1, g2, g3, g4, g5, g6⟩ := ORD.out (k + 1)
              obtain ⟨xa, hxa⟩ : ∃ x, (itS s wl wh (k + 1)).saL = x := ⟨_, rfl⟩
              obtain ⟨ya, hya⟩ : ∃ x, (itS s wl wh (k + 1)).saH = x := ⟨_, rfl⟩
              have ra0 : wr.cell? ⟨ba, oa + k * 2, none⟩ = some (.int .i64 xa) := by rw [← hxa]; exact qa0
              have ra1 : wr.cell? ⟨ba, oa + k * 2 + 1, none⟩ = some (.int .i64 ya) := by rw [← hya]; exact qa1
              obtain ⟨xb, hxb⟩ : ∃ x, (itS sl wl wh (k + 1)).saL = x := ⟨_, rfl⟩
              obtain ⟨yb, hyb⟩ : ∃ x, (itS sl wl wh (k + 1)).saH = x := ⟨_, rfl⟩
              have rb0 : wr.cell? ⟨bb, ob + k * 2, none⟩ = some (.int .i64 xb) := by rw [← hxb]; exact qb0
              have rb1 : wr.cell? ⟨bb, ob + k * 2 + 1, none⟩ = some (.int .i64 yb) := by rw [← hyb]; exact qb1
              obtain ⟨xc, hxc⟩ : ∃ x, (itS ws wl wh (k + 1)).saL = x := ⟨_, rfl⟩
              obtain ⟨yc, hyc⟩ : ∃ x, (itS ws wl wh (k + 1)).saH = x := ⟨_, rfl⟩
              have rc0 : wr.cell? ⟨bc, oc + k * 2, none⟩ = some (.int .i64 xc) := by rw [← hxc]; exact qc0
              have rc1 : wr.cell? ⟨bc, oc + k * 2 + 1, none⟩ = some (.int .i64 yc) := by rw [← hyc]; exact qc1
              obtain ⟨xd, hxd⟩ : ∃ x, (itS kn wl wh (k + 1)).saL = x := ⟨_, rfl⟩
              obtain ⟨yd, hyd⟩ : ∃ x, (itS kn wl wh (k + 1)).saH = x := ⟨_, rfl⟩
              have rd0 : wr.cell? ⟨bd, od + k * 2, none⟩ = some (.int .i64 xd) := by rw [← hxd]; exact qd0
              have rd1 : wr.cell? ⟨bd, od + k * 2 + 1, none⟩ = some (.int .i64 yd) := by rw [← hyd]; exact qd1
              rw [hxa, hxb] at g1
              rw [hya, hyb] at g2
              rw [hxa, hxc] at g3
              rw [hya, hyc] at g4
              rw [hxa, hxd] at g5
              rw [hya, hyd] at g6
              clear qa0 qa1 hxa hya qb0 qb1 hxb hyb qc0 qc1 hxc hyc qd0 qd1 hxd hyd
              have HBB := Lib.hid hb
              clear hb
              have d1 : decide (xb < xa) = false := by simp; omega
              have d2 : decide (yb < ya) = false := by simp; omega
              have d3 : decide (xa < xc) = false := by simp; omega
              have d4 : decide (ya < yc) = false := by simp; omega
              have d5 : decide (xd < xa) = false := by simp; omega
              have d6 : decide (ya < yd) = false := by simp; omega
              go_upto_region 20 with (fail)
              refine wp_region_calm (by kernel_rfl) (by kernel_rfl) ?_
              simp only [List.append_eq, List.cons_append, List.nil_append]
              repeat (go_big_quiet_step (fail))
              refine wpQuiet_nil ?_; rintro _ ⟨dx, rfl⟩
              obtain ⟨wy, hwy⟩ : ∃ wy, wx _ dx = wy := ⟨_, rfl⟩; have hby := wx_below _ dx; rw [hwy] at hby ⊢
              clear hwy ra0 ra1 rb0 rb1 rc0 rc1 rd0 rd1
              go_wp2
              go_roundw
              case rel => exact ⟨k + 1, by omega, by go_num, HBB.out.trans (hby.mono HBB.out.size)⟩
              case measure => simp [intOf]; omega
            · obtain rfl : k = 2 := by omega
              replace RB := Lib.hid (row_keep RB.out hb)
              replace SB := Lib.hid (row_keep SB.out hb)
              replace G1 := Lib.hid (row_keep G1.out hb)
              replace G2 := Lib.hid (row_keep G2.out hb)
              replace G3 := Lib.hid (row_keep G3.out hb)
              replace BB := Lib.hid (below_keep BB.out BB.out.size hb)
              clear hb
              go_upto_region 24 with (first | (go_at_call 14; refine (CN.out s _).mono ?_; rintro e v23 ⟨rfl, hb⟩) | (refine wpList_load_row rfl 25 (.tmp 3) rfl B rfl 25 (soA s) (0, 0) _ RB.out Try.underlying25 rfl (infoSoil s) ?_))
              replace RB := Lib.hid (row_keep RB.out hb)
              replace SB := Lib.hid (row_keep SB.out hb)
              replace G1 := Lib.hid (row_keep G1.out hb)
              replace G2 := Lib.hid (row_keep G2.out hb)
              replace G3 := Lib.hid (row_keep G3.out hb)
              replace BB := Lib.hid (below_keep BB.out BB.out.size hb)
              clear hb
              go_upto_region 25 with (first | (go_at_call 14; refine (CN.out sl _).mono ?_; rintro e v24 ⟨rfl, hb⟩) | (refine wpList_load_row rfl 25 (.tmp 9) rfl X1 rfl 25 (soA sl) (0, 0) _ G1.out Try.underlying25 rfl (infoSoil sl) ?_))
              replace RB := Lib.hid (row_keep RB.out hb)
              replace SB := Lib.hid (row_keep SB.out hb)
              replace G1 := Lib.hid (row_keep G1.out hb)
              replace G2 := Lib.hid (row_keep G2.out hb)
              replace G3 := Lib.hid (row_keep G3.out hb)
              replace BB := Lib.hid (below_keep BB.out BB.out.size hb)
              clear hb
              go_upto_region 26 with (first | (go_at_call 14; refine (CN.out ws _).mono ?_; rintro e v25 ⟨rfl, hb⟩) | (refine wpList_load_row rfl 25 (.tmp 10) rfl X2 rfl 25 (soA ws) (0, 0) _ G2.out Try.underlying25 rfl (infoSoil ws) ?_))
              replace RB := Lib.hid (row_keep RB.out hb)
              replace SB := Lib.hid (row_keep SB.out hb)
              replace G1 := Lib.hid (row_keep G1.out hb)
              replace G2 := Lib.hid (row_keep G2.out hb)
              replace G3 := Lib.hid (row_keep G3.out hb)
              replace BB := Lib.hid (below_keep BB.out BB.out.size hb)
              clear hb
              cases hn : needI s with
              | none =>
                have hs := saNeed_none HOK.out hn
                cases hq : needI sl with
                | some u => obtain ⟨o, ho, _⟩ := ND2.out u hq; rw [hn] at ho; cases ho
                | none =>
                  have hs2 := saNeed_none HSL.out hq
                  rw [hs, hs2]
                  clear hs hs2 hn hq
                  go_wp2
                  go_ret
                  exact ⟨rfl, BB.out⟩
              | some n =>
                have hs := saNeed_some HOK.out hn
                obtain ⟨o, hq, ho⟩ := ND1.out n hn
                have hs3 := saNeed_some HWS.out hq
                cases hq2 : needI sl with
                | none =>
                  have hs2 := saNeed_none HSL.out hq2
                  rw [hs, hs2, hs3]
                  clear hs hs2 hs3 hn hq hq2
                  go_wp2
                  go_ret
                  exact ⟨rfl, BB.out⟩
                | some u =>
                  have hs2 := saNeed_some HSL.out hq2
                  obtain ⟨o', ho', hle⟩ := ND2.out u hq2
                  rw [hn] at ho'
                  injection ho' with ho'
                  subst ho'
                  rw [hs, hs2, hs3]
                  clear hs hs2 hs3 hn hq hq2
                  go_wp2
                  go_ret
                  exact ⟨rfl, BB.out⟩
end Go.Proofs.Ytjkefoijhphknaa
