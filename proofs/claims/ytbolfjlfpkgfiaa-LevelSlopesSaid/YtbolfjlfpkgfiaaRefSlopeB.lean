/- The reference's Slope answers what level's does, of every survey that reads as plain data, and of every number. Condition: the survey's slices read below the heap's end. -/
import Derived.Test.YtbolfjlfpkgfiaaRefSlope
import Derived.Test.YtbolfjlfpkgfiaaFloat
set_option linter.unusedSimpArgs false
namespace Go.Proofs.Ytbolfjlfpkgfiaa
open Go.RowKit

set_option maxRecDepth 100000 in
set_option maxHeartbeats 4000000 in
theorem rslope_fine (s : Sv) (i : Int) (c1 c2 c3 : Nat) (A1 A2 A3 : Option Addr) (w : World)
    (r1 : Rd w w.heap.size A1 shV 4 s.shots) (r2 : Rd w w.heap.size A2 mkV 3 s.marks) (r3 : Rd w w.heap.size A3 shV 4 s.threads) (hok : svOk s = true) (hin : inR 0 ((s.threads.length : Int) - 1) i = true) (D : Mat) (hF : svD s = (D, true)) :
    Calls Try.prog 32 #[.agg #[.int .i64 s.n, .slice A1 s.shots.length c1, .slice A2 s.marks.length c2, .slice A3 s.threads.length c3], .int .i64 i] w fun e w' =>
      e = .returned (.tuple #[.agg #[.int .i64 (lvSlope s i).1.1, .int .i64 (lvSlope s i).1.2], .int .i64 (lvSlope s i).2]) ∧ Below w.heap.size w w' := by
  have hb0 : Below w.heap.size w ((w.alloc (Obj.cells #[Value.int IntKind.i64 s.n, Value.slice A1 s.shots.length c1, Value.slice A2 s.marks.length c2, Value.slice A3 s.threads.length c3] 26)).alloc (Obj.cells #[Value.int IntKind.i64 0, Value.int IntKind.i64 0] 36)) := by (repeat' (first | (with_reducible exact Below.refl _ _) | (with_reducible refine Below.alloc ?_ ?_ _) | (with_reducible refine Below.drew ?_) | (with_reducible refine Below.drewN_ ?_ _) | (with_reducible refine Below.setCell ?_ ?_ _) | (with_reducible refine Below.setRow ?_ ?_ _) | (with_reducible refine Below.via ?_ (by with_reducible assumption) ?_) | go_size))
  have R1 := Lib.hid ((r1.below hb0).more hb0.size)
  have R2 := Lib.hid ((r2.below hb0).more hb0.size)
  have R3 := Lib.hid ((r3.below hb0).more hb0.size)
  have P1 := Lib.hid r1
  have P2 := Lib.hid r2
  have P3 := Lib.hid r3
  clear r1 r2 r3
  have HC := Lib.hid (rcheck_any s c1 c2 c3 A1 A2 A3 ((w.alloc (Obj.cells #[Value.int IntKind.i64 s.n, Value.slice A1 s.shots.length c1, Value.slice A2 s.marks.length c2, Value.slice A3 s.threads.length c3] 26)).alloc (Obj.cells #[Value.int IntKind.i64 0, Value.int IntKind.i64 0] 36)) R1.out R2.out R3.out)
  have G0 := Lib.hid (heap_alloc2_new w (Obj.cells #[Value.int IntKind.i64 s.n, Value.slice A1 s.shots.length c1, Value.slice A2 s.marks.length c2, Value.slice A3 s.threads.length c3] 26) (Obj.cells #[Value.int IntKind.i64 0, Value.int IntKind.i64 0] 36))
  obtain ⟨⟨n1, n2, g3, g4, _⟩, _⟩ := svOk_spec hok
  have e1 : svErr s = 0 := by unfold svErr; rw [hok]; rfl
  rw [e1] at HC
  have l3 : s.threads.length ≤ 30 := (svOk_spec hok).1.2.2.2.2
  have HSN := Lib.hid (fun (W : World) gc cc (hb : Below w.heap.size w W) hBo => sides_yes s c1 c2 c3 A1 A2 A3 W hok ((P1.out.below hb).more hb.size) ((P2.out.below hb).more hb.size) gc cc hBo D hF)
  have hsm := svD_small hok hF
  obtain ⟨k, hk, rfl, e0⟩ := thrAt_in hin
  have e2 := lvSlope_fine hok hk hF
  obtain ⟨y1, y2, y3, y4, y5, y6, y7, y8⟩ := shOk_spec ((svOk_spec hok).2.2.2 s.threads[k] (List.getElem_mem hk))
  rw [slp_eq y6 y7] at e2
  rw [e2]
  obtain ⟨b, o, rfl, hbl, hcell⟩ := P3.out.at_ hk
  have q0 := hcell 0 _ rfl
  have q1 := hcell 1 _ rfl
  have q2 := hcell 2 _ rfl
  have q3 := hcell 3 _ rfl
  simp only [Nat.add_zero] at q0
  clear hcell e0 e2
  generalize s.threads[k] = x at *
  obtain ⟨xf, xt, xl, xh⟩ := x
  dsimp only at *
  obtain ⟨f, rfl⟩ := Int.eq_ofNat_of_zero_le y1
  obtain ⟨t, rfl⟩ := Int.eq_ofNat_of_zero_le y3
  have hff : f < s.n.toNat + 1 := by omega
  have htt : t < s.n.toNat + 1 := by omega
  have hab := hsm.2 f t hff htt
  have hba := hsm.2 t f htt hff
  simp only [Int.toNat_natCast]
  obtain ⟨v1, hv1⟩ : ∃ v, v = (if -D f t < 0 then -D f t * 1000 / xl else -D f t * 1000 / xh) := ⟨_, rfl⟩
  obtain ⟨v2, hv2⟩ : ∃ v, v = (if D t f < 0 then -(-(D t f * 1000) / xh) else -(-(D t f * 1000) / xl)) := ⟨_, rfl⟩
  rw [← hv1, ← hv2]
  have HV1 := Lib.hid hv1
  have HV2 := Lib.hid hv2
  clear e1 hok hF hsm hv1 hv2
  go_enter Try.func32, Try.ntmps32
  go_upto_region 5 with (first | (go_at_call 21; refine HC.out.mono ?_; rintro e w1 ⟨rfl, hb1⟩; obtain ⟨hc1, hf1⟩ := bcell hb1; have hz1 := hb1.size; (try simp at hz1); (have hy1 : w.heap.size < w1.heap.size := by omega); (have hy2 : w.heap.size + 1 < w1.heap.size := by omega); have GX := Lib.hid ((hb1.block (w.heap.size + 1) (by simp <;> omega)).trans G0.out)) | (go_at_call 50; refine (rwithin_any _ _ _ _).mono ?_; rintro e w1' ⟨rfl, rfl⟩))
  have hbw : Below w.heap.size w w1 := by (repeat' (first | (with_reducible exact Below.refl _ _) | (with_reducible refine Below.alloc ?_ ?_ _) | (with_reducible refine Below.drew ?_) | (with_reducible refine Below.drewN_ ?_ _) | (with_reducible refine Below.setCell ?_ ?_ _) | (with_reducible refine Below.setRow ?_ ?_ _) | (with_reducible refine Below.via ?_ (by with_reducible assumption) ?_) | go_size))
  go_cut [6, 7] from 8 to 82 (fun u v W => ∃ g R, u = .slice (some ⟨g, 0, none⟩) (s.n.toNat + 1) (s.n.toNat + 1) ∧ v = .bool true ∧ RowsUp W g g (s.n.toNat + 1) (s.n.toNat + 1) R D ∧ W.cell? ⟨w.heap.size, 3, none⟩ = some (.slice (some ⟨b, o, none⟩) s.threads.length c3) ∧ Below w.heap.size w W ∧ W.heap[w.heap.size + 1]? = some (.cells #[Value.int IntKind.i64 0, Value.int IntKind.i64 0] 36 (0, 0)))
  case first =>
    have m0 : w1.cell? ⟨w.heap.size, 0, none⟩ = some (.int .i64 s.n) := by rw [hc1 _ _ (by simp; omega)]; simp
    have m1 : w1.cell? ⟨w.heap.size, 1, none⟩ = some (.slice A1 s.shots.length c1) := by rw [hc1 _ _ (by simp; omega)]; simp
    have m2 : w1.cell? ⟨w.heap.size, 2, none⟩ = some (.slice A2 s.marks.length c2) := by rw [hc1 _ _ (by simp; omega)]; simp
    have m3 : w1.cell? ⟨w.heap.size, 3, none⟩ = some (.slice (some ⟨b, o, none⟩) s.threads.length c3) := by rw [hc1 _ _ (by simp; omega)]; simp
    clear hc1 hf1 hb1 hz1
    go_region_with (first
      | (go_at_call 48; refine (every_any s.n s.shots.length s.marks.length c1 c2 A1 A2 _ _ (by omega) (by omega)).mono ?_; rintro e w3 ⟨⟨gc, rfl, hgc, hBo⟩, hb3⟩; have n0 := (hb3.cell (p := ⟨w.heap.size, 0, none⟩) hy1).trans m0; have n1 := (hb3.cell (p := ⟨w.heap.size, 1, none⟩) hy1).trans m1; have n2 := (hb3.cell (p := ⟨w.heap.size, 2, none⟩) hy1).trans m2; have n3 := (hb3.cell (p := ⟨w.heap.size, 3, none⟩) hy1).trans m3; have HBO := Lib.hid hBo; clear hBo)
      | (go_at_call 47; refine (HSN.out _ _ _ (hbw.drew.trans (hb3.mono hbw.size)) HBO.out).mono ?_; rintro e w4 ⟨⟨g, R, rfl, hg4, hU⟩, hb4⟩; have HU := Lib.hid hU; clear hU))
    all_goals
      have hzz : w.heap.size + 1 < w3.heap.size := by have h1 := hb3.size; simp at h1; omega
      have HGG := Lib.hid ((hb4.block (w.heap.size + 1) hzz).trans ((hb3.block (w.heap.size + 1) hy2).trans GX.out))
      go_wp2_with fail
      go_meet
      exact ⟨g, R, rfl, rfl, HU.out, (hb4.cell (p := ⟨w.heap.size, 3, none⟩) (Nat.lt_of_succ_lt hzz)).trans n3, (hbw.drew.trans (hb3.mono hbw.size)).trans (hb4.mono (Nat.le_trans hbw.size hb3.size)), HGG.out⟩
  case rest =>
    obtain ⟨g, R, rfl, rfl, hU, hs3, hb, hg⟩ := hcut
    clear hc1 hf1 hb1 hz1 hy1 hy2 hbw GX
    have v0 := (hb.cell hbl).trans q0
    have v1 := (hb.cell hbl).trans q1
    have v2 := (hb.cell hbl).trans q2
    have v3 := (hb.cell hbl).trans q3
    have hbl2 : b < wc.heap.size := Nat.lt_of_lt_of_le hbl hb.size
    clear q0 q1 q2 q3
    have gl : w.heap.size + 1 < wc.heap.size := (Array.getElem?_eq_some_iff.1 hg).1
    have gl0 : w.heap.size < wc.heap.size := by omega
    have GX := Lib.hid hg
    have HRF := Lib.hid (fun (W : World) (h : Below wc.heap.size wc W) => rfall_any D g (s.n.toNat + 1) f t (s.n.toNat + 1) R g W (hU.below h (Nat.le_refl _)) hff htt (by omega) (by omega))
    clear hg hU
    replace hab : -300000000000000 ≤ -D f t ∧ -D f t ≤ 300000000000000 := by omega
    generalize hdu : -D f t = du at *
    generalize hdv : D t f = dv at *
    have HDU := Lib.hid hdu
    have HDV := Lib.hid hdv
    clear hdu hdv
    obtain ⟨m1, m2⟩ := ediv_bd (du * 1000) xl (by omega) (by omega) (by omega)
    obtain ⟨m3, m4⟩ := ediv_bd (du * 1000) xh (by omega) (by omega) (by omega)
    obtain ⟨m5, m6⟩ := ediv_bd (-(dv * 1000)) xl (by omega) (by omega) (by omega)
    obtain ⟨m7, m8⟩ := ediv_bd (-(dv * 1000)) xh (by omega) (by omega) (by omega)
    go_upto_region 10 with (go_at_call 51; refine (HRF.out _ (by (repeat' (first | (with_reducible exact Below.refl _ _) | (with_reducible refine Below.alloc ?_ ?_ _) | (with_reducible refine Below.drew ?_) | (with_reducible refine Below.drewN_ ?_ _) | (with_reducible refine Below.setCell ?_ ?_ _) | (with_reducible refine Below.setRow ?_ ?_ _) | (with_reducible refine Below.via ?_ (by with_reducible assumption) ?_) | go_size)))).mono ?_; rintro e w5 ⟨rfl, hb5⟩; obtain ⟨hc5, hf5⟩ := bcell hb5; have hz5 := hb5.size; (simp at hz5); have GX5 := Lib.hid ((hb5.block (w.heap.size + 1) (by simp <;> omega)).trans ((Below.heap_alloc _ _ _ gl).trans GX.out)))
    have z2 : w5.cell? ⟨wc.heap.size, 2, none⟩ = some (.int .i64 xl) := by rw [hc5 _ _ (by simp)]; simp
    have z3 : w5.cell? ⟨wc.heap.size, 3, none⟩ = some (.int .i64 xh) := by rw [hc5 _ _ (by simp)]; simp
    have hy5 : wc.heap.size < w5.heap.size := by omega
    have hy6 : w.heap.size + 1 < w5.heap.size := by omega
    have hbw : Below w.heap.size w w5 := by (repeat' (first | (with_reducible exact Below.refl _ _) | (with_reducible refine Below.alloc ?_ ?_ _) | (with_reducible refine Below.drew ?_) | (with_reducible refine Below.drewN_ ?_ _) | (with_reducible refine Below.setCell ?_ ?_ _) | (with_reducible refine Below.setRow ?_ ?_ _) | (with_reducible refine Below.via ?_ (by with_reducible assumption) ?_) | go_size))
    have f1 := frozen_of_row w5 (w.heap.size + 1) 0 _ _ GX5.out
    have f2 := frozen_of_row w5 (w.heap.size + 1) 1 _ _ GX5.out
    have x1 := cell_of_row w5 (w.heap.size + 1) 0 _ _ _ GX5.out
    have x2 := cell_of_row w5 (w.heap.size + 1) 1 _ _ _ GX5.out
    simp at x1 x2
    clear hc5 hf5 hb5 v0 v1 v2 v3 hb hs3 hz5 HRF GX G0 HSN HC R1 R2 R3 P1 P2 P3 hb0
    obtain ⟨w9, hw9⟩ : ∃ w9, w5.alloc (.cells #[.int .i64 (du), .int .i64 dv] 36) = w9 := ⟨_, rfl⟩
    rw [hw9]
    have hb59 : Below w5.heap.size w5 w9 := by rw [← hw9]; exact (Below.refl _ _).alloc (Nat.le_refl _) _
    have z0 : w9.cell? ⟨w5.heap.size, 0, none⟩ = some (.int .i64 (du)) := by rw [← hw9]; simp
    have z1 : w9.cell? ⟨w5.heap.size, 1, none⟩ = some (.int .i64 dv) := by rw [← hw9]; simp
    replace z2 := (hb59.cell (p := ⟨wc.heap.size, 2, none⟩) hy5).trans z2
    replace z3 := (hb59.cell (p := ⟨wc.heap.size, 3, none⟩) hy5).trans z3
    have GX9 := Lib.hid ((hb59.block (w.heap.size + 1) hy6).trans GX5.out)
    have hy59 : w5.heap.size < w9.heap.size := by rw [← hw9]; simp
    have hy69 : w.heap.size + 1 < w9.heap.size := by omega
    have hy89 : wc.heap.size < w9.heap.size := by omega
    have hbw9 : Below w.heap.size w w9 := hbw.trans (hb59.mono (by omega))
    clear hw9 hb59 hbw GX5 f1 f2 x1 x2 hy5 hy6
    generalize wc.heap.size = g8 at *
    generalize w5.heap.size = g9 at *
    clear hbl hbl2 wc w5
    have k1 : IntKind.i64.wrap (du * 1000) = du * 1000 := IntWalk.i64_in _ (by omega)
    have k2 : IntKind.i64.wrap (dv * 1000) = dv * 1000 := IntWalk.i64_in _ (by omega)
    obtain ⟨X, hX⟩ : ∃ X : Obj, X = .cells #[.int .i64 0, .int .i64 0] 36 := ⟨_, rfl⟩
    refine (wpIn_wide (n := 3)).1 ?_
    refine wpIn_region_planLA (by kernel_rfl) 16 (by kernel_rfl) (by kernel_rfl) (by omega)
      (fun i => (#[.pointer (some ⟨g9, 0, none⟩), .int .i64 (du), .int .i64 (du * 1000), .pointer (some ⟨g8, 2, none⟩), .pointer (some ⟨g8, 3, none⟩), .int .i64 xh, .int .i64 (du * 1000 / xh), .pointer (some ⟨g9, 1, none⟩), .int .i64 dv, .int .i64 (dv * 1000), .pointer (some ⟨g8, 2, none⟩), .pointer (some ⟨g8, 2, none⟩), .int .i64 xl, .int .i64 (-(-(dv * 1000) / xl)), .agg #[.int .i64 (du * 1000 / xh), .int .i64 (-(-(dv * 1000) / xl))], .pointer (some ⟨w9.heap.size, 0, none⟩)] : Array Value).getD i undef)
      (fun L W => ∃ n, W = (if L 15 then w9.alloc X else w9).drewN n) _ _ ?aF ?hA ?hS ?hstep ?htail
    case hA => simp [putTo, putIf, dstAt, Act.put, List.range_succ]; rfl
    case hS =>
      intro L hL
      rw [hL]
      exact ⟨1, rfl⟩
    case hstep =>
      intro i o hi ho L W hL hW
      obtain ⟨nq, rfl⟩ := hW
      refine ⟨fun _ _ => trivial, ?_⟩
      have hi' : i = 0 ∨ i = 1 ∨ i = 2 ∨ i = 3 ∨ i = 4 ∨ i = 5 ∨ i = 6 ∨ i = 7 ∨ i = 8 ∨ i = 9 ∨ i = 10 ∨ i = 11 ∨ i = 12 ∨ i = 13 ∨ i = 14 ∨ i = 15 := by omega
      rcases hi' with rfl | rfl | rfl | rfl | rfl | rfl | rfl | rfl | rfl | rfl | rfl | rfl | rfl | rfl | rfl | rfl
      all_goals (simp only [List.getElem?_toArray, List.getElem?_cons_succ, List.getElem?_cons_zero, Option.some.injEq] at ho; subst ho)
      case inr.inr.inr.inr.inr.inr.inl =>
        have hs : (fun j => L j || j == 6) 15 = L 15 := by simp
        go_simp
        refine ⟨fun _ => by omega, callsIn_wide.2 ((down_any _ _ _ (by omega) (by omega) (by omega) (by omega)).mono ?_)⟩
        rintro e w' ⟨rfl, rfl⟩
        exact ⟨_, rfl, rfl, nq, rfl⟩
      case inr.inr.inr.inr.inr.inr.inr.inr.inr.inr.inr.inr.inr.inl =>
        go_simp
        refine ⟨fun _ => by omega, callsIn_wide.2 ((up_any _ _ _ (by omega) (by omega) (by omega) (by omega)).mono ?_)⟩
        rintro e w' ⟨rfl, rfl⟩
        exact ⟨_, rfl, rfl, nq, rfl⟩
      case inr.inr.inr.inr.inr.inr.inr.inr.inr.inr.inr.inr.inr.inr.inr =>
        rw [hL]
        simp only [Bool.false_eq_true, if_false]
        go_simp
        exact ⟨rfl, nq, rfl⟩
      all_goals
        cases hL15 : L 15
      all_goals
        simp only [Bool.false_eq_true, if_false, if_true]
        go_simp
        first | exact ⟨rfl, nq, by simp [hL15]⟩ | trace_state
    case htail =>
      intro L W hL hW
      obtain ⟨nq, rfl⟩ := hW
      rw [if_pos (hL 15 (by omega))]
      obtain ⟨wz, hwz⟩ : ∃ wz, (w9.alloc X).drewN nq = wz := ⟨_, rfl⟩
      rw [hwz]
      have hbz : Below w9.heap.size w9 wz := by rw [← hwz]; exact Below.drewN_ ((Below.refl _ _).alloc (Nat.le_refl _) _) nq
      have hz9 : w9.heap.size < wz.heap.size := by rw [← hwz]; simp
      have GO := Lib.hid (show wz.heap[w9.heap.size]? = some (.cells #[.int .i64 0, .int .i64 0] 36 (0, 0)) by rw [← hwz, hX]; exact heap_alloc_new _ _)
      have GXz := Lib.hid ((hbz.block (w.heap.size + 1) hy69).trans GX9.out)
      replace z0 := (hbz.cell (p := ⟨g9, 0, none⟩) hy59).trans z0
      replace z1 := (hbz.cell (p := ⟨g9, 1, none⟩) hy59).trans z1
      replace z2 := (hbz.cell (p := ⟨g8, 2, none⟩) hy89).trans z2
      replace z3 := (hbz.cell (p := ⟨g8, 3, none⟩) hy89).trans z3
      have hbwz : Below w.heap.size w wz := hbw9.trans (hbz.mono (by omega))
      clear hbw9 hbz hwz GX9 hX hL L
      generalize w9.heap.size = go at *
      clear w9 m1 m2 m3 m4 m5 m6 m7 m8
      have hq1 : g9 ≠ go := by omega
      have hq2 : g8 ≠ go := by omega
      have hq3 : w.heap.size + 1 ≠ go := by omega
      have f0 := frozen_of_row wz go 0 _ _ GO.out
      have f00 := frozen_of_row wz go 1 _ _ GO.out
      have y0 := cell_of_row wz go 0 _ _ _ GO.out
      have y1 := cell_of_row wz go 1 _ _ _ GO.out
      have f1 := frozen_of_row wz (w.heap.size + 1) 0 _ _ GXz.out
      have f2 := frozen_of_row wz (w.heap.size + 1) 1 _ _ GXz.out
      have x1 := cell_of_row wz (w.heap.size + 1) 0 _ _ _ GXz.out
      have x2 := cell_of_row wz (w.heap.size + 1) 1 _ _ _ GXz.out
      simp at x1 x2 y0 y1
      simp only [List.drop_succ_cons, List.drop_zero]
      gi_wp2_with fail
      obtain ⟨a1, ha1⟩ : ∃ a1, du * 1000 / xh = a1 := ⟨_, rfl⟩
      obtain ⟨a2, ha2⟩ : ∃ a2, -(-(dv * 1000) / xl) = a2 := ⟨_, rfl⟩
      rw [ha1, ha2]
      obtain ⟨ws, hws⟩ : ∃ ws, ((wz.setCell ⟨go, 0, none⟩ (.int .i64 a1)).setCell ⟨go, 1, none⟩ (.int .i64 a2)) = ws := ⟨_, rfl⟩
      rw [hws]
      have hbs : Below go wz ws := by rw [← hws]; (repeat' (first | (with_reducible exact Below.refl _ _) | (with_reducible refine Below.alloc ?_ ?_ _) | (with_reducible refine Below.drew ?_) | (with_reducible refine Below.drewN_ ?_ _) | (with_reducible refine Below.setCell ?_ ?_ _) | (with_reducible refine Below.setRow ?_ ?_ _) | (with_reducible refine Below.via ?_ (by with_reducible assumption) ?_) | go_size))
      have GS := Lib.hid (show ws.heap[go]? = some (.cells #[.int .i64 a1, .int .i64 a2] 36 (0, 0)) by rw [← hws]; exact heap_set2 GO.out)
      have hgs : go < ws.heap.size := (Array.getElem?_eq_some_iff.1 GS.out).1
      replace z0 := (hbs.cell (p := ⟨g9, 0, none⟩) hy59).trans z0
      replace z1 := (hbs.cell (p := ⟨g9, 1, none⟩) hy59).trans z1
      replace z2 := (hbs.cell (p := ⟨g8, 2, none⟩) hy89).trans z2
      replace z3 := (hbs.cell (p := ⟨g8, 3, none⟩) hy89).trans z3
      have GXs := Lib.hid ((hbs.block (w.heap.size + 1) hy69).trans GXz.out)
      have hbws : Below w.heap.size w ws := hbwz.trans (hbs.mono (by omega))
      have HA1 := Lib.hid ha1
      have HA2 := Lib.hid ha2
      clear hws hbs hbwz GO GXz f0 f00 y0 y1 f1 f2 x1 x2 ha1 ha2 hz9 wz
      have f0 := frozen_of_row ws go 0 _ _ GS.out
      have f00 := frozen_of_row ws go 1 _ _ GS.out
      have y0 := cell_of_row ws go 0 _ _ _ GS.out
      have y1 := cell_of_row ws go 1 _ _ _ GS.out
      have f1 := frozen_of_row ws (w.heap.size + 1) 0 _ _ GXs.out
      have f2 := frozen_of_row ws (w.heap.size + 1) 1 _ _ GXs.out
      have x1 := cell_of_row ws (w.heap.size + 1) 0 _ _ _ GXs.out
      have x2 := cell_of_row ws (w.heap.size + 1) 1 _ _ _ GXs.out
      simp at x1 x2 y0 y1
      by_cases hlo : du < 0 <;> by_cases hhi : dv < 0
      · go_wp2_with (first | (go_at_call 65; refine (down_any _ _ _ (by omega) (by omega) (by omega) (by omega)).mono ?_; rintro e _ ⟨rfl, rfl⟩) | (go_at_call 66; refine (up_any _ _ _ (by omega) (by omega) (by omega) (by omega)).mono ?_; rintro e _ ⟨rfl, rfl⟩))
        refine bodyPost_ret (resRSlope _ _ (w.heap.size + 1) (.int .i64 (du * 1000 / xl)) (.int .i64 (-(-(dv * 1000) / xh))) (.int .i64 0) rfl rfl ?_) rfl ?_
        · refine heap_set2 ((Below.block (B := go) (w := ws) ?_ (w.heap.size + 1) hy69).trans GXs.out)
          (repeat' (first | (with_reducible exact Below.refl _ _) | (with_reducible refine Below.alloc ?_ ?_ _) | (with_reducible refine Below.drew ?_) | (with_reducible refine Below.drewN_ ?_ _) | (with_reducible refine Below.setCell ?_ ?_ _) | (with_reducible refine Below.setRow ?_ ?_ _) | (with_reducible refine Below.via ?_ (by with_reducible assumption) ?_) | go_size))
        · rw [HV1.out, HV2.out]
          refine ⟨?_, by (repeat' (first | (with_reducible exact Below.refl _ _) | (with_reducible refine Below.alloc ?_ ?_ _) | (with_reducible refine Below.drew ?_) | (with_reducible refine Below.drewN_ ?_ _) | (with_reducible refine Below.setCell ?_ ?_ _) | (with_reducible refine Below.setRow ?_ ?_ _) | (with_reducible refine Below.via ?_ (by with_reducible assumption) ?_) | go_size))⟩
          (try rw [← HA1.out]); (try rw [← HA2.out])
          rw [if_pos (by omega), if_pos (by omega)]
      · go_wp2_with (first | (go_at_call 65; refine (down_any _ _ _ (by omega) (by omega) (by omega) (by omega)).mono ?_; rintro e _ ⟨rfl, rfl⟩) | (go_at_call 66; refine (up_any _ _ _ (by omega) (by omega) (by omega) (by omega)).mono ?_; rintro e _ ⟨rfl, rfl⟩))
        refine bodyPost_ret (resRSlope _ _ (w.heap.size + 1) (.int .i64 (du * 1000 / xl)) (.int .i64 a2) (.int .i64 0) rfl rfl ?_) rfl ?_
        · refine heap_set2 ((Below.block (B := go) (w := ws) ?_ (w.heap.size + 1) hy69).trans GXs.out)
          (repeat' (first | (with_reducible exact Below.refl _ _) | (with_reducible refine Below.alloc ?_ ?_ _) | (with_reducible refine Below.drew ?_) | (with_reducible refine Below.drewN_ ?_ _) | (with_reducible refine Below.setCell ?_ ?_ _) | (with_reducible refine Below.setRow ?_ ?_ _) | (with_reducible refine Below.via ?_ (by with_reducible assumption) ?_) | go_size))
        · rw [HV1.out, HV2.out]
          refine ⟨?_, by (repeat' (first | (with_reducible exact Below.refl _ _) | (with_reducible refine Below.alloc ?_ ?_ _) | (with_reducible refine Below.drew ?_) | (with_reducible refine Below.drewN_ ?_ _) | (with_reducible refine Below.setCell ?_ ?_ _) | (with_reducible refine Below.setRow ?_ ?_ _) | (with_reducible refine Below.via ?_ (by with_reducible assumption) ?_) | go_size))⟩
          (try rw [← HA1.out]); (try rw [← HA2.out])
          rw [if_pos (by omega), if_neg (by omega)]
      · go_wp2_with (first | (go_at_call 65; refine (down_any _ _ _ (by omega) (by omega) (by omega) (by omega)).mono ?_; rintro e _ ⟨rfl, rfl⟩) | (go_at_call 66; refine (up_any _ _ _ (by omega) (by omega) (by omega) (by omega)).mono ?_; rintro e _ ⟨rfl, rfl⟩))
        refine bodyPost_ret (resRSlope _ _ (w.heap.size + 1) (.int .i64 a1) (.int .i64 (-(-(dv * 1000) / xh))) (.int .i64 0) rfl rfl ?_) rfl ?_
        · refine heap_set2 ((Below.block (B := go) (w := ws) ?_ (w.heap.size + 1) hy69).trans GXs.out)
          (repeat' (first | (with_reducible exact Below.refl _ _) | (with_reducible refine Below.alloc ?_ ?_ _) | (with_reducible refine Below.drew ?_) | (with_reducible refine Below.drewN_ ?_ _) | (with_reducible refine Below.setCell ?_ ?_ _) | (with_reducible refine Below.setRow ?_ ?_ _) | (with_reducible refine Below.via ?_ (by with_reducible assumption) ?_) | go_size))
        · rw [HV1.out, HV2.out]
          refine ⟨?_, by (repeat' (first | (with_reducible exact Below.refl _ _) | (with_reducible refine Below.alloc ?_ ?_ _) | (with_reducible refine Below.drew ?_) | (with_reducible refine Below.drewN_ ?_ _) | (with_reducible refine Below.setCell ?_ ?_ _) | (with_reducible refine Below.setRow ?_ ?_ _) | (with_reducible refine Below.via ?_ (by with_reducible assumption) ?_) | go_size))⟩
          (try rw [← HA1.out]); (try rw [← HA2.out])
          rw [if_neg (by omega), if_pos (by omega)]
      · go_wp2_with (first | (go_at_call 65; refine (down_any _ _ _ (by omega) (by omega) (by omega) (by omega)).mono ?_; rintro e _ ⟨rfl, rfl⟩) | (go_at_call 66; refine (up_any _ _ _ (by omega) (by omega) (by omega) (by omega)).mono ?_; rintro e _ ⟨rfl, rfl⟩))
        refine bodyPost_ret (resRSlope _ _ (w.heap.size + 1) (.int .i64 a1) (.int .i64 a2) (.int .i64 0) rfl rfl ?_) rfl ?_
        · refine heap_set2 ((Below.block (B := go) (w := ws) ?_ (w.heap.size + 1) hy69).trans GXs.out)
          (repeat' (first | (with_reducible exact Below.refl _ _) | (with_reducible refine Below.alloc ?_ ?_ _) | (with_reducible refine Below.drew ?_) | (with_reducible refine Below.drewN_ ?_ _) | (with_reducible refine Below.setCell ?_ ?_ _) | (with_reducible refine Below.setRow ?_ ?_ _) | (with_reducible refine Below.via ?_ (by with_reducible assumption) ?_) | go_size))
        · rw [HV1.out, HV2.out]
          refine ⟨?_, by (repeat' (first | (with_reducible exact Below.refl _ _) | (with_reducible refine Below.alloc ?_ ?_ _) | (with_reducible refine Below.drew ?_) | (with_reducible refine Below.drewN_ ?_ _) | (with_reducible refine Below.setCell ?_ ?_ _) | (with_reducible refine Below.setRow ?_ ?_ _) | (with_reducible refine Below.via ?_ (by with_reducible assumption) ?_) | go_size))⟩
          (try rw [← HA1.out]); (try rw [← HA2.out])
          rw [if_neg (by omega), if_neg (by omega)]

theorem rSlope_any (s : Sv) (i : Int) (c1 c2 c3 : Nat) (A1 A2 A3 : Option Addr) (w : World)
    (r1 : Rd w w.heap.size A1 shV 4 s.shots) (r2 : Rd w w.heap.size A2 mkV 3 s.marks) (r3 : Rd w w.heap.size A3 shV 4 s.threads) :
    Calls Try.prog 32 #[.agg #[.int .i64 s.n, .slice A1 s.shots.length c1, .slice A2 s.marks.length c2, .slice A3 s.threads.length c3], .int .i64 i] w fun e w' =>
      e = .returned (.tuple #[.agg #[.int .i64 (lvSlope s i).1.1, .int .i64 (lvSlope s i).1.2], .int .i64 (lvSlope s i).2]) ∧ Below w.heap.size w w' := by
  cases hok : svOk s
  · exact rslope_bad s i c1 c2 c3 A1 A2 A3 w r1 r2 r3 hok
  · cases hin : inR 0 ((s.threads.length : Int) - 1) i
    · exact rslope_none s i c1 c2 c3 A1 A2 A3 w r1 r2 r3 hok hin
    · obtain ⟨D, b, hR⟩ : ∃ D b, svD s = (D, b) := ⟨_, _, rfl⟩
      cases b
      · exact rslope_apart s i c1 c2 c3 A1 A2 A3 w r1 r2 r3 hok hin (by rw [hR])
      · exact rslope_fine s i c1 c2 c3 A1 A2 A3 w r1 r2 r3 hok hin D hR

end Go.Proofs.Ytbolfjlfpkgfiaa
