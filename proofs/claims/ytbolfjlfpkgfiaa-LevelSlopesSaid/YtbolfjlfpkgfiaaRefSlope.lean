/- The reference's Slope answers what level's does, of every survey that reads as plain data. -/
import Derived.Test.YtbolfjlfpkgfiaaRefHts
import Derived.Test.YtbolfjlfpkgfiaaRefDiv
import Derived.Test.YtbolfjlfpkgfiaaLevSlopeA
namespace Go.Proofs.Ytbolfjlfpkgfiaa
open Go.RowKit

theorem resRSlope (tmps : Array Value) (W : World) (g : Nat) (x y : Value) (e : Value) (h1 : tmps.getD 4 undef = .pointer (some ⟨g, 0, none⟩)) (h2 : tmps.getD 5 undef = e) (hM : W.heap[g]? = some (.cells #[x, y] 36 (0, 0))) :
    (results Try.f32 tmps).run Try.prog W = .ok (.tuple #[.agg #[x, y], e]) W := by
  rw [results_cell_tmp Try.results32, h1, h2]
  simp only [asAddr, Sem.run_pure, Result.andThen_ok]
  rw [run_loadVar_row W g _ _ #[x, y] (0, 0) _ hM Try.underlying36 rfl info36']
  rfl

theorem thrAt_in {s : Sv} {i : Int} (hin : inR 0 ((s.threads.length : Int) - 1) i = true) : ∃ k, ∃ h : k < s.threads.length, i = (k : Int) ∧ thrAt s i = some s.threads[k] := by
  unfold inR at hin
  simp only [Bool.and_eq_true, decide_eq_true_eq] at hin
  refine ⟨i.toNat, by omega, by omega, ?_⟩
  unfold thrAt
  rw [if_pos (by omega), List.getElem?_eq_getElem (by omega)]
theorem thr_in {s : Sv} (hok : svOk s = true) {k : Nat} (h : k < s.threads.length) : (inB s.n s.threads[k].f && inB s.n s.threads[k].t) = true := by
  have hthr := shOk_spec ((svOk_spec hok).2.2.2 s.threads[k] (List.getElem_mem h))
  unfold inB
  simp only [Bool.and_eq_true, decide_eq_true_eq]
  omega
theorem lvSlope_apart {s : Sv} {i : Int} (hok : svOk s = true) (hin : inR 0 ((s.threads.length : Int) - 1) i = true) (hF : (svD s).2 = false) : lvSlope s i = ((0, 0), 11) := by
  obtain ⟨k, hk, rfl, e0⟩ := thrAt_in hin
  have hf : lvFall s s.threads[k].f s.threads[k].t = ((0, 0), 11) := by unfold lvFall; rw [if_neg (by rw [hok]; simp), if_neg (by rw [thr_in hok hk]; simp), if_pos hF]
  unfold lvSlope
  rw [if_neg (by rw [hok]; simp), e0]
  dsimp only
  rw [hf]
  rfl
theorem lvSlope_fine {s : Sv} {k : Nat} (hok : svOk s = true) (hk : k < s.threads.length) {D : Mat} (hF : svD s = (D, true)) : lvSlope s (k : Int) = (slp (-(D s.threads[k].f.toNat s.threads[k].t.toNat)) (D s.threads[k].t.toNat s.threads[k].f.toNat) s.threads[k].lo s.threads[k].hi, 0) := by
  have e0 : thrAt s (k : Int) = some s.threads[k] := by
    unfold thrAt
    rw [if_pos (by omega), Int.toNat_natCast, List.getElem?_eq_getElem hk]
  have hf : lvFall s s.threads[k].f s.threads[k].t = ((-(D s.threads[k].f.toNat s.threads[k].t.toNat), D s.threads[k].t.toNat s.threads[k].f.toNat), 0) := by unfold lvFall; rw [if_neg (by rw [hok]; simp), if_neg (by rw [thr_in hok hk]; simp), if_neg (by rw [hF]; simp), hF]
  unfold lvSlope
  rw [if_neg (by rw [hok]; simp), e0]
  dsimp only
  rw [hf]
  rfl

theorem div_le_div_left {n a b : Int} (h0 : 0 ≤ n) (ha : 1 ≤ a) (hab : a ≤ b) : n / b ≤ n / a := by
  rw [Int.le_ediv_iff_mul_le (by omega)]
  have h1 : n / b * b ≤ n := Int.ediv_mul_le n (by omega)
  have h2 : 0 ≤ n / b := Int.ediv_nonneg h0 (by omega)
  have h3 : n / b * a ≤ n / b * b := Int.mul_le_mul_of_nonneg_left hab h2
  omega
theorem div_le_div_neg {n a b : Int} (h0 : n ≤ 0) (ha : 1 ≤ a) (hab : a ≤ b) : n / a ≤ n / b := by
  rw [Int.le_ediv_iff_mul_le (by omega)]
  have h1 : n / a * a ≤ n := Int.ediv_mul_le n (by omega)
  have h2 : n / a ≤ 0 := by
    refine Int.ediv_le_of_le_mul (by omega) ?_
    omega
  have h3 : n / a * b ≤ n / a * a := Int.mul_le_mul_of_nonpos_left h2 hab
  omega
theorem slp_eq {lo hi a b : Int} (ha : 1 ≤ a) (hab : a ≤ b) : slp lo hi a b = (if lo < 0 then lo * 1000 / a else lo * 1000 / b, if hi < 0 then -(-(hi * 1000) / b) else -(-(hi * 1000) / a)) := by
  unfold slp
  have e : -hi * 1000 = -(hi * 1000) := by omega
  rw [e]
  congr 1
  · split
    · have := div_le_div_neg (n := lo * 1000) (by omega) ha hab
      omega
    · have := div_le_div_left (n := lo * 1000) (by omega) ha hab
      omega
  · split
    · have := div_le_div_left (n := -(hi * 1000)) (by omega) ha hab
      omega
    · have := div_le_div_neg (n := -(hi * 1000)) (by omega) ha hab
      omega

set_option maxRecDepth 100000 in
set_option maxHeartbeats 2000000 in
theorem rslope_bad (s : Sv) (i : Int) (c1 c2 c3 : Nat) (A1 A2 A3 : Option Addr) (w : World)
    (r1 : Rd w w.heap.size A1 shV 4 s.shots) (r2 : Rd w w.heap.size A2 mkV 3 s.marks) (r3 : Rd w w.heap.size A3 shV 4 s.threads) (hok : svOk s = false) :
    Calls Try.prog 32 #[.agg #[.int .i64 s.n, .slice A1 s.shots.length c1, .slice A2 s.marks.length c2, .slice A3 s.threads.length c3], .int .i64 i] w fun e w' =>
      e = .returned (.tuple #[.agg #[.int .i64 (lvSlope s i).1.1, .int .i64 (lvSlope s i).1.2], .int .i64 (lvSlope s i).2]) ∧ Below w.heap.size w w' := by
  have hb0 : Below w.heap.size w ((w.alloc (Obj.cells #[Value.int IntKind.i64 s.n, Value.slice A1 s.shots.length c1, Value.slice A2 s.marks.length c2, Value.slice A3 s.threads.length c3] 26)).alloc (Obj.cells #[Value.int IntKind.i64 0, Value.int IntKind.i64 0] 36)) := by (repeat' (first | (with_reducible exact Below.refl _ _) | (with_reducible refine Below.alloc ?_ ?_ _) | (with_reducible refine Below.drew ?_) | (with_reducible refine Below.drewN_ ?_ _) | (with_reducible refine Below.setCell ?_ ?_ _) | (with_reducible refine Below.setRow ?_ ?_ _) | (with_reducible refine Below.via ?_ (by with_reducible assumption) ?_) | go_size))
  have R1 := Lib.hid ((r1.below hb0).more hb0.size)
  have R2 := Lib.hid ((r2.below hb0).more hb0.size)
  have R3 := Lib.hid ((r3.below hb0).more hb0.size)
  have P1 := Lib.hid r1
  have P2 := Lib.hid r2
  clear r1 r2 r3
  have HC := Lib.hid (rcheck_any s c1 c2 c3 A1 A2 A3 ((w.alloc (Obj.cells #[Value.int IntKind.i64 s.n, Value.slice A1 s.shots.length c1, Value.slice A2 s.marks.length c2, Value.slice A3 s.threads.length c3] 26)).alloc (Obj.cells #[Value.int IntKind.i64 0, Value.int IntKind.i64 0] 36)) R1.out R2.out R3.out)
  have G0 := Lib.hid (heap_alloc2_new w (Obj.cells #[Value.int IntKind.i64 s.n, Value.slice A1 s.shots.length c1, Value.slice A2 s.marks.length c2, Value.slice A3 s.threads.length c3] 26) (Obj.cells #[Value.int IntKind.i64 0, Value.int IntKind.i64 0] 36))
  have e1 : svErr s = 10 := by unfold svErr; rw [hok]; rfl
  have e2 : lvSlope s i = ((0, 0), 10) := by unfold lvSlope; rw [if_pos hok]
  rw [e1] at HC
  rw [e2]
  clear e1 e2 hok
  go_enter Try.func32, Try.ntmps32
  go_wp2_with (go_at_call 21; refine HC.out.mono ?_; rintro e w1 ⟨rfl, hb1⟩; obtain ⟨hc1, hf1⟩ := bcell hb1; have hz1 := hb1.size; (try simp at hz1); (have hy1 : w.heap.size < w1.heap.size := by omega); (have hy2 : w.heap.size + 1 < w1.heap.size := by omega); have GX := Lib.hid ((hb1.block (w.heap.size + 1) (by simp <;> omega)).trans G0.out))
  refine bodyPost_ret (resRSlope _ _ (w.heap.size + 1) (.int .i64 0) (.int .i64 0) (.int .i64 10) rfl rfl ?_) rfl ?_
  · exact heap_set2 GX.out
  · exact ⟨rfl, by (repeat' (first | (with_reducible exact Below.refl _ _) | (with_reducible refine Below.alloc ?_ ?_ _) | (with_reducible refine Below.drew ?_) | (with_reducible refine Below.drewN_ ?_ _) | (with_reducible refine Below.setCell ?_ ?_ _) | (with_reducible refine Below.setRow ?_ ?_ _) | (with_reducible refine Below.via ?_ (by with_reducible assumption) ?_) | go_size))⟩

set_option maxRecDepth 100000 in
set_option maxHeartbeats 2000000 in
theorem rslope_none (s : Sv) (i : Int) (c1 c2 c3 : Nat) (A1 A2 A3 : Option Addr) (w : World)
    (r1 : Rd w w.heap.size A1 shV 4 s.shots) (r2 : Rd w w.heap.size A2 mkV 3 s.marks) (r3 : Rd w w.heap.size A3 shV 4 s.threads) (hok : svOk s = true) (hin : inR 0 ((s.threads.length : Int) - 1) i = false) :
    Calls Try.prog 32 #[.agg #[.int .i64 s.n, .slice A1 s.shots.length c1, .slice A2 s.marks.length c2, .slice A3 s.threads.length c3], .int .i64 i] w fun e w' =>
      e = .returned (.tuple #[.agg #[.int .i64 (lvSlope s i).1.1, .int .i64 (lvSlope s i).1.2], .int .i64 (lvSlope s i).2]) ∧ Below w.heap.size w w' := by
  have hb0 : Below w.heap.size w ((w.alloc (Obj.cells #[Value.int IntKind.i64 s.n, Value.slice A1 s.shots.length c1, Value.slice A2 s.marks.length c2, Value.slice A3 s.threads.length c3] 26)).alloc (Obj.cells #[Value.int IntKind.i64 0, Value.int IntKind.i64 0] 36)) := by (repeat' (first | (with_reducible exact Below.refl _ _) | (with_reducible refine Below.alloc ?_ ?_ _) | (with_reducible refine Below.drew ?_) | (with_reducible refine Below.drewN_ ?_ _) | (with_reducible refine Below.setCell ?_ ?_ _) | (with_reducible refine Below.setRow ?_ ?_ _) | (with_reducible refine Below.via ?_ (by with_reducible assumption) ?_) | go_size))
  have R1 := Lib.hid ((r1.below hb0).more hb0.size)
  have R2 := Lib.hid ((r2.below hb0).more hb0.size)
  have R3 := Lib.hid ((r3.below hb0).more hb0.size)
  have P1 := Lib.hid r1
  have P2 := Lib.hid r2
  clear r1 r2 r3
  have HC := Lib.hid (rcheck_any s c1 c2 c3 A1 A2 A3 ((w.alloc (Obj.cells #[Value.int IntKind.i64 s.n, Value.slice A1 s.shots.length c1, Value.slice A2 s.marks.length c2, Value.slice A3 s.threads.length c3] 26)).alloc (Obj.cells #[Value.int IntKind.i64 0, Value.int IntKind.i64 0] 36)) R1.out R2.out R3.out)
  have G0 := Lib.hid (heap_alloc2_new w (Obj.cells #[Value.int IntKind.i64 s.n, Value.slice A1 s.shots.length c1, Value.slice A2 s.marks.length c2, Value.slice A3 s.threads.length c3] 26) (Obj.cells #[Value.int IntKind.i64 0, Value.int IntKind.i64 0] 36))
  obtain ⟨⟨n1, n2, _⟩, _⟩ := svOk_spec hok
  have e1 : svErr s = 0 := by unfold svErr; rw [hok]; rfl
  rw [e1] at HC
  have e0 : thrAt s i = none := by
    unfold thrAt
    unfold inR at hin
    simp only [Bool.and_eq_false_iff, decide_eq_false_iff_not] at hin
    split
    · rw [List.getElem?_eq_none_iff]; omega
    · rfl
  have e2 : lvSlope s i = ((0, 0), 12) := by unfold lvSlope; rw [if_neg (by rw [hok]; simp), e0]
  rw [e2]
  have l3 : s.threads.length ≤ 30 := (svOk_spec hok).1.2.2.2.2
  clear e1 e2 e0 hok
  go_enter Try.func32, Try.ntmps32
  go_wp2_with (first | (go_at_call 21; refine HC.out.mono ?_; rintro e w1 ⟨rfl, hb1⟩; obtain ⟨hc1, hf1⟩ := bcell hb1; have hz1 := hb1.size; (try simp at hz1); (have hy1 : w.heap.size < w1.heap.size := by omega); (have hy2 : w.heap.size + 1 < w1.heap.size := by omega); have GX := Lib.hid ((hb1.block (w.heap.size + 1) (by simp <;> omega)).trans G0.out)) | (go_at_call 50; refine (rwithin_any _ _ _ _).mono ?_; rintro e w1' ⟨rfl, rfl⟩))
  refine bodyPost_ret (resRSlope _ _ (w.heap.size + 1) (.int .i64 0) (.int .i64 0) (.int .i64 12) rfl rfl ?_) rfl ?_
  · exact heap_set2 GX.out
  · exact ⟨rfl, by (repeat' (first | (with_reducible exact Below.refl _ _) | (with_reducible refine Below.alloc ?_ ?_ _) | (with_reducible refine Below.drew ?_) | (with_reducible refine Below.drewN_ ?_ _) | (with_reducible refine Below.setCell ?_ ?_ _) | (with_reducible refine Below.setRow ?_ ?_ _) | (with_reducible refine Below.via ?_ (by with_reducible assumption) ?_) | go_size))⟩

set_option maxRecDepth 100000 in
set_option maxHeartbeats 4000000 in
theorem rslope_apart (s : Sv) (i : Int) (c1 c2 c3 : Nat) (A1 A2 A3 : Option Addr) (w : World)
    (r1 : Rd w w.heap.size A1 shV 4 s.shots) (r2 : Rd w w.heap.size A2 mkV 3 s.marks) (r3 : Rd w w.heap.size A3 shV 4 s.threads) (hok : svOk s = true) (hin : inR 0 ((s.threads.length : Int) - 1) i = true) (hF : (svD s).2 = false) :
    Calls Try.prog 32 #[.agg #[.int .i64 s.n, .slice A1 s.shots.length c1, .slice A2 s.marks.length c2, .slice A3 s.threads.length c3], .int .i64 i] w fun e w' =>
      e = .returned (.tuple #[.agg #[.int .i64 (lvSlope s i).1.1, .int .i64 (lvSlope s i).1.2], .int .i64 (lvSlope s i).2]) ∧ Below w.heap.size w w' := by
  have hb0 : Below w.heap.size w ((w.alloc (Obj.cells #[Value.int IntKind.i64 s.n, Value.slice A1 s.shots.length c1, Value.slice A2 s.marks.length c2, Value.slice A3 s.threads.length c3] 26)).alloc (Obj.cells #[Value.int IntKind.i64 0, Value.int IntKind.i64 0] 36)) := by (repeat' (first | (with_reducible exact Below.refl _ _) | (with_reducible refine Below.alloc ?_ ?_ _) | (with_reducible refine Below.drew ?_) | (with_reducible refine Below.drewN_ ?_ _) | (with_reducible refine Below.setCell ?_ ?_ _) | (with_reducible refine Below.setRow ?_ ?_ _) | (with_reducible refine Below.via ?_ (by with_reducible assumption) ?_) | go_size))
  have R1 := Lib.hid ((r1.below hb0).more hb0.size)
  have R2 := Lib.hid ((r2.below hb0).more hb0.size)
  have R3 := Lib.hid ((r3.below hb0).more hb0.size)
  have P1 := Lib.hid r1
  have P2 := Lib.hid r2
  clear r1 r2 r3
  have HC := Lib.hid (rcheck_any s c1 c2 c3 A1 A2 A3 ((w.alloc (Obj.cells #[Value.int IntKind.i64 s.n, Value.slice A1 s.shots.length c1, Value.slice A2 s.marks.length c2, Value.slice A3 s.threads.length c3] 26)).alloc (Obj.cells #[Value.int IntKind.i64 0, Value.int IntKind.i64 0] 36)) R1.out R2.out R3.out)
  have G0 := Lib.hid (heap_alloc2_new w (Obj.cells #[Value.int IntKind.i64 s.n, Value.slice A1 s.shots.length c1, Value.slice A2 s.marks.length c2, Value.slice A3 s.threads.length c3] 26) (Obj.cells #[Value.int IntKind.i64 0, Value.int IntKind.i64 0] 36))
  obtain ⟨⟨n1, n2, g3, g4, _⟩, _⟩ := svOk_spec hok
  have e1 : svErr s = 0 := by unfold svErr; rw [hok]; rfl
  rw [e1] at HC
  have l3 : s.threads.length ≤ 30 := (svOk_spec hok).1.2.2.2.2
  have e2 : lvSlope s i = ((0, 0), 11) := lvSlope_apart hok hin hF
  rw [e2]
  have HSN := Lib.hid (fun (W : World) gc cc (hb : Below w.heap.size w W) hBo => sides_no s c1 c2 c3 A1 A2 A3 W hok ((P1.out.below hb).more hb.size) ((P2.out.below hb).more hb.size) gc cc hBo hF)
  clear e1 e2 hok hF hb0
  go_enter Try.func32, Try.ntmps32
  go_upto_region 5 with (first | (go_at_call 21; refine HC.out.mono ?_; rintro e w1 ⟨rfl, hb1⟩; obtain ⟨hc1, hf1⟩ := bcell hb1; have hz1 := hb1.size; (try simp at hz1); (have hy1 : w.heap.size < w1.heap.size := by omega); (have hy2 : w.heap.size + 1 < w1.heap.size := by omega); have GX := Lib.hid ((hb1.block (w.heap.size + 1) (by simp <;> omega)).trans G0.out)) | (go_at_call 50; refine (rwithin_any _ _ _ _).mono ?_; rintro e w1' ⟨rfl, rfl⟩))
  have hbw : Below w.heap.size w w1 := by (repeat' (first | (with_reducible exact Below.refl _ _) | (with_reducible refine Below.alloc ?_ ?_ _) | (with_reducible refine Below.drew ?_) | (with_reducible refine Below.drewN_ ?_ _) | (with_reducible refine Below.setCell ?_ ?_ _) | (with_reducible refine Below.setRow ?_ ?_ _) | (with_reducible refine Below.via ?_ (by with_reducible assumption) ?_) | go_size))
  go_cut [6, 7] from 8 to 82 (fun a b W => a = .slice none 0 0 ∧ b = .bool false ∧ Below w.heap.size w W ∧ W.heap[w.heap.size + 1]? = some (.cells #[Value.int IntKind.i64 0, Value.int IntKind.i64 0] 36 (0, 0)))
  case first =>
    have m0 : w1.cell? ⟨w.heap.size, 0, none⟩ = some (.int .i64 s.n) := by rw [hc1 _ _ (by simp; omega)]; simp
    have m1 : w1.cell? ⟨w.heap.size, 1, none⟩ = some (.slice A1 s.shots.length c1) := by rw [hc1 _ _ (by simp; omega)]; simp
    have m2 : w1.cell? ⟨w.heap.size, 2, none⟩ = some (.slice A2 s.marks.length c2) := by rw [hc1 _ _ (by simp; omega)]; simp
    have m3 : w1.cell? ⟨w.heap.size, 3, none⟩ = some (.slice A3 s.threads.length c3) := by rw [hc1 _ _ (by simp; omega)]; simp
    clear hc1 hf1 hb1 hz1
    go_region_with (first
      | (go_at_call 48; refine (every_any s.n s.shots.length s.marks.length c1 c2 A1 A2 _ _ (by omega) (by omega)).mono ?_; rintro e w3 ⟨⟨gc, rfl, hgc, hBo⟩, hb3⟩; have n0 := (hb3.cell (p := ⟨w.heap.size, 0, none⟩) hy1).trans m0; have n1 := (hb3.cell (p := ⟨w.heap.size, 1, none⟩) hy1).trans m1; have n2 := (hb3.cell (p := ⟨w.heap.size, 2, none⟩) hy1).trans m2; have n3 := (hb3.cell (p := ⟨w.heap.size, 3, none⟩) hy1).trans m3; have HBO := Lib.hid hBo; clear hBo)
      | (go_at_call 47; refine (HSN.out _ _ _ (hbw.drew.trans (hb3.mono hbw.size)) HBO.out).mono ?_; rintro e w4 ⟨rfl, hb4⟩))
    all_goals
      have hzz : w.heap.size + 1 < w3.heap.size := by have h1 := hb3.size; simp at h1; omega
      have HGG := Lib.hid ((hb4.block (w.heap.size + 1) hzz).trans ((hb3.block (w.heap.size + 1) hy2).trans GX.out))
      go_wp2_with fail
      go_meet
      exact ⟨rfl, rfl, (hbw.drew.trans (hb3.mono hbw.size)).trans (hb4.mono (Nat.le_trans hbw.size hb3.size)), HGG.out⟩
  case rest =>
    obtain ⟨rfl, rfl, hb, hg⟩ := hcut
    clear hc1 hf1 hb1 hz1 hy1 hy2 hbw GX
    have f1 := frozen_of_row wc (w.heap.size + 1) 0 _ _ hg
    have f2 := frozen_of_row wc (w.heap.size + 1) 1 _ _ hg
    have x1 := cell_of_row wc (w.heap.size + 1) 0 _ _ _ hg
    have x2 := cell_of_row wc (w.heap.size + 1) 1 _ _ _ hg
    simp at x1 x2
    have GX := Lib.hid hg
    clear hg
    go_wp2
    refine bodyPost_ret (resRSlope _ _ (w.heap.size + 1) (.int .i64 0) (.int .i64 0) (.int .i64 11) rfl rfl ?_) rfl ?_
    · exact heap_set2 GX.out
    · exact ⟨rfl, by (repeat' (first | (with_reducible exact Below.refl _ _) | (with_reducible refine Below.alloc ?_ ?_ _) | (with_reducible refine Below.drew ?_) | (with_reducible refine Below.drewN_ ?_ _) | (with_reducible refine Below.setCell ?_ ?_ _) | (with_reducible refine Below.setRow ?_ ?_ _) | (with_reducible refine Below.via ?_ (by with_reducible assumption) ?_) | go_size))⟩

end Go.Proofs.Ytbolfjlfpkgfiaa
