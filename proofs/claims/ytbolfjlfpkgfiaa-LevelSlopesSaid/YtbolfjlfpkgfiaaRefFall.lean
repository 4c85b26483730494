/- The reference's Fall answers what level's does, of every survey that reads as plain data. -/
import Derived.Test.YtbolfjlfpkgfiaaRefHts
namespace Go.Proofs.Ytbolfjlfpkgfiaa
open Go.RowKit

theorem resRFall (tmps : Array Value) (W : World) (g : Nat) (x y : Value) (e : Value) (h1 : tmps.getD 6 undef = .pointer (some ⟨g, 0, none⟩)) (h2 : tmps.getD 7 undef = e) (hM : W.heap[g]? = some (.cells #[x, y] 36 (0, 0))) :
    (results Try.f19 tmps).run Try.prog W = .ok (.tuple #[.agg #[x, y], e]) W := by
  rw [results_cell_tmp Try.results19, h1, h2]
  simp only [asAddr, Sem.run_pure, Result.andThen_ok]
  rw [run_loadVar_row W g _ _ #[x, y] (0, 0) _ hM Try.underlying36 rfl info36']
  rfl

set_option maxRecDepth 100000 in
set_option maxHeartbeats 2000000 in
theorem rfall_bad (s : Sv) (from_ to_ : Int) (c1 c2 c3 : Nat) (A1 A2 A3 : Option Addr) (w : World)
    (r1 : Rd w w.heap.size A1 shV 4 s.shots) (r2 : Rd w w.heap.size A2 mkV 3 s.marks) (r3 : Rd w w.heap.size A3 shV 4 s.threads) (hok : svOk s = false) :
    Calls Try.prog 19 #[.agg #[.int .i64 s.n, .slice A1 s.shots.length c1, .slice A2 s.marks.length c2, .slice A3 s.threads.length c3], .int .i64 from_, .int .i64 to_] w fun e w' =>
      e = .returned (.tuple #[.agg #[.int .i64 (lvFall s from_ to_).1.1, .int .i64 (lvFall s from_ to_).1.2], .int .i64 (lvFall s from_ to_).2]) ∧ Below w.heap.size w w' := by
  have hb0 : Below w.heap.size w ((w.alloc (Obj.cells #[Value.int IntKind.i64 s.n, Value.slice A1 s.shots.length c1, Value.slice A2 s.marks.length c2, Value.slice A3 s.threads.length c3] 26)).alloc (Obj.cells #[Value.int IntKind.i64 0, Value.int IntKind.i64 0] 36)) := by (repeat' (first | (with_reducible exact Below.refl _ _) | (with_reducible refine Below.alloc ?_ ?_ _) | (with_reducible refine Below.drew ?_) | (with_reducible refine Below.drewN_ ?_ _) | (with_reducible refine Below.setCell ?_ ?_ _) | (with_reducible refine Below.setRow ?_ ?_ _) | (with_reducible refine Below.via ?_ (by with_reducible assumption) ?_) | go_size))
  have R1 := Lib.hid ((r1.below hb0).more hb0.size)
  have R2 := Lib.hid ((r2.below hb0).more hb0.size)
  have R3 := Lib.hid ((r3.below hb0).more hb0.size)
  have P1 := Lib.hid r1
  have P2 := Lib.hid r2
  clear r1 r2 r3
  have HC := Lib.hid (rcheck_any s c1 c2 c3 A1 A2 A3 ((w.alloc (Obj.cells #[Value.int IntKind.i64 s.n, Value.slice A1 s.shots.length c1, Value.slice A2 s.marks.length c2, Value.slice A3 s.threads.length c3] 26)).alloc (Obj.cells #[Value.int IntKind.i64 0, Value.int IntKind.i64 0] 36)) R1.out R2.out R3.out)
  have G0 := Lib.hid (heap_alloc2_new w (Obj.cells #[Value.int IntKind.i64 s.n, Value.slice A1 s.shots.length c1, Value.slice A2 s.marks.length c2, Value.slice A3 s.threads.length c3] 26) (Obj.cells #[Value.int IntKind.i64 0, Value.int IntKind.i64 0] 36))
  have e1 : svErr s = 10 := by unfold svErr; rw [hok]; rfl
  have e2 : lvFall s from_ to_ = ((0, 0), 10) := by unfold lvFall; rw [if_pos hok]
  rw [e1] at HC
  rw [e2]
  clear e1 e2 hok
  go_enter Try.func19, Try.ntmps19
  go_wp2_with (go_at_call 21; refine HC.out.mono ?_; rintro e w1 ⟨rfl, hb1⟩; obtain ⟨hc1, hf1⟩ := bcell hb1; have hz1 := hb1.size; (try simp at hz1); (have hy1 : w.heap.size < w1.heap.size := by omega); (have hy2 : w.heap.size + 1 < w1.heap.size := by omega); have GX := Lib.hid ((hb1.block (w.heap.size + 1) (by simp <;> omega)).trans G0.out))
  refine bodyPost_ret (resRFall _ _ (w.heap.size + 1) (.int .i64 0) (.int .i64 0) (.int .i64 10) rfl rfl ?_) rfl ?_
  · exact heap_set2 GX.out
  · exact ⟨rfl, by (repeat' (first | (with_reducible exact Below.refl _ _) | (with_reducible refine Below.alloc ?_ ?_ _) | (with_reducible refine Below.drew ?_) | (with_reducible refine Below.drewN_ ?_ _) | (with_reducible refine Below.setCell ?_ ?_ _) | (with_reducible refine Below.setRow ?_ ?_ _) | (with_reducible refine Below.via ?_ (by with_reducible assumption) ?_) | go_size))⟩

set_option maxRecDepth 100000 in
set_option maxHeartbeats 2000000 in
theorem rfall_arg (s : Sv) (from_ to_ : Int) (c1 c2 c3 : Nat) (A1 A2 A3 : Option Addr) (w : World)
    (r1 : Rd w w.heap.size A1 shV 4 s.shots) (r2 : Rd w w.heap.size A2 mkV 3 s.marks) (r3 : Rd w w.heap.size A3 shV 4 s.threads) (hok : svOk s = true) (hin : (inB s.n from_ && inB s.n to_) = false) :
    Calls Try.prog 19 #[.agg #[.int .i64 s.n, .slice A1 s.shots.length c1, .slice A2 s.marks.length c2, .slice A3 s.threads.length c3], .int .i64 from_, .int .i64 to_] w fun e w' =>
      e = .returned (.tuple #[.agg #[.int .i64 (lvFall s from_ to_).1.1, .int .i64 (lvFall s from_ to_).1.2], .int .i64 (lvFall s from_ to_).2]) ∧ Below w.heap.size w w' := by
  have hb0 : Below w.heap.size w ((w.alloc (Obj.cells #[Value.int IntKind.i64 s.n, Value.slice A1 s.shots.length c1, Value.slice A2 s.marks.length c2, Value.slice A3 s.threads.length c3] 26)).alloc (Obj.cells #[Value.int IntKind.i64 0, Value.int IntKind.i64 0] 36)) := by (repeat' (first | (with_reducible exact Below.refl _ _) | (with_reducible refine Below.alloc ?_ ?_ _) | (with_reducible refine Below.drew ?_) | (with_reducible refine Below.drewN_ ?_ _) | (with_reducible refine Below.setCell ?_ ?_ _) | (with_reducible refine Below.setRow ?_ ?_ _) | (with_reducible refine Below.via ?_ (by with_reducible assumption) ?_) | go_size))
  have R1 := Lib.hid ((r1.below hb0).more hb0.size)
  have R2 := Lib.hid ((r2.below hb0).more hb0.size)
  have R3 := Lib.hid ((r3.below hb0).more hb0.size)
  have P1 := Lib.hid r1
  have P2 := Lib.hid r2
  clear r1 r2 r3
  have HC := Lib.hid (rcheck_any s c1 c2 c3 A1 A2 A3 ((w.alloc (Obj.cells #[Value.int IntKind.i64 s.n, Value.slice A1 s.shots.length c1, Value.slice A2 s.marks.length c2, Value.slice A3 s.threads.length c3] 26)).alloc (Obj.cells #[Value.int IntKind.i64 0, Value.int IntKind.i64 0] 36)) R1.out R2.out R3.out)
  have G0 := Lib.hid (heap_alloc2_new w (Obj.cells #[Value.int IntKind.i64 s.n, Value.slice A1 s.shots.length c1, Value.slice A2 s.marks.length c2, Value.slice A3 s.threads.length c3] 26) (Obj.cells #[Value.int IntKind.i64 0, Value.int IntKind.i64 0] 36))
  obtain ⟨⟨n1, n2, _⟩, _⟩ := svOk_spec hok
  have e1 : svErr s = 0 := by unfold svErr; rw [hok]; rfl
  rw [e1] at HC
  have e2 : lvFall s from_ to_ = ((0, 0), 2) := by unfold lvFall; rw [if_neg (by rw [hok]; simp), if_pos hin]
  rw [e2]
  have hin' : inR 0 (s.n - 1) from_ = false ∨ (inR 0 (s.n - 1) from_ = true ∧ inR 0 (s.n - 1) to_ = false) := by
    rw [inR_inB, inR_inB]
    cases h1 : inB s.n from_
    · exact .inl rfl
    · rw [h1] at hin; exact .inr ⟨rfl, by simpa using hin⟩
  clear e1 e2 hin hok
  rcases hin' with h1 | ⟨h1, h2⟩
  all_goals
    go_enter Try.func19, Try.ntmps19
    go_wp2_with (first | (go_at_call 21; refine HC.out.mono ?_; rintro e w1 ⟨rfl, hb1⟩; obtain ⟨hc1, hf1⟩ := bcell hb1; have hz1 := hb1.size; (try simp at hz1); (have hy1 : w.heap.size < w1.heap.size := by omega); (have hy2 : w.heap.size + 1 < w1.heap.size := by omega); have GX := Lib.hid ((hb1.block (w.heap.size + 1) (by simp <;> omega)).trans G0.out)) | (go_at_call 50; refine (rwithin_any _ _ _ _).mono ?_; rintro e w1' ⟨rfl, rfl⟩))
    refine bodyPost_ret (resRFall _ _ (w.heap.size + 1) (.int .i64 0) (.int .i64 0) (.int .i64 2) rfl rfl ?_) rfl ?_
    · exact heap_set2 GX.out
    · exact ⟨rfl, by (repeat' (first | (with_reducible exact Below.refl _ _) | (with_reducible refine Below.alloc ?_ ?_ _) | (with_reducible refine Below.drew ?_) | (with_reducible refine Below.drewN_ ?_ _) | (with_reducible refine Below.setCell ?_ ?_ _) | (with_reducible refine Below.setRow ?_ ?_ _) | (with_reducible refine Below.via ?_ (by with_reducible assumption) ?_) | go_size))⟩

set_option maxRecDepth 100000 in
set_option maxHeartbeats 4000000 in
theorem rfall_apart (s : Sv) (from_ to_ : Int) (c1 c2 c3 : Nat) (A1 A2 A3 : Option Addr) (w : World)
    (r1 : Rd w w.heap.size A1 shV 4 s.shots) (r2 : Rd w w.heap.size A2 mkV 3 s.marks) (r3 : Rd w w.heap.size A3 shV 4 s.threads) (hok : svOk s = true) (hin : (inB s.n from_ && inB s.n to_) = true) (hF : (svD s).2 = false) :
    Calls Try.prog 19 #[.agg #[.int .i64 s.n, .slice A1 s.shots.length c1, .slice A2 s.marks.length c2, .slice A3 s.threads.length c3], .int .i64 from_, .int .i64 to_] w fun e w' =>
      e = .returned (.tuple #[.agg #[.int .i64 (lvFall s from_ to_).1.1, .int .i64 (lvFall s from_ to_).1.2], .int .i64 (lvFall s from_ to_).2]) ∧ Below w.heap.size w w' := by
  have hb0 : Below w.heap.size w ((w.alloc (Obj.cells #[Value.int IntKind.i64 s.n, Value.slice A1 s.shots.length c1, Value.slice A2 s.marks.length c2, Value.slice A3 s.threads.length c3] 26)).alloc (Obj.cells #[Value.int IntKind.i64 0, Value.int IntKind.i64 0] 36)) := by (repeat' (first | (with_reducible exact Below.refl _ _) | (with_reducible refine Below.alloc ?_ ?_ _) | (with_reducible refine Below.drew ?_) | (with_reducible refine Below.drewN_ ?_ _) | (with_reducible refine Below.setCell ?_ ?_ _) | (with_reducible refine Below.setRow ?_ ?_ _) | (with_reducible refine Below.via ?_ (by with_reducible assumption) ?_) | go_size))
  have R1 := Lib.hid ((r1.below hb0).more hb0.size)
  have R2 := Lib.hid ((r2.below hb0).more hb0.size)
  have R3 := Lib.hid ((r3.below hb0).more hb0.size)
  have P1 := Lib.hid r1
  have P2 := Lib.hid r2
  clear r1 r2 r3
  have HC := Lib.hid (rcheck_any s c1 c2 c3 A1 A2 A3 ((w.alloc (Obj.cells #[Value.int IntKind.i64 s.n, Value.slice A1 s.shots.length c1, Value.slice A2 s.marks.length c2, Value.slice A3 s.threads.length c3] 26)).alloc (Obj.cells #[Value.int IntKind.i64 0, Value.int IntKind.i64 0] 36)) R1.out R2.out R3.out)
  have G0 := Lib.hid (heap_alloc2_new w (Obj.cells #[Value.int IntKind.i64 s.n, Value.slice A1 s.shots.length c1, Value.slice A2 s.marks.length c2, Value.slice A3 s.threads.length c3] 26) (Obj.cells #[Value.int IntKind.i64 0, Value.int IntKind.i64 0] 36))
  obtain ⟨⟨n1, n2, g3, g4, _⟩, _⟩ := svOk_spec hok
  have h12 : inR 0 (s.n - 1) from_ = true ∧ inR 0 (s.n - 1) to_ = true := by rw [inR_inB, inR_inB]; simpa using hin
  obtain ⟨h1, h2⟩ := h12
  have e1 : svErr s = 0 := by unfold svErr; rw [hok]; rfl
  rw [e1] at HC
  have e2 : lvFall s from_ to_ = ((0, 0), 11) := by unfold lvFall; rw [if_neg (by rw [hok]; simp), if_neg (by rw [hin]; simp), if_pos hF]
  rw [e2]
  have HSN := Lib.hid (fun (W : World) gc cc (hb : Below w.heap.size w W) hBo => sides_no s c1 c2 c3 A1 A2 A3 W hok ((P1.out.below hb).more hb.size) ((P2.out.below hb).more hb.size) gc cc hBo hF)
  clear e1 e2 hin hok hF hb0
  go_enter Try.func19, Try.ntmps19
  go_upto_region 5 with (first | (go_at_call 21; refine HC.out.mono ?_; rintro e w1 ⟨rfl, hb1⟩; obtain ⟨hc1, hf1⟩ := bcell hb1; have hz1 := hb1.size; (try simp at hz1); (have hy1 : w.heap.size < w1.heap.size := by omega); (have hy2 : w.heap.size + 1 < w1.heap.size := by omega); have GX := Lib.hid ((hb1.block (w.heap.size + 1) (by simp <;> omega)).trans G0.out)) | (go_at_call 50; refine (rwithin_any _ _ _ _).mono ?_; rintro e w1' ⟨rfl, rfl⟩))
  have hbw : Below w.heap.size w w1 := by (repeat' (first | (with_reducible exact Below.refl _ _) | (with_reducible refine Below.alloc ?_ ?_ _) | (with_reducible refine Below.drew ?_) | (with_reducible refine Below.drewN_ ?_ _) | (with_reducible refine Below.setCell ?_ ?_ _) | (with_reducible refine Below.setRow ?_ ?_ _) | (with_reducible refine Below.via ?_ (by with_reducible assumption) ?_) | go_size))
  go_cut [8, 9] from 10 to 42 (fun a b W => a = .slice none 0 0 ∧ b = .bool false ∧ Below w.heap.size w W ∧ W.heap[w.heap.size + 1]? = some (.cells #[Value.int IntKind.i64 0, Value.int IntKind.i64 0] 36 (0, 0)))
  case first =>
    have m0 : w1.cell? ⟨w.heap.size, 0, none⟩ = some (.int .i64 s.n) := by rw [hc1 _ _ (by simp; omega)]; simp
    have m1 : w1.cell? ⟨w.heap.size, 1, none⟩ = some (.slice A1 s.shots.length c1) := by rw [hc1 _ _ (by simp; omega)]; simp
    have m2 : w1.cell? ⟨w.heap.size, 2, none⟩ = some (.slice A2 s.marks.length c2) := by rw [hc1 _ _ (by simp; omega)]; simp
    have m3 : w1.cell? ⟨w.heap.size, 3, none⟩ = some (.slice A3 s.threads.length c3) := by rw [hc1 _ _ (by simp; omega)]; simp
    clear hc1 hf1 hb1 hz1 h1 h2
    go_region_with (first
      | (go_at_call 48; refine (every_any s.n s.shots.length s.marks.length c1 c2 A1 A2 _ _ (by omega) (by omega)).mono ?_; rintro e w3 ⟨⟨gc, rfl, hgc, hBo⟩, hb3⟩; have n0 := (hb3.cell (p := ⟨w.heap.size, 0, none⟩) hy1).trans m0; have n1 := (hb3.cell (p := ⟨w.heap.size, 1, none⟩) hy1).trans m1; have n2 := (hb3.cell (p := ⟨w.heap.size, 2, none⟩) hy1).trans m2; have n3 := (hb3.cell (p := ⟨w.heap.size, 3, none⟩) hy1).trans m3; have HBO := Lib.hid hBo; clear hBo)
      | (go_at_call 47; refine (HSN.out _ _ _ (hbw.drew.trans (hb3.mono hbw.size)) HBO.out).mono ?_; rintro e w4 ⟨rfl, hb4⟩))
    all_goals
      have hzz : w.heap.size + 1 < w3.heap.size := by have h1 := hb3.size; simp at h1; omega
      have HGG := Lib.hid ((hb4.block (w.heap.size + 1) hzz).trans ((hb3.block (w.heap.size + 1) hy2).trans GX.out))
      go_wp2_with fail
      go_meet
      exact ⟨rfl, rfl, (hbw.drew.trans (hb3.mono hbw.size)).trans (hb4.mono (Nat.le_trans hbw.size hb3.size)), HGG.out⟩
  case rest =>
    obtain ⟨rfl, rfl, hb, hg⟩ := hcut
    clear hc1 hf1 hb1 hz1 hy1 hy2 hbw GX h1 h2
    have f1 := frozen_of_row wc (w.heap.size + 1) 0 _ _ hg
    have f2 := frozen_of_row wc (w.heap.size + 1) 1 _ _ hg
    have x1 := cell_of_row wc (w.heap.size + 1) 0 _ _ _ hg
    have x2 := cell_of_row wc (w.heap.size + 1) 1 _ _ _ hg
    simp at x1 x2
    have GX := Lib.hid hg
    clear hg
    go_wp2
    refine bodyPost_ret (resRFall _ _ (w.heap.size + 1) (.int .i64 0) (.int .i64 0) (.int .i64 11) rfl rfl ?_) rfl ?_
    · exact heap_set2 GX.out
    · exact ⟨rfl, by (repeat' (first | (with_reducible exact Below.refl _ _) | (with_reducible refine Below.alloc ?_ ?_ _) | (with_reducible refine Below.drew ?_) | (with_reducible refine Below.drewN_ ?_ _) | (with_reducible refine Below.setCell ?_ ?_ _) | (with_reducible refine Below.setRow ?_ ?_ _) | (with_reducible refine Below.via ?_ (by with_reducible assumption) ?_) | go_size))⟩

set_option maxRecDepth 100000 in
set_option maxHeartbeats 4000000 in
theorem rfall_fine (s : Sv) (from_ to_ : Int) (c1 c2 c3 : Nat) (A1 A2 A3 : Option Addr) (w : World)
    (r1 : Rd w w.heap.size A1 shV 4 s.shots) (r2 : Rd w w.heap.size A2 mkV 3 s.marks) (r3 : Rd w w.heap.size A3 shV 4 s.threads) (hok : svOk s = true) (hin : (inB s.n from_ && inB s.n to_) = true) (D : Mat) (hF : svD s = (D, true)) :
    Calls Try.prog 19 #[.agg #[.int .i64 s.n, .slice A1 s.shots.length c1, .slice A2 s.marks.length c2, .slice A3 s.threads.length c3], .int .i64 from_, .int .i64 to_] w fun e w' =>
      e = .returned (.tuple #[.agg #[.int .i64 (lvFall s from_ to_).1.1, .int .i64 (lvFall s from_ to_).1.2], .int .i64 (lvFall s from_ to_).2]) ∧ Below w.heap.size w w' := by
  have hb0 : Below w.heap.size w ((w.alloc (Obj.cells #[Value.int IntKind.i64 s.n, Value.slice A1 s.shots.length c1, Value.slice A2 s.marks.length c2, Value.slice A3 s.threads.length c3] 26)).alloc (Obj.cells #[Value.int IntKind.i64 0, Value.int IntKind.i64 0] 36)) := by (repeat' (first | (with_reducible exact Below.refl _ _) | (with_reducible refine Below.alloc ?_ ?_ _) | (with_reducible refine Below.drew ?_) | (with_reducible refine Below.drewN_ ?_ _) | (with_reducible refine Below.setCell ?_ ?_ _) | (with_reducible refine Below.setRow ?_ ?_ _) | (with_reducible refine Below.via ?_ (by with_reducible assumption) ?_) | go_size))
  have R1 := Lib.hid ((r1.below hb0).more hb0.size)
  have R2 := Lib.hid ((r2.below hb0).more hb0.size)
  have R3 := Lib.hid ((r3.below hb0).more hb0.size)
  have P1 := Lib.hid r1
  have P2 := Lib.hid r2
  clear r1 r2 r3
  have HC := Lib.hid (rcheck_any s c1 c2 c3 A1 A2 A3 ((w.alloc (Obj.cells #[Value.int IntKind.i64 s.n, Value.slice A1 s.shots.length c1, Value.slice A2 s.marks.length c2, Value.slice A3 s.threads.length c3] 26)).alloc (Obj.cells #[Value.int IntKind.i64 0, Value.int IntKind.i64 0] 36)) R1.out R2.out R3.out)
  have G0 := Lib.hid (heap_alloc2_new w (Obj.cells #[Value.int IntKind.i64 s.n, Value.slice A1 s.shots.length c1, Value.slice A2 s.marks.length c2, Value.slice A3 s.threads.length c3] 26) (Obj.cells #[Value.int IntKind.i64 0, Value.int IntKind.i64 0] 36))
  obtain ⟨⟨n1, n2, g3, g4, _⟩, _⟩ := svOk_spec hok
  have h12 : inR 0 (s.n - 1) from_ = true ∧ inR 0 (s.n - 1) to_ = true := by rw [inR_inB, inR_inB]; simpa using hin
  obtain ⟨h1, h2⟩ := h12
  have e1 : svErr s = 0 := by unfold svErr; rw [hok]; rfl
  rw [e1] at HC
  have e2 : lvFall s from_ to_ = ((-(D from_.toNat to_.toNat), D to_.toNat from_.toNat), 0) := by unfold lvFall; rw [if_neg (by rw [hok]; simp), if_neg (by rw [hin]; simp), if_neg (by rw [hF]; simp), hF]
  rw [e2]
  have HSN := Lib.hid (fun (W : World) gc cc (hb : Below w.heap.size w W) hBo => sides_yes s c1 c2 c3 A1 A2 A3 W hok ((P1.out.below hb).more hb.size) ((P2.out.below hb).more hb.size) gc cc hBo D hF)
  have hsm := svD_small hok hF
  have hfr : 0 ≤ from_ ∧ from_ < s.n ∧ 0 ≤ to_ ∧ to_ < s.n := by
    unfold inB at hin
    simp only [Bool.and_eq_true, decide_eq_true_eq] at hin
    omega
  obtain ⟨a, rfl⟩ := Int.eq_ofNat_of_zero_le hfr.1
  obtain ⟨b, rfl⟩ := Int.eq_ofNat_of_zero_le hfr.2.2.1
  have ha : a < s.n.toNat + 1 := by omega
  have hbb : b < s.n.toNat + 1 := by omega
  have hab := hsm.2 a b ha hbb
  simp only [Int.toNat_natCast]
  clear e1 e2 hin hok hF hb0 hsm
  go_enter Try.func19, Try.ntmps19
  go_upto_region 5 with (first | (go_at_call 21; refine HC.out.mono ?_; rintro e w1 ⟨rfl, hb1⟩; obtain ⟨hc1, hf1⟩ := bcell hb1; have hz1 := hb1.size; (try simp at hz1); (have hy1 : w.heap.size < w1.heap.size := by omega); (have hy2 : w.heap.size + 1 < w1.heap.size := by omega); have GX := Lib.hid ((hb1.block (w.heap.size + 1) (by simp <;> omega)).trans G0.out)) | (go_at_call 50; refine (rwithin_any _ _ _ _).mono ?_; rintro e w1' ⟨rfl, rfl⟩))
  have hbw : Below w.heap.size w w1 := by (repeat' (first | (with_reducible exact Below.refl _ _) | (with_reducible refine Below.alloc ?_ ?_ _) | (with_reducible refine Below.drew ?_) | (with_reducible refine Below.drewN_ ?_ _) | (with_reducible refine Below.setCell ?_ ?_ _) | (with_reducible refine Below.setRow ?_ ?_ _) | (with_reducible refine Below.via ?_ (by with_reducible assumption) ?_) | go_size))
  go_cut [8, 9] from 10 to 42 (fun u v W => ∃ g R, u = .slice (some ⟨g, 0, none⟩) (s.n.toNat + 1) (s.n.toNat + 1) ∧ v = .bool true ∧ RowsUp W g g (s.n.toNat + 1) (s.n.toNat + 1) R D ∧ Below w.heap.size w W ∧ W.heap[w.heap.size + 1]? = some (.cells #[Value.int IntKind.i64 0, Value.int IntKind.i64 0] 36 (0, 0)))
  case first =>
    have m0 : w1.cell? ⟨w.heap.size, 0, none⟩ = some (.int .i64 s.n) := by rw [hc1 _ _ (by simp; omega)]; simp
    have m1 : w1.cell? ⟨w.heap.size, 1, none⟩ = some (.slice A1 s.shots.length c1) := by rw [hc1 _ _ (by simp; omega)]; simp
    have m2 : w1.cell? ⟨w.heap.size, 2, none⟩ = some (.slice A2 s.marks.length c2) := by rw [hc1 _ _ (by simp; omega)]; simp
    have m3 : w1.cell? ⟨w.heap.size, 3, none⟩ = some (.slice A3 s.threads.length c3) := by rw [hc1 _ _ (by simp; omega)]; simp
    clear hc1 hf1 hb1 hz1 h1 h2
    go_region_with (first
      | (go_at_call 48; refine (every_any s.n s.shots.length s.marks.length c1 c2 A1 A2 _ _ (by omega) (by omega)).mono ?_; rintro e w3 ⟨⟨gc, rfl, hgc, hBo⟩, hb3⟩; have n0 := (hb3.cell (p := ⟨w.heap.size, 0, none⟩) hy1).trans m0; have n1 := (hb3.cell (p := ⟨w.heap.size, 1, none⟩) hy1).trans m1; have n2 := (hb3.cell (p := ⟨w.heap.size, 2, none⟩) hy1).trans m2; have n3 := (hb3.cell (p := ⟨w.heap.size, 3, none⟩) hy1).trans m3; have HBO := Lib.hid hBo; clear hBo)
      | (go_at_call 47; refine (HSN.out _ _ _ (hbw.drew.trans (hb3.mono hbw.size)) HBO.out).mono ?_; rintro e w4 ⟨⟨g, R, rfl, hg4, hU⟩, hb4⟩; have HU := Lib.hid hU; clear hU))
    all_goals
      have hzz : w.heap.size + 1 < w3.heap.size := by have h1 := hb3.size; simp at h1; omega
      have HGG := Lib.hid ((hb4.block (w.heap.size + 1) hzz).trans ((hb3.block (w.heap.size + 1) hy2).trans GX.out))
      go_wp2_with fail
      go_meet
      exact ⟨g, R, rfl, rfl, HU.out, (hbw.drew.trans (hb3.mono hbw.size)).trans (hb4.mono (Nat.le_trans hbw.size hb3.size)), HGG.out⟩
  case rest =>
    obtain ⟨g, R, rfl, rfl, hU, hb, hg⟩ := hcut
    clear hc1 hf1 hb1 hz1 hy1 hy2 hbw GX h1 h2
    have f1 := frozen_of_row wc (w.heap.size + 1) 0 _ _ hg
    have f2 := frozen_of_row wc (w.heap.size + 1) 1 _ _ hg
    have x1 := cell_of_row wc (w.heap.size + 1) 0 _ _ _ hg
    have x2 := cell_of_row wc (w.heap.size + 1) 1 _ _ _ hg
    have gl : w.heap.size + 1 < wc.heap.size := (Array.getElem?_eq_some_iff.1 hg).1
    simp at x1 x2
    have GX := Lib.hid hg
    have HU := Lib.hid hU
    clear hg hU
    go_wp2_with (go_at_call 51; refine (rfall_any D g (s.n.toNat + 1) a b _ R g _ HU.out ha hbb (by omega) (by omega)).mono ?_; rintro e w5 ⟨rfl, hb5⟩; obtain ⟨hc5, hf5⟩ := bcell hb5; have GX5 := Lib.hid ((hb5.block (w.heap.size + 1) gl).trans GX.out))
    refine bodyPost_ret (resRFall _ _ (w.heap.size + 1) (.int .i64 (-D a b)) (.int .i64 (D b a)) (.int .i64 0) rfl rfl ?_) rfl ?_
    · exact heap_set2 GX5.out
    · exact ⟨rfl, by (repeat' (first | (with_reducible exact Below.refl _ _) | (with_reducible refine Below.alloc ?_ ?_ _) | (with_reducible refine Below.drew ?_) | (with_reducible refine Below.drewN_ ?_ _) | (with_reducible refine Below.setCell ?_ ?_ _) | (with_reducible refine Below.setRow ?_ ?_ _) | (with_reducible refine Below.via ?_ (by with_reducible assumption) ?_) | go_size))⟩

theorem rFall_any (s : Sv) (from_ to_ : Int) (c1 c2 c3 : Nat) (A1 A2 A3 : Option Addr) (w : World)
    (r1 : Rd w w.heap.size A1 shV 4 s.shots) (r2 : Rd w w.heap.size A2 mkV 3 s.marks) (r3 : Rd w w.heap.size A3 shV 4 s.threads) :
    Calls Try.prog 19 #[.agg #[.int .i64 s.n, .slice A1 s.shots.length c1, .slice A2 s.marks.length c2, .slice A3 s.threads.length c3], .int .i64 from_, .int .i64 to_] w fun e w' =>
      e = .returned (.tuple #[.agg #[.int .i64 (lvFall s from_ to_).1.1, .int .i64 (lvFall s from_ to_).1.2], .int .i64 (lvFall s from_ to_).2]) ∧ Below w.heap.size w w' := by
  cases hok : svOk s
  · exact rfall_bad s from_ to_ c1 c2 c3 A1 A2 A3 w r1 r2 r3 hok
  · cases hin : (inB s.n from_ && inB s.n to_)
    · exact rfall_arg s from_ to_ c1 c2 c3 A1 A2 A3 w r1 r2 r3 hok hin
    · obtain ⟨D, b, hR⟩ : ∃ D b, svD s = (D, b) := ⟨_, _, rfl⟩
      cases b
      · exact rfall_apart s from_ to_ c1 c2 c3 A1 A2 A3 w r1 r2 r3 hok hin (by rw [hR])
      · exact rfall_fine s from_ to_ c1 c2 c3 A1 A2 A3 w r1 r2 r3 hok hin D hR

end Go.Proofs.Ytbolfjlfpkgfiaa
