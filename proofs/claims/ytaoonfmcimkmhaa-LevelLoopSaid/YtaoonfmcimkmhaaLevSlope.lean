/- level.Slope: the branches before Fall is asked. -/
import Derived.Test.YtaoonfmcimkmhaaLevSlopes
namespace Go.Proofs.Ytaoonfmcimkmhaa
open Go.RowKit

/-- The thread with a number. -/
def thrAt (s : Sv) (i : Int) : Option Sh := if 0 ≤ i then s.threads[i.toNat]? else none
/-- What level.Slope answers. -/
def lvSlope (s : Sv) (i : Int) : (Int × Int) × Int := if svOk s = false then ((0, 0), 10) else
  match thrAt s i with
  | none => ((0, 0), 12)
  | some t => if (lvFall s t.f t.t).2 = 0 then (slp (lvFall s t.f t.t).1.1 (lvFall s t.f t.t).1.2 t.lo t.hi, 0) else ((0, 0), (lvFall s t.f t.t).2)

theorem resSlope (tmps : Array Value) (W : World) (g : Nat) (x y : Value) (e : Value) (h1 : tmps.getD 4 undef = .pointer (some ⟨g, 0, none⟩)) (h2 : tmps.getD 5 undef = e) (hM : W.heap[g]? = some (.cells #[x, y] 36 (0, 0))) :
    (results Try.f31 tmps).run Try.prog W = .ok (.tuple #[.agg #[x, y], e]) W := by
  rw [results_cell_tmp Try.results31, h1, h2]
  simp only [asAddr, Sem.run_pure, Result.andThen_ok]
  rw [run_loadVar_row W g _ _ #[x, y] (0, 0) _ hM Try.underlying36 rfl info36']
  rfl

set_option maxRecDepth 100000 in
set_option maxHeartbeats 1000000 in
theorem slope_bad (s : Sv) (i : Int) (c1 c2 c3 : Nat) (A1 A2 A3 : Option Addr) (w : World)
    (r1 : Rd w w.heap.size A1 shV 4 s.shots) (r2 : Rd w w.heap.size A2 mkV 3 s.marks) (r3 : Rd w w.heap.size A3 shV 4 s.threads) (hok : svOk s = false) :
    Calls Try.prog 31 #[.agg #[.int .i64 s.n, .slice A1 s.shots.length c1, .slice A2 s.marks.length c2, .slice A3 s.threads.length c3], .int .i64 i] w fun e w' =>
      e = .returned (.tuple #[.agg #[.int .i64 (lvSlope s i).1.1, .int .i64 (lvSlope s i).1.2], .int .i64 (lvSlope s i).2]) ∧ Below w.heap.size w w' := by
  have hb0 : Below w.heap.size w ((w.alloc (Obj.cells #[Value.int IntKind.i64 s.n, Value.slice A1 s.shots.length c1, Value.slice A2 s.marks.length c2, Value.slice A3 s.threads.length c3] 26)).alloc (Obj.cells #[Value.int IntKind.i64 0, Value.int IntKind.i64 0] 36)) := by (repeat' (first | (with_reducible exact Below.refl _ _) | (with_reducible refine Below.alloc ?_ ?_ _) | (with_reducible refine Below.drew ?_) | (with_reducible refine Below.drewN_ ?_ _) | (with_reducible refine Below.setCell ?_ ?_ _) | (with_reducible refine Below.setRow ?_ ?_ _) | (with_reducible refine Below.via ?_ (by with_reducible assumption) ?_) | go_size))
  have R1 := Lib.hid ((r1.below hb0).more hb0.size)
  have R2 := Lib.hid ((r2.below hb0).more hb0.size)
  have R3 := Lib.hid ((r3.below hb0).more hb0.size)
  clear r1 r2 r3
  have HC := Lib.hid (lcheck_any s c1 c2 c3 A1 A2 A3 ((w.alloc (Obj.cells #[Value.int IntKind.i64 s.n, Value.slice A1 s.shots.length c1, Value.slice A2 s.marks.length c2, Value.slice A3 s.threads.length c3] 26)).alloc (Obj.cells #[Value.int IntKind.i64 0, Value.int IntKind.i64 0] 36)) R1.out R2.out R3.out)
  have G0 := Lib.hid (heap_alloc2_new w (Obj.cells #[Value.int IntKind.i64 s.n, Value.slice A1 s.shots.length c1, Value.slice A2 s.marks.length c2, Value.slice A3 s.threads.length c3] 26) (Obj.cells #[Value.int IntKind.i64 0, Value.int IntKind.i64 0] 36))
  have e1 : svErr s = 10 := by unfold svErr; rw [hok]; rfl
  have e2 : lvSlope s i = ((0, 0), 10) := by unfold lvSlope; rw [if_pos hok]
  rw [e1] at HC
  rw [e2]
  clear e1 e2 hok
  go_enter Try.func31, Try.ntmps31
  go_wp2_with (go_at_call 20; refine HC.out.mono ?_; rintro e w1 ⟨rfl, hb1⟩; obtain ⟨hc1, hf1⟩ := bcell hb1; have hz1 := hb1.size; (try simp at hz1); (have hy1 : w.heap.size < w1.heap.size := by omega); (have hy2 : w.heap.size + 1 < w1.heap.size := by omega); have GX := Lib.hid ((hb1.block (w.heap.size + 1) (by simp <;> omega)).trans G0.out))
  refine bodyPost_ret (resSlope _ _ (w.heap.size + 1) (.int .i64 0) (.int .i64 0) (.int .i64 10) rfl rfl ?_) rfl ?_
  · exact heap_set2 GX.out
  · exact ⟨rfl, by (repeat' (first | (with_reducible exact Below.refl _ _) | (with_reducible refine Below.alloc ?_ ?_ _) | (with_reducible refine Below.drew ?_) | (with_reducible refine Below.drewN_ ?_ _) | (with_reducible refine Below.setCell ?_ ?_ _) | (with_reducible refine Below.setRow ?_ ?_ _) | (with_reducible refine Below.via ?_ (by with_reducible assumption) ?_) | go_size))⟩


set_option maxRecDepth 100000 in
set_option maxHeartbeats 1000000 in
theorem slope_none (s : Sv) (i : Int) (c1 c2 c3 : Nat) (A1 A2 A3 : Option Addr) (w : World)
    (r1 : Rd w w.heap.size A1 shV 4 s.shots) (r2 : Rd w w.heap.size A2 mkV 3 s.marks) (r3 : Rd w w.heap.size A3 shV 4 s.threads) (hok : svOk s = true) (hin : i < 0 ∨ (s.threads.length : Int) ≤ i) :
    Calls Try.prog 31 #[.agg #[.int .i64 s.n, .slice A1 s.shots.length c1, .slice A2 s.marks.length c2, .slice A3 s.threads.length c3], .int .i64 i] w fun e w' =>
      e = .returned (.tuple #[.agg #[.int .i64 (lvSlope s i).1.1, .int .i64 (lvSlope s i).1.2], .int .i64 (lvSlope s i).2]) ∧ Below w.heap.size w w' := by
  have hb0 : Below w.heap.size w ((w.alloc (Obj.cells #[Value.int IntKind.i64 s.n, Value.slice A1 s.shots.length c1, Value.slice A2 s.marks.length c2, Value.slice A3 s.threads.length c3] 26)).alloc (Obj.cells #[Value.int IntKind.i64 0, Value.int IntKind.i64 0] 36)) := by (repeat' (first | (with_reducible exact Below.refl _ _) | (with_reducible refine Below.alloc ?_ ?_ _) | (with_reducible refine Below.drew ?_) | (with_reducible refine Below.drewN_ ?_ _) | (with_reducible refine Below.setCell ?_ ?_ _) | (with_reducible refine Below.setRow ?_ ?_ _) | (with_reducible refine Below.via ?_ (by with_reducible assumption) ?_) | go_size))
  have R1 := Lib.hid ((r1.below hb0).more hb0.size)
  have R2 := Lib.hid ((r2.below hb0).more hb0.size)
  have R3 := Lib.hid ((r3.below hb0).more hb0.size)
  clear r1 r2 r3
  have HC := Lib.hid (lcheck_any s c1 c2 c3 A1 A2 A3 ((w.alloc (Obj.cells #[Value.int IntKind.i64 s.n, Value.slice A1 s.shots.length c1, Value.slice A2 s.marks.length c2, Value.slice A3 s.threads.length c3] 26)).alloc (Obj.cells #[Value.int IntKind.i64 0, Value.int IntKind.i64 0] 36)) R1.out R2.out R3.out)
  have G0 := Lib.hid (heap_alloc2_new w (Obj.cells #[Value.int IntKind.i64 s.n, Value.slice A1 s.shots.length c1, Value.slice A2 s.marks.length c2, Value.slice A3 s.threads.length c3] 26) (Obj.cells #[Value.int IntKind.i64 0, Value.int IntKind.i64 0] 36))
  have e1 : svErr s = 0 := by unfold svErr; rw [hok]; rfl
  rw [e1] at HC
  have HOK := Lib.hid hok
  clear e1 hok
  have e0 : thrAt s i = none := by
    unfold thrAt
    split
    · rw [List.getElem?_eq_none_iff]; omega
    · rfl
  have e2 : lvSlope s i = ((0, 0), 12) := by unfold lvSlope; rw [if_neg (by rw [HOK.out]; simp), e0]
  rw [e2]
  clear e2 e0
  by_cases h1 : i < 0
  · go_enter Try.func31, Try.ntmps31
    go_wp2_with (go_at_call 20; refine HC.out.mono ?_; rintro e w1 ⟨rfl, hb1⟩; obtain ⟨hc1, hf1⟩ := bcell hb1; have hz1 := hb1.size; (try simp at hz1); (have hy1 : w.heap.size < w1.heap.size := by omega); (have hy2 : w.heap.size + 1 < w1.heap.size := by omega); have GX := Lib.hid ((hb1.block (w.heap.size + 1) (by simp <;> omega)).trans G0.out))
    refine bodyPost_ret (resSlope _ _ (w.heap.size + 1) (.int .i64 0) (.int .i64 0) (.int .i64 12) rfl rfl ?_) rfl ?_
    · exact heap_set2 GX.out
    · exact ⟨rfl, by (repeat' (first | (with_reducible exact Below.refl _ _) | (with_reducible refine Below.alloc ?_ ?_ _) | (with_reducible refine Below.drew ?_) | (with_reducible refine Below.drewN_ ?_ _) | (with_reducible refine Below.setCell ?_ ?_ _) | (with_reducible refine Below.setRow ?_ ?_ _) | (with_reducible refine Below.via ?_ (by with_reducible assumption) ?_) | go_size))⟩
  · have h2 : (s.threads.length : Int) ≤ i := by omega
    clear hin
    go_enter Try.func31, Try.ntmps31
    go_wp2_with (go_at_call 20; refine HC.out.mono ?_; rintro e w1 ⟨rfl, hb1⟩; obtain ⟨hc1, hf1⟩ := bcell hb1; have hz1 := hb1.size; (try simp at hz1); (have hy1 : w.heap.size < w1.heap.size := by omega); (have hy2 : w.heap.size + 1 < w1.heap.size := by omega); have GX := Lib.hid ((hb1.block (w.heap.size + 1) (by simp <;> omega)).trans G0.out))
    refine bodyPost_ret (resSlope _ _ (w.heap.size + 1) (.int .i64 0) (.int .i64 0) (.int .i64 12) rfl rfl ?_) rfl ?_
    · exact heap_set2 GX.out
    · exact ⟨rfl, by (repeat' (first | (with_reducible exact Below.refl _ _) | (with_reducible refine Below.alloc ?_ ?_ _) | (with_reducible refine Below.drew ?_) | (with_reducible refine Below.drewN_ ?_ _) | (with_reducible refine Below.setCell ?_ ?_ _) | (with_reducible refine Below.setRow ?_ ?_ _) | (with_reducible refine Below.via ?_ (by with_reducible assumption) ?_) | go_size))⟩

set_option maxRecDepth 100000 in
set_option maxHeartbeats 1000000 in
theorem slope_err (s : Sv) (i : Int) (c1 c2 c3 : Nat) (A1 A2 A3 : Option Addr) (w : World)
    (r1 : Rd w w.heap.size A1 shV 4 s.shots) (r2 : Rd w w.heap.size A2 mkV 3 s.marks) (r3 : Rd w w.heap.size A3 shV 4 s.threads) (hok : svOk s = true) (k : Nat) (hk : k < s.threads.length) (hi : i = (k : Int)) (hf : (lvFall s s.threads[k].f s.threads[k].t).2 ≠ 0) :
    Calls Try.prog 31 #[.agg #[.int .i64 s.n, .slice A1 s.shots.length c1, .slice A2 s.marks.length c2, .slice A3 s.threads.length c3], .int .i64 i] w fun e w' =>
      e = .returned (.tuple #[.agg #[.int .i64 (lvSlope s i).1.1, .int .i64 (lvSlope s i).1.2], .int .i64 (lvSlope s i).2]) ∧ Below w.heap.size w w' := by
  have hb0 : Below w.heap.size w ((w.alloc (Obj.cells #[Value.int IntKind.i64 s.n, Value.slice A1 s.shots.length c1, Value.slice A2 s.marks.length c2, Value.slice A3 s.threads.length c3] 26)).alloc (Obj.cells #[Value.int IntKind.i64 0, Value.int IntKind.i64 0] 36)) := by (repeat' (first | (with_reducible exact Below.refl _ _) | (with_reducible refine Below.alloc ?_ ?_ _) | (with_reducible refine Below.drew ?_) | (with_reducible refine Below.drewN_ ?_ _) | (with_reducible refine Below.setCell ?_ ?_ _) | (with_reducible refine Below.setRow ?_ ?_ _) | (with_reducible refine Below.via ?_ (by with_reducible assumption) ?_) | go_size))
  have R1 := Lib.hid ((r1.below hb0).more hb0.size)
  have R2 := Lib.hid ((r2.below hb0).more hb0.size)
  have R3 := Lib.hid ((r3.below hb0).more hb0.size)
  clear r1 r2 r3
  have HC := Lib.hid (lcheck_any s c1 c2 c3 A1 A2 A3 ((w.alloc (Obj.cells #[Value.int IntKind.i64 s.n, Value.slice A1 s.shots.length c1, Value.slice A2 s.marks.length c2, Value.slice A3 s.threads.length c3] 26)).alloc (Obj.cells #[Value.int IntKind.i64 0, Value.int IntKind.i64 0] 36)) R1.out R2.out R3.out)
  have G0 := Lib.hid (heap_alloc2_new w (Obj.cells #[Value.int IntKind.i64 s.n, Value.slice A1 s.shots.length c1, Value.slice A2 s.marks.length c2, Value.slice A3 s.threads.length c3] 26) (Obj.cells #[Value.int IntKind.i64 0, Value.int IntKind.i64 0] 36))
  have e1 : svErr s = 0 := by unfold svErr; rw [hok]; rfl
  rw [e1] at HC
  have HOK := Lib.hid hok
  clear e1 hok
  subst hi
  have e0 : thrAt s (k : Int) = some s.threads[k] := by
    unfold thrAt
    rw [if_pos (by omega), Int.toNat_natCast, List.getElem?_eq_getElem hk]
  have e2 : lvSlope s (k : Int) = ((0, 0), (lvFall s s.threads[k].f s.threads[k].t).2) := by unfold lvSlope; rw [if_neg (by rw [HOK.out]; simp), e0]; exact if_neg hf
  rw [e2]
  clear e2 e0
  obtain ⟨b, o, rfl, hbl, hcell⟩ := R3.out.at_ hk
  have q0 := hcell 0 _ rfl
  have q1 := hcell 1 _ rfl
  have q2 := hcell 2 _ rfl
  have q3 := hcell 3 _ rfl
  simp only [Nat.add_zero] at q0
  clear hcell
  have HFA := Lib.hid (fun (W : World) (h : Below ((w.alloc (Obj.cells #[Value.int IntKind.i64 s.n, Value.slice A1 s.shots.length c1, Value.slice A2 s.marks.length c2, Value.slice (some ⟨b, o, none⟩) s.threads.length c3] 26)).alloc (Obj.cells #[Value.int IntKind.i64 0, Value.int IntKind.i64 0] 36)).heap.size ((w.alloc (Obj.cells #[Value.int IntKind.i64 s.n, Value.slice A1 s.shots.length c1, Value.slice A2 s.marks.length c2, Value.slice (some ⟨b, o, none⟩) s.threads.length c3] 26)).alloc (Obj.cells #[Value.int IntKind.i64 0, Value.int IntKind.i64 0] 36)) W) => fall_any s s.threads[k].f s.threads[k].t c1 c2 c3 A1 A2 (some ⟨b, o, none⟩) W ((R1.out.below h).more h.size) ((R2.out.below h).more h.size) ((R3.out.below h).more h.size))
  generalize s.threads[k] = x at *
  generalize lvFall s x.f x.t = r at *
  obtain ⟨⟨ra, rb⟩, rc⟩ := r
  simp only [] at hf
  go_enter Try.func31, Try.ntmps31
  go_wp2_with (first | (go_at_call 20; refine HC.out.mono ?_; rintro e w1 ⟨rfl, hb1⟩; obtain ⟨hc1, hf1⟩ := bcell hb1; have hz1 := hb1.size; (try simp at hz1); (have hy1 : w.heap.size < w1.heap.size := by omega); (have hy2 : w.heap.size + 1 < w1.heap.size := by omega); have GX := Lib.hid ((hb1.block (w.heap.size + 1) (by simp <;> omega)).trans G0.out); have p0 := (hc1 b _ hbl).trans q0; have p1 := (hc1 b _ hbl).trans q1; have p2 := (hc1 b _ hbl).trans q2; have p3 := (hc1 b _ hbl).trans q3; clear q0 q1 q2 q3) | (go_at_call 18; refine (HFA.out _ (Below.alloc hb1 hb1.size _)).mono ?_; rintro e w2 ⟨rfl, hb2⟩; obtain ⟨hc2, hf2⟩ := bcell hb2; have hz2 := hb2.size; (simp at hz2); (have hy3 : w.heap.size < w2.heap.size := by omega); (have hy4 : w.heap.size + 1 < w2.heap.size := by omega); have GX := Lib.hid ((hb2.block (w.heap.size + 1) (by simp <;> omega)).trans ((Below.heap_alloc _ _ _ (by omega)).trans GX.out))))
  refine bodyPost_ret (resSlope _ _ (w.heap.size + 1) (.int .i64 0) (.int .i64 0) (.int .i64 rc) rfl rfl ?_) rfl ?_
  · exact (Below.heap_alloc _ _ _ (by simp <;> omega)).trans (heap_set2 GX.out)
  · refine ⟨rfl, ?_⟩
    (repeat' (first | (with_reducible exact Below.refl _ _) | (with_reducible refine Below.alloc ?_ ?_ _) | (with_reducible refine Below.drew ?_) | (with_reducible refine Below.drewN_ ?_ _) | (with_reducible refine Below.setCell ?_ ?_ _) | (with_reducible refine Below.setRow ?_ ?_ _) | (with_reducible refine Below.via ?_ (by with_reducible assumption) ?_) | go_size))

end Go.Proofs.Ytaoonfmcimkmhaa
