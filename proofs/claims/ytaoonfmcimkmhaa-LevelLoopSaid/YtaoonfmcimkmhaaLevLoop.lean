/- level.Loop: what it answers of every survey that reads as plain data, and of every list of numbers. Conditions: the slices read below the heap's end, and the list isn't longer than 1,000,000,000. -/
import Derived.Test.YtaoonfmcimkmhaaLevAlong
import Derived.Test.YtaoonfmcimkmhaaFloat
import Derived.Test.YtaoonfmcimkmhaaLevIsLoop
set_option linter.unusedVariables false
set_option linter.unusedSimpArgs false
namespace Go.Proofs.Ytaoonfmcimkmhaa
open Go.RowKit

theorem resLoop (tmps : Array Value) (W : World) (g : Nat) (x y : Value) (e : Value) (h1 : tmps.getD 4 undef = .pointer (some ⟨g, 0, none⟩)) (h2 : tmps.getD 5 undef = e) (hM : W.heap[g]? = some (.cells #[x, y] 36 (0, 0))) :
    (results Try.f24 tmps).run Try.prog W = .ok (.tuple #[.agg #[x, y], e]) W := by
  rw [results_cell_tmp Try.results24, h1, h2]
  simp only [asAddr, Sem.run_pure, Result.andThen_ok]
  rw [run_loadVar_row W g _ _ #[x, y] (0, 0) _ hM Try.underlying36 rfl info36']
  rfl

theorem lvLoop_bad {s : Sv} {xs : List Int} (h : svOk s = false) : lvLoop s xs = ((0, 0), 10) := by unfold lvLoop; rw [if_pos h]
theorem lvLoop_arg {s : Sv} {xs : List Int} (h : svOk s = true) (hl : loopB s.n xs = false) : lvLoop s xs = ((0, 0), 2) := by unfold lvLoop; rw [if_neg (by rw [h]; simp), if_pos hl]
theorem lvLoop_none {s : Sv} {xs : List Int} (h : svOk s = true) (hl : loopB s.n xs = true) {k : Nat} (hk : k < xs.length) (hn : (stpOf s xs k).2 = 0) : lvLoop s xs = ((0, 0), 6) := by
  unfold lvLoop
  rw [if_neg (by rw [h]; simp), if_neg (by rw [hl]; simp), if_pos]
  rw [List.all_eq_false]
  exact ⟨k, List.mem_range.2 hk, by rw [hn]; simp⟩
theorem lvLoop_said {s : Sv} {xs : List Int} (h : svOk s = true) (hl : loopB s.n xs = true) (hn : ∀ k, k < xs.length → 0 < (stpOf s xs k).2) : lvLoop s xs = if (List.range xs.length).all (fun k => decide ((stpOf s xs k).1.1 ≤ (stpOf s xs k).1.2)) = false then ((0, 0), 11) else (sumTo s xs xs.length, 0) := by
  unfold lvLoop
  rw [if_neg (by rw [h]; simp), if_neg (by rw [hl]; simp), if_neg]
  rw [Bool.not_eq_false, List.all_eq_true]
  exact fun k hk => decide_eq_true (hn k (List.mem_range.1 hk))
/-- Whether the first k steps are in order. -/
def ordB (s : Sv) (xs : List Int) (k : Nat) : Bool := (List.range k).all (fun j => decide ((stpOf s xs j).1.1 ≤ (stpOf s xs j).1.2))
theorem ordB_succ (s : Sv) (xs : List Int) (k : Nat) : ordB s xs (k + 1) = (ordB s xs k && decide ((stpOf s xs k).1.1 ≤ (stpOf s xs k).1.2)) := by
  unfold ordB
  rw [List.range_succ, List.all_append]
  simp
theorem stp_in {s : Sv} {xs : List Int} (hl : loopB s.n xs = true) {k : Nat} (hk : k < xs.length) : 0 ≤ xs.getD k 0 ∧ xs.getD k 0 < s.n ∧ 0 ≤ xs.getD ((k + 1) % xs.length) 0 ∧ xs.getD ((k + 1) % xs.length) 0 < s.n ∧ xs.getD k 0 ≠ xs.getD ((k + 1) % xs.length) 0 := by
  unfold loopB at hl
  simp only [Bool.and_eq_true, List.all_eq_true, List.mem_range] at hl
  have h := hl.2 k hk
  unfold stepB diffB inB at h
  simp only [Bool.and_eq_true, decide_eq_true_eq, bne_iff_ne] at h
  omega
theorem loop_len {p : Int} {xs : List Int} (hl : loopB p xs = true) : 2 ≤ xs.length ∧ xs.length ≤ 20 := by
  unfold loopB at hl
  simp only [Bool.and_eq_true, decide_eq_true_eq] at hl
  exact hl.1

set_option maxRecDepth 100000 in
set_option maxHeartbeats 4000000 in
theorem lloop_bad (s : Sv) (xs : List Int) (cp c1 c2 c3 : Nat) (AP A1 A2 A3 : Option Addr) (w : World)
    (r1 : Rd w w.heap.size A1 shV 4 s.shots) (r2 : Rd w w.heap.size A2 mkV 3 s.marks) (r3 : Rd w w.heap.size A3 shV 4 s.threads) (rp : Rd w w.heap.size AP inV 1 xs) (hl9 : xs.length ≤ 1000000000) (hok : svOk s = false) :
    Calls Try.prog 24 #[.agg #[.int .i64 s.n, .slice A1 s.shots.length c1, .slice A2 s.marks.length c2, .slice A3 s.threads.length c3], .slice AP xs.length cp] w fun e w' =>
      e = .returned (.tuple #[.agg #[.int .i64 (lvLoop s xs).1.1, .int .i64 (lvLoop s xs).1.2], .int .i64 (lvLoop s xs).2]) ∧ Below w.heap.size w w' := by
  have hb0 : Below w.heap.size w ((w.alloc (Obj.cells #[Value.int IntKind.i64 s.n, Value.slice A1 s.shots.length c1, Value.slice A2 s.marks.length c2, Value.slice A3 s.threads.length c3] 26)).alloc (Obj.cells #[Value.int IntKind.i64 0, Value.int IntKind.i64 0] 36)) := by (repeat' (first | (with_reducible exact Below.refl _ _) | (with_reducible refine Below.alloc ?_ ?_ _) | (with_reducible refine Below.drew ?_) | (with_reducible refine Below.drewN_ ?_ _) | (with_reducible refine Below.setCell ?_ ?_ _) | (with_reducible refine Below.setRow ?_ ?_ _) | (with_reducible refine Below.via ?_ (by with_reducible assumption) ?_) | go_size))
  have R1 := Lib.hid ((r1.below hb0).more hb0.size)
  have R2 := Lib.hid ((r2.below hb0).more hb0.size)
  have R3 := Lib.hid ((r3.below hb0).more hb0.size)
  have P1 := Lib.hid r1
  have P2 := Lib.hid r2
  have RP := Lib.hid rp
  clear r1 r2 r3 rp
  have HC := Lib.hid (lcheck_any s c1 c2 c3 A1 A2 A3 ((w.alloc (Obj.cells #[Value.int IntKind.i64 s.n, Value.slice A1 s.shots.length c1, Value.slice A2 s.marks.length c2, Value.slice A3 s.threads.length c3] 26)).alloc (Obj.cells #[Value.int IntKind.i64 0, Value.int IntKind.i64 0] 36)) R1.out R2.out R3.out)
  have G0 := Lib.hid (heap_alloc2_new w (Obj.cells #[Value.int IntKind.i64 s.n, Value.slice A1 s.shots.length c1, Value.slice A2 s.marks.length c2, Value.slice A3 s.threads.length c3] 26) (Obj.cells #[Value.int IntKind.i64 0, Value.int IntKind.i64 0] 36))
  have e1 : svErr s = 10 := by unfold svErr; rw [hok]; rfl
  rw [e1] at HC
  rw [lvLoop_bad hok]
  clear e1 hok
  go_enter Try.func24, Try.ntmps24
  go_wp2_with (go_at_call 20; refine HC.out.mono ?_; rintro e w1 ⟨rfl, hb1⟩; obtain ⟨hc1, hf1⟩ := bcell hb1; have hz1 := hb1.size; (try simp at hz1); (have hy1 : w.heap.size < w1.heap.size := by omega); (have hy2 : w.heap.size + 1 < w1.heap.size := by omega); have GX := Lib.hid ((hb1.block (w.heap.size + 1) (by simp <;> omega)).trans G0.out))
  refine bodyPost_ret (resLoop _ _ (w.heap.size + 1) (.int .i64 0) (.int .i64 0) (.int .i64 10) rfl rfl ?_) rfl ?_
  · exact heap_set2 GX.out
  · exact ⟨rfl, by (repeat' (first | (with_reducible exact Below.refl _ _) | (with_reducible refine Below.alloc ?_ ?_ _) | (with_reducible refine Below.drew ?_) | (with_reducible refine Below.drewN_ ?_ _) | (with_reducible refine Below.setCell ?_ ?_ _) | (with_reducible refine Below.setRow ?_ ?_ _) | (with_reducible refine Below.via ?_ (by with_reducible assumption) ?_) | go_size))⟩

set_option maxRecDepth 100000 in
set_option maxHeartbeats 4000000 in
theorem lloop_arg (s : Sv) (xs : List Int) (cp c1 c2 c3 : Nat) (AP A1 A2 A3 : Option Addr) (w : World)
    (r1 : Rd w w.heap.size A1 shV 4 s.shots) (r2 : Rd w w.heap.size A2 mkV 3 s.marks) (r3 : Rd w w.heap.size A3 shV 4 s.threads) (rp : Rd w w.heap.size AP inV 1 xs) (hl9 : xs.length ≤ 1000000000) (hok : svOk s = true) (hlp : loopB s.n xs = false) :
    Calls Try.prog 24 #[.agg #[.int .i64 s.n, .slice A1 s.shots.length c1, .slice A2 s.marks.length c2, .slice A3 s.threads.length c3], .slice AP xs.length cp] w fun e w' =>
      e = .returned (.tuple #[.agg #[.int .i64 (lvLoop s xs).1.1, .int .i64 (lvLoop s xs).1.2], .int .i64 (lvLoop s xs).2]) ∧ Below w.heap.size w w' := by
  have hb0 : Below w.heap.size w ((w.alloc (Obj.cells #[Value.int IntKind.i64 s.n, Value.slice A1 s.shots.length c1, Value.slice A2 s.marks.length c2, Value.slice A3 s.threads.length c3] 26)).alloc (Obj.cells #[Value.int IntKind.i64 0, Value.int IntKind.i64 0] 36)) := by (repeat' (first | (with_reducible exact Below.refl _ _) | (with_reducible refine Below.alloc ?_ ?_ _) | (with_reducible refine Below.drew ?_) | (with_reducible refine Below.drewN_ ?_ _) | (with_reducible refine Below.setCell ?_ ?_ _) | (with_reducible refine Below.setRow ?_ ?_ _) | (with_reducible refine Below.via ?_ (by with_reducible assumption) ?_) | go_size))
  have R1 := Lib.hid ((r1.below hb0).more hb0.size)
  have R2 := Lib.hid ((r2.below hb0).more hb0.size)
  have R3 := Lib.hid ((r3.below hb0).more hb0.size)
  have P1 := Lib.hid r1
  have P2 := Lib.hid r2
  have RP := Lib.hid rp
  clear r1 r2 r3 rp
  have HC := Lib.hid (lcheck_any s c1 c2 c3 A1 A2 A3 ((w.alloc (Obj.cells #[Value.int IntKind.i64 s.n, Value.slice A1 s.shots.length c1, Value.slice A2 s.marks.length c2, Value.slice A3 s.threads.length c3] 26)).alloc (Obj.cells #[Value.int IntKind.i64 0, Value.int IntKind.i64 0] 36)) R1.out R2.out R3.out)
  have G0 := Lib.hid (heap_alloc2_new w (Obj.cells #[Value.int IntKind.i64 s.n, Value.slice A1 s.shots.length c1, Value.slice A2 s.marks.length c2, Value.slice A3 s.threads.length c3] 26) (Obj.cells #[Value.int IntKind.i64 0, Value.int IntKind.i64 0] 36))
  have e1 : svErr s = 0 := by unfold svErr; rw [hok]; rfl
  rw [e1] at HC
  have HIL := Lib.hid (fun (W : World) (hb : Below w.heap.size w W) => (show Calls Try.prog 56 #[.agg #[.int .i64 s.n, .slice A1 s.shots.length c1, .slice A2 s.marks.length c2, .slice A3 s.threads.length c3], .slice AP xs.length cp] W fun e w' => e = .returned (.bool false) ∧ Below W.heap.size W w' by have h := isLoop_any s.n (.slice A1 s.shots.length c1) (.slice A2 s.marks.length c2) (.slice A3 s.threads.length c3) xs cp AP W ((RP.out.below hb).more hb.size) hl9; rw [hlp] at h; exact h))
  rw [lvLoop_arg hok hlp]
  clear e1 hok hlp
  go_enter Try.func24, Try.ntmps24
  go_wp2_with (first | (go_at_call 20; refine HC.out.mono ?_; rintro e w1 ⟨rfl, hb1⟩; obtain ⟨hc1, hf1⟩ := bcell hb1; have hz1 := hb1.size; (try simp at hz1); (have hy1 : w.heap.size < w1.heap.size := by omega); (have hy2 : w.heap.size + 1 < w1.heap.size := by omega); have GX := Lib.hid ((hb1.block (w.heap.size + 1) (by simp <;> omega)).trans G0.out)) | (go_at_call 56; refine (HIL.out w1 (by (repeat' (first | (with_reducible exact Below.refl _ _) | (with_reducible refine Below.alloc ?_ ?_ _) | (with_reducible refine Below.drew ?_) | (with_reducible refine Below.drewN_ ?_ _) | (with_reducible refine Below.setCell ?_ ?_ _) | (with_reducible refine Below.setRow ?_ ?_ _) | (with_reducible refine Below.via ?_ (by with_reducible assumption) ?_) | go_size)))).mono ?_; rintro e w1' ⟨rfl, hb⟩; obtain ⟨hc, hf⟩ := bcell hb; have hz := hb.size; (have hy : w.heap.size < w1'.heap.size := by omega); (have hy' : w.heap.size + 1 < w1'.heap.size := by omega); have GZ := Lib.hid ((hb.block (w.heap.size + 1) (by omega)).trans GX.out)))
  refine bodyPost_ret (resLoop _ _ (w.heap.size + 1) (.int .i64 0) (.int .i64 0) (.int .i64 2) rfl rfl ?_) rfl ?_
  · exact heap_set2 GZ.out
  · exact ⟨rfl, by (repeat' (first | (with_reducible exact Below.refl _ _) | (with_reducible refine Below.alloc ?_ ?_ _) | (with_reducible refine Below.drew ?_) | (with_reducible refine Below.drewN_ ?_ _) | (with_reducible refine Below.setCell ?_ ?_ _) | (with_reducible refine Below.setRow ?_ ?_ _) | (with_reducible refine Below.via ?_ (by with_reducible assumption) ?_) | go_size))⟩

set_option maxRecDepth 100000 in
set_option maxHeartbeats 4000000 in
theorem lloop_main (s : Sv) (xs : List Int) (cp c1 c2 c3 : Nat) (AP A1 A2 A3 : Option Addr) (w : World)
    (r1 : Rd w w.heap.size A1 shV 4 s.shots) (r2 : Rd w w.heap.size A2 mkV 3 s.marks) (r3 : Rd w w.heap.size A3 shV 4 s.threads) (rp : Rd w w.heap.size AP inV 1 xs) (hl9 : xs.length ≤ 1000000000) (hok : svOk s = true) (hlp : loopB s.n xs = true) :
    Calls Try.prog 24 #[.agg #[.int .i64 s.n, .slice A1 s.shots.length c1, .slice A2 s.marks.length c2, .slice A3 s.threads.length c3], .slice AP xs.length cp] w fun e w' =>
      e = .returned (.tuple #[.agg #[.int .i64 (lvLoop s xs).1.1, .int .i64 (lvLoop s xs).1.2], .int .i64 (lvLoop s xs).2]) ∧ Below w.heap.size w w' := by
  have hb0 : Below w.heap.size w ((w.alloc (Obj.cells #[Value.int IntKind.i64 s.n, Value.slice A1 s.shots.length c1, Value.slice A2 s.marks.length c2, Value.slice A3 s.threads.length c3] 26)).alloc (Obj.cells #[Value.int IntKind.i64 0, Value.int IntKind.i64 0] 36)) := by (repeat' (first | (with_reducible exact Below.refl _ _) | (with_reducible refine Below.alloc ?_ ?_ _) | (with_reducible refine Below.drew ?_) | (with_reducible refine Below.drewN_ ?_ _) | (with_reducible refine Below.setCell ?_ ?_ _) | (with_reducible refine Below.setRow ?_ ?_ _) | (with_reducible refine Below.via ?_ (by with_reducible assumption) ?_) | go_size))
  have R1 := Lib.hid ((r1.below hb0).more hb0.size)
  have R2 := Lib.hid ((r2.below hb0).more hb0.size)
  have R3 := Lib.hid ((r3.below hb0).more hb0.size)
  have P1 := Lib.hid r1
  have P2 := Lib.hid r2
  have RP := Lib.hid rp
  clear r1 r2 r3 rp
  have HC := Lib.hid (lcheck_any s c1 c2 c3 A1 A2 A3 ((w.alloc (Obj.cells #[Value.int IntKind.i64 s.n, Value.slice A1 s.shots.length c1, Value.slice A2 s.marks.length c2, Value.slice A3 s.threads.length c3] 26)).alloc (Obj.cells #[Value.int IntKind.i64 0, Value.int IntKind.i64 0] 36)) R1.out R2.out R3.out)
  have G0 := Lib.hid (heap_alloc2_new w (Obj.cells #[Value.int IntKind.i64 s.n, Value.slice A1 s.shots.length c1, Value.slice A2 s.marks.length c2, Value.slice A3 s.threads.length c3] 26) (Obj.cells #[Value.int IntKind.i64 0, Value.int IntKind.i64 0] 36))
  have e1 : svErr s = 0 := by unfold svErr; rw [hok]; rfl
  rw [e1] at HC
  have HIL := Lib.hid (fun (W : World) (hb : Below w.heap.size w W) => (show Calls Try.prog 56 #[.agg #[.int .i64 s.n, .slice A1 s.shots.length c1, .slice A2 s.marks.length c2, .slice A3 s.threads.length c3], .slice AP xs.length cp] W fun e w' => e = .returned (.bool true) ∧ Below W.heap.size W w' by have h := isLoop_any s.n (.slice A1 s.shots.length c1) (.slice A2 s.marks.length c2) (.slice A3 s.threads.length c3) xs cp AP W ((RP.out.below hb).more hb.size) hl9; rw [hlp] at h; exact h))
  obtain ⟨⟨n1, n2, g3, g4, g5⟩, _⟩ := svOk_spec hok
  obtain ⟨ln2, ln20⟩ := loop_len hlp
  have HRn := Lib.hid (fun (k : Nat) (hk : k < xs.length) hn => lvLoop_none hok hlp hk hn)
  have HRs := Lib.hid (fun hn => lvLoop_said hok hlp hn)
  have HIN := Lib.hid (fun (k : Nat) (hk : k < xs.length) => stp_in hlp hk)
  have HSB := Lib.hid (svOk_shB hok)
  have HBD := Lib.hid (fun k => sumTo_bd hok xs k)
  obtain ⟨cs, hcs⟩ : ∃ cs, wkC (.int .i64 s.n) (.slice A1 s.shots.length c1) (.slice A2 s.marks.length c2) (.slice A3 s.threads.length c3) = cs := ⟨_, rfl⟩
  have hcs' : (((Try.zeroCells93.setIfInBounds 0 (.int .i64 s.n)).setIfInBounds 1 (.slice A1 s.shots.length c1)).setIfInBounds 2 (.slice A2 s.marks.length c2)).setIfInBounds 3 (.slice A3 s.threads.length c3) = cs := (wkC_eq _ _ _ _).trans hcs
  have HAL := Lib.hid (fun (k : Nat) (hk : k < xs.length) (W : World) (hb : Below w.heap.size w W) => along_any s (xs.getD k 0) (xs.getD ((k + 1) % xs.length) 0) cs W hok (stp_in hlp hk).1 (stp_in hlp hk).2.1 (stp_in hlp hk).2.2.1 (stp_in hlp hk).2.2.2.1 (stp_in hlp hk).2.2.2.2 (by rw [← hcs]; exact (wkAll_of W s c1 c2 c3 A1 A2 A3 hok ((P1.out.below hb).more hb.size) ((P2.out.below hb).more hb.size)).at_))
  have HCS' := Lib.hid hcs'
  obtain ⟨LR, hLR⟩ : ∃ LR, lvLoop s xs = LR := ⟨_, rfl⟩
  obtain ⟨⟨u1, u2⟩, u3⟩ := LR
  rw [hLR]
  have HLR := Lib.hid hLR
  clear e1 hok hlp hcs hcs' hLR
  go_enter Try.func24, Try.ntmps24
  go_upto_region 8 with (first | (go_at_call 20; refine HC.out.mono ?_; rintro e w1 ⟨rfl, hb1⟩; obtain ⟨hc1, hf1⟩ := bcell hb1; have hz1 := hb1.size; (try simp at hz1); (have hy1 : w.heap.size < w1.heap.size := by omega); (have hy2 : w.heap.size + 1 < w1.heap.size := by omega); have GX := Lib.hid ((hb1.block (w.heap.size + 1) (by simp <;> omega)).trans G0.out)) | (go_at_call 56; refine (HIL.out w1 (by (repeat' (first | (with_reducible exact Below.refl _ _) | (with_reducible refine Below.alloc ?_ ?_ _) | (with_reducible refine Below.drew ?_) | (with_reducible refine Below.drewN_ ?_ _) | (with_reducible refine Below.setCell ?_ ?_ _) | (with_reducible refine Below.setRow ?_ ?_ _) | (with_reducible refine Below.via ?_ (by with_reducible assumption) ?_) | go_size)))).mono ?_; rintro e w1' ⟨rfl, hb⟩; obtain ⟨hc, hf⟩ := bcell hb; have hz := hb.size; (have hy : w.heap.size < w1'.heap.size := by omega); (have hy' : w.heap.size + 1 < w1'.heap.size := by omega); have GZ := Lib.hid ((hb.block (w.heap.size + 1) (by omega)).trans GX.out)))
  obtain ⟨w2, hw2⟩ : ∃ w2, w1'.alloc (.cells #[.int .i64 0, .int .i64 0] 36) = w2 := ⟨_, rfl⟩
  obtain ⟨gs, hgs⟩ : ∃ gs, w1'.heap.size = gs := ⟨_, rfl⟩
  rw [hw2, hgs]
  have s0 : w2.cell? ⟨w.heap.size, 0, none⟩ = some (.int .i64 s.n) := by rw [← hw2, World.cell?_alloc_lt _ _ _ hy, hc _ _ hy1, hc1 _ _ (by simp; omega)]; simp
  have s1 : w2.cell? ⟨w.heap.size, 1, none⟩ = some (.slice A1 s.shots.length c1) := by rw [← hw2, World.cell?_alloc_lt _ _ _ hy, hc _ _ hy1, hc1 _ _ (by simp; omega)]; simp
  have s2 : w2.cell? ⟨w.heap.size, 2, none⟩ = some (.slice A2 s.marks.length c2) := by rw [← hw2, World.cell?_alloc_lt _ _ _ hy, hc _ _ hy1, hc1 _ _ (by simp; omega)]; simp
  have s3 : w2.cell? ⟨w.heap.size, 3, none⟩ = some (.slice A3 s.threads.length c3) := by rw [← hw2, World.cell?_alloc_lt _ _ _ hy, hc _ _ hy1, hc1 _ _ (by simp; omega)]; simp
  have GX2 := Lib.hid (show w2.heap[w.heap.size + 1]? = some (.cells #[.int .i64 0, .int .i64 0] 36 (0, 0)) by rw [← hw2]; exact (Below.heap_alloc _ _ _ hy').trans GZ.out)
  have GS2 := Lib.hid (show w2.heap[gs]? = some (.cells #[.int .i64 0, .int .i64 0] 36 (0, 0)) by rw [← hw2, ← hgs]; exact heap_alloc_new _ _)
  have hb02 : Below w.heap.size w w2 := by rw [← hw2]; (repeat' (first | (with_reducible exact Below.refl _ _) | (with_reducible refine Below.alloc ?_ ?_ _) | (with_reducible refine Below.drew ?_) | (with_reducible refine Below.drewN_ ?_ _) | (with_reducible refine Below.setCell ?_ ?_ _) | (with_reducible refine Below.setRow ?_ ?_ _) | (with_reducible refine Below.via ?_ (by with_reducible assumption) ?_) | go_size))
  have hgw : w.heap.size + 1 < gs := by omega
  have hgl : gs < w2.heap.size := by rw [← hw2, ← hgs]; simp
  have RP0 := Lib.hid RP.out
  clear hw2 hgs hc hf hb hz hy hy' GX GZ hc1 hf1 hb1 hz1 hy1 hy2 hb0 R1 R2 R3 P1 P2 RP HC HIL G0 w1 w1'
  go_loopw [8, 27] (fun v8 v27 W => ∃ k : Nat, k ≤ xs.length ∧ v27 = .int .i64 k ∧ v8 = .bool (!ordB s xs k) ∧ (∀ j, j < k → 0 < (stpOf s xs j).2) ∧ W.heap[gs]? = some (.cells #[.int .i64 (sumTo s xs k).1, .int .i64 (sumTo s xs k).2] 36 (0, 0)) ∧ Below gs w2 W) (fun _ v27 _ => xs.length - (intOf v27).toNat)
  case atStart => exact ⟨0, by omega, rfl, rfl, fun j hj => by omega, GS2.out, (Below.refl gs w2)⟩
  case round =>
    obtain ⟨k, hk, rfl, rfl, hall, hS, hb⟩ := hrel
    have HA := Lib.hid hall
    have HS := Lib.hid hS
    have hsz : gs < wr.heap.size := (Array.getElem?_eq_some_iff.1 hS).1
    have m0 := (hb.cell (p := ⟨w.heap.size, 0, none⟩) (by show w.heap.size < _; omega)).trans s0
    have m1 := (hb.cell (p := ⟨w.heap.size, 1, none⟩) (by show w.heap.size < _; omega)).trans s1
    have m2 := (hb.cell (p := ⟨w.heap.size, 2, none⟩) (by show w.heap.size < _; omega)).trans s2
    have m3 := (hb.cell (p := ⟨w.heap.size, 3, none⟩) (by show w.heap.size < _; omega)).trans s3
    have HG := Lib.hid ((hb.block (w.heap.size + 1) hgw).trans GX2.out)
    have hb0r : Below w.heap.size w wr := hb02.trans (hb.mono (by omega))
    clear hall hS s0 s1 s2 s3 GX2 GS2
    by_cases hlt : k < xs.length
    · have hblw : Below gs w2 wr := hb
      have hRP := ((RP0.out.below (hb0r)))
      obtain ⟨bp, op, rfl, hbl, hcell⟩ := hRP.at_ hlt
      have q0 := hcell 0 _ rfl
      simp only [Nat.add_zero, Nat.mul_one] at q0
      clear hcell
      have hg0 : xs.getD k 0 = xs[k] := by rw [List.getD_eq_getElem?_getD, List.getElem?_eq_getElem hlt]; rfl
      rw [← hg0] at q0
      have hRPW := Lib.hid hRP
      have hblr : bp < wr.heap.size := Nat.lt_of_lt_of_le hbl (by omega)
      have HAF := Lib.hid (fun (W : World) (h : Below wr.heap.size wr W) => after_any xs cp (some ⟨bp, op, none⟩) k W (((hRPW.out.more (by omega : w.heap.size ≤ wr.heap.size)).below h).more h.size) hl9 hlt)
      have HALk := Lib.hid (HAL.out k hlt)
      have hal := al_sy (xs.getD k 0) (xs.getD ((k + 1) % xs.length) 0) s.shots HSB.out
      have hbd := syFold_bd (xs.getD k 0) (xs.getD ((k + 1) % xs.length) 0) s.shots HSB.out
      have hbd2 := HBD.out k
      have HST := Lib.hid (show stpOf s xs k = syFold (xs.getD k 0) (xs.getD ((k + 1) % xs.length) 0) s.shots from rfl)
      have HOS := Lib.hid (ordB_succ s xs k)
      have HSS := Lib.hid (show sumTo s xs (k + 1) = ((sumTo s xs k).1 + (stpOf s xs k).1.1, (sumTo s xs k).2 + (stpOf s xs k).1.2) from rfl)
      generalize alFold (xs.getD k 0) (xs.getD ((k + 1) % xs.length) 0) s.shots = al at *
      generalize syFold (xs.getD k 0) (xs.getD ((k + 1) % xs.length) 0) s.shots = sy at *
      generalize xs.getD k 0 = px at *
      generalize xs.getD ((k + 1) % xs.length) 0 = nx at *
      generalize sumTo s xs k = su at *
      obtain ⟨⟨lo, hi⟩, n⟩ := sy
      obtain ⟨⟨al1, al2⟩, al3⟩ := al
      obtain ⟨su1, su2⟩ := su
      dsimp only at hbd hbd2 HSS
      have hal1 := hal.1
      dsimp only at hal1
      have hcs' := HCS'.out
      clear hg0 hal hRP
      go_upto_region 10 with fail
      refine (wpIn_wide (n := 3)).1 ?_
      refine wpIn_region_planYA (X := Nat) (by kernel_rfl) 14 (by kernel_rfl) (by kernel_rfl) (by omega)
        (fun x i => if i = 11 then .pointer (some ⟨x, 0, none⟩) else (#[.agg #[.int .i64 s.n, .slice A1 s.shots.length c1, .slice A2 s.marks.length c2, .slice A3 s.threads.length c3], .agg cs, .int .i64 px, .slice (some ⟨bp, op, none⟩) xs.length cp, .int .i64 k, .int .i64 nx, .agg #[.int .i64 px, .int .i64 nx], .tuple #[.agg #[.int .i64 al1, .int .i64 al2], .bool al3], .tuple #[.agg #[.int .i64 al1, .int .i64 al2], .bool al3], .agg #[.int .i64 al1, .int .i64 al2], .bool al3, undef, undef, .bool al3] : Array Value).getD i undef)
        (fun L x W => Below wr.heap.size wr W ∧ (L 11 = true → wr.heap.size ≤ x ∧ W.heap[x]? = some (.cells (if L 12 then #[.int .i64 al1, .int .i64 al2] else #[.int .i64 0, .int .i64 0]) 36 (0, 0)))) _ _ 0 ?aF ?hA ?hS ?hstep ?htail
      case hA => intro x; simp [putTo, putIf, dstAt, Act.put, List.range_succ]; rfl
      case hS => exact fun L hL => ⟨(Below.refl _ _).drew, fun h => by rw [hL] at h; cases h⟩
      case hstep =>
        intro i o' hi ho L x W hL hcl hdep hW
        obtain ⟨hW, hW11⟩ := hW
        have HW11 := Lib.hid hW11
        clear hW11
        refine ⟨fun _ _ => trivial, ?_⟩
        have p0 := (hW.cell (p := ⟨w.heap.size, 0, none⟩) (by show w.heap.size < _; omega)).trans m0
        have p1 := (hW.cell (p := ⟨w.heap.size, 1, none⟩) (by show w.heap.size < _; omega)).trans m1
        have p2 := (hW.cell (p := ⟨w.heap.size, 2, none⟩) (by show w.heap.size < _; omega)).trans m2
        have p3 := (hW.cell (p := ⟨w.heap.size, 3, none⟩) (by show w.heap.size < _; omega)).trans m3
        have hi' : i = 0 ∨ i = 1 ∨ i = 2 ∨ i = 3 ∨ i = 4 ∨ i = 5 ∨ i = 6 ∨ i = 7 ∨ i = 8 ∨ i = 9 ∨ i = 10 ∨ i = 11 ∨ i = 12 ∨ i = 13 := by omega
        rcases hi' with rfl | rfl | rfl | rfl | rfl | rfl | rfl | rfl | rfl | rfl | rfl | rfl | rfl | rfl
        all_goals (simp only [List.getElem?_toArray, List.getElem?_cons_succ, List.getElem?_cons_zero, Option.some.injEq] at ho; subst ho)
        case inr.inr.inr.inr.inr.inl =>
          go_simp
          refine ⟨by simp, callsIn_wide.2 ((HAF.out W hW).mono ?_)⟩
          rintro e w' ⟨rfl, rfl⟩
          exact ⟨_, rfl, x, fun _ _ => rfl, rfl, hW, fun h => by simpa using HW11.out (by simpa using h)⟩
        case inr.inr.inr.inr.inr.inr.inr.inl =>
          go_simp
          refine ⟨by simp, callsIn_wide.2 ((HALk.out W (hb0r.trans (hW.mono hb0r.size))).mono ?_)⟩
          rintro e w' ⟨rfl, hb'⟩
          refine ⟨_, rfl, x, fun _ _ => rfl, rfl, hW.trans (hb'.mono hW.size), fun h => ?_⟩
          have h2 := HW11.out (by simpa using h)
          exact ⟨h2.1, by simpa using (hb'.block x (Array.getElem?_eq_some_iff.1 h2.2).1).trans h2.2⟩
        case inr.inr.inr.inr.inr.inr.inr.inr.inr.inr.inr.inl =>
          have h12 : L 12 = false := by
            cases h : L 12
            · rfl
            · have h2 := hcl 12 _ h rfl { on := 11, ground := Ground.data } (by simp) rfl
              rw [hL] at h2
              cases h2
          go_simp
          refine ⟨W.heap.size, fun j hj => ?_, rfl, hW.alloc hW.size _, fun _ => ⟨hW.size, ?_⟩⟩
          · by_cases e : j = 11
            · rw [e, hL] at hj; cases hj
            · dsimp only; rw [if_neg e, if_neg e]
          · have e : (L 12 || (12 == 11)) = false := by rw [h12]; rfl
            dsimp only
            rw [if_neg (by rw [e]; simp)]
            exact heap_alloc_new _ _
        case inr.inr.inr.inr.inr.inr.inr.inr.inr.inr.inr.inr.inl =>
          have h11 : L 11 = true := hdep { on := 11, ground := Ground.data } (by simp) rfl
          obtain ⟨hx1, hx2⟩ := HW11.out h11
          rw [hL] at hx2
          simp only [Bool.false_eq_true, if_false] at hx2
          have HX2 := Lib.hid hx2
          have y0 := cell_of_row W x 0 _ _ _ hx2
          have y1 := cell_of_row W x 1 _ _ _ hx2
          have f0 := frozen_of_row W x 0 _ _ hx2
          have f1 := frozen_of_row W x 1 _ _ hx2
          simp at y0 y1
          clear hx2
          go_simp
          refine ⟨x, fun _ _ => rfl, rfl, Below.setCell (Below.setCell hW hx1 _) hx1 _, fun _ => ⟨hx1, ?_⟩⟩
          rw [if_pos (by simp)]
          exact heap_set2 HX2.out
        all_goals go_simp
        all_goals exact ⟨x, fun _ _ => rfl, rfl, hW, fun h => by simpa using HW11.out (by simpa using h)⟩
      case htail =>
        intro L x W hL hW
        obtain ⟨hbW, hW⟩ := hW
        obtain ⟨hx1, hx2⟩ := hW (hL 11 (by omega))
        rw [if_pos (hL 12 (by omega))] at hx2
        clear hW hL
        have y0 := cell_of_row W x 0 _ _ _ hx2
        have y1 := cell_of_row W x 1 _ _ _ hx2
        have HSW := Lib.hid ((hbW.block gs hsz).trans HS.out)
        have HGW := Lib.hid ((hbW.block (w.heap.size + 1) (by omega)).trans HG.out)
        have z0 := cell_of_row W gs 0 _ _ _ HSW.out
        have z1 := cell_of_row W gs 1 _ _ _ HSW.out
        have fz0 := frozen_of_row W gs 0 _ _ HSW.out
        have fz1 := frozen_of_row W gs 1 _ _ HSW.out
        have g0 := cell_of_row W (w.heap.size + 1) 0 _ _ _ HGW.out
        have g1 := cell_of_row W (w.heap.size + 1) 1 _ _ _ HGW.out
        have fg0 := frozen_of_row W (w.heap.size + 1) 0 _ _ HGW.out
        have fg1 := frozen_of_row W (w.heap.size + 1) 1 _ _ HGW.out
        simp at y0 y1 z0 z1 g0 g1
        have hbw : Below w.heap.size w W := hb0r.trans (hbW.mono (by omega))
        have hbg : Below gs w2 W := hb.trans (hbW.mono (by omega))
        clear hx2 hbW m0 m1 m2 m3 q0 hcs' HS HG
        by_cases hn : n = 0
        · have HR := Lib.hid ((HRn.out k hlt (by rw [HST.out]; exact hn)).symm.trans HLR.out)
          rw [if_pos hn, decide_eq_false (by omega)] at hal1
          injection hal1 with _ hal3
          subst hal3
          clear hn
          gi_wp2_with fail
          go_wp2
          refine bodyPost_ret (resLoop _ _ (w.heap.size + 1) (.int .i64 0) (.int .i64 0) (.int .i64 6) rfl rfl ?_) rfl ?_
          · exact heap_set2 HGW.out
          · have h := HR.out
            injection h with h1 h2
            injection h1 with h1 h3
            subst h1 h2 h3
            exact ⟨rfl, by (repeat' (first | (with_reducible exact Below.refl _ _) | (with_reducible refine Below.alloc ?_ ?_ _) | (with_reducible refine Below.drew ?_) | (with_reducible refine Below.drewN_ ?_ _) | (with_reducible refine Below.setCell ?_ ?_ _) | (with_reducible refine Below.setRow ?_ ?_ _) | (with_reducible refine Below.via ?_ (by with_reducible assumption) ?_) | go_size))⟩
        · rw [if_neg hn, decide_eq_true (by omega)] at hal1
          injection hal1 with hal1 hal3
          injection hal1 with hal1 hal2
          subst hal1 hal2 hal3
          have w1' : IntKind.i64.wrap (su1 + al1) = su1 + al1 := IntWalk.i64_in _ (by omega)
          have w2' : IntKind.i64.wrap (su2 + al2) = su2 + al2 := IntWalk.i64_in _ (by omega)
          have HA2 := Lib.hid (show ∀ j, j < k + 1 → 0 < (stpOf s xs j).2 from fun j hj => by
            by_cases e : j < k
            · exact HA.out j e
            · rw [show j = k by omega, HST.out]
              show 0 < n
              omega)
          clear hn
          cases ho : ordB s xs k
          · have HO2 := Lib.hid (show ordB s xs (k + 1) = false by rw [HOS.out, ho]; rfl)
            clear ho HOS
            gi_wp2_with fail
            go_wp2
            go_roundw
            case rel => exact ⟨k + 1, by omega, by go_num, by rw [HO2.out]; rfl, HA2.out, by rw [HSS.out, HST.out]; exact heap_set2 HSW.out, Below.setCell (Below.setCell hbg (Nat.le_refl _) _) (Nat.le_refl _) _⟩
            case measure => (simp [intOf] <;> omega)
          · by_cases hlh : al1 ≤ al2
            · have HO2 := Lib.hid (show ordB s xs (k + 1) = true by rw [HOS.out, ho, HST.out]; simpa using hlh)
              clear ho HOS
              gi_wp2_with fail
              go_wp2
              go_roundw
              case rel => exact ⟨k + 1, by omega, by go_num, by rw [HO2.out, decide_eq_false (by omega)]; rfl, HA2.out, by rw [HSS.out, HST.out]; exact heap_set2 HSW.out, Below.setCell (Below.setCell hbg (Nat.le_refl _) _) (Nat.le_refl _) _⟩
              case measure => (simp [intOf] <;> omega)
            · have HO2 := Lib.hid (show ordB s xs (k + 1) = false by rw [HOS.out, ho, HST.out]; simpa using hlh)
              clear ho HOS
              gi_wp2_with fail
              go_wp2
              go_roundw
              case rel => exact ⟨k + 1, by omega, by go_num, by rw [HO2.out]; rfl, HA2.out, by rw [HSS.out, HST.out]; exact heap_set2 HSW.out, Below.setCell (Below.setCell hbg (Nat.le_refl _) _) (Nat.le_refl _) _⟩
              case measure => (simp [intOf] <;> omega)
    · have hkN : k = xs.length := by omega
      have HR := Lib.hid ((HRs.out (fun j hj => HA.out j (by omega))).symm.trans HLR.out)
      have z0 := cell_of_row wr gs 0 _ _ _ HS.out
      have z1 := cell_of_row wr gs 1 _ _ _ HS.out
      have g0 := cell_of_row wr (w.heap.size + 1) 0 _ _ _ HG.out
      have g1 := cell_of_row wr (w.heap.size + 1) 1 _ _ _ HG.out
      have fg0 := frozen_of_row wr (w.heap.size + 1) 0 _ _ HG.out
      have fg1 := frozen_of_row wr (w.heap.size + 1) 1 _ _ HG.out
      simp at z0 z1 g0 g1
      subst hkN
      generalize sumTo s xs xs.length = su at *
      have HR2 := Lib.hid (show (if ordB s xs xs.length = false then ((0, 0), 11) else (su, 0)) = ((u1, u2), u3) from HR.out)
      clear HR
      cases ho : ordB s xs xs.length
      · have h := HR2.out
        rw [if_pos ho] at h
        have HR3 := Lib.hid h
        clear h ho HR2
        go_wp2
        refine bodyPost_ret (resLoop _ _ (w.heap.size + 1) (.int .i64 0) (.int .i64 0) (.int .i64 11) rfl rfl ?_) rfl ?_
        · exact heap_set2 HG.out
        · have h := HR3.out
          injection h with h1 h2
          injection h1 with h1 h3
          subst h1 h2 h3
          exact ⟨rfl, by (repeat' (first | (with_reducible exact Below.refl _ _) | (with_reducible refine Below.alloc ?_ ?_ _) | (with_reducible refine Below.drew ?_) | (with_reducible refine Below.drewN_ ?_ _) | (with_reducible refine Below.setCell ?_ ?_ _) | (with_reducible refine Below.setRow ?_ ?_ _) | (with_reducible refine Below.via ?_ (by with_reducible assumption) ?_) | go_size))⟩
      · have h := HR2.out
        rw [if_neg (by rw [ho]; simp)] at h
        have HR3 := Lib.hid h
        clear h ho HR2
        go_wp2
        refine bodyPost_ret (resLoop _ _ (w.heap.size + 1) (.int .i64 su.1) (.int .i64 su.2) (.int .i64 0) rfl rfl ?_) rfl ?_
        · exact heap_set2 HG.out
        · have h := HR3.out
          injection h with h1 h2
          subst h2
          rw [h1]
          exact ⟨rfl, by (repeat' (first | (with_reducible exact Below.refl _ _) | (with_reducible refine Below.alloc ?_ ?_ _) | (with_reducible refine Below.drew ?_) | (with_reducible refine Below.drewN_ ?_ _) | (with_reducible refine Below.setCell ?_ ?_ _) | (with_reducible refine Below.setRow ?_ ?_ _) | (with_reducible refine Below.via ?_ (by with_reducible assumption) ?_) | go_size))⟩

theorem lloop_any (s : Sv) (xs : List Int) (cp c1 c2 c3 : Nat) (AP A1 A2 A3 : Option Addr) (w : World)
    (r1 : Rd w w.heap.size A1 shV 4 s.shots) (r2 : Rd w w.heap.size A2 mkV 3 s.marks) (r3 : Rd w w.heap.size A3 shV 4 s.threads) (rp : Rd w w.heap.size AP inV 1 xs) (hl9 : xs.length ≤ 1000000000) :
    Calls Try.prog 24 #[.agg #[.int .i64 s.n, .slice A1 s.shots.length c1, .slice A2 s.marks.length c2, .slice A3 s.threads.length c3], .slice AP xs.length cp] w fun e w' =>
      e = .returned (.tuple #[.agg #[.int .i64 (lvLoop s xs).1.1, .int .i64 (lvLoop s xs).1.2], .int .i64 (lvLoop s xs).2]) ∧ Below w.heap.size w w' := by
  cases hok : svOk s
  · exact lloop_bad s xs cp c1 c2 c3 AP A1 A2 A3 w r1 r2 r3 rp hl9 hok
  · cases hlp : loopB s.n xs
    · exact lloop_arg s xs cp c1 c2 c3 AP A1 A2 A3 w r1 r2 r3 rp hl9 hok hlp
    · exact lloop_main s xs cp c1 c2 c3 AP A1 A2 A3 w r1 r2 r3 rp hl9 hok hlp

end Go.Proofs.Ytaoonfmcimkmhaa
