/- level.Fall: what it answers of every survey that reads as plain data. Condition: the survey's slices read below the heap's end. -/
import Derived.Test.YtaoonfmcimkmhaaLevHts
namespace Go.Proofs.Ytaoonfmcimkmhaa
open Go.RowKit

/-- What level.Fall answers. -/
def lvFall (s : Sv) (a b : Int) : (Int × Int) × Int := if svOk s = false then ((0, 0), 10) else if (inB s.n a && inB s.n b) = false then ((0, 0), 2) else if (svD s).2 = false then ((0, 0), 11)
  else ((-((svD s).1 a.toNat b.toNat), (svD s).1 b.toNat a.toNat), 0)

theorem info36' : (Try.prog.info? 36).map (·.size) = some 2 := by kernel_rfl
theorem resFall (tmps : Array Value) (W : World) (g : Nat) (x y : Value) (e : Value) (h1 : tmps.getD 6 undef = .pointer (some ⟨g, 0, none⟩)) (h2 : tmps.getD 7 undef = e) (hM : W.heap[g]? = some (.cells #[x, y] 36 (0, 0))) :
    (results Try.f18 tmps).run Try.prog W = .ok (.tuple #[.agg #[x, y], e]) W := by
  rw [results_cell_tmp Try.results18, h1, h2]
  simp only [asAddr, Sem.run_pure, Result.andThen_ok]
  rw [run_loadVar_row W g _ _ #[x, y] (0, 0) _ hM Try.underlying36 rfl info36']
  rfl
theorem heap_set2 {w : World} {g : Nat} {x y a b : Value} {t : TypeId} (h : w.heap[g]? = some (.cells #[x, y] t (0, 0))) : ((w.setCell ⟨g, 0, none⟩ a).setCell ⟨g, 1, none⟩ b).heap[g]? = some (.cells #[a, b] t (0, 0)) := by
  rw [heap_setCell_same _ g 1 _ _ b (heap_setCell_same w g 0 _ _ a h)]
  rfl

set_option maxRecDepth 100000 in
set_option maxHeartbeats 1000000 in
theorem fall_bad (s : Sv) (from_ to_ : Int) (c1 c2 c3 : Nat) (A1 A2 A3 : Option Addr) (w : World)
    (r1 : Rd w w.heap.size A1 shV 4 s.shots) (r2 : Rd w w.heap.size A2 mkV 3 s.marks) (r3 : Rd w w.heap.size A3 shV 4 s.threads) (hok : svOk s = false) :
    Calls Try.prog 18 #[.agg #[.int .i64 s.n, .slice A1 s.shots.length c1, .slice A2 s.marks.length c2, .slice A3 s.threads.length c3], .int .i64 from_, .int .i64 to_] w fun e w' =>
      e = .returned (.tuple #[.agg #[.int .i64 (lvFall s from_ to_).1.1, .int .i64 (lvFall s from_ to_).1.2], .int .i64 (lvFall s from_ to_).2]) ∧ Below w.heap.size w w' := by
  have hb0 : Below w.heap.size w ((w.alloc (Obj.cells #[Value.int IntKind.i64 s.n, Value.slice A1 s.shots.length c1, Value.slice A2 s.marks.length c2, Value.slice A3 s.threads.length c3] 26)).alloc (Obj.cells #[Value.int IntKind.i64 0, Value.int IntKind.i64 0] 36)) := by (repeat' (first | (with_reducible exact Below.refl _ _) | (with_reducible refine Below.alloc ?_ ?_ _) | (with_reducible refine Below.drew ?_) | (with_reducible refine Below.drewN_ ?_ _) | (with_reducible refine Below.setCell ?_ ?_ _) | (with_reducible refine Below.setRow ?_ ?_ _) | (with_reducible refine Below.via ?_ (by with_reducible assumption) ?_) | go_size))
  have R1 := Lib.hid ((r1.below hb0).more hb0.size)
  have R2 := Lib.hid ((r2.below hb0).more hb0.size)
  have R3 := Lib.hid ((r3.below hb0).more hb0.size)
  clear r1 r2 r3
  have HC := Lib.hid (lcheck_any s c1 c2 c3 A1 A2 A3 ((w.alloc (Obj.cells #[Value.int IntKind.i64 s.n, Value.slice A1 s.shots.length c1, Value.slice A2 s.marks.length c2, Value.slice A3 s.threads.length c3] 26)).alloc (Obj.cells #[Value.int IntKind.i64 0, Value.int IntKind.i64 0] 36)) R1.out R2.out R3.out)
  have G0 := Lib.hid (heap_alloc2_new w (Obj.cells #[Value.int IntKind.i64 s.n, Value.slice A1 s.shots.length c1, Value.slice A2 s.marks.length c2, Value.slice A3 s.threads.length c3] 26) (Obj.cells #[Value.int IntKind.i64 0, Value.int IntKind.i64 0] 36))
  have e1 : svErr s = 10 := by unfold svErr; rw [hok]; rfl
  have e2 : lvFall s from_ to_ = ((0, 0), 10) := by unfold lvFall; rw [if_pos hok]
  rw [e1] at HC
  rw [e2]
  clear e1 e2 hok
  go_enter Try.func18, Try.ntmps18
  go_wp2_with (go_at_call 20; refine HC.out.mono ?_; rintro e w1 ⟨rfl, hb1⟩; obtain ⟨hc1, hf1⟩ := bcell hb1; have hz1 := hb1.size; (try simp at hz1); (have hy1 : w.heap.size < w1.heap.size := by omega); (have hy2 : w.heap.size + 1 < w1.heap.size := by omega); have GX := Lib.hid ((hb1.block (w.heap.size + 1) (by simp <;> omega)).trans G0.out))
  refine bodyPost_ret (resFall _ _ (w.heap.size + 1) (.int .i64 0) (.int .i64 0) (.int .i64 10) rfl rfl ?_) rfl ?_
  · exact heap_set2 GX.out
  · exact ⟨rfl, by (repeat' (first | (with_reducible exact Below.refl _ _) | (with_reducible refine Below.alloc ?_ ?_ _) | (with_reducible refine Below.drew ?_) | (with_reducible refine Below.drewN_ ?_ _) | (with_reducible refine Below.setCell ?_ ?_ _) | (with_reducible refine Below.setRow ?_ ?_ _) | (with_reducible refine Below.via ?_ (by with_reducible assumption) ?_) | go_size))⟩

set_option maxRecDepth 100000 in
set_option maxHeartbeats 1000000 in
theorem fall_arg (s : Sv) (from_ to_ : Int) (c1 c2 c3 : Nat) (A1 A2 A3 : Option Addr) (w : World)
    (r1 : Rd w w.heap.size A1 shV 4 s.shots) (r2 : Rd w w.heap.size A2 mkV 3 s.marks) (r3 : Rd w w.heap.size A3 shV 4 s.threads) (hok : svOk s = true) (hin : (inB s.n from_ && inB s.n to_) = false) :
    Calls Try.prog 18 #[.agg #[.int .i64 s.n, .slice A1 s.shots.length c1, .slice A2 s.marks.length c2, .slice A3 s.threads.length c3], .int .i64 from_, .int .i64 to_] w fun e w' =>
      e = .returned (.tuple #[.agg #[.int .i64 (lvFall s from_ to_).1.1, .int .i64 (lvFall s from_ to_).1.2], .int .i64 (lvFall s from_ to_).2]) ∧ Below w.heap.size w w' := by
  have hb0 : Below w.heap.size w ((w.alloc (Obj.cells #[Value.int IntKind.i64 s.n, Value.slice A1 s.shots.length c1, Value.slice A2 s.marks.length c2, Value.slice A3 s.threads.length c3] 26)).alloc (Obj.cells #[Value.int IntKind.i64 0, Value.int IntKind.i64 0] 36)) := by (repeat' (first | (with_reducible exact Below.refl _ _) | (with_reducible refine Below.alloc ?_ ?_ _) | (with_reducible refine Below.drew ?_) | (with_reducible refine Below.drewN_ ?_ _) | (with_reducible refine Below.setCell ?_ ?_ _) | (with_reducible refine Below.setRow ?_ ?_ _) | (with_reducible refine Below.via ?_ (by with_reducible assumption) ?_) | go_size))
  have R1 := Lib.hid ((r1.below hb0).more hb0.size)
  have R2 := Lib.hid ((r2.below hb0).more hb0.size)
  have R3 := Lib.hid ((r3.below hb0).more hb0.size)
  clear r1 r2 r3
  have HC := Lib.hid (lcheck_any s c1 c2 c3 A1 A2 A3 ((w.alloc (Obj.cells #[Value.int IntKind.i64 s.n, Value.slice A1 s.shots.length c1, Value.slice A2 s.marks.length c2, Value.slice A3 s.threads.length c3] 26)).alloc (Obj.cells #[Value.int IntKind.i64 0, Value.int IntKind.i64 0] 36)) R1.out R2.out R3.out)
  have G0 := Lib.hid (heap_alloc2_new w (Obj.cells #[Value.int IntKind.i64 s.n, Value.slice A1 s.shots.length c1, Value.slice A2 s.marks.length c2, Value.slice A3 s.threads.length c3] 26) (Obj.cells #[Value.int IntKind.i64 0, Value.int IntKind.i64 0] 36))
  have e1 : svErr s = 0 := by unfold svErr; rw [hok]; rfl
  rw [e1] at HC
  have HOK := Lib.hid hok
  clear e1 hok
  have e2 : lvFall s from_ to_ = ((0, 0), 2) := by unfold lvFall; rw [if_neg (by rw [HOK.out]; simp), if_pos hin]
  rw [e2]
  have hin' : inB s.n from_ = false ∨ (inB s.n from_ = true ∧ inB s.n to_ = false) := by
    cases h1 : inB s.n from_
    · exact .inl rfl
    · rw [h1] at hin; exact .inr ⟨rfl, by simpa using hin⟩
  clear e2 hin
  rcases hin' with h1 | ⟨h1, h2⟩
  · go_enter Try.func18, Try.ntmps18
    go_wp2_with (first | (go_at_call 20; refine HC.out.mono ?_; rintro e w1 ⟨rfl, hb1⟩; obtain ⟨hc1, hf1⟩ := bcell hb1; have hz1 := hb1.size; (try simp at hz1); (have hy1 : w.heap.size < w1.heap.size := by omega); (have hy2 : w.heap.size + 1 < w1.heap.size := by omega); have GX := Lib.hid ((hb1.block (w.heap.size + 1) (by simp <;> omega)).trans G0.out)) | (go_at_call 49; refine (isPoint_any _ _ _ _ _ _).mono ?_; rintro e w1' ⟨rfl, hb⟩; obtain ⟨hc, hf⟩ := bcell hb; have hz := hb.size; (have hy : w.heap.size < w1'.heap.size := by omega); (have hy' : w.heap.size + 1 < w1'.heap.size := by omega); have GX := Lib.hid ((hb.block (w.heap.size + 1) (by omega)).trans GX.out)))
    refine bodyPost_ret (resFall _ _ (w.heap.size + 1) (.int .i64 0) (.int .i64 0) (.int .i64 2) rfl rfl ?_) rfl ?_
    · exact heap_set2 GX.out
    · exact ⟨rfl, by (repeat' (first | (with_reducible exact Below.refl _ _) | (with_reducible refine Below.alloc ?_ ?_ _) | (with_reducible refine Below.drew ?_) | (with_reducible refine Below.drewN_ ?_ _) | (with_reducible refine Below.setCell ?_ ?_ _) | (with_reducible refine Below.setRow ?_ ?_ _) | (with_reducible refine Below.via ?_ (by with_reducible assumption) ?_) | go_size))⟩
  · go_enter Try.func18, Try.ntmps18
    go_wp2_with (first | (go_at_call 20; refine HC.out.mono ?_; rintro e w1 ⟨rfl, hb1⟩; obtain ⟨hc1, hf1⟩ := bcell hb1; have hz1 := hb1.size; (try simp at hz1); (have hy1 : w.heap.size < w1.heap.size := by omega); (have hy2 : w.heap.size + 1 < w1.heap.size := by omega); have GX := Lib.hid ((hb1.block (w.heap.size + 1) (by simp <;> omega)).trans G0.out)) | (go_at_call 49; refine (isPoint_any _ _ _ _ _ _).mono ?_; rintro e w1' ⟨rfl, hb⟩; obtain ⟨hc, hf⟩ := bcell hb; have hz := hb.size; (have hy : w.heap.size < w1'.heap.size := by omega); (have hy' : w.heap.size + 1 < w1'.heap.size := by omega); have GX := Lib.hid ((hb.block (w.heap.size + 1) (by omega)).trans GX.out)))
    refine bodyPost_ret (resFall _ _ (w.heap.size + 1) (.int .i64 0) (.int .i64 0) (.int .i64 2) rfl rfl ?_) rfl ?_
    · exact heap_set2 GX.out
    · exact ⟨rfl, by (repeat' (first | (with_reducible exact Below.refl _ _) | (with_reducible refine Below.alloc ?_ ?_ _) | (with_reducible refine Below.drew ?_) | (with_reducible refine Below.drewN_ ?_ _) | (with_reducible refine Below.setCell ?_ ?_ _) | (with_reducible refine Below.setRow ?_ ?_ _) | (with_reducible refine Below.via ?_ (by with_reducible assumption) ?_) | go_size))⟩

set_option maxRecDepth 100000 in
set_option maxHeartbeats 1000000 in
theorem fall_apart (s : Sv) (from_ to_ : Int) (c1 c2 c3 : Nat) (A1 A2 A3 : Option Addr) (w : World)
    (r1 : Rd w w.heap.size A1 shV 4 s.shots) (r2 : Rd w w.heap.size A2 mkV 3 s.marks) (r3 : Rd w w.heap.size A3 shV 4 s.threads) (hok : svOk s = true) (hin : (inB s.n from_ && inB s.n to_) = true) (D : Nat → Nat → Int) (hR : svD s = (D, false)) :
    Calls Try.prog 18 #[.agg #[.int .i64 s.n, .slice A1 s.shots.length c1, .slice A2 s.marks.length c2, .slice A3 s.threads.length c3], .int .i64 from_, .int .i64 to_] w fun e w' =>
      e = .returned (.tuple #[.agg #[.int .i64 (lvFall s from_ to_).1.1, .int .i64 (lvFall s from_ to_).1.2], .int .i64 (lvFall s from_ to_).2]) ∧ Below w.heap.size w w' := by
  have hb0 : Below w.heap.size w ((w.alloc (Obj.cells #[Value.int IntKind.i64 s.n, Value.slice A1 s.shots.length c1, Value.slice A2 s.marks.length c2, Value.slice A3 s.threads.length c3] 26)).alloc (Obj.cells #[Value.int IntKind.i64 0, Value.int IntKind.i64 0] 36)) := by (repeat' (first | (with_reducible exact Below.refl _ _) | (with_reducible refine Below.alloc ?_ ?_ _) | (with_reducible refine Below.drew ?_) | (with_reducible refine Below.drewN_ ?_ _) | (with_reducible refine Below.setCell ?_ ?_ _) | (with_reducible refine Below.setRow ?_ ?_ _) | (with_reducible refine Below.via ?_ (by with_reducible assumption) ?_) | go_size))
  have R1 := Lib.hid ((r1.below hb0).more hb0.size)
  have R2 := Lib.hid ((r2.below hb0).more hb0.size)
  have R3 := Lib.hid ((r3.below hb0).more hb0.size)
  clear r1 r2 r3
  have HC := Lib.hid (lcheck_any s c1 c2 c3 A1 A2 A3 ((w.alloc (Obj.cells #[Value.int IntKind.i64 s.n, Value.slice A1 s.shots.length c1, Value.slice A2 s.marks.length c2, Value.slice A3 s.threads.length c3] 26)).alloc (Obj.cells #[Value.int IntKind.i64 0, Value.int IntKind.i64 0] 36)) R1.out R2.out R3.out)
  have G0 := Lib.hid (heap_alloc2_new w (Obj.cells #[Value.int IntKind.i64 s.n, Value.slice A1 s.shots.length c1, Value.slice A2 s.marks.length c2, Value.slice A3 s.threads.length c3] 26) (Obj.cells #[Value.int IntKind.i64 0, Value.int IntKind.i64 0] 36))
  have e1 : svErr s = 0 := by unfold svErr; rw [hok]; rfl
  rw [e1] at HC
  have HOK := Lib.hid hok
  clear e1 hok
  have h12 : inB s.n from_ = true ∧ inB s.n to_ = true := by simpa using hin
  obtain ⟨h1, h2⟩ := h12
  have hst := wkC_one s.n A1 A2 A3 s.shots.length s.marks.length s.threads.length c1 c2 c3
  have hsz := wkC_size (.int .i64 s.n) (.slice A1 s.shots.length c1) (.slice A2 s.marks.length c2) (.slice A3 s.threads.length c3)
  obtain ⟨cs, hcs⟩ : ∃ cs, wkC (.int .i64 s.n) (.slice A1 s.shots.length c1) (.slice A2 s.marks.length c2) (.slice A3 s.threads.length c3) = cs := ⟨_, rfl⟩
  have hcs' : (((Try.zeroCells93.setIfInBounds 0 (.int .i64 s.n)).setIfInBounds 1 (.slice A1 s.shots.length c1)).setIfInBounds 2 (.slice A2 s.marks.length c2)).setIfInBounds 3 (.slice A3 s.threads.length c3) = cs := (wkC_eq _ _ _ _).trans hcs
  have HCS := Lib.hid hcs
  clear hst hsz hcs
  have hda : ∀ W, WkAll W cs s (fun _ => false) 0 → Calls Try.prog 44 #[.agg cs] W fun e w' => e = .returned (.tuple #[.agg (matV D), .bool false]) ∧ Below W.heap.size W w' := fun W h => by
    have h2 := differences_any cs s _ 0 W h
    unfold svD at hR
    rw [hR] at h2
    exact h2
  have HDA := Lib.hid hda
  have HR := Lib.hid hR
  clear hda hR
  have e2 : lvFall s from_ to_ = ((0, 0), 11) := by unfold lvFall; rw [if_neg (by rw [HOK.out]; simp), if_neg (by rw [hin]; simp), HR.out]; rfl
  rw [e2]
  clear e2 hin
  have tok1 : True := trivial
  go_enter Try.func18, Try.ntmps18
  go_wp2_with (first | (go_at_call 20; refine HC.out.mono ?_; rintro e w1 ⟨rfl, hb1⟩; obtain ⟨hc1, hf1⟩ := bcell hb1; have hz1 := hb1.size; (try simp at hz1); (have hy1 : w.heap.size < w1.heap.size := by omega); (have hy2 : w.heap.size + 1 < w1.heap.size := by omega); have BX := Lib.hid hb1; have GX := Lib.hid ((hb1.block (w.heap.size + 1) (by simp <;> omega)).trans G0.out)) | (go_at_call 49; refine (isPoint_any _ _ _ _ _ _).mono ?_; rintro e w1' ⟨rfl, hb⟩; obtain ⟨hc, hf⟩ := bcell hb; have hz := hb.size; (have hy : w.heap.size < w1'.heap.size := by omega); (have hy' : w.heap.size + 1 < w1'.heap.size := by omega); have BX := Lib.hid (BX.out.trans (hb.mono (by have := BX.out.size; omega))); have GX := Lib.hid ((hb.block (w.heap.size + 1) (by omega)).trans GX.out)) | (go_at_call 44; refine (HDA.out _ (by rw [← HCS.out]; exact wkAll_of _ s c1 c2 c3 A1 A2 A3 HOK.out ((R1.out.below BX.out).more BX.out.size) ((R2.out.below BX.out).more BX.out.size))).mono ?_; rintro e w2 ⟨rfl, hb2⟩; have hz2 := hb2.size; have GY := Lib.hid ((hb2.block (w.heap.size + 1) (by omega)).trans GX.out); clear hcs'; obtain ⟨hc2, hf2⟩ := bcell hb2; (have hy2 : w.heap.size < w2.heap.size := by omega); (have hy2' : w.heap.size + 1 < w2.heap.size := by omega)) | (have _t := tok1; refine wpList_store_row rfl 96 (.tmp 9) (.tmp 32) rfl w2.heap.size (matV D) rfl rfl 96 Try.zeroCells96 (heap_alloc_new _ _) (info96 D) (zero96_size D) (matV_one D) ?_; rw [World.setRow_alloc_new]; clear tok1 _t))
  refine bodyPost_ret (resFall _ _ (w.heap.size + 1) (.int .i64 0) (.int .i64 0) (.int .i64 11) rfl rfl ?_) rfl ?_
  · exact (Below.heap_alloc _ _ _ (by simp <;> omega)).trans (heap_set2 GY.out)
  · exact ⟨rfl, by (repeat' (first | (with_reducible exact Below.refl _ _) | (with_reducible refine Below.alloc ?_ ?_ _) | (with_reducible refine Below.drew ?_) | (with_reducible refine Below.drewN_ ?_ _) | (with_reducible refine Below.setCell ?_ ?_ _) | (with_reducible refine Below.setRow ?_ ?_ _) | (with_reducible refine Below.via ?_ (by with_reducible assumption) ?_) | go_size))⟩

set_option maxRecDepth 100000 in
set_option maxHeartbeats 1000000 in
theorem fall_fine (s : Sv) (a b : Nat) (c1 c2 c3 : Nat) (A1 A2 A3 : Option Addr) (w : World)
    (r1 : Rd w w.heap.size A1 shV 4 s.shots) (r2 : Rd w w.heap.size A2 mkV 3 s.marks) (r3 : Rd w w.heap.size A3 shV 4 s.threads) (hok : svOk s = true) (hin : (inB s.n a && inB s.n b) = true) (D : Nat → Nat → Int) (hR : svD s = (D, true)) :
    Calls Try.prog 18 #[.agg #[.int .i64 s.n, .slice A1 s.shots.length c1, .slice A2 s.marks.length c2, .slice A3 s.threads.length c3], .int .i64 (a : Int), .int .i64 (b : Int)] w fun e w' =>
      e = .returned (.tuple #[.agg #[.int .i64 (lvFall s (a : Int) (b : Int)).1.1, .int .i64 (lvFall s (a : Int) (b : Int)).1.2], .int .i64 (lvFall s (a : Int) (b : Int)).2]) ∧ Below w.heap.size w w' := by
  have hb0 : Below w.heap.size w ((w.alloc (Obj.cells #[Value.int IntKind.i64 s.n, Value.slice A1 s.shots.length c1, Value.slice A2 s.marks.length c2, Value.slice A3 s.threads.length c3] 26)).alloc (Obj.cells #[Value.int IntKind.i64 0, Value.int IntKind.i64 0] 36)) := by (repeat' (first | (with_reducible exact Below.refl _ _) | (with_reducible refine Below.alloc ?_ ?_ _) | (with_reducible refine Below.drew ?_) | (with_reducible refine Below.drewN_ ?_ _) | (with_reducible refine Below.setCell ?_ ?_ _) | (with_reducible refine Below.setRow ?_ ?_ _) | (with_reducible refine Below.via ?_ (by with_reducible assumption) ?_) | go_size))
  have R1 := Lib.hid ((r1.below hb0).more hb0.size)
  have R2 := Lib.hid ((r2.below hb0).more hb0.size)
  have R3 := Lib.hid ((r3.below hb0).more hb0.size)
  clear r1 r2 r3
  have HC := Lib.hid (lcheck_any s c1 c2 c3 A1 A2 A3 ((w.alloc (Obj.cells #[Value.int IntKind.i64 s.n, Value.slice A1 s.shots.length c1, Value.slice A2 s.marks.length c2, Value.slice A3 s.threads.length c3] 26)).alloc (Obj.cells #[Value.int IntKind.i64 0, Value.int IntKind.i64 0] 36)) R1.out R2.out R3.out)
  have G0 := Lib.hid (heap_alloc2_new w (Obj.cells #[Value.int IntKind.i64 s.n, Value.slice A1 s.shots.length c1, Value.slice A2 s.marks.length c2, Value.slice A3 s.threads.length c3] 26) (Obj.cells #[Value.int IntKind.i64 0, Value.int IntKind.i64 0] 36))
  have e1 : svErr s = 0 := by unfold svErr; rw [hok]; rfl
  rw [e1] at HC
  have HOK := Lib.hid hok
  clear e1 hok
  have hsp := svD_small HOK.out hR
  obtain ⟨⟨n1, n2, _⟩, _⟩ := svOk_spec HOK.out
  have hab : a < s.n.toNat ∧ b < s.n.toNat := by
    unfold inB at hin
    simp only [Bool.and_eq_true, decide_eq_true_eq] at hin
    omega
  have HSP := Lib.hid (hsp.2 a b (by omega) (by omega))
  have ha21 : a < 21 := by omega
  have hb21 : b < 21 := by omega
  clear hsp
  have h12 : inB s.n (a : Int) = true ∧ inB s.n (b : Int) = true := by simpa using hin
  obtain ⟨h1, h2⟩ := h12
  have hst := wkC_one s.n A1 A2 A3 s.shots.length s.marks.length s.threads.length c1 c2 c3
  have hsz := wkC_size (.int .i64 s.n) (.slice A1 s.shots.length c1) (.slice A2 s.marks.length c2) (.slice A3 s.threads.length c3)
  obtain ⟨cs, hcs⟩ : ∃ cs, wkC (.int .i64 s.n) (.slice A1 s.shots.length c1) (.slice A2 s.marks.length c2) (.slice A3 s.threads.length c3) = cs := ⟨_, rfl⟩
  have hcs' : (((Try.zeroCells93.setIfInBounds 0 (.int .i64 s.n)).setIfInBounds 1 (.slice A1 s.shots.length c1)).setIfInBounds 2 (.slice A2 s.marks.length c2)).setIfInBounds 3 (.slice A3 s.threads.length c3) = cs := (wkC_eq _ _ _ _).trans hcs
  have HCS := Lib.hid hcs
  clear hst hsz hcs
  have hda : ∀ W, WkAll W cs s (fun _ => false) 0 → Calls Try.prog 44 #[.agg cs] W fun e w' => e = .returned (.tuple #[.agg (matV D), .bool true]) ∧ Below W.heap.size W w' := fun W h => by
    have h2 := differences_any cs s _ 0 W h
    unfold svD at hR
    rw [hR] at h2
    exact h2
  have HDA := Lib.hid hda
  have HR := Lib.hid hR
  clear hda hR
  have e2 : lvFall s a b = ((-(D a b), D b a), 0) := by unfold lvFall; rw [if_neg (by rw [HOK.out]; simp), if_neg (by rw [hin]; simp), HR.out]; rfl
  rw [e2]
  have HAB := Lib.hid hab
  clear e2 hin hab
  have tok1 : True := trivial
  go_enter Try.func18, Try.ntmps18
  go_wp2_with (first | (go_at_call 20; refine HC.out.mono ?_; rintro e w1 ⟨rfl, hb1⟩; obtain ⟨hc1, hf1⟩ := bcell hb1; have hz1 := hb1.size; (try simp at hz1); (have hy1 : w.heap.size < w1.heap.size := by omega); (have hy2 : w.heap.size + 1 < w1.heap.size := by omega); have BX := Lib.hid hb1; have GX := Lib.hid ((hb1.block (w.heap.size + 1) (by simp <;> omega)).trans G0.out)) | (go_at_call 49; refine (isPoint_any _ _ _ _ _ _).mono ?_; rintro e w1' ⟨rfl, hb⟩; obtain ⟨hc, hf⟩ := bcell hb; have hz := hb.size; (have hy : w.heap.size < w1'.heap.size := by omega); (have hy' : w.heap.size + 1 < w1'.heap.size := by omega); have BX := Lib.hid (BX.out.trans (hb.mono (by have := BX.out.size; omega))); have GX := Lib.hid ((hb.block (w.heap.size + 1) (by omega)).trans GX.out)) | (go_at_call 44; refine (HDA.out _ (by rw [← HCS.out]; exact wkAll_of _ s c1 c2 c3 A1 A2 A3 HOK.out ((R1.out.below BX.out).more BX.out.size) ((R2.out.below BX.out).more BX.out.size))).mono ?_; rintro e w2 ⟨rfl, hb2⟩; have hz2 := hb2.size; have GY := Lib.hid ((hb2.block (w.heap.size + 1) (by omega)).trans GX.out); clear hcs'; obtain ⟨hc2, hf2⟩ := bcell hb2; (have hy2 : w.heap.size < w2.heap.size := by omega); (have hy2' : w.heap.size + 1 < w2.heap.size := by omega)) | (have _t := tok1; refine wpList_store_row rfl 96 (.tmp 9) (.tmp 32) rfl w2.heap.size (matV D) rfl rfl 96 Try.zeroCells96 (heap_alloc_new _ _) (info96 D) (zero96_size D) (matV_one D) ?_; rw [World.setRow_alloc_new]; clear tok1 _t) | (go_at_call 45; refine (rise_any w2.heap.size b a D _ (MatAt.new w2 D) (by omega) (by omega) (by have := HSP.out; omega) (by have := HSP.out; omega)).mono ?_; rintro e w3 ⟨rfl, hb3⟩; have hz3 := hb3.size; simp at hz3; have GZ := Lib.hid ((hb3.block (w.heap.size + 1) (by simp <;> omega)).trans ((Below.heap_alloc _ _ _ (by omega)).trans GY.out)); obtain ⟨hc3, hf3⟩ := bcell hb3; (have hy3 : w.heap.size < w3.heap.size := by omega); (have hy3' : w.heap.size + 1 < w3.heap.size := by omega)))
  refine bodyPost_ret (resFall _ _ (w.heap.size + 1) (.int .i64 (-(D a b))) (.int .i64 (D b a)) (.int .i64 0) rfl rfl ?_) rfl ?_
  · exact heap_set2 GZ.out
  · exact ⟨rfl, by (repeat' (first | (with_reducible exact Below.refl _ _) | (with_reducible refine Below.alloc ?_ ?_ _) | (with_reducible refine Below.drew ?_) | (with_reducible refine Below.drewN_ ?_ _) | (with_reducible refine Below.setCell ?_ ?_ _) | (with_reducible refine Below.setRow ?_ ?_ _) | (with_reducible refine Below.via ?_ (by with_reducible assumption) ?_) | go_size))⟩

/-- level.Fall answers lvFall of every survey that reads as plain data. -/
theorem fall_any (s : Sv) (from_ to_ : Int) (c1 c2 c3 : Nat) (A1 A2 A3 : Option Addr) (w : World)
    (r1 : Rd w w.heap.size A1 shV 4 s.shots) (r2 : Rd w w.heap.size A2 mkV 3 s.marks) (r3 : Rd w w.heap.size A3 shV 4 s.threads) :
    Calls Try.prog 18 #[.agg #[.int .i64 s.n, .slice A1 s.shots.length c1, .slice A2 s.marks.length c2, .slice A3 s.threads.length c3], .int .i64 from_, .int .i64 to_] w fun e w' =>
      e = .returned (.tuple #[.agg #[.int .i64 (lvFall s from_ to_).1.1, .int .i64 (lvFall s from_ to_).1.2], .int .i64 (lvFall s from_ to_).2]) ∧ Below w.heap.size w w' := by
  cases hok : svOk s
  · exact fall_bad s from_ to_ c1 c2 c3 A1 A2 A3 w r1 r2 r3 hok
  · cases hin : (inB s.n from_ && inB s.n to_)
    · exact fall_arg s from_ to_ c1 c2 c3 A1 A2 A3 w r1 r2 r3 hok hin
    · obtain ⟨D, b, hR⟩ : ∃ D b, svD s = (D, b) := ⟨_, _, rfl⟩
      cases b
      · exact fall_apart s from_ to_ c1 c2 c3 A1 A2 A3 w r1 r2 r3 hok hin D hR
      · have h0 := hin
        unfold inB at h0
        simp only [Bool.and_eq_true, decide_eq_true_eq] at h0
        obtain ⟨a, rfl⟩ := Int.eq_ofNat_of_zero_le h0.1.1
        obtain ⟨b, rfl⟩ := Int.eq_ofNat_of_zero_le h0.2.1
        exact fall_fine s a b c1 c2 c3 A1 A2 A3 w r1 r2 r3 hok hin D hR

end Go.Proofs.Ytaoonfmcimkmhaa
