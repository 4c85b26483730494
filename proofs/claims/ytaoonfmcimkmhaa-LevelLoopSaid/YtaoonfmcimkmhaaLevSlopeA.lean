/- level.Slope: what it answers of every survey that reads as plain data, and of every number. Condition: the survey's slices read below the heap's end. -/
import Derived.Test.YtaoonfmcimkmhaaLevSlope
import Derived.Test.YtaoonfmcimkmhaaLevMath
namespace Go.Proofs.Ytaoonfmcimkmhaa
open Go.RowKit

theorem lvFall_bounds {s : Sv} {a b : Int} : -20000000 ≤ (lvFall s a b).1.1 ∧ (lvFall s a b).1.1 ≤ 20000000 ∧ -20000000 ≤ (lvFall s a b).1.2 ∧ (lvFall s a b).1.2 ≤ 20000000 := by
  unfold lvFall
  cases hok : svOk s
  · simp
  · cases hin : (inB s.n a && inB s.n b)
    · simp
    · cases hf : (svD s).2
      · simp
      · have h0 := hin
        unfold inB at h0
        simp only [Bool.and_eq_true, decide_eq_true_eq] at h0
        have h1 := wkD_bounds (s := s) (out := fun _ => false) (wider := 0) hok (by omega) (by omega) hf (a := a.toNat) (b := b.toNat) (by omega) (by omega)
        have h2 := wkD_bounds (s := s) (out := fun _ => false) (wider := 0) hok (by omega) (by omega) hf (a := b.toNat) (b := a.toNat) (by omega) (by omega)
        unfold svD
        simp only [Bool.true_eq_false, if_false]
        omega

set_option maxRecDepth 100000 in
set_option maxHeartbeats 2000000 in
theorem slope_ok (s : Sv) (i : Int) (c1 c2 c3 : Nat) (A1 A2 A3 : Option Addr) (w : World)
    (r1 : Rd w w.heap.size A1 shV 4 s.shots) (r2 : Rd w w.heap.size A2 mkV 3 s.marks) (r3 : Rd w w.heap.size A3 shV 4 s.threads) (hok : svOk s = true) (k : Nat) (hk : k < s.threads.length) (hi : i = (k : Int)) (hf : (lvFall s s.threads[k].f s.threads[k].t).2 = 0) :
    Calls Try.prog 31 #[.agg #[.int .i64 s.n, .slice A1 s.shots.length c1, .slice A2 s.marks.length c2, .slice A3 s.threads.length c3], .int .i64 i] w fun e w' =>
      e = .returned (.tuple #[.agg #[.int .i64 (lvSlope s i).1.1, .int .i64 (lvSlope s i).1.2], .int .i64 (lvSlope s i).2]) ∧ Below w.heap.size w w' := by
  have hb0 : Below w.heap.size w ((w.alloc (Obj.cells #[Value.int IntKind.i64 s.n, Value.slice A1 s.shots.length c1, Value.slice A2 s.marks.length c2, Value.slice A3 s.threads.length c3] 26)).alloc (Obj.cells #[Value.int IntKind.i64 0, Value.int IntKind.i64 0] 36)) := by (repeat' (first | (with_reducible exact Below.refl _ _) | (with_reducible refine Below.alloc ?_ ?_ _) | (with_reducible refine Below.drew ?_) | (with_reducible refine Below.drewN_ ?_ _) | (with_reducible refine Below.setCell ?_ ?_ _) | (with_reducible refine Below.setRow ?_ ?_ _) | (with_reducible refine Below.via ?_ (by with_reducible assumption) ?_) | go_size))
  have R1 := Lib.hid ((r1.below hb0).more hb0.size)
  have R2 := Lib.hid ((r2.below hb0).more hb0.size)
  have R3 := Lib.hid ((r3.below hb0).more hb0.size)
  clear r1 r2 r3
  have HC := Lib.hid (lcheck_any s c1 c2 c3 A1 A2 A3 ((w.alloc (Obj.cells #[Value.int IntKind.i64 s.n, Value.slice A1 s.shots.length c1, Value.slice A2 s.marks.length c2, Value.slice A3 s.threads.length c3] 26)).alloc (Obj.cells #[Value.int IntKind.i64 0, Value.int IntKind.i64 0] 36)) R1.out R2.out R3.out)
  have G0 := Lib.hid (heap_alloc2_new w (Obj.cells #[Value.int IntKind.i64 s.n, Value.slice A1 s.shots.length c1, Value.slice A2 s.marks.length c2, Value.slice A3 s.threads.length c3] 26) (Obj.cells #[Value.int IntKind.i64 0, Value.int IntKind.i64 0] 36))
  have e1 : svErr s = 0 := by unfold svErr; rw [hok]; rfl
  rw [e1] at HC
  have hthr := shOk_spec ((svOk_spec hok).2.2.2 s.threads[k] (List.getElem_mem hk))
  have HOK := Lib.hid hok
  clear e1 hok
  subst hi
  have e0 : thrAt s (k : Int) = some s.threads[k] := by
    unfold thrAt
    rw [if_pos (by omega), Int.toNat_natCast, List.getElem?_eq_getElem hk]
  have e2 : lvSlope s (k : Int) = (slp (lvFall s s.threads[k].f s.threads[k].t).1.1 (lvFall s s.threads[k].f s.threads[k].t).1.2 s.threads[k].lo s.threads[k].hi, 0) := by unfold lvSlope; rw [if_neg (by rw [HOK.out]; simp), e0]; exact if_pos hf
  rw [e2]
  clear e2 e0
  have hbd := lvFall_bounds (s := s) (a := s.threads[k].f) (b := s.threads[k].t)
  obtain ⟨b, o, rfl, hbl, hcell⟩ := R3.out.at_ hk
  have q0 := hcell 0 _ rfl
  have q1 := hcell 1 _ rfl
  have q2 := hcell 2 _ rfl
  have q3 := hcell 3 _ rfl
  simp only [Nat.add_zero] at q0
  clear hcell
  have HFA := Lib.hid (fun (W : World) (h : Below ((w.alloc (Obj.cells #[Value.int IntKind.i64 s.n, Value.slice A1 s.shots.length c1, Value.slice A2 s.marks.length c2, Value.slice (some ⟨b, o, none⟩) s.threads.length c3] 26)).alloc (Obj.cells #[Value.int IntKind.i64 0, Value.int IntKind.i64 0] 36)).heap.size ((w.alloc (Obj.cells #[Value.int IntKind.i64 s.n, Value.slice A1 s.shots.length c1, Value.slice A2 s.marks.length c2, Value.slice (some ⟨b, o, none⟩) s.threads.length c3] 26)).alloc (Obj.cells #[Value.int IntKind.i64 0, Value.int IntKind.i64 0] 36)) W) => fall_any s s.threads[k].f s.threads[k].t c1 c2 c3 A1 A2 (some ⟨b, o, none⟩) W ((R1.out.below h).more h.size) ((R2.out.below h).more h.size) ((R3.out.below h).more h.size))
  generalize s.threads[k] = x at *
  generalize lvFall s x.f x.t = r at *
  obtain ⟨⟨ra, rb⟩, rc⟩ := r
  dsimp only at hf hbd
  subst hf
  obtain ⟨l1, l2, l3, l4, l5, l6, l7, l8⟩ := hthr
  obtain ⟨d1, d2, d3, d4⟩ := hbd
  have d5 : -300000000000000 ≤ ra := by omega
  have d6 : ra ≤ 300000000000000 := by omega
  have d7 : -300000000000000 ≤ rb := by omega
  have d8 : rb ≤ 300000000000000 := by omega
  have l9 : x.lo ≤ 100000000 := by omega
  have l10 : 1 ≤ x.hi := by omega
  have HS := Lib.hid (fun (W : World) (g c : Nat) h => slopes_any ra rb x.lo x.hi g c W h l6 l9 l10 l8 d5 d6 d7 d8)
  clear l1 l2 l3 l4 l5 l6 l7 l8 d1 d2 d3 d4 d5 d6 d7 d8 l9 l10
  generalize slp ra rb x.lo x.hi = z at *
  go_enter Try.func31, Try.ntmps31
  go_upto_region 10 with (first | (go_at_call 20; refine HC.out.mono ?_; rintro e w1 ⟨rfl, hb1⟩; obtain ⟨hc1, hf1⟩ := bcell hb1; have hz1 := hb1.size; (try simp at hz1); (have hy1 : w.heap.size < w1.heap.size := by omega); (have hy2 : w.heap.size + 1 < w1.heap.size := by omega); have GX := Lib.hid ((hb1.block (w.heap.size + 1) (by simp <;> omega)).trans G0.out); have p0 := (hc1 b _ hbl).trans q0; have p1 := (hc1 b _ hbl).trans q1; have p2 := (hc1 b _ hbl).trans q2; have p3 := (hc1 b _ hbl).trans q3; clear q0 q1 q2 q3) | (go_at_call 18; refine (HFA.out _ (Below.alloc hb1 hb1.size _)).mono ?_; rintro e w2 ⟨rfl, hb2⟩; obtain ⟨hc2, hf2⟩ := bcell hb2; have hz2 := hb2.size; (simp at hz2); (have hy3 : w.heap.size < w2.heap.size := by omega); (have hy4 : w.heap.size + 1 < w2.heap.size := by omega); have GX := Lib.hid ((hb2.block (w.heap.size + 1) (by simp <;> omega)).trans ((Below.heap_alloc _ _ _ (by omega)).trans GX.out))))
  have t2 : w2.cell? ⟨w1.heap.size, 2, none⟩ = some (.int .i64 x.lo) := by rw [hc2 _ _ (by simp)]; simp
  have t3 : w2.cell? ⟨w1.heap.size, 3, none⟩ = some (.int .i64 x.hi) := by rw [hc2 _ _ (by simp)]; simp
  have hy5 : w1.heap.size < w2.heap.size := by omega
  have hbw : Below w.heap.size w w2 := by (repeat' (first | (with_reducible exact Below.refl _ _) | (with_reducible refine Below.alloc ?_ ?_ _) | (with_reducible refine Below.drew ?_) | (with_reducible refine Below.drewN_ ?_ _) | (with_reducible refine Below.setCell ?_ ?_ _) | (with_reducible refine Below.setRow ?_ ?_ _) | (with_reducible refine Below.via ?_ (by with_reducible assumption) ?_) | go_size))
  clear hb1 hb2 hc1 hc2 hf1 hf2 p0 p1 p2 p3 hz1 hz2 hb0
  go_wp2_with (go_at_call 64; refine (HS.out _ _ _ (heap_alloc2_new w2 _ _)).mono ?_; rintro e w3 ⟨rfl, hb3⟩; have hz3 := hb3.size; (simp at hz3); (have hy6 : w.heap.size < w3.heap.size := by omega); (have hy7 : w.heap.size + 1 < w3.heap.size := by omega); have GY := Lib.hid ((hb3.block (w.heap.size + 1) (by simp <;> omega)).trans ((Below.heap_alloc _ _ _ (by simp <;> omega)).trans ((Below.heap_alloc _ _ _ (by omega)).trans GX.out))); have f1 := frozen_of_row w3 (w.heap.size + 1) 0 _ _ GY.out; have f2 := frozen_of_row w3 (w.heap.size + 1) 1 _ _ GY.out; have x1 := cell_of_row w3 (w.heap.size + 1) 0 _ _ _ GY.out; have x2 := cell_of_row w3 (w.heap.size + 1) 1 _ _ _ GY.out; (simp at x1 x2))
  refine bodyPost_ret (resSlope _ _ (w.heap.size + 1) (.int .i64 z.1) (.int .i64 z.2) (.int .i64 0) rfl rfl ?_) rfl ?_
  · exact heap_set2 GY.out
  · refine ⟨rfl, ?_⟩
    (repeat' (first | (with_reducible exact Below.refl _ _) | (with_reducible refine Below.alloc ?_ ?_ _) | (with_reducible refine Below.drew ?_) | (with_reducible refine Below.drewN_ ?_ _) | (with_reducible refine Below.setCell ?_ ?_ _) | (with_reducible refine Below.setRow ?_ ?_ _) | (with_reducible refine Below.via ?_ (by with_reducible assumption) ?_) | go_size))

theorem lslope_any (s : Sv) (i : Int) (c1 c2 c3 : Nat) (A1 A2 A3 : Option Addr) (w : World)
    (r1 : Rd w w.heap.size A1 shV 4 s.shots) (r2 : Rd w w.heap.size A2 mkV 3 s.marks) (r3 : Rd w w.heap.size A3 shV 4 s.threads) :
    Calls Try.prog 31 #[.agg #[.int .i64 s.n, .slice A1 s.shots.length c1, .slice A2 s.marks.length c2, .slice A3 s.threads.length c3], .int .i64 i] w fun e w' =>
      e = .returned (.tuple #[.agg #[.int .i64 (lvSlope s i).1.1, .int .i64 (lvSlope s i).1.2], .int .i64 (lvSlope s i).2]) ∧ Below w.heap.size w w' := by
  cases hok : svOk s
  · exact slope_bad s i c1 c2 c3 A1 A2 A3 w r1 r2 r3 hok
  · by_cases h : i < 0 ∨ (s.threads.length : Int) ≤ i
    · exact slope_none s i c1 c2 c3 A1 A2 A3 w r1 r2 r3 hok h
    · have h1 : i = (i.toNat : Int) := by omega
      have h2 : i.toNat < s.threads.length := by omega
      by_cases hf : (lvFall s s.threads[i.toNat].f s.threads[i.toNat].t).2 = 0
      · exact slope_ok s i c1 c2 c3 A1 A2 A3 w r1 r2 r3 hok i.toNat h2 h1 hf
      · exact slope_err s i c1 c2 c3 A1 A2 A3 w r1 r2 r3 hok i.toNat h2 h1 hf

end Go.Proofs.Ytaoonfmcimkmhaa
