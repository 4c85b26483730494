/- level's way.back and work.along: what all shots along a way have in common, and whether there is one. Conditions: the survey is valid, nothing is left out or wider, and the way's ends are two points. -/
import Derived.Test.YtaoonfmcimkmhaaSays
import Derived.Test.YtaoonfmcimkmhaaWkO
import Derived.Test.YtaoonfmcimkmhaaLevSingle
import Derived.Test.YtaoonfmcimkmhaaLevFall
import Derived.Sort.CutIn
set_option linter.unusedVariables false
set_option linter.unusedSimpArgs false
namespace Go.Proofs.Ytaoonfmcimkmhaa
open Go.RowKit Go.Shelf
attribute [local go_sem] Oper.semAt_some

theorem row2_set1 {w : World} {g : Nat} {x y a : Value} {t : TypeId} (h : w.heap[g]? = some (.cells #[x, y] t (0, 0))) : (w.setCell ⟨g, 1, none⟩ a).heap[g]? = some (.cells #[x, a] t (0, 0)) := by
  rw [heap_setCell_same w g 1 _ _ a h]; rfl
theorem row2_set0 {w : World} {g : Nat} {x y a : Value} {t : TypeId} (h : w.heap[g]? = some (.cells #[x, y] t (0, 0))) : (w.setCell ⟨g, 0, none⟩ a).heap[g]? = some (.cells #[a, y] t (0, 0)) := by
  rw [heap_setCell_same w g 0 _ _ a h]; rfl
theorem row1_set {w : World} {g : Nat} {x a : Value} {t : TypeId} (h : w.heap[g]? = some (.cells #[x] t (0, 0))) : (w.setCell ⟨g, 0, none⟩ a).heap[g]? = some (.cells #[a] t (0, 0)) := by
  rw [heap_setCell_same w g 0 _ _ a h]; rfl
theorem resAlong (tmps : Array Value) (W : World) (g h : Nat) (x y : Value) (b : Bool) (h1 : tmps.getD 4 undef = .pointer (some ⟨g, 0, none⟩)) (h2 : tmps.getD 5 undef = .pointer (some ⟨h, 0, none⟩)) (hM : W.heap[g]? = some (.cells #[x, y] 36 (0, 0))) (hN : W.heap[h]? = some (.cells #[.bool b] 4 (0, 0))) :
    (results Try.f57 tmps).run Try.prog W = .ok (.tuple #[.agg #[x, y], .bool b]) W := by
  have h1' : tmps[4]?.getD undef = .pointer (some ⟨g, 0, none⟩) := by simpa using h1
  have h2' : tmps[5]?.getD undef = .pointer (some ⟨h, 0, none⟩) := by simpa using h2
  have l1 := run_loadVar_row (P := Try.prog) W g 36 _ #[x, y] (0, 0) _ hM Try.underlying36 rfl info36'
  have l2 := cell_of_row W h 0 _ _ _ hN
  simp at l2
  have e2 : (loadVar 4 ⟨h, 0, none⟩).run Try.prog W = .ok (.bool b) W := by simp [loadVar, Try.isAgg4, l2]
  simp [results, Try.results57, h1', h2', asAddr, l1, e2]

theorem info112 : (Try.prog.info? 112).map (·.size) = some 2 := by kernel_rfl
theorem back_any (a b : Int) (w : World) :
    Calls Try.prog 72 #[.agg #[.int .i64 a, .int .i64 b]] w fun e w' => e = .returned (.agg #[.int .i64 b, .int .i64 a]) ∧ Below w.heap.size w w' := by
  go_enter Try.func72, Try.ntmps72
  go_wp2
  have hh := heap_alloc2_new w (Obj.cells #[Value.int IntKind.i64 a, Value.int IntKind.i64 b] 112) (Obj.cells #[Value.int IntKind.i64 b, Value.int IntKind.i64 a] 112)
  refine bodyPost_ret (results_cell_row Try.results72 _ _ (w.heap.size + 1) 112 #[Value.int IntKind.i64 b, Value.int IntKind.i64 a] (0, 0) _ rfl hh Try.underlying112 rfl info112) rfl ⟨rfl, by (repeat' (first | (with_reducible exact Below.refl _ _) | (with_reducible refine Below.alloc ?_ ?_ _) | (with_reducible refine Below.drew ?_) | (with_reducible refine Below.drewN_ ?_ _) | (with_reducible refine Below.setCell ?_ ?_ _) | (with_reducible refine Below.setRow ?_ ?_ _) | (with_reducible refine Below.via ?_ (by with_reducible assumption) ?_) | go_size))⟩

/-- Readings that are marks lie on no way between points. -/
theorem alFold_all {s : Sv} (hok : svOk s = true) {a b : Int} (ha : a < s.n) (hb : b < s.n) (ha0 : 0 ≤ a) (hb0 : 0 ≤ b) : alFold a b ((upto (rdOf s.n.toNat s) (s.shots.length + s.marks.length)).map (·.1.2)) = alFold a b s.shots := by
  have hrd := rdAt_ok hok
  have e : (upto (rdOf s.n.toNat s) (s.shots.length + s.marks.length)).map (·.1.2) = s.shots ++ s.marks.map (fun m => ⟨s.n, m.p, m.lo, m.hi⟩) := by
    apply List.ext_getElem?
    intro k
    by_cases hk : k < s.shots.length + s.marks.length
    · have h1 : ((upto (rdOf s.n.toNat s) (s.shots.length + s.marks.length)).map (·.1.2))[k]? = some (rdAt s k).2 := by
        unfold upto
        rw [List.map_map, List.getElem?_map, List.getElem?_range hk]
        show some ((rdOf s.n.toNat s k).1.2) = _
        unfold rdOf
        rw [dif_pos (hrd k hk).1]
      rw [h1]
      unfold rdAt
      by_cases h2 : k < s.shots.length
      · rw [dif_pos h2, List.getElem?_append_left h2, List.getElem?_eq_getElem h2]
      · rw [dif_neg h2, dif_pos (by omega), List.getElem?_append_right (by omega), List.getElem?_map, List.getElem?_eq_getElem (by omega)]
        rfl
    · rw [List.getElem?_eq_none (by rw [List.length_map, upto_length]; omega), List.getElem?_eq_none (by rw [List.length_append, List.length_map]; omega)]
  rw [e]
  refine al_off a b _ _ fun x hx => ?_
  obtain ⟨m, hm, rfl⟩ := List.mem_map.1 hx
  unfold onWay
  dsimp only
  rw [if_neg (by omega), if_neg (by omega)]

set_option maxRecDepth 100000 in
set_option maxHeartbeats 8000000 in
theorem along_any (s : Sv) (a b : Int) (cs : Array Value) (w : World) (hok : svOk s = true) (ha0 : 0 ≤ a) (ha : a < s.n) (hb0 : 0 ≤ b) (hb : b < s.n) (hab : a ≠ b) (hKw : WkAt w w.heap.size cs s) :
    Calls Try.prog 57 #[.agg cs, .agg #[.int .i64 a, .int .i64 b]] w fun e w' =>
      e = .returned (.tuple #[.agg #[.int .i64 (alFold a b s.shots).1.1, .int .i64 (alFold a b s.shots).1.2], .bool (alFold a b s.shots).2]) ∧ Below w.heap.size w w' := by
  have HSP := Lib.hid (svOk_spec hok)
  have HRD := Lib.hid (rdAt_ok hok)
  have HKW := Lib.hid hKw
  have HAL := Lib.hid (alFold_all hok ha hb ha0 hb0)
  have HI : Hid ((Try.prog.info? 93).map (·.size) = some cs.size) := Lib.hid (by rw [hKw.size]; exact info93)
  clear hKw hok
  refine (callsIn_wide (n := 3)).1 ?_
  refine callsIn_of_wp_marks Try.func57 rfl trivial ?_ rfl
  simp only [Try.ntmps57, List.size_toArray, List.length_cons, List.length_nil, Nat.reduceAdd, Nat.reduceSub, Array.replicate_succ, Array.replicate_zero, List.push_toArray, List.append_toArray, List.nil_append, List.cons_append]
  refine wpIn_wide.2 ?_
  go_upto_region 1 with fail
  obtain ⟨w1, hw1⟩ : ∃ w1, ((((w.alloc (Obj.cells cs 93)).alloc (Obj.cells #[Value.int IntKind.i64 a, Value.int IntKind.i64 b] 112)).alloc (Obj.cells #[Value.int IntKind.i64 0, Value.int IntKind.i64 0] 36)).alloc (Obj.cells #[Value.bool false] 4)) = w1 := ⟨_, rfl⟩
  rw [hw1]
  have hz1 : w1.heap.size = w.heap.size + 4 := by rw [← hw1]; simp
  have hb1 : Below w.heap.size w w1 := by rw [← hw1]; (repeat' (first | (with_reducible exact Below.refl _ _) | (with_reducible refine Below.alloc ?_ ?_ _) | (with_reducible refine Below.drew ?_) | (with_reducible refine Below.drewN_ ?_ _) | (with_reducible refine Below.setCell ?_ ?_ _) | (with_reducible refine Below.setRow ?_ ?_ _) | (with_reducible refine Below.via ?_ (by with_reducible assumption) ?_) | go_size))
  have k0 : w1.heap[w.heap.size]? = some (.cells cs 93 (0, 0)) := by
    rw [← hw1, heap_alloc_old _ _ _ (by simp; omega), heap_alloc_old _ _ _ (by simp; omega), heap_alloc_old _ _ _ (by simp)]; exact heap_alloc_new _ _
  have k1 : w1.heap[w.heap.size + 1]? = some (.cells #[.int .i64 a, .int .i64 b] 112 (0, 0)) := by
    rw [← hw1, heap_alloc_old _ _ _ (by simp), heap_alloc_old _ _ _ (by simp)]; exact heap_alloc2_new _ _ _
  have k2 : w1.heap[w.heap.size + 1 + 1]? = some (.cells #[.int .i64 0, .int .i64 0] 36 (0, 0)) := by
    rw [← hw1, heap_alloc_old _ _ _ (by simp)]
    have h := heap_alloc_new ((w.alloc (Obj.cells cs 93)).alloc (Obj.cells #[Value.int IntKind.i64 a, Value.int IntKind.i64 b] 112)) (Obj.cells #[Value.int IntKind.i64 0, Value.int IntKind.i64 0] 36)
    simpa using h
  have k3 : w1.heap[w.heap.size + 1 + 1 + 1]? = some (.cells #[.bool false] 4 (0, 0)) := by
    rw [← hw1]
    have h := heap_alloc_new (((w.alloc (Obj.cells cs 93)).alloc (Obj.cells #[Value.int IntKind.i64 a, Value.int IntKind.i64 b] 112)).alloc (Obj.cells #[Value.int IntKind.i64 0, Value.int IntKind.i64 0] 36)) (Obj.cells #[Value.bool false] 4)
    simpa using h
  obtain ⟨gS, hgS⟩ : ∃ g, w.heap.size + 1 + 1 + 1 = g := ⟨_, rfl⟩
  rw [hgS] at k3 ⊢
  obtain ⟨gR, hgR⟩ : ∃ g, w.heap.size + 1 + 1 = g := ⟨_, rfl⟩
  rw [hgR] at k2 ⊢
  obtain ⟨gW, hgW⟩ : ∃ g, w.heap.size + 1 = g := ⟨_, rfl⟩
  rw [hgW] at k1 ⊢
  have o1 : w.heap.size < gW := by omega
  have o2 : gW < gR := by omega
  have o3 : gR < gS := by omega
  have o4 : gS < w1.heap.size := by omega
  have K0 := Lib.hid k0
  have K1 := Lib.hid k1
  have K2 := Lib.hid k2
  have K3 := Lib.hid k3
  clear hw1 hz1 hgS hgR hgW k0 k1 k2 k3
  go_wp2_with (first | (refine wpList_load_row rfl 93 (.tmp 2) rfl w.heap.size rfl 93 cs (0, 0) _ K0.out Try.underlying93 rfl HI.out ?_) | (go_at_call 61; refine (readings_any cs _).mono ?_; rintro e w5 ⟨rfl, rfl⟩))
  obtain ⟨w6, hw6⟩ : ∃ w6, w1.alloc (.cells cs 93) = w6 := ⟨_, rfl⟩
  rw [hw6]
  obtain ⟨Bn, hBn⟩ : ∃ Bn, w1.heap.size = Bn := ⟨_, rfl⟩
  rw [hBn]
  rw [hBn] at o4
  have hb6 : Below w.heap.size w w6 := by rw [← hw6]; exact hb1.alloc (by omega) _
  have h61 : w6.heap[gW]? = some (.cells #[.int .i64 a, .int .i64 b] 112 (0, 0)) := by rw [← hw6]; exact (Below.heap_alloc _ _ _ (by omega)).trans K1.out
  have h62 : w6.heap[gR]? = some (.cells #[.int .i64 0, .int .i64 0] 36 (0, 0)) := by rw [← hw6]; exact (Below.heap_alloc _ _ _ (by omega)).trans K2.out
  have h63 : w6.heap[gS]? = some (.cells #[.bool false] 4 (0, 0)) := by rw [← hw6]; exact (Below.heap_alloc _ _ _ (by omega)).trans K3.out
  have h64 : w6.heap[Bn]? = some (.cells cs 93 (0, 0)) := by rw [← hw6, ← hBn]; exact heap_alloc_new _ _
  have hBw6 : Bn < w6.heap.size := (Array.getElem?_eq_some_iff.1 h64).1
  have H61 := Lib.hid h61
  have H62 := Lib.hid h62
  have H63 := Lib.hid h63
  have H64 := Lib.hid h64
  have HB6 := Lib.hid hb6
  have HK6 := Lib.hid (HKW.out.below hb6)
  clear h61 h62 h63 h64 hb6 hw6 hBn hb1 K0 K1 K2 K3 HKW w1
  refine wp_rangeH (gf := 73) (lb := #[.pointer (some ⟨Bn, 0, none⟩)]) rfl (enters_of Try.func73 (by kernel_rfl) rfl)
    (readings_stops (fun x : Rdg s.n.toNat => rdV x.1) (rdOf s.n.toNat s) 2 (by omega) Bn w.heap.size cs s (fun k hk => by unfold rdOf; rw [dif_pos (HRD.out k hk).1]) HSP.out.1.2.2.1 HSP.out.1.2.2.2.1 w6 HB6.out.size H64.out HK6.out)
    kpB_t (kpB_b HB6.out.size hBw6) (fun _ => rfl)
    (fun pre W => (((W.heap[gW]? = some (.cells #[.int .i64 a, .int .i64 b] 112 (0, 0)) ∧ W.heap[gR]? = some (.cells #[.int .i64 (alFold a b (pre.map (·.1.2))).1.1, .int .i64 (alFold a b (pre.map (·.1.2))).1.2] 36 (0, 0))) ∧ W.heap[gS]? = some (.cells #[.bool (alFold a b (pre.map (·.1.2))).2] 4 (0, 0))) ∧ W.heap[Bn]? = some (.cells cs 93 (0, 0))) ∧ Below w.heap.size w W)
    (fun _ _ _ => False)
    (OwnFrom.and (fun pre X Y row hs hg hr => ⟨⟨⟨cells_from hg hr hs.1.1.1, cells_from hg hr hs.1.1.2⟩, cells_from hg hr hs.1.2⟩, cells_from hg hr hs.2⟩) (ownFrom_below (Nat.le_refl _) HB6.out.size))
    (fun _ _ _ _ _ hs _ _ => hs)
    ⟨⟨⟨⟨H61.out, H62.out⟩, H63.out⟩, H64.out⟩, HB6.out⟩
    (fun a x a' W => ∃ Bx, Bn < Bx ∧ W.heap[Bx]? = some (.cells #[.int .i64 x.1.2.f, .int .i64 x.1.2.t, .int .i64 x.1.2.lo, .int .i64 x.1.2.hi] 127 (0, 0)) ∧
      a' = { tmps := ((a.tmps.setIfInBounds 10 (.int .i64 (x.1.1 : Int))).setIfInBounds 11 (.agg #[.int .i64 x.1.2.f, .int .i64 x.1.2.t, .int .i64 x.1.2.lo, .int .i64 x.1.2.hi])).setIfInBounds 7 (.pointer (some ⟨Bx, 0, none⟩)), defers := [] })
    (fun x a' _ X Y row hs hg hr => by obtain ⟨Bx, h1, h2, h3⟩ := hs; exact ⟨Bx, h1, cells_from hg hr h2, h3⟩)
    ?assign ?body ?done ?stop
  case stop =>
    intro D c pre W _ _ h _
    exact h.elim
  case assign =>
    rintro l pre x W K ⟨⟨⟨⟨i1, i2⟩, i3⟩, i4⟩, i5⟩ hK
    have HK7 := Lib.hid hK
    have I1 := Lib.hid i1
    have I2 := Lib.hid i2
    have I3 := Lib.hid i3
    have I4 := Lib.hid i4
    have hBl : Bn < W.heap.size := (Array.getElem?_eq_some_iff.1 i4).1
    clear hK i1 i2 i3 i4
    dsimp only [rdV]
    gi_wp2
    refine HK7.out _ _ ((KeepsOthers.alloc _ _).from _) ⟨(Below.refl _ W).alloc i5.size _, Below.heap_alloc _ _ _ hBl⟩
      ⟨⟨⟨⟨(Below.heap_alloc _ _ _ (by omega)).trans I1.out, (Below.heap_alloc _ _ _ (by omega)).trans I2.out⟩, (Below.heap_alloc _ _ _ (by omega)).trans I3.out⟩, (Below.heap_alloc _ _ _ hBl).trans I4.out⟩, i5.alloc i5.size _⟩
      ⟨W.heap.size, hBl, heap_alloc_new _ _, rfl⟩
  case done =>
    rintro D' ys W hD rfl ⟨⟨⟨⟨i1, i2⟩, i3⟩, i4⟩, i5⟩ hKD
    rw [HAL.out] at i2 i3
    obtain ⟨st, hst⟩ : ∃ st, alFold a b s.shots = st := ⟨_, rfl⟩
    rw [hst] at i2 i3
    have HST := Lib.hid hst
    clear hst
    have HKD := Lib.hid hKD
    have I2 := Lib.hid i2
    have I3 := Lib.hid i3
    have hDs : gS < D' := by omega
    have x0 := cell_of_row W gR 0 _ _ _ i2
    have x1 := cell_of_row W gR 1 _ _ _ i2
    have x3 := cell_of_row W gS 0 _ _ _ i3
    have f0 := frozen_of_row W gR 0 _ _ i2
    have f1 := frozen_of_row W gR 1 _ _ i2
    have f3 := frozen_of_row W gS 0 _ _ i3
    simp at x0 x1 x3
    clear i1 i2 i3 i4 hKD
    go_wp2_with fail
    go_region
    all_goals (try go_wp2)
    have hkd : ∀ X : World, (∀ b, b ≠ gR → b ≠ gS → X.heap[b]? = W.heap[b]?) → X.heap[D']? = some (.deferred (some [])) := fun X h => (h D' (by omega) (by omega)).trans HKD.out
    have hoo : ∀ v0 v1 v3 : Value, ∀ b, b ≠ gR → b ≠ gS → ((((W.setCell ⟨gR, 0, none⟩ v0).setCell ⟨gR, 1, none⟩ v1).setCell ⟨gS, 0, none⟩ v3).drew).heap[b]? = W.heap[b]? := fun v0 v1 v3 b h1 h2 => by
      show (((W.setCell ⟨gR, 0, none⟩ v0).setCell ⟨gR, 1, none⟩ v1).setCell ⟨gS, 0, none⟩ v3).heap[b]? = _
      exact (Below.heap_setCell _ _ _ _ h2).trans ((Below.heap_setCell _ _ _ _ h1).trans (Below.heap_setCell _ _ _ _ h1))
    refine ⟨by simp, .inl ⟨_, _, rfl, run_takeDeferred (hkd _ (hoo _ _ _)), ?_⟩⟩
    refine ⟨_, resAlong _ _ gR gS (.int .i64 st.1.1) (.int .i64 st.1.2) st.2 rfl rfl ?_ ?_, by rw [HST.out], ?_⟩
    · refine (World.putObj_heap_other (by omega)).trans ?_
      exact (Below.heap_setCell _ _ _ _ (by show gR ≠ gS; omega)).trans (row2_set1 (row2_set0 I2.out))
    · refine (World.putObj_heap_other (by omega)).trans ?_
      exact row1_set ((Below.heap_setCell _ _ _ _ (by show gS ≠ gR; omega)).trans ((Below.heap_setCell _ _ _ _ (by show gS ≠ gR; omega)).trans I3.out))
    · have hbX : Below w.heap.size w ((((W.setCell ⟨gR, 0, none⟩ (.int .i64 st.1.1)).setCell ⟨gR, 1, none⟩ (.int .i64 st.1.2)).setCell ⟨gS, 0, none⟩ (.bool st.2)).drew) := (((i5.setCell (by dsimp only; omega) _).setCell (by dsimp only; omega) _).setCell (by dsimp only; omega) _).drew
      exact hbX.trans (belowK_b (w := w) (Nat.le_refl _) _ D' _ _ (by have := HB6.out.size; omega) (hkd _ (hoo _ _ _)) rfl rfl)
  case body =>
    rintro l pre ⟨⟨k, ⟨xf, xt, lo, hi⟩⟩, hx⟩ a' W hl hr ⟨⟨⟨⟨i1, i2⟩, i3⟩, i4⟩, i5⟩ ⟨Bx, hBx, bX, rfl⟩ hlt
    have hlW : l < W.heap.size := by obtain ⟨r, hr⟩ := hr; exact (Array.getElem?_eq_some_iff.1 hr).1
    have hrk := hx
    unfold rokB at hrk
    rw [decide_eq_true_eq] at hrk
    obtain ⟨_, _, _, _, _, lo1, lo2, hi1, hi2⟩ := hrk
    dsimp only at lo1 lo2 hi1 hi2 bX
    have EST := Lib.hid (show alFold a b ((pre ++ [(⟨(k, ⟨xf, xt, lo, hi⟩), hx⟩ : Rdg s.n.toNat)]).map (·.1.2)) = alStep a b (alFold a b (pre.map (·.1.2))) ⟨xf, xt, lo, hi⟩ by rw [List.map_append, List.map_cons, List.map_nil, alFold_snoc])
    generalize alFold a b (pre.map (·.1.2)) = st at *
    obtain ⟨⟨u, v⟩, sd⟩ := st
    dsimp only at i2 i3
    have I1 := Lib.hid i1
    have I2 := Lib.hid i2
    have I3 := Lib.hid i3
    have I4 := Lib.hid i4
    have BX := Lib.hid bX
    have hBX : Bx < W.heap.size := (Array.getElem?_eq_some_iff.1 bX).1
    have wy0 := cell_of_row W gW 0 _ _ _ i1
    have wy1 := cell_of_row W gW 1 _ _ _ i1
    have b0 := cell_of_row W Bx 0 _ _ _ bX
    have b1 := cell_of_row W Bx 1 _ _ _ bX
    have b2 := cell_of_row W Bx 2 _ _ _ bX
    have b3 := cell_of_row W Bx 3 _ _ _ bX
    simp at wy0 wy1 b0 b1 b2 b3
    clear i1 i2 i3 i4 bX hr
    gi_upto_region 3 with fail
    refine wpIn_region_planA (by kernel_rfl) 5 (by kernel_rfl) (by omega)
      (fun i => (#[.pointer (some ⟨Bx, 0, none⟩), .agg #[.int .i64 xf, .int .i64 xt], .agg #[.int .i64 a, .int .i64 b], .agg #[.int .i64 b, .int .i64 a], .bool (decide (xf = b ∧ xt = a))] : Array Value).getD i undef)
      (fun W' => Below W.heap.size W W') _ _ ?aF ?hA ?hS ?hstep ?htail
    case hA => simp [putTo, putIf, dstAt, Act.put, List.range_succ]; rfl
    case hS => exact (Below.refl _ _).drew
    case hstep =>
      intro i o hi ho W' hS
      refine ⟨fun _ _ => trivial, ?_⟩
      have p0 := (hS.cell (p := ⟨gW, 0, none⟩) (by show gW < _; omega)).trans wy0
      have p1 := (hS.cell (p := ⟨gW, 1, none⟩) (by show gW < _; omega)).trans wy1
      have p2 := (hS.cell (p := ⟨Bx, 0, none⟩) hBX).trans b0
      have p3 := (hS.cell (p := ⟨Bx, 1, none⟩) hBX).trans b1
      have hi' : i = 0 ∨ i = 1 ∨ i = 2 ∨ i = 3 ∨ i = 4 := by omega
      rcases hi' with rfl | rfl | rfl | rfl | rfl
      all_goals (simp only [List.getElem?_toArray, List.getElem?_cons_succ, List.getElem?_cons_zero, Option.some.injEq] at ho; subst ho)
      case inr.inr.inr.inl =>
        go_simp
        refine ⟨by simp, CallsIn.inRound l (callsIn_wide.2 ((back_any a b W').mono ?_))⟩
        rintro e w' ⟨rfl, hb'⟩
        exact ⟨_, rfl, rfl, hS.trans (hb'.mono hS.size)⟩
      case inr.inr.inr.inr =>
        go_simp
        by_cases h1 : xf = b
        · by_cases h2 : xt = a
          · rw [if_pos h1, if_pos h2]
            exact ⟨by rw [decide_eq_true h1, decide_eq_true h2]; rfl, hS⟩
          · rw [if_pos h1, if_neg h2]
            exact ⟨by rw [decide_eq_false h2, Bool.and_false], hS⟩
        · rw [if_neg h1]
          exact ⟨by rw [decide_eq_false h1, Bool.false_and], hS⟩
      all_goals go_simp
      all_goals exact ⟨rfl, hS⟩
    case htail =>
      intro W' hS
      simp only [List.drop_succ_cons, List.drop_zero]
      have hz' := hS.size
      have J1 := Lib.hid ((hS.block gW (by omega)).trans I1.out)
      have J2 := Lib.hid ((hS.block gR (by omega)).trans I2.out)
      have J3 := Lib.hid ((hS.block gS (by omega)).trans I3.out)
      have J4 := Lib.hid ((hS.block Bn (by omega)).trans I4.out)
      have J5 := Lib.hid ((hS.block Bx hBX).trans BX.out)
      have I4S := Lib.hid I4.out.symm
      have hkf' : KeepsFrom w6.heap.size W W' := kf_below hS
      have hbl' : Below w.heap.size W W' := hS.mono (by omega)
      clear wy0 wy1 b0 b1 b2 b3 I1 I2 I3 I4 BX hS
      have wy0 := cell_of_row W' gW 0 _ _ _ J1.out
      have wy1 := cell_of_row W' gW 1 _ _ _ J1.out
      have b0 := cell_of_row W' Bx 0 _ _ _ J5.out
      have b1 := cell_of_row W' Bx 1 _ _ _ J5.out
      have b2 := cell_of_row W' Bx 2 _ _ _ J5.out
      have b3 := cell_of_row W' Bx 3 _ _ _ J5.out
      have fb0 := frozen_of_row W' Bx 0 _ _ J5.out
      have fb1 := frozen_of_row W' Bx 1 _ _ J5.out
      have fb2 := frozen_of_row W' Bx 2 _ _ J5.out
      have fb3 := frozen_of_row W' Bx 3 _ _ J5.out
      have x0 := cell_of_row W' gR 0 _ _ _ J2.out
      have x1 := cell_of_row W' gR 1 _ _ _ J2.out
      have x3 := cell_of_row W' gS 0 _ _ _ J3.out
      have f0 := frozen_of_row W' gR 0 _ _ J2.out
      have f1 := frozen_of_row W' gR 1 _ _ J2.out
      have f3 := frozen_of_row W' gS 0 _ _ J3.out
      simp at wy0 wy1 b0 b1 b2 b3 x0 x1 x3
      have n1 : gW ≠ Bx := by omega
      have n2 : gR ≠ Bx := by omega
      have n3 : gS ≠ Bx := by omega
      have hon : (xf = a ∧ xt = b) ∨ (xf = b ∧ xt = a) ∨ ((¬ (xf = a ∧ xt = b)) ∧ ¬ (xf = b ∧ xt = a)) := by omega
      rcases hon with ⟨rfl, rfl⟩ | ⟨rfl, rfl⟩ | ⟨hn1, hn2⟩
      · have ES := Lib.hid (EST.out.trans (show alStep xf xt ((u, v), sd) ⟨xf, xt, lo, hi⟩ = (if sd then cut2 (u, v) (lo, hi) else cut2 (lo, hi) (lo, hi), true) by unfold alStep onWay; rw [if_pos ⟨rfl, rfl⟩]))
        clear EST
        have hba : ¬ xt = xf := fun e => hab e.symm
        cases sd
        · skip
          gi_wp2_with fail
          all_goals
            refine ⟨?kf, ⟨?bl, ?bn⟩, ⟨⟨⟨?gw, ?gr⟩, ?gs⟩, ?bn2⟩, i5.trans ?bl2⟩
            case kf => (repeat (with_reducible refine KeepsFrom.trans ?_ ((KeepsOthers.setCell _ _ _).from _))); exact hkf'
            case bl => (repeat (with_reducible refine Below.setCell ?_ (by dsimp only; omega) _)); exact hbl'
            case bl2 => (repeat (with_reducible refine Below.setCell ?_ (by dsimp only; omega) _)); exact hbl'
            case bn => (repeat (with_reducible refine (Below.heap_setCell _ _ _ _ (by dsimp only; omega)).trans ?_)); exact J4.out.trans I4S.out
            case bn2 => (repeat (with_reducible refine (Below.heap_setCell _ _ _ _ (by dsimp only; omega)).trans ?_)); exact J4.out
            case gw => (repeat (with_reducible refine (Below.heap_setCell _ _ _ _ (by dsimp only; omega)).trans ?_)); exact J1.out
            case gs =>
              rw [ES.out]
              dsimp only
              (repeat (first | (with_reducible refine (Below.heap_setCell _ _ _ _ (by dsimp only; omega)).trans ?_) | (with_reducible apply row1_set)))
              exact J3.out
            case gr =>
              rw [ES.out]
              simp only [cut2, if_true, Bool.false_eq_true, if_false]
              first | (rw [show max u (lo) = lo by omega]) | (rw [show max u (lo) = u by omega]) | (rw [show max (lo) (lo) = lo by omega])
              first | (rw [show min v (hi) = hi by omega]) | (rw [show min v (hi) = v by omega]) | (rw [show min (hi) (hi) = hi by omega])
              (repeat (first | (with_reducible refine (Below.heap_setCell _ _ _ _ (by dsimp only; omega)).trans ?_) | (with_reducible apply row2_set1) | (with_reducible apply row2_set0)))
              exact J2.out
        · skip
          gi_wp2_with fail
          all_goals
            refine ⟨?kf, ⟨?bl, ?bn⟩, ⟨⟨⟨?gw, ?gr⟩, ?gs⟩, ?bn2⟩, i5.trans ?bl2⟩
            case kf => (repeat (with_reducible refine KeepsFrom.trans ?_ ((KeepsOthers.setCell _ _ _).from _))); exact hkf'
            case bl => (repeat (with_reducible refine Below.setCell ?_ (by dsimp only; omega) _)); exact hbl'
            case bl2 => (repeat (with_reducible refine Below.setCell ?_ (by dsimp only; omega) _)); exact hbl'
            case bn => (repeat (with_reducible refine (Below.heap_setCell _ _ _ _ (by dsimp only; omega)).trans ?_)); exact J4.out.trans I4S.out
            case bn2 => (repeat (with_reducible refine (Below.heap_setCell _ _ _ _ (by dsimp only; omega)).trans ?_)); exact J4.out
            case gw => (repeat (with_reducible refine (Below.heap_setCell _ _ _ _ (by dsimp only; omega)).trans ?_)); exact J1.out
            case gs =>
              rw [ES.out]
              dsimp only
              (repeat (first | (with_reducible refine (Below.heap_setCell _ _ _ _ (by dsimp only; omega)).trans ?_) | (with_reducible apply row1_set)))
              exact J3.out
            case gr =>
              rw [ES.out]
              simp only [cut2, if_true, Bool.false_eq_true, if_false]
              first | (rw [show max u (lo) = lo by omega]) | (rw [show max u (lo) = u by omega]) | (rw [show max (lo) (lo) = lo by omega])
              first | (rw [show min v (hi) = hi by omega]) | (rw [show min v (hi) = v by omega]) | (rw [show min (hi) (hi) = hi by omega])
              (repeat (first | (with_reducible refine (Below.heap_setCell _ _ _ _ (by dsimp only; omega)).trans ?_) | (with_reducible apply row2_set1) | (with_reducible apply row2_set0)))
              exact J2.out
      · have ES := Lib.hid (EST.out.trans (show alStep xt xf ((u, v), sd) ⟨xf, xt, lo, hi⟩ = (if sd then cut2 (u, v) (-hi, -lo) else cut2 (-hi, -lo) (-hi, -lo), true) by unfold alStep onWay; rw [if_neg (fun h => hab h.1.symm), if_pos ⟨rfl, rfl⟩]))
        clear EST
        have hba : ¬ xf = xt := fun e => hab e.symm
        have hw1 : IntKind.i64.wrap (-hi) = -hi := IntWalk.i64_in _ (by omega)
        have hw2 : IntKind.i64.wrap (-lo) = -lo := IntWalk.i64_in _ (by omega)
        cases sd
        · skip
          gi_wp2_with fail
          all_goals
            refine ⟨?kf, ⟨?bl, ?bn⟩, ⟨⟨⟨?gw, ?gr⟩, ?gs⟩, ?bn2⟩, i5.trans ?bl2⟩
            case kf => (repeat (with_reducible refine KeepsFrom.trans ?_ ((KeepsOthers.setCell _ _ _).from _))); exact hkf'
            case bl => (repeat (with_reducible refine Below.setCell ?_ (by dsimp only; omega) _)); exact hbl'
            case bl2 => (repeat (with_reducible refine Below.setCell ?_ (by dsimp only; omega) _)); exact hbl'
            case bn => (repeat (with_reducible refine (Below.heap_setCell _ _ _ _ (by dsimp only; omega)).trans ?_)); exact J4.out.trans I4S.out
            case bn2 => (repeat (with_reducible refine (Below.heap_setCell _ _ _ _ (by dsimp only; omega)).trans ?_)); exact J4.out
            case gw => (repeat (with_reducible refine (Below.heap_setCell _ _ _ _ (by dsimp only; omega)).trans ?_)); exact J1.out
            case gs =>
              rw [ES.out]
              dsimp only
              (repeat (first | (with_reducible refine (Below.heap_setCell _ _ _ _ (by dsimp only; omega)).trans ?_) | (with_reducible apply row1_set)))
              exact J3.out
            case gr =>
              rw [ES.out]
              simp only [cut2, if_true, Bool.false_eq_true, if_false]
              first | (rw [show max u (-hi) = -hi by omega]) | (rw [show max u (-hi) = u by omega]) | (rw [show max (-hi) (-hi) = -hi by omega])
              first | (rw [show min v (-lo) = -lo by omega]) | (rw [show min v (-lo) = v by omega]) | (rw [show min (-lo) (-lo) = -lo by omega])
              (repeat (first | (with_reducible refine (Below.heap_setCell _ _ _ _ (by dsimp only; omega)).trans ?_) | (with_reducible apply row2_set1) | (with_reducible apply row2_set0)))
              exact J2.out
        · skip
          gi_wp2_with fail
          all_goals
            refine ⟨?kf, ⟨?bl, ?bn⟩, ⟨⟨⟨?gw, ?gr⟩, ?gs⟩, ?bn2⟩, i5.trans ?bl2⟩
            case kf => (repeat (with_reducible refine KeepsFrom.trans ?_ ((KeepsOthers.setCell _ _ _).from _))); exact hkf'
            case bl => (repeat (with_reducible refine Below.setCell ?_ (by dsimp only; omega) _)); exact hbl'
            case bl2 => (repeat (with_reducible refine Below.setCell ?_ (by dsimp only; omega) _)); exact hbl'
            case bn => (repeat (with_reducible refine (Below.heap_setCell _ _ _ _ (by dsimp only; omega)).trans ?_)); exact J4.out.trans I4S.out
            case bn2 => (repeat (with_reducible refine (Below.heap_setCell _ _ _ _ (by dsimp only; omega)).trans ?_)); exact J4.out
            case gw => (repeat (with_reducible refine (Below.heap_setCell _ _ _ _ (by dsimp only; omega)).trans ?_)); exact J1.out
            case gs =>
              rw [ES.out]
              dsimp only
              (repeat (first | (with_reducible refine (Below.heap_setCell _ _ _ _ (by dsimp only; omega)).trans ?_) | (with_reducible apply row1_set)))
              exact J3.out
            case gr =>
              rw [ES.out]
              simp only [cut2, if_true, Bool.false_eq_true, if_false]
              first | (rw [show max u (-hi) = -hi by omega]) | (rw [show max u (-hi) = u by omega]) | (rw [show max (-hi) (-hi) = -hi by omega])
              first | (rw [show min v (-lo) = -lo by omega]) | (rw [show min v (-lo) = v by omega]) | (rw [show min (-lo) (-lo) = -lo by omega])
              (repeat (first | (with_reducible refine (Below.heap_setCell _ _ _ _ (by dsimp only; omega)).trans ?_) | (with_reducible apply row2_set1) | (with_reducible apply row2_set0)))
              exact J2.out
      · have ES := Lib.hid (EST.out.trans (show alStep a b ((u, v), sd) ⟨xf, xt, lo, hi⟩ = ((u, v), sd) by unfold alStep onWay; rw [if_neg hn1, if_neg hn2]))
        clear EST
        have hff : (¬ xf = a ∧ ¬ xf = b) ∨ (xf = a ∧ ¬ xt = b) ∨ (xf = b ∧ ¬ xt = a) := by omega
        clear hn1 hn2
        have hfin : KeepsFrom w6.heap.size W W' ∧ (Below w.heap.size W W' ∧ W'.heap[Bn]? = W.heap[Bn]?) := ⟨hkf', hbl', J4.out.trans I4S.out⟩
        have HFIN := Lib.hid hfin
        clear hfin
        rcases hff with ⟨hn1, hn2⟩ | ⟨rfl, hn1⟩ | ⟨rfl, hn1⟩
        all_goals
          gi_wp2_with fail
          refine ⟨HFIN.out.1, HFIN.out.2, ⟨⟨⟨J1.out, by rw [ES.out]; exact J2.out⟩, by rw [ES.out]; exact J3.out⟩, J4.out⟩, i5.trans HFIN.out.2.1⟩

end Go.Proofs.Ytaoonfmcimkmhaa
