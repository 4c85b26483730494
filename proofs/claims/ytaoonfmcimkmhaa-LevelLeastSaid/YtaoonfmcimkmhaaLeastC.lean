/- LevelLeast's closure: whether a survey's readings fit, each one as much wider. Condition: the survey's slices read below the heap's end, and are not long; all numbers are small. -/
import Derived.Test.YtaoonfmcimkmhaaAlive
import Derived.Test.YtaoonfmcimkmhaaLeastM
import Derived.Test.YtaoonfmcimkmhaaCalm
import Derived.BigRegion
set_option linter.unusedVariables false
set_option linter.unusedSimpArgs false
namespace Go.Proofs.Ytaoonfmcimkmhaa
open Go.RowKit
attribute [local go_sem] wx_cell wx_frozen

theorem heights_wd (s : Sv) (v : Int) {L : List (Int × Int)} {E : Int} (h : lvHeights (wdS s v) = (L, E)) (d1 d2 d3 : Nat) (B1 B2 B3 : Option Addr) (w : World) (q1 : Rd w w.heap.size B1 shV 4 (s.shots.mapIdx fun _ => wdSh v)) (q2 : Rd w w.heap.size B2 mkV 3 (s.marks.mapIdx fun _ => wdMk v)) (q3 : Rd w w.heap.size B3 shV 4 s.threads) :
    Calls Try.prog 16 #[.agg #[.int .i64 s.n, .slice B1 s.shots.length d1, .slice B2 s.marks.length d2, .slice B3 s.threads.length d3]] w fun e w' => (∃ A c, e = .returned (.tuple #[.slice A L.length c, .int .i64 E]) ∧ Rd w' w'.heap.size A spV 2 L) ∧ Below w.heap.size w w' := by
  have h1 := heights_as (wdS s v) d1 d2 d3 B1 B2 B3 w q1 q2 q3 h
  rw [show (wdS s v).shots.length = s.shots.length by simp [wdS], show (wdS s v).marks.length = s.marks.length by simp [wdS]] at h1
  exact h1
/-- Only one block is changed. -/
theorem TwZ.grown {k1 k2 k3 : Nat} {L1 : List Sh} {L2 : List Mk} {L3 : List Sh} {p : TwP} {lo hi : Nat} {w w' : World} (h : TwZ k1 k2 k3 L1 L2 L3 p lo hi w) (hb : Below w.heap.size w w') : TwZ k1 k2 k3 L1 L2 L3 p lo hi w' := h.grow hb
theorem TwZ.put1s {k1 k2 k3 : Nat} {L1 : List Sh} {L2 : List Mk} {L3 : List Sh} {B2 B3 : Option Addr} {d1 d2 d3 b2 b3 g lo hi : Nat} {w : World} (h : TwZ k1 k2 k3 L1 L2 L3 ⟨some ⟨g, 0, none⟩, B2, B3, d1, d2, d3, b2, b3⟩ lo hi w) {i : Nat} {a b p q : Int}
    (hx : L1[i]? = some ⟨a, b, p, q⟩) (c d : Int) : TwZ k1 k2 k3 (L1.set i ⟨a, b, c, d⟩) L2 L3 ⟨some ⟨g, 0, none⟩, B2, B3, d1, d2, d3, b2, b3⟩ lo hi ((w.setCell ⟨g, i * 4 + 2, none⟩ (.int .i64 c)).setCell ⟨g, i * 4 + 3, none⟩ (.int .i64 d)) := by
  obtain ⟨⟨h1, h2, h3, h4⟩, h5⟩ := h
  have hi' : i < L1.length := (List.getElem?_eq_some_iff.1 hx).1
  have e : L1[i] = ⟨a, b, p, q⟩ := (List.getElem?_eq_some_iff.1 hx).2
  have hg := h1.2 g rfl
  dsimp only at h1 h2 h3 h4 hg
  have g1 := h1.put shV_len hi' (j := 2) (by omega) (y := ⟨a, b, c, q⟩) (u := .int .i64 c) (by rw [e]; rfl)
  have g2 := g1.put shV_len (i := i) (by simpa using hi') (j := 3) (by omega) (y := ⟨a, b, c, d⟩) (u := .int .i64 d) (by rw [List.getElem_set_self]; rfl)
  rw [List.set_set] at g2
  exact ⟨⟨g2, (h2.other (p := ⟨g, i * 4 + 2, none⟩) (by dsimp only; omega) _).other (p := ⟨g, i * 4 + 3, none⟩) (by dsimp only; omega) _, (h3.other (p := ⟨g, i * 4 + 2, none⟩) (by dsimp only; omega) _).other (p := ⟨g, i * 4 + 3, none⟩) (by dsimp only; omega) _, h4⟩, by simpa using h5⟩
theorem TwZ.put2s {k1 k2 k3 : Nat} {L1 : List Sh} {L2 : List Mk} {L3 : List Sh} {B1 B3 : Option Addr} {d1 d2 d3 b2 b3 g lo hi : Nat} {w : World} (h : TwZ k1 k2 k3 L1 L2 L3 ⟨B1, some ⟨g, 0, none⟩, B3, d1, d2, d3, b2, b3⟩ lo hi w) {i : Nat} {a p q : Int}
    (hx : L2[i]? = some ⟨a, p, q⟩) (c d : Int) : TwZ k1 k2 k3 L1 (L2.set i ⟨a, c, d⟩) L3 ⟨B1, some ⟨g, 0, none⟩, B3, d1, d2, d3, b2, b3⟩ lo hi ((w.setCell ⟨g, i * 3 + 1, none⟩ (.int .i64 c)).setCell ⟨g, i * 3 + 2, none⟩ (.int .i64 d)) := by
  obtain ⟨⟨h1, h2, h3, h4⟩, h5⟩ := h
  have hi' : i < L2.length := (List.getElem?_eq_some_iff.1 hx).1
  have e : L2[i] = ⟨a, p, q⟩ := (List.getElem?_eq_some_iff.1 hx).2
  have hg := h2.2 g rfl
  have hg1 := (h2.1.lt g rfl).1
  dsimp only at h1 h2 h3 h4 hg hg1
  have g1 := h2.put mkV_len hi' (j := 1) (by omega) (y := ⟨a, c, q⟩) (u := .int .i64 c) (by rw [e]; rfl)
  have g2 := g1.put mkV_len (i := i) (by simpa using hi') (j := 2) (by omega) (y := ⟨a, c, d⟩) (u := .int .i64 d) (by rw [List.getElem_set_self]; rfl)
  rw [List.set_set] at g2
  exact ⟨⟨(h1.other (p := ⟨g, i * 3 + 1, none⟩) (by dsimp only; omega) _).other (p := ⟨g, i * 3 + 2, none⟩) (by dsimp only; omega) _, g2, (h3.other (p := ⟨g, i * 3 + 1, none⟩) (by dsimp only; omega) _).other (p := ⟨g, i * 3 + 2, none⟩) (by dsimp only; omega) _, h4⟩, by simpa using h5⟩

set_option maxRecDepth 100000 in
set_option maxHeartbeats 16000000 in
theorem leastC_any (s : Sv) (v : Int) (c1 c2 c3 : Nat) (A1 A2 A3 : Option Addr) (w : World) (r1 : Rd w w.heap.size A1 shV 4 s.shots) (r2 : Rd w w.heap.size A2 mkV 3 s.marks) (r3 : Rd w w.heap.size A3 shV 4 s.threads) (hok : svOk s = true) (hv0 : 0 ≤ v) (hv1 : v ≤ 20000000) :
    Calls Try.prog 43 #[.agg #[.int .i64 s.n, .slice A1 s.shots.length c1, .slice A2 s.marks.length c2, .slice A3 s.threads.length c3], .int .i64 v] w fun e w' => e = .returned (.bool (wdB s v)) ∧ Below w.heap.size w w' := by
  have R1 := Lib.hid r1
  have R2 := Lib.hid r2
  have R3 := Lib.hid r3
  have HSP := Lib.hid (svOk_spec hok)
  obtain ⟨⟨n1, n2, n3, n4, n5⟩, _⟩ := svOk_spec hok
  obtain ⟨L, E, hLE⟩ : ∃ L E, lvHeights (wdS s v) = (L, E) := ⟨_, _, rfl⟩
  have hwb : wdB s v = (E == 0) := by unfold wdB; rw [hLE]
  rw [hwb]
  have HLE := Lib.hid hLE
  clear r1 r2 r3 hok hLE hwb
  go_enter Try.func43, Try.ntmps43
  go_upto_region 2 with (go_at_call 15; (have hA := (Below.refl w.heap.size w).alloc (Nat.le_refl _) (.cells #[.int .i64 s.n, .slice A1 s.shots.length c1, .slice A2 s.marks.length c2, .slice A3 s.threads.length c3] 26)); refine (twin_in s c1 c2 c3 A1 A2 A3 _ ((R1.out.below hA).more hA.size) ((R2.out.below hA).more hA.size) ((R3.out.below hA).more hA.size) (by omega) (by omega) (by omega)).mono ?_; rintro e w1 ⟨v', rfl, ⟨⟨B1, B2, B3, d1, d2, d3, b2, b3⟩, rfl, T⟩, hb1⟩; have T0 := Lib.hid T; clear T hA; unfold twV; dsimp only)
  have hz1 := hb1.size
  simp at hz1
  obtain ⟨w2, hw⟩ : ∃ v, w1.alloc (.cells #[.int .i64 s.n, .slice B1 s.shots.length d1, .slice B2 s.marks.length d2, .slice B3 s.threads.length d3] 26) = v := ⟨_, rfl⟩
  obtain ⟨bt, hbk⟩ : ∃ b, w1.heap.size = b := ⟨_, rfl⟩
  rw [hw, hbk]
  have hK : Below w1.heap.size w1 w2 := by rw [← hw]; exact (Below.refl _ _).alloc (Nat.le_refl _) _
  have Ya : w2.heap[bt]? = some (.cells #[.int .i64 s.n, .slice B1 s.shots.length d1, .slice B2 s.marks.length d2, .slice B3 s.threads.length d3] 26 (0, 0)) := by rw [← hw, ← hbk]; exact heap_alloc_new _ _
  have HT := Lib.hid Ya
  obtain ⟨lo, hlo⟩ : ∃ n, (w.alloc (.cells #[.int .i64 s.n, .slice A1 s.shots.length c1, .slice A2 s.marks.length c2, .slice A3 s.threads.length c3] 26)).heap.size = n := ⟨_, rfl⟩
  have T1 : Hid (TwZ s.shots.length s.marks.length s.threads.length s.shots s.marks s.threads ⟨B1, B2, B3, d1, d2, d3, b2, b3⟩ lo bt w2) := Lib.hid (by rw [← hlo, ← hbk]; exact (show TwZ _ _ _ _ _ _ _ _ _ w1 from ⟨T0.out, Nat.le_refl _⟩).grow hK)
  have hb3 : Below w.heap.size w w2 := ((Below.refl _ _).alloc (Nat.le_refl _) _).trans ((hb1.trans (hK.mono hb1.size)).mono (by simp))
  have hwlo : w.heap.size < lo := by rw [← hlo]; simp
  clear hw hbk hK Ya T0 hlo hb1 hz1
  have s1 : w2.cell? ⟨bt, 1, none⟩ = some (.slice B1 s.shots.length d1) := cell_of_row w2 _ 1 _ _ _ HT.out
  go_upto_region 2 with fail
  go_wp2
  go_loopw [17] (fun v17 W => ∃ k : Nat, k ≤ s.shots.length ∧ v17 = .int .i64 k ∧ Below w.heap.size w W ∧ W.heap[bt]? = some (.cells #[.int .i64 s.n, .slice B1 s.shots.length d1, .slice B2 s.marks.length d2, .slice B3 s.threads.length d3] 26 (0, 0)) ∧ TwZ s.shots.length s.marks.length s.threads.length (updL (fun _ => wdSh v) s.shots k) s.marks s.threads ⟨B1, B2, B3, d1, d2, d3, b2, b3⟩ lo bt W) (fun i _ => s.shots.length - (intOf i).toNat)
  case atStart => exact ⟨0, by omega, rfl, hb3, HT.out, by rw [updL_zero]; exact T1.out⟩
  case round =>
    obtain ⟨k, hk, rfl, hb4, ht4, hT4⟩ := hrel
    have HT4 := Lib.hid ht4
    have T4 := Lib.hid hT4
    clear ht4 hT4 T1 HT hb3 s1
    by_cases hlt : k < s.shots.length
    · have hyl := HSP.out.2.1 _ (List.getElem_mem hlt)
      have hyk := updL_get (fun _ => wdSh v) s.shots hlt
      have HUS := Lib.hid (updL_succ (fun _ => wdSh v) s.shots hlt)
      obtain ⟨⟨f, t, p, q⟩, hy⟩ : ∃ y, s.shots[k] = y := ⟨_, rfl⟩
      rw [hy] at hyl hyk HUS
      have hyb := shOk_spec hyl
      dsimp only at hyb
      obtain ⟨y1, y2, y3, y4, y5, y6, y7, y8⟩ := hyb
      have HYK := Lib.hid hyk
      obtain ⟨g, hg, lg, ug⟩ := T4.out.1.1.at_ (by rw [updL_len]; omega)
      dsimp only at hg ug
      subst hg
      have hgb : g < bt := by have := T4.out.1.2.2.2; dsimp only at this; omega
      have hwg : w.heap.size < g := by omega
      have s1 : wr.cell? ⟨bt, 1, none⟩ = some (.slice (some ⟨g, 0, none⟩) s.shots.length d1) := cell_of_row wr _ 1 _ _ _ HT4.out
      have o2 : wr.cell? ⟨g, k * 4 + 2, none⟩ = some (.int .i64 p) := own_cell T4.out.1.1.1 shV_len HYK.out (j := 2) rfl
      have o3 : wr.cell? ⟨g, k * 4 + 3, none⟩ = some (.int .i64 q) := own_cell T4.out.1.1.1 shV_len HYK.out (j := 3) rfl
      obtain ⟨cur, hrow⟩ := own_row T4.out.1.1.1
      have lg2 := (Array.getElem?_eq_some_iff.1 hrow).1
      have HCUR := Lib.hid hrow
      have hkI : (k : Int) < (s.shots.length : Int) := by omega
      have w1' : IntKind.i64.wrap (p - v) = p - v := IntWalk.i64_in _ (by omega)
      have w2' : IntKind.i64.wrap (q + v) = q + v := IntWalk.i64_in _ (by omega)
      clear hyl hyk hy hrow lg ug
      go_upto_region 6 with fail
      rcases Int.lt_or_le (p - v) (-20000000) with hm | hm <;> rcases Int.lt_or_le 20000000 (q + v) with hn | hn
      · refine wp_region_calm_tail 17 (by kernel_rfl) (by decide +kernel) (by omega) ?_
        (simp only [List.take_succ_cons, List.take_zero, List.drop_succ_cons, List.drop_zero])
        repeat (go_big_quiet_step ((go_at_call 39; exact calm_of (span_any _ _ _))))
        refine wpQuiet_nil ?_
        rintro _ ⟨dx, rfl⟩
        obtain ⟨w5, hwy⟩ : ∃ v, wx _ dx = v := ⟨_, rfl⟩
        have hK := wx_below wr dx
        rw [hwy] at hK ⊢
        have HT6 := Lib.hid (row_keep HT4.out hK)
        have T6 := Lib.hid (T4.out.grow hK)
        have hb6 := below_keep hb4 hb4.size hK
        have HR := Lib.hid (row_keep HCUR.out hK)
        clear hwy hK o2 o3 lg2 w1' w2' HCUR HT4 T4 hb4
        have o2 : w5.cell? ⟨g, k * 4 + 2, none⟩ = some (.int .i64 p) := own_cell T6.out.1.1.1 shV_len HYK.out (j := 2) rfl
        have o3 : w5.cell? ⟨g, k * 4 + 3, none⟩ = some (.int .i64 q) := own_cell T6.out.1.1.1 shV_len HYK.out (j := 3) rfl
        have f2 := frozen_of_row w5 g (k * 4 + 2) _ _ HR.out
        have f3 := frozen_of_row w5 g (k * 4 + 3) _ _ HR.out
        gi_wp2_with fail
        obtain ⟨w6, hw⟩ : ∃ ww, (w5.setCell ⟨g, k * 4 + 2, none⟩ (.int .i64 (-20000000))).setCell ⟨g, k * 4 + 3, none⟩ (.int .i64 (20000000)) = ww := ⟨_, rfl⟩
        rw [hw]
        have hc : wdSh v ⟨f, t, p, q⟩ = ⟨f, t, -20000000, 20000000⟩ := by unfold wdSh; congr 1 <;> (dsimp only; omega)
        have X1 := T6.out.put1s HYK.out (-20000000) (20000000)
        rw [hw] at X1
        have X2 := row_other (row_other HT6.out (a := ⟨g, k * 4 + 2, none⟩) (by dsimp only; omega) (.int .i64 (-20000000))) (a := ⟨g, k * 4 + 3, none⟩) (by dsimp only; omega) (.int .i64 (20000000))
        rw [hw] at X2
        have X3 := Below.setCell (Below.setCell hb6 (p := ⟨g, k * 4 + 2, none⟩) (Nat.le_of_lt hwg) (.int .i64 (-20000000))) (p := ⟨g, k * 4 + 3, none⟩) (Nat.le_of_lt hwg) (.int .i64 (20000000))
        rw [hw] at X3
        rw [← hc] at X1
        have Z1 := Lib.hid X1
        have Z2 := Lib.hid X2
        have Z3 := Lib.hid X3
        have Z0 := Lib.hid hlt
        clear hw hc X1 X2 X3 o2 o3 f2 f3 HR T6 HT6 hb6
        go_wp2
        go_roundw
        case rel => exact ⟨k + 1, (by have := Z0.out; omega), by go_num, Z3.out, Z2.out, by rw [HUS.out]; exact Z1.out⟩
        case measure => (have := Z0.out; simp [intOf] <;> omega)
      · refine wp_region_calm_tail 17 (by kernel_rfl) (by decide +kernel) (by omega) ?_
        (simp only [List.take_succ_cons, List.take_zero, List.drop_succ_cons, List.drop_zero])
        repeat (go_big_quiet_step ((go_at_call 39; exact calm_of (span_any _ _ _))))
        refine wpQuiet_nil ?_
        rintro _ ⟨dx, rfl⟩
        obtain ⟨w5, hwy⟩ : ∃ v, wx _ dx = v := ⟨_, rfl⟩
        have hK := wx_below wr dx
        rw [hwy] at hK ⊢
        have HT6 := Lib.hid (row_keep HT4.out hK)
        have T6 := Lib.hid (T4.out.grow hK)
        have hb6 := below_keep hb4 hb4.size hK
        have HR := Lib.hid (row_keep HCUR.out hK)
        clear hwy hK o2 o3 lg2 w1' w2' HCUR HT4 T4 hb4
        have o2 : w5.cell? ⟨g, k * 4 + 2, none⟩ = some (.int .i64 p) := own_cell T6.out.1.1.1 shV_len HYK.out (j := 2) rfl
        have o3 : w5.cell? ⟨g, k * 4 + 3, none⟩ = some (.int .i64 q) := own_cell T6.out.1.1.1 shV_len HYK.out (j := 3) rfl
        have f2 := frozen_of_row w5 g (k * 4 + 2) _ _ HR.out
        have f3 := frozen_of_row w5 g (k * 4 + 3) _ _ HR.out
        gi_wp2_with fail
        obtain ⟨w6, hw⟩ : ∃ ww, (w5.setCell ⟨g, k * 4 + 2, none⟩ (.int .i64 (-20000000))).setCell ⟨g, k * 4 + 3, none⟩ (.int .i64 (q + v)) = ww := ⟨_, rfl⟩
        rw [hw]
        have hc : wdSh v ⟨f, t, p, q⟩ = ⟨f, t, -20000000, q + v⟩ := by unfold wdSh; congr 1 <;> (dsimp only; omega)
        have X1 := T6.out.put1s HYK.out (-20000000) (q + v)
        rw [hw] at X1
        have X2 := row_other (row_other HT6.out (a := ⟨g, k * 4 + 2, none⟩) (by dsimp only; omega) (.int .i64 (-20000000))) (a := ⟨g, k * 4 + 3, none⟩) (by dsimp only; omega) (.int .i64 (q + v))
        rw [hw] at X2
        have X3 := Below.setCell (Below.setCell hb6 (p := ⟨g, k * 4 + 2, none⟩) (Nat.le_of_lt hwg) (.int .i64 (-20000000))) (p := ⟨g, k * 4 + 3, none⟩) (Nat.le_of_lt hwg) (.int .i64 (q + v))
        rw [hw] at X3
        rw [← hc] at X1
        have Z1 := Lib.hid X1
        have Z2 := Lib.hid X2
        have Z3 := Lib.hid X3
        have Z0 := Lib.hid hlt
        clear hw hc X1 X2 X3 o2 o3 f2 f3 HR T6 HT6 hb6
        go_wp2
        go_roundw
        case rel => exact ⟨k + 1, (by have := Z0.out; omega), by go_num, Z3.out, Z2.out, by rw [HUS.out]; exact Z1.out⟩
        case measure => (have := Z0.out; simp [intOf] <;> omega)
      · refine wp_region_calm_tail 17 (by kernel_rfl) (by decide +kernel) (by omega) ?_
        (simp only [List.take_succ_cons, List.take_zero, List.drop_succ_cons, List.drop_zero])
        repeat (go_big_quiet_step ((go_at_call 39; exact calm_of (span_any _ _ _))))
        refine wpQuiet_nil ?_
        rintro _ ⟨dx, rfl⟩
        obtain ⟨w5, hwy⟩ : ∃ v, wx _ dx = v := ⟨_, rfl⟩
        have hK := wx_below wr dx
        rw [hwy] at hK ⊢
        have HT6 := Lib.hid (row_keep HT4.out hK)
        have T6 := Lib.hid (T4.out.grow hK)
        have hb6 := below_keep hb4 hb4.size hK
        have HR := Lib.hid (row_keep HCUR.out hK)
        clear hwy hK o2 o3 lg2 w1' w2' HCUR HT4 T4 hb4
        have o2 : w5.cell? ⟨g, k * 4 + 2, none⟩ = some (.int .i64 p) := own_cell T6.out.1.1.1 shV_len HYK.out (j := 2) rfl
        have o3 : w5.cell? ⟨g, k * 4 + 3, none⟩ = some (.int .i64 q) := own_cell T6.out.1.1.1 shV_len HYK.out (j := 3) rfl
        have f2 := frozen_of_row w5 g (k * 4 + 2) _ _ HR.out
        have f3 := frozen_of_row w5 g (k * 4 + 3) _ _ HR.out
        gi_wp2_with fail
        obtain ⟨w6, hw⟩ : ∃ ww, (w5.setCell ⟨g, k * 4 + 2, none⟩ (.int .i64 (p - v))).setCell ⟨g, k * 4 + 3, none⟩ (.int .i64 (20000000)) = ww := ⟨_, rfl⟩
        rw [hw]
        have hc : wdSh v ⟨f, t, p, q⟩ = ⟨f, t, p - v, 20000000⟩ := by unfold wdSh; congr 1 <;> (dsimp only; omega)
        have X1 := T6.out.put1s HYK.out (p - v) (20000000)
        rw [hw] at X1
        have X2 := row_other (row_other HT6.out (a := ⟨g, k * 4 + 2, none⟩) (by dsimp only; omega) (.int .i64 (p - v))) (a := ⟨g, k * 4 + 3, none⟩) (by dsimp only; omega) (.int .i64 (20000000))
        rw [hw] at X2
        have X3 := Below.setCell (Below.setCell hb6 (p := ⟨g, k * 4 + 2, none⟩) (Nat.le_of_lt hwg) (.int .i64 (p - v))) (p := ⟨g, k * 4 + 3, none⟩) (Nat.le_of_lt hwg) (.int .i64 (20000000))
        rw [hw] at X3
        rw [← hc] at X1
        have Z1 := Lib.hid X1
        have Z2 := Lib.hid X2
        have Z3 := Lib.hid X3
        have Z0 := Lib.hid hlt
        clear hw hc X1 X2 X3 o2 o3 f2 f3 HR T6 HT6 hb6
        go_wp2
        go_roundw
        case rel => exact ⟨k + 1, (by have := Z0.out; omega), by go_num, Z3.out, Z2.out, by rw [HUS.out]; exact Z1.out⟩
        case measure => (have := Z0.out; simp [intOf] <;> omega)
      · refine wp_region_calm_tail 17 (by kernel_rfl) (by decide +kernel) (by omega) ?_
        (simp only [List.take_succ_cons, List.take_zero, List.drop_succ_cons, List.drop_zero])
        repeat (go_big_quiet_step ((go_at_call 39; exact calm_of (span_any _ _ _))))
        refine wpQuiet_nil ?_
        rintro _ ⟨dx, rfl⟩
        obtain ⟨w5, hwy⟩ : ∃ v, wx _ dx = v := ⟨_, rfl⟩
        have hK := wx_below wr dx
        rw [hwy] at hK ⊢
        have HT6 := Lib.hid (row_keep HT4.out hK)
        have T6 := Lib.hid (T4.out.grow hK)
        have hb6 := below_keep hb4 hb4.size hK
        have HR := Lib.hid (row_keep HCUR.out hK)
        clear hwy hK o2 o3 lg2 w1' w2' HCUR HT4 T4 hb4
        have o2 : w5.cell? ⟨g, k * 4 + 2, none⟩ = some (.int .i64 p) := own_cell T6.out.1.1.1 shV_len HYK.out (j := 2) rfl
        have o3 : w5.cell? ⟨g, k * 4 + 3, none⟩ = some (.int .i64 q) := own_cell T6.out.1.1.1 shV_len HYK.out (j := 3) rfl
        have f2 := frozen_of_row w5 g (k * 4 + 2) _ _ HR.out
        have f3 := frozen_of_row w5 g (k * 4 + 3) _ _ HR.out
        gi_wp2_with fail
        obtain ⟨w6, hw⟩ : ∃ ww, (w5.setCell ⟨g, k * 4 + 2, none⟩ (.int .i64 (p - v))).setCell ⟨g, k * 4 + 3, none⟩ (.int .i64 (q + v)) = ww := ⟨_, rfl⟩
        rw [hw]
        have hc : wdSh v ⟨f, t, p, q⟩ = ⟨f, t, p - v, q + v⟩ := by unfold wdSh; congr 1 <;> (dsimp only; omega)
        have X1 := T6.out.put1s HYK.out (p - v) (q + v)
        rw [hw] at X1
        have X2 := row_other (row_other HT6.out (a := ⟨g, k * 4 + 2, none⟩) (by dsimp only; omega) (.int .i64 (p - v))) (a := ⟨g, k * 4 + 3, none⟩) (by dsimp only; omega) (.int .i64 (q + v))
        rw [hw] at X2
        have X3 := Below.setCell (Below.setCell hb6 (p := ⟨g, k * 4 + 2, none⟩) (Nat.le_of_lt hwg) (.int .i64 (p - v))) (p := ⟨g, k * 4 + 3, none⟩) (Nat.le_of_lt hwg) (.int .i64 (q + v))
        rw [hw] at X3
        rw [← hc] at X1
        have Z1 := Lib.hid X1
        have Z2 := Lib.hid X2
        have Z3 := Lib.hid X3
        have Z0 := Lib.hid hlt
        clear hw hc X1 X2 X3 o2 o3 f2 f3 HR T6 HT6 hb6
        go_wp2
        go_roundw
        case rel => exact ⟨k + 1, (by have := Z0.out; omega), by go_num, Z3.out, Z2.out, by rw [HUS.out]; exact Z1.out⟩
        case measure => (have := Z0.out; simp [intOf] <;> omega)
    · obtain rfl : k = s.shots.length := by omega
      rw [updL_full] at T4
      have hkk : ¬ ((s.shots.length : Nat) : Int) < (s.shots.length : Int) := by omega
      obtain ⟨w7, hw7⟩ : ∃ v, v = wr := ⟨_, rfl⟩
      subst hw7
      have s2 : w7.cell? ⟨bt, 2, none⟩ = some (.slice B2 s.marks.length d2) := cell_of_row w7 _ 2 _ _ _ HT4.out
      go_upto_region 8 with fail
      clear hkk
      go_wp2
      go_loopw [46] (fun v46 W => ∃ k : Nat, k ≤ s.marks.length ∧ v46 = .int .i64 k ∧ Below w.heap.size w W ∧ W.heap[bt]? = some (.cells #[.int .i64 s.n, .slice B1 s.shots.length d1, .slice B2 s.marks.length d2, .slice B3 s.threads.length d3] 26 (0, 0)) ∧ TwZ s.shots.length s.marks.length s.threads.length (s.shots.mapIdx fun _ => wdSh v) (updL (fun _ => wdMk v) s.marks k) s.threads ⟨B1, B2, B3, d1, d2, d3, b2, b3⟩ lo bt W) (fun i _ => s.marks.length - (intOf i).toNat)
      case atStart => exact ⟨0, by omega, rfl, hb4, HT4.out, by rw [updL_zero]; exact T4.out⟩
      case round =>
        obtain ⟨k, hk, rfl, hb5, ht5, hT5⟩ := hrel
        have HT5 := Lib.hid ht5
        have T5 := Lib.hid hT5
        clear ht5 hT5 T4 HT4 hb4 s2
        by_cases hlt : k < s.marks.length
        · have hyl := HSP.out.2.2.1 _ (List.getElem_mem hlt)
          have hyk := updL_get (fun _ => wdMk v) s.marks hlt
          have HUS := Lib.hid (updL_succ (fun _ => wdMk v) s.marks hlt)
          obtain ⟨⟨f, p, q⟩, hy⟩ : ∃ y, s.marks[k] = y := ⟨_, rfl⟩
          rw [hy] at hyl hyk HUS
          have hyb := mkOk_spec hyl
          dsimp only at hyb
          obtain ⟨y1, y2, y6, y7, y8⟩ := hyb
          have HYK := Lib.hid hyk
          obtain ⟨g, hg, lg, ug⟩ := T5.out.1.2.1.at_ (by rw [updL_len]; omega)
          dsimp only at hg lg ug
          subst hg
          have hgb : g < bt := by have := T5.out.1.2.2.2; dsimp only at this; omega
          have hwg : w.heap.size < g := by have := T5.out.1.2.2.2; dsimp only at this; omega
          have s2 : wr.cell? ⟨bt, 2, none⟩ = some (.slice (some ⟨g, 0, none⟩) s.marks.length d2) := cell_of_row wr _ 2 _ _ _ HT5.out
          have o2 : wr.cell? ⟨g, k * 3 + 1, none⟩ = some (.int .i64 p) := own_cell T5.out.1.2.1.1 mkV_len HYK.out (j := 1) rfl
          have o3 : wr.cell? ⟨g, k * 3 + 2, none⟩ = some (.int .i64 q) := own_cell T5.out.1.2.1.1 mkV_len HYK.out (j := 2) rfl
          obtain ⟨cur, hrow⟩ := own_row T5.out.1.2.1.1
          have lg2 := (Array.getElem?_eq_some_iff.1 hrow).1
          have HCUR := Lib.hid hrow
          have hkI : (k : Int) < (s.marks.length : Int) := by omega
          have w1' : IntKind.i64.wrap (p - v) = p - v := IntWalk.i64_in _ (by omega)
          have w2' : IntKind.i64.wrap (q + v) = q + v := IntWalk.i64_in _ (by omega)
          clear hyl hyk hy hrow lg ug
          go_upto_region 12 with fail
          rcases Int.lt_or_le (p - v) (-10000000) with hm | hm <;> rcases Int.lt_or_le 10000000 (q + v) with hn | hn
          · refine wp_region_calm_tail 17 (by kernel_rfl) (by decide +kernel) (by omega) ?_
            (simp only [List.take_succ_cons, List.take_zero, List.drop_succ_cons, List.drop_zero])
            repeat (go_big_quiet_step ((go_at_call 39; exact calm_of (span_any _ _ _))))
            refine wpQuiet_nil ?_
            rintro _ ⟨dx, rfl⟩
            obtain ⟨w5, hwy⟩ : ∃ v, wx _ dx = v := ⟨_, rfl⟩
            have hK := wx_below wr dx
            rw [hwy] at hK ⊢
            have HT6 := Lib.hid (row_keep HT5.out hK)
            have T6 := Lib.hid (T5.out.grow hK)
            have hb6 := below_keep hb5 hb5.size hK
            have HR := Lib.hid (row_keep HCUR.out hK)
            clear hwy hK o2 o3 lg2 w1' w2' HCUR HT5 T5 hb5
            have o2 : w5.cell? ⟨g, k * 3 + 1, none⟩ = some (.int .i64 p) := own_cell T6.out.1.2.1.1 mkV_len HYK.out (j := 1) rfl
            have o3 : w5.cell? ⟨g, k * 3 + 2, none⟩ = some (.int .i64 q) := own_cell T6.out.1.2.1.1 mkV_len HYK.out (j := 2) rfl
            have f2 := frozen_of_row w5 g (k * 3 + 1) _ _ HR.out
            have f3 := frozen_of_row w5 g (k * 3 + 2) _ _ HR.out
            gi_wp2_with fail
            obtain ⟨w6, hw⟩ : ∃ ww, (w5.setCell ⟨g, k * 3 + 1, none⟩ (.int .i64 (-10000000))).setCell ⟨g, k * 3 + 2, none⟩ (.int .i64 (10000000)) = ww := ⟨_, rfl⟩
            rw [hw]
            have hc : wdMk v ⟨f, p, q⟩ = ⟨f, -10000000, 10000000⟩ := by unfold wdMk; congr 1 <;> (dsimp only; omega)
            have X1 := T6.out.put2s HYK.out (-10000000) (10000000)
            rw [hw] at X1
            have X2 := row_other (row_other HT6.out (a := ⟨g, k * 3 + 1, none⟩) (by dsimp only; omega) (.int .i64 (-10000000))) (a := ⟨g, k * 3 + 2, none⟩) (by dsimp only; omega) (.int .i64 (10000000))
            rw [hw] at X2
            have X3 := Below.setCell (Below.setCell hb6 (p := ⟨g, k * 3 + 1, none⟩) (Nat.le_of_lt hwg) (.int .i64 (-10000000))) (p := ⟨g, k * 3 + 2, none⟩) (Nat.le_of_lt hwg) (.int .i64 (10000000))
            rw [hw] at X3
            rw [← hc] at X1
            have Z1 := Lib.hid X1
            have Z2 := Lib.hid X2
            have Z3 := Lib.hid X3
            have Z0 := Lib.hid hlt
            clear hw hc X1 X2 X3 o2 o3 f2 f3 HR T6 HT6 hb6
            go_wp2
            go_roundw
            case rel => exact ⟨k + 1, (by have := Z0.out; omega), by go_num, Z3.out, Z2.out, by rw [HUS.out]; exact Z1.out⟩
            case measure => (have := Z0.out; simp [intOf] <;> omega)
          · refine wp_region_calm_tail 17 (by kernel_rfl) (by decide +kernel) (by omega) ?_
            (simp only [List.take_succ_cons, List.take_zero, List.drop_succ_cons, List.drop_zero])
            repeat (go_big_quiet_step ((go_at_call 39; exact calm_of (span_any _ _ _))))
            refine wpQuiet_nil ?_
            rintro _ ⟨dx, rfl⟩
            obtain ⟨w5, hwy⟩ : ∃ v, wx _ dx = v := ⟨_, rfl⟩
            have hK := wx_below wr dx
            rw [hwy] at hK ⊢
            have HT6 := Lib.hid (row_keep HT5.out hK)
            have T6 := Lib.hid (T5.out.grow hK)
            have hb6 := below_keep hb5 hb5.size hK
            have HR := Lib.hid (row_keep HCUR.out hK)
            clear hwy hK o2 o3 lg2 w1' w2' HCUR HT5 T5 hb5
            have o2 : w5.cell? ⟨g, k * 3 + 1, none⟩ = some (.int .i64 p) := own_cell T6.out.1.2.1.1 mkV_len HYK.out (j := 1) rfl
            have o3 : w5.cell? ⟨g, k * 3 + 2, none⟩ = some (.int .i64 q) := own_cell T6.out.1.2.1.1 mkV_len HYK.out (j := 2) rfl
            have f2 := frozen_of_row w5 g (k * 3 + 1) _ _ HR.out
            have f3 := frozen_of_row w5 g (k * 3 + 2) _ _ HR.out
            gi_wp2_with fail
            obtain ⟨w6, hw⟩ : ∃ ww, (w5.setCell ⟨g, k * 3 + 1, none⟩ (.int .i64 (-10000000))).setCell ⟨g, k * 3 + 2, none⟩ (.int .i64 (q + v)) = ww := ⟨_, rfl⟩
            rw [hw]
            have hc : wdMk v ⟨f, p, q⟩ = ⟨f, -10000000, q + v⟩ := by unfold wdMk; congr 1 <;> (dsimp only; omega)
            have X1 := T6.out.put2s HYK.out (-10000000) (q + v)
            rw [hw] at X1
            have X2 := row_other (row_other HT6.out (a := ⟨g, k * 3 + 1, none⟩) (by dsimp only; omega) (.int .i64 (-10000000))) (a := ⟨g, k * 3 + 2, none⟩) (by dsimp only; omega) (.int .i64 (q + v))
            rw [hw] at X2
            have X3 := Below.setCell (Below.setCell hb6 (p := ⟨g, k * 3 + 1, none⟩) (Nat.le_of_lt hwg) (.int .i64 (-10000000))) (p := ⟨g, k * 3 + 2, none⟩) (Nat.le_of_lt hwg) (.int .i64 (q + v))
            rw [hw] at X3
            rw [← hc] at X1
            have Z1 := Lib.hid X1
            have Z2 := Lib.hid X2
            have Z3 := Lib.hid X3
            have Z0 := Lib.hid hlt
            clear hw hc X1 X2 X3 o2 o3 f2 f3 HR T6 HT6 hb6
            go_wp2
            go_roundw
            case rel => exact ⟨k + 1, (by have := Z0.out; omega), by go_num, Z3.out, Z2.out, by rw [HUS.out]; exact Z1.out⟩
            case measure => (have := Z0.out; simp [intOf] <;> omega)
          · refine wp_region_calm_tail 17 (by kernel_rfl) (by decide +kernel) (by omega) ?_
            (simp only [List.take_succ_cons, List.take_zero, List.drop_succ_cons, List.drop_zero])
            repeat (go_big_quiet_step ((go_at_call 39; exact calm_of (span_any _ _ _))))
            refine wpQuiet_nil ?_
            rintro _ ⟨dx, rfl⟩
            obtain ⟨w5, hwy⟩ : ∃ v, wx _ dx = v := ⟨_, rfl⟩
            have hK := wx_below wr dx
            rw [hwy] at hK ⊢
            have HT6 := Lib.hid (row_keep HT5.out hK)
            have T6 := Lib.hid (T5.out.grow hK)
            have hb6 := below_keep hb5 hb5.size hK
            have HR := Lib.hid (row_keep HCUR.out hK)
            clear hwy hK o2 o3 lg2 w1' w2' HCUR HT5 T5 hb5
            have o2 : w5.cell? ⟨g, k * 3 + 1, none⟩ = some (.int .i64 p) := own_cell T6.out.1.2.1.1 mkV_len HYK.out (j := 1) rfl
            have o3 : w5.cell? ⟨g, k * 3 + 2, none⟩ = some (.int .i64 q) := own_cell T6.out.1.2.1.1 mkV_len HYK.out (j := 2) rfl
            have f2 := frozen_of_row w5 g (k * 3 + 1) _ _ HR.out
            have f3 := frozen_of_row w5 g (k * 3 + 2) _ _ HR.out
            gi_wp2_with fail
            obtain ⟨w6, hw⟩ : ∃ ww, (w5.setCell ⟨g, k * 3 + 1, none⟩ (.int .i64 (p - v))).setCell ⟨g, k * 3 + 2, none⟩ (.int .i64 (10000000)) = ww := ⟨_, rfl⟩
            rw [hw]
            have hc : wdMk v ⟨f, p, q⟩ = ⟨f, p - v, 10000000⟩ := by unfold wdMk; congr 1 <;> (dsimp only; omega)
            have X1 := T6.out.put2s HYK.out (p - v) (10000000)
            rw [hw] at X1
            have X2 := row_other (row_other HT6.out (a := ⟨g, k * 3 + 1, none⟩) (by dsimp only; omega) (.int .i64 (p - v))) (a := ⟨g, k * 3 + 2, none⟩) (by dsimp only; omega) (.int .i64 (10000000))
            rw [hw] at X2
            have X3 := Below.setCell (Below.setCell hb6 (p := ⟨g, k * 3 + 1, none⟩) (Nat.le_of_lt hwg) (.int .i64 (p - v))) (p := ⟨g, k * 3 + 2, none⟩) (Nat.le_of_lt hwg) (.int .i64 (10000000))
            rw [hw] at X3
            rw [← hc] at X1
            have Z1 := Lib.hid X1
            have Z2 := Lib.hid X2
            have Z3 := Lib.hid X3
            have Z0 := Lib.hid hlt
            clear hw hc X1 X2 X3 o2 o3 f2 f3 HR T6 HT6 hb6
            go_wp2
            go_roundw
            case rel => exact ⟨k + 1, (by have := Z0.out; omega), by go_num, Z3.out, Z2.out, by rw [HUS.out]; exact Z1.out⟩
            case measure => (have := Z0.out; simp [intOf] <;> omega)
          · refine wp_region_calm_tail 17 (by kernel_rfl) (by decide +kernel) (by omega) ?_
            (simp only [List.take_succ_cons, List.take_zero, List.drop_succ_cons, List.drop_zero])
            repeat (go_big_quiet_step ((go_at_call 39; exact calm_of (span_any _ _ _))))
            refine wpQuiet_nil ?_
            rintro _ ⟨dx, rfl⟩
            obtain ⟨w5, hwy⟩ : ∃ v, wx _ dx = v := ⟨_, rfl⟩
            have hK := wx_below wr dx
            rw [hwy] at hK ⊢
            have HT6 := Lib.hid (row_keep HT5.out hK)
            have T6 := Lib.hid (T5.out.grow hK)
            have hb6 := below_keep hb5 hb5.size hK
            have HR := Lib.hid (row_keep HCUR.out hK)
            clear hwy hK o2 o3 lg2 w1' w2' HCUR HT5 T5 hb5
            have o2 : w5.cell? ⟨g, k * 3 + 1, none⟩ = some (.int .i64 p) := own_cell T6.out.1.2.1.1 mkV_len HYK.out (j := 1) rfl
            have o3 : w5.cell? ⟨g, k * 3 + 2, none⟩ = some (.int .i64 q) := own_cell T6.out.1.2.1.1 mkV_len HYK.out (j := 2) rfl
            have f2 := frozen_of_row w5 g (k * 3 + 1) _ _ HR.out
            have f3 := frozen_of_row w5 g (k * 3 + 2) _ _ HR.out
            gi_wp2_with fail
            obtain ⟨w6, hw⟩ : ∃ ww, (w5.setCell ⟨g, k * 3 + 1, none⟩ (.int .i64 (p - v))).setCell ⟨g, k * 3 + 2, none⟩ (.int .i64 (q + v)) = ww := ⟨_, rfl⟩
            rw [hw]
            have hc : wdMk v ⟨f, p, q⟩ = ⟨f, p - v, q + v⟩ := by unfold wdMk; congr 1 <;> (dsimp only; omega)
            have X1 := T6.out.put2s HYK.out (p - v) (q + v)
            rw [hw] at X1
            have X2 := row_other (row_other HT6.out (a := ⟨g, k * 3 + 1, none⟩) (by dsimp only; omega) (.int .i64 (p - v))) (a := ⟨g, k * 3 + 2, none⟩) (by dsimp only; omega) (.int .i64 (q + v))
            rw [hw] at X2
            have X3 := Below.setCell (Below.setCell hb6 (p := ⟨g, k * 3 + 1, none⟩) (Nat.le_of_lt hwg) (.int .i64 (p - v))) (p := ⟨g, k * 3 + 2, none⟩) (Nat.le_of_lt hwg) (.int .i64 (q + v))
            rw [hw] at X3
            rw [← hc] at X1
            have Z1 := Lib.hid X1
            have Z2 := Lib.hid X2
            have Z3 := Lib.hid X3
            have Z0 := Lib.hid hlt
            clear hw hc X1 X2 X3 o2 o3 f2 f3 HR T6 HT6 hb6
            go_wp2
            go_roundw
            case rel => exact ⟨k + 1, (by have := Z0.out; omega), by go_num, Z3.out, Z2.out, by rw [HUS.out]; exact Z1.out⟩
            case measure => (have := Z0.out; simp [intOf] <;> omega)
        · obtain rfl : k = s.marks.length := by omega
          rw [updL_full] at T5
          have hkk : ¬ ((s.marks.length : Nat) : Int) < (s.marks.length : Int) := by omega
          obtain ⟨w8, hw8⟩ : ∃ v, v = wr := ⟨_, rfl⟩
          subst hw8
          have m0 : w8.cell? ⟨bt, 0, none⟩ = some (.int .i64 s.n) := cell_of_row w8 _ 0 _ _ _ HT5.out
          have m1 : w8.cell? ⟨bt, 1, none⟩ = some (.slice B1 s.shots.length d1) := cell_of_row w8 _ 1 _ _ _ HT5.out
          have m2 : w8.cell? ⟨bt, 2, none⟩ = some (.slice B2 s.marks.length d2) := cell_of_row w8 _ 2 _ _ _ HT5.out
          have m3 : w8.cell? ⟨bt, 3, none⟩ = some (.slice B3 s.threads.length d3) := cell_of_row w8 _ 3 _ _ _ HT5.out
          go_wp2_with (go_at_call 16; refine (heights_wd s v HLE.out d1 d2 d3 B1 B2 B3 w8 (T5.out.1.r1 (by simp)) (T5.out.1.r2 (by simp)) (T5.out.1.r3 rfl)).mono ?_; rintro e w9 ⟨⟨AM, cM, rfl, qm⟩, hK⟩)
          go_ret
          exact ⟨rfl, below_keep hb5 hb5.size hK⟩

end Go.Proofs.Ytaoonfmcimkmhaa
