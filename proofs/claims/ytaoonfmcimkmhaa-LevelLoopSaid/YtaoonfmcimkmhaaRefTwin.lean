/- The reference's Twin: the same survey in new memory. Condition: the three slices read below the heap's end, and are not longer than a million. -/
import Derived.Test.YtaoonfmcimkmhaaOwn
import Derived.Test.YtaoonfmcimkmhaaLevSlopes
import Derived.Deep.Cut
namespace Go.Proofs.Ytaoonfmcimkmhaa
open Go.RowKit

theorem infoShot : (Try.prog.info? 78).map (fun i => (i.zero, i.size, i.bytes)) = some (some (.agg #[.int .i64 0, .int .i64 0, .int .i64 0, .int .i64 0]), 4, 32) := by kernel_rfl
theorem infoThread : (Try.prog.info? 72).map (fun i => (i.zero, i.size, i.bytes)) = some (some (.agg #[.int .i64 0, .int .i64 0, .int .i64 0, .int .i64 0]), 4, 32) := by kernel_rfl
theorem infoMark : (Try.prog.info? 75).map (fun i => (i.zero, i.size, i.bytes)) = some (some (.agg #[.int .i64 0, .int .i64 0, .int .i64 0]), 3, 24) := by kernel_rfl
theorem infoSurvey : (Try.prog.info? 26).map (·.size) = some 4 := by kernel_rfl
theorem shV_len (x : Sh) : (shV x).length = 4 := rfl
theorem mkV_len (x : Mk) : (mkV x).length = 3 := rfl
theorem shV_one (x : Sh) : ∀ u ∈ shV x, u.oneCell' = true := by intro u hu; unfold shV at hu; simp at hu; rcases hu with rfl | rfl | rfl | rfl <;> rfl
theorem mkV_one (x : Mk) : ∀ u ∈ mkV x, u.oneCell' = true := by intro u hu; unfold mkV at hu; simp at hu; rcases hu with rfl | rfl | rfl <;> rfl
theorem heap_set4 {w : World} {g : Nat} {x y z u a b c d : Value} {t : TypeId} (h : w.heap[g]? = some (.cells #[x, y, z, u] t (0, 0))) :
    ((((w.setCell ⟨g, 0, none⟩ a).setCell ⟨g, 1, none⟩ b).setCell ⟨g, 2, none⟩ c).setCell ⟨g, 3, none⟩ d).heap[g]? = some (.cells #[a, b, c, d] t (0, 0)) := by
  rw [heap_setCell_same _ g 3 _ _ d (heap_setCell_same _ g 2 _ _ c (heap_setCell_same _ g 1 _ _ b (heap_setCell_same w g 0 _ _ a h)))]
  rfl

theorem twinStep {w w' : World} {e t1 t2 : TypeId} {n c B j : Nat} {cs ds : Array Value} {v : Value} (hg : (w.alloc (.cells #[] e)).grownBy w' (Value.ownBlock (.slice (some ⟨w.heap.size, 0, none⟩) n c))) (hlt : B + 1 < w.heap.size) (_ : j < 4)
    (g1 : w.heap[B]? = some (.cells cs t1 (0, 0))) (g2 : w.heap[B + 1]? = some (.cells ds t2 (0, 0))) (hj : cs[j]? = some v) :
    Below w.heap.size w w' ∧ w'.heap[B]? = some (.cells cs t1 (0, 0)) ∧ w'.heap[B + 1]? = some (.cells ds t2 (0, 0)) ∧ w'.cell? ⟨B, j, none⟩ = some v ∧ w'.frozen? ⟨B, j, none⟩ = false := by
  have hb := below_new_append hg
  have h1 := (hb.block B (by omega)).trans g1
  exact ⟨hb, h1, (hb.block (B + 1) (by omega)).trans g2, (cell_of_row w' B j _ _ _ h1).trans hj, frozen_of_row w' B j _ _ h1⟩

set_option maxHeartbeats 2000000 in
theorem twin_any (s : Sv) (c1 c2 c3 : Nat) (A1 A2 A3 : Option Addr) (w : World)
    (r1 : Rd w w.heap.size A1 shV 4 s.shots) (r2 : Rd w w.heap.size A2 mkV 3 s.marks) (r3 : Rd w w.heap.size A3 shV 4 s.threads) (l1 : s.shots.length ≤ 1000000) (l2 : s.marks.length ≤ 1000000) (l3 : s.threads.length ≤ 1000000) :
    Calls Try.prog 15 #[.agg #[.int .i64 s.n, .slice A1 s.shots.length c1, .slice A2 s.marks.length c2, .slice A3 s.threads.length c3]] w fun e w' =>
      (∃ B1 B2 B3 d1 d2 d3, e = .returned (.agg #[.int .i64 s.n, .slice B1 s.shots.length d1, .slice B2 s.marks.length d2, .slice B3 s.threads.length d3]) ∧
        Rd w' w'.heap.size B1 shV 4 s.shots ∧ Rd w' w'.heap.size B2 mkV 3 s.marks ∧ Rd w' w'.heap.size B3 shV 4 s.threads) ∧ Below w.heap.size w w' := by
  have R1 := Lib.hid r1
  have R2 := Lib.hid r2
  have R3 := Lib.hid r3
  clear r1 r2 r3
  obtain ⟨i1, hi1, hz11, hz12, hz13⟩ := info_parts infoShot
  obtain ⟨i2, hi2, hz21, hz22, hz23⟩ := info_parts infoMark
  obtain ⟨i3, hi3, hz31, hz32, hz33⟩ := info_parts infoThread
  have I1 := Lib.hid (And.intro hi1 (And.intro hz11 (And.intro hz12 hz13)))
  have I2 := Lib.hid (And.intro hi2 (And.intro hz21 (And.intro hz22 hz23)))
  have I3 := Lib.hid (And.intro hi3 (And.intro hz31 (And.intro hz32 hz33)))
  clear hi1 hi2 hi3 hz11 hz12 hz13 hz21 hz22 hz23 hz31 hz32 hz33
  go_enter Try.func15, Try.ntmps15
  go_upto_region 1 with fail
  obtain ⟨w2, hw2⟩ : ∃ w2, (w.alloc (Obj.cells #[Value.int IntKind.i64 s.n, Value.slice A1 s.shots.length c1, Value.slice A2 s.marks.length c2, Value.slice A3 s.threads.length c3] 26)).alloc (Obj.cells #[Value.int IntKind.i64 0, Value.slice none 0 0, Value.slice none 0 0, Value.slice none 0 0] 26) = w2 := ⟨_, rfl⟩
  rw [hw2]
  have g1 : w2.heap[w.heap.size]? = some (.cells #[Value.int IntKind.i64 s.n, Value.slice A1 s.shots.length c1, Value.slice A2 s.marks.length c2, Value.slice A3 s.threads.length c3] 26 (0, 0)) := by rw [← hw2]; exact heap_alloc2_old w _ _
  have g2 : w2.heap[w.heap.size + 1]? = some (.cells #[Value.int IntKind.i64 0, Value.slice none 0 0, Value.slice none 0 0, Value.slice none 0 0] 26 (0, 0)) := by rw [← hw2]; exact heap_alloc2_new w _ _
  have hb2 : Below w.heap.size w w2 := by rw [← hw2]; (repeat' (first | (with_reducible exact Below.refl _ _) | (with_reducible refine Below.alloc ?_ ?_ _) | (with_reducible refine Below.drew ?_) | (with_reducible refine Below.drewN_ ?_ _) | (with_reducible refine Below.setCell ?_ ?_ _) | (with_reducible refine Below.setRow ?_ ?_ _) | (with_reducible refine Below.via ?_ (by with_reducible assumption) ?_) | go_size))
  have hz2 : w2.heap.size = w.heap.size + 2 := by rw [← hw2]; simp
  obtain ⟨B, hB⟩ : ∃ B, w.heap.size = B := ⟨_, rfl⟩
  rw [hB] at g1 g2 hb2 hz2 R1 R2 R3 ⊢
  have HB := Lib.hid hB
  have HZ2 := Lib.hid hz2
  have hlt2 : B + 1 < w2.heap.size := by omega
  have hlt1 : B < w2.heap.size := by omega
  clear hw2 hB hz2
  -- region 1
  have k0 : w2.cell? ⟨B, 0, none⟩ = some (.int .i64 s.n) := cell_of_row w2 B 0 _ _ _ g1
  have k1 : w2.cell? ⟨B, 1, none⟩ = some (Value.slice A1 s.shots.length c1) := cell_of_row w2 B 1 _ _ _ g1
  have k2 : w2.cell? ⟨B, 2, none⟩ = some (Value.slice A2 s.marks.length c2) := cell_of_row w2 B 2 _ _ _ g1
  have k3 : w2.cell? ⟨B, 3, none⟩ = some (Value.slice A3 s.threads.length c3) := cell_of_row w2 B 3 _ _ _ g1
  have G1 := Lib.hid g1
  have G2 := Lib.hid g2
  clear g1 g2
  have tok : True := trivial
  go_upto_region 2 with (at_builtin; have _t := tok; refine wpList_append_rd rfl (.tmp 3) (.tmp 5) 22 rfl i1 _ 32 Try.underlying22 I1.out.1 I1.out.2.1 I1.out.2.2.1 I1.out.2.2.2 rfl (by omega) shV_len shV_one rfl (Own.empty w2 w2.heap.size 78 shV 4 (Nat.le_refl _)) rfl rfl (R1.out.below (hb2.alloc (Nat.le_of_lt hlt1) _)) (by simp; omega) (by omega) (by simp) ?_; intro v1 w3a ho hg hat; clear tok _t; obtain ⟨hbA, G1a, G2a, hc, hf⟩ := twinStep (j := 1) hg hlt2 (by omega) G1.out G2.out rfl; rw [List.nil_append] at ho; obtain ⟨B1, d1, rfl⟩ := ho.form; have HO1a := Lib.hid ho; have HG1 := Lib.hid G1a; have HG2 := Lib.hid G2a; clear ho G1a G2a hat hg)
  obtain ⟨w3, hw⟩ : ∃ w3, w3a.setCell ⟨B, 1, none⟩ (Value.slice B1 s.shots.length d1) = w3 := ⟨_, rfl⟩
  rw [hw]
  have g1 : w3.heap[B]? = some (.cells #[Value.int IntKind.i64 s.n, Value.slice B1 s.shots.length d1, Value.slice A2 s.marks.length c2, Value.slice A3 s.threads.length c3] 26 (0, 0)) := by rw [← hw, heap_setCell_same w3a B 1 _ _ _ HG1.out]; rfl
  have g2 : w3.heap[B + 1]? = some (.cells #[Value.int IntKind.i64 0, Value.slice none 0 0, Value.slice none 0 0, Value.slice none 0 0] 26 (0, 0)) := by rw [← hw, Below.heap_setCell _ _ _ _ (by show B + 1 ≠ B; omega)]; exact HG2.out
  have hb3 : Below B w w3 := by rw [← hw]; exact (hb2.trans (hbA.mono (by omega))).setCell (Nat.le_refl _) _
  have hbs : w2.heap.size ≤ w3.heap.size := by rw [← hw]; simpa using hbA.size
  have HO1 : Hid (Own w3 w2.heap.size 78 (Value.slice B1 s.shots.length d1) shV 4 s.shots) := Lib.hid (by rw [← hw]; exact HO1a.out.set_ (by show B < _; omega) _)
  have hlt2 : B + 1 < w3.heap.size := by omega
  have hlt1 : B < w3.heap.size := by omega
  clear k0 k1 k2 k3 hw hc hf hbA HG1 HG2 HO1a hbs
  -- region 2
  have k0 : w3.cell? ⟨B, 0, none⟩ = some (.int .i64 s.n) := cell_of_row w3 B 0 _ _ _ g1
  have k1 : w3.cell? ⟨B, 1, none⟩ = some (Value.slice B1 s.shots.length d1) := cell_of_row w3 B 1 _ _ _ g1
  have k2 : w3.cell? ⟨B, 2, none⟩ = some (Value.slice A2 s.marks.length c2) := cell_of_row w3 B 2 _ _ _ g1
  have k3 : w3.cell? ⟨B, 3, none⟩ = some (Value.slice A3 s.threads.length c3) := cell_of_row w3 B 3 _ _ _ g1
  have G1 := Lib.hid g1
  have G2 := Lib.hid g2
  clear g1 g2
  have tok : True := trivial
  go_upto_region 3 with (at_builtin; have _t := tok; refine wpList_append_rd rfl (.tmp 8) (.tmp 10) 23 rfl i2 _ 24 Try.underlying23 I2.out.1 I2.out.2.1 I2.out.2.2.1 I2.out.2.2.2 rfl (by omega) mkV_len mkV_one rfl (Own.empty w3 w3.heap.size 75 mkV 3 (Nat.le_refl _)) rfl rfl (R2.out.below (hb3.alloc (Nat.le_of_lt hlt1) _)) (by simp; omega) (by omega) (by simp) ?_; intro v2 w4a ho hg hat; clear tok _t; obtain ⟨hbA, G1a, G2a, hc, hf⟩ := twinStep (j := 2) hg hlt2 (by omega) G1.out G2.out rfl; rw [List.nil_append] at ho; obtain ⟨B2, d2, rfl⟩ := ho.form; have HO2a := Lib.hid ho; have HG1 := Lib.hid G1a; have HG2 := Lib.hid G2a; clear ho G1a G2a hat hg)
  obtain ⟨w4, hw⟩ : ∃ w4, w4a.setCell ⟨B, 2, none⟩ (Value.slice B2 s.marks.length d2) = w4 := ⟨_, rfl⟩
  rw [hw]
  have g1 : w4.heap[B]? = some (.cells #[Value.int IntKind.i64 s.n, Value.slice B1 s.shots.length d1, Value.slice B2 s.marks.length d2, Value.slice A3 s.threads.length c3] 26 (0, 0)) := by rw [← hw, heap_setCell_same w4a B 2 _ _ _ HG1.out]; rfl
  have g2 : w4.heap[B + 1]? = some (.cells #[Value.int IntKind.i64 0, Value.slice none 0 0, Value.slice none 0 0, Value.slice none 0 0] 26 (0, 0)) := by rw [← hw, Below.heap_setCell _ _ _ _ (by show B + 1 ≠ B; omega)]; exact HG2.out
  have hb4 : Below B w w4 := by rw [← hw]; exact (hb3.trans (hbA.mono (by omega))).setCell (Nat.le_refl _) _
  have hbs : w3.heap.size ≤ w4.heap.size := by rw [← hw]; simpa using hbA.size
  have HO2 : Hid (Own w4 w3.heap.size 75 (Value.slice B2 s.marks.length d2) mkV 3 s.marks) := Lib.hid (by rw [← hw]; exact HO2a.out.set_ (by show B < _; omega) _)
  have HO1 : Hid (Own w4 w2.heap.size 78 (Value.slice B1 s.shots.length d1) shV 4 s.shots) := Lib.hid (by rw [← hw]; exact (HO1.out.below hbA).set_ (by show B < _; omega) _)
  have hlt2 : B + 1 < w4.heap.size := by omega
  have hlt1 : B < w4.heap.size := by omega
  clear k0 k1 k2 k3 hw hc hf hbA HG1 HG2 HO2a hbs
  -- region 3
  have k0 : w4.cell? ⟨B, 0, none⟩ = some (.int .i64 s.n) := cell_of_row w4 B 0 _ _ _ g1
  have k1 : w4.cell? ⟨B, 1, none⟩ = some (Value.slice B1 s.shots.length d1) := cell_of_row w4 B 1 _ _ _ g1
  have k2 : w4.cell? ⟨B, 2, none⟩ = some (Value.slice B2 s.marks.length d2) := cell_of_row w4 B 2 _ _ _ g1
  have k3 : w4.cell? ⟨B, 3, none⟩ = some (Value.slice A3 s.threads.length c3) := cell_of_row w4 B 3 _ _ _ g1
  have G1 := Lib.hid g1
  have G2 := Lib.hid g2
  clear g1 g2
  have tok : True := trivial
  go_upto_region 4 with (at_builtin; have _t := tok; refine wpList_append_rd rfl (.tmp 13) (.tmp 15) 24 rfl i3 _ 32 Try.underlying24 I3.out.1 I3.out.2.1 I3.out.2.2.1 I3.out.2.2.2 rfl (by omega) shV_len shV_one rfl (Own.empty w4 w4.heap.size 72 shV 4 (Nat.le_refl _)) rfl rfl (R3.out.below (hb4.alloc (Nat.le_of_lt hlt1) _)) (by simp; omega) (by omega) (by simp) ?_; intro v3 w5a ho hg hat; clear tok _t; obtain ⟨hbA, G1a, G2a, hc, hf⟩ := twinStep (j := 3) hg hlt2 (by omega) G1.out G2.out rfl; rw [List.nil_append] at ho; obtain ⟨B3, d3, rfl⟩ := ho.form; have HO3a := Lib.hid ho; have HG1 := Lib.hid G1a; have HG2 := Lib.hid G2a; clear ho G1a G2a hat hg)
  obtain ⟨w5, hw⟩ : ∃ w5, w5a.setCell ⟨B, 3, none⟩ (Value.slice B3 s.threads.length d3) = w5 := ⟨_, rfl⟩
  rw [hw]
  have g1 : w5.heap[B]? = some (.cells #[Value.int IntKind.i64 s.n, Value.slice B1 s.shots.length d1, Value.slice B2 s.marks.length d2, Value.slice B3 s.threads.length d3] 26 (0, 0)) := by rw [← hw, heap_setCell_same w5a B 3 _ _ _ HG1.out]; rfl
  have g2 : w5.heap[B + 1]? = some (.cells #[Value.int IntKind.i64 0, Value.slice none 0 0, Value.slice none 0 0, Value.slice none 0 0] 26 (0, 0)) := by rw [← hw, Below.heap_setCell _ _ _ _ (by show B + 1 ≠ B; omega)]; exact HG2.out
  have hb5 : Below B w w5 := by rw [← hw]; exact (hb4.trans (hbA.mono (by omega))).setCell (Nat.le_refl _) _
  have hbs : w4.heap.size ≤ w5.heap.size := by rw [← hw]; simpa using hbA.size
  have HO3 : Hid (Own w5 w4.heap.size 72 (Value.slice B3 s.threads.length d3) shV 4 s.threads) := Lib.hid (by rw [← hw]; exact HO3a.out.set_ (by show B < _; omega) _)
  have HO1 : Hid (Own w5 w2.heap.size 78 (Value.slice B1 s.shots.length d1) shV 4 s.shots) := Lib.hid (by rw [← hw]; exact (HO1.out.below hbA).set_ (by show B < _; omega) _)
  have HO2 : Hid (Own w5 w3.heap.size 75 (Value.slice B2 s.marks.length d2) mkV 3 s.marks) := Lib.hid (by rw [← hw]; exact (HO2.out.below hbA).set_ (by show B < _; omega) _)
  have hlt2 : B + 1 < w5.heap.size := by omega
  have hlt1 : B < w5.heap.size := by omega
  clear k0 k1 k2 k3 hw hc hf hbA HG1 HG2 HO3a hbs
  have k0 : w5.cell? ⟨B, 0, none⟩ = some (.int .i64 s.n) := cell_of_row w5 B 0 _ _ _ g1
  have k1 : w5.cell? ⟨B, 1, none⟩ = some (Value.slice B1 s.shots.length d1) := cell_of_row w5 B 1 _ _ _ g1
  have k2 : w5.cell? ⟨B, 2, none⟩ = some (Value.slice B2 s.marks.length d2) := cell_of_row w5 B 2 _ _ _ g1
  have k3 : w5.cell? ⟨B, 3, none⟩ = some (Value.slice B3 s.threads.length d3) := cell_of_row w5 B 3 _ _ _ g1
  have n0 : w5.cell? ⟨B + 1, 0, none⟩ = some (.int .i64 0) := cell_of_row w5 _ 0 _ _ _ g2
  have n1 : w5.cell? ⟨B + 1, 1, none⟩ = some (.slice none 0 0) := cell_of_row w5 _ 1 _ _ _ g2
  have n2 : w5.cell? ⟨B + 1, 2, none⟩ = some (.slice none 0 0) := cell_of_row w5 _ 2 _ _ _ g2
  have n3 : w5.cell? ⟨B + 1, 3, none⟩ = some (.slice none 0 0) := cell_of_row w5 _ 3 _ _ _ g2
  have f0 := frozen_of_row w5 (B + 1) 0 _ _ g2
  have f1 := frozen_of_row w5 (B + 1) 1 _ _ g2
  have f2 := frozen_of_row w5 (B + 1) 2 _ _ g2
  have f3 := frozen_of_row w5 (B + 1) 3 _ _ g2
  have G2 := Lib.hid g2
  clear g1 g2
  go_wp2
  refine bodyPost_ret (results_cell_row Try.results15 _ _ (B + 1) 26 #[Value.int IntKind.i64 s.n, Value.slice B1 s.shots.length d1, Value.slice B2 s.marks.length d2, Value.slice B3 s.threads.length d3] (0, 0) _ rfl (heap_set4 G2.out) Try.underlying26 rfl infoSurvey) rfl ?_
  obtain ⟨w6, hw6⟩ : ∃ w6, (((w5.setCell ⟨B + 1, 0, none⟩ (.int .i64 s.n)).setCell ⟨B + 1, 1, none⟩ (Value.slice B1 s.shots.length d1)).setCell ⟨B + 1, 2, none⟩ (Value.slice B2 s.marks.length d2)).setCell ⟨B + 1, 3, none⟩ (Value.slice B3 s.threads.length d3) = w6 := ⟨_, rfl⟩
  rw [hw6]
  have o1 := (((HO1.out.set_ (p := ⟨B + 1, 0, none⟩) (by show B + 1 < _; omega) (.int .i64 s.n)).set_ (p := ⟨B + 1, 1, none⟩) (by show B + 1 < _; omega) (Value.slice B1 s.shots.length d1)).set_ (p := ⟨B + 1, 2, none⟩) (by show B + 1 < _; omega) (Value.slice B2 s.marks.length d2)).set_ (p := ⟨B + 1, 3, none⟩) (by show B + 1 < _; omega) (Value.slice B3 s.threads.length d3)
  have o2 := (((HO2.out.set_ (p := ⟨B + 1, 0, none⟩) (by show B + 1 < _; omega) (.int .i64 s.n)).set_ (p := ⟨B + 1, 1, none⟩) (by show B + 1 < _; omega) (Value.slice B1 s.shots.length d1)).set_ (p := ⟨B + 1, 2, none⟩) (by show B + 1 < _; omega) (Value.slice B2 s.marks.length d2)).set_ (p := ⟨B + 1, 3, none⟩) (by show B + 1 < _; omega) (Value.slice B3 s.threads.length d3)
  have o3 := (((HO3.out.set_ (p := ⟨B + 1, 0, none⟩) (by show B + 1 < _; omega) (.int .i64 s.n)).set_ (p := ⟨B + 1, 1, none⟩) (by show B + 1 < _; omega) (Value.slice B1 s.shots.length d1)).set_ (p := ⟨B + 1, 2, none⟩) (by show B + 1 < _; omega) (Value.slice B2 s.marks.length d2)).set_ (p := ⟨B + 1, 3, none⟩) (by show B + 1 < _; omega) (Value.slice B3 s.threads.length d3)
  rw [hw6] at o1 o2 o3
  refine ⟨⟨B1, B2, B3, d1, d2, d3, rfl, o1.rd shV_len, o2.rd mkV_len, o3.rd shV_len⟩, ?_⟩
  rw [← hw6, HB.out]
  exact (((hb5.setCell (p := ⟨B + 1, 0, none⟩) (Nat.le_succ B) _).setCell (p := ⟨B + 1, 1, none⟩) (Nat.le_succ B) _).setCell (p := ⟨B + 1, 2, none⟩) (Nat.le_succ B) _).setCell (p := ⟨B + 1, 3, none⟩) (Nat.le_succ B) _

end Go.Proofs.Ytaoonfmcimkmhaa
