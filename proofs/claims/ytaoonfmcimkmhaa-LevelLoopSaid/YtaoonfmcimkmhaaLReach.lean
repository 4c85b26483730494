/- The reference's Twin once more: the new slices are the caller's own, in rows apart. Condition: the three slices read below the heap's end, and are not longer than a million. -/
import Derived.Test.YtaoonfmcimkmhaaRefTwin
import Derived.Test.YtaoonfmcimkmhaaAlive
import Derived.Test.YtaoonfmcimkmhaaFloat
import Derived.Test.YtaoonfmcimkmhaaOutM
namespace Go.Proofs.Ytaoonfmcimkmhaa
open Go.RowKit

/-- A slice of whose block only what is made from block b on is asked, and that lies before block c. -/
def Apart (v : Value) (c : Nat) : Prop := ∀ k, v.ownBlock = some k → k < c

set_option maxHeartbeats 2000000 in
theorem twin_own (s : Sv) (c1 c2 c3 : Nat) (A1 A2 A3 : Option Addr) (w : World)
    (r1 : Rd w w.heap.size A1 shV 4 s.shots) (r2 : Rd w w.heap.size A2 mkV 3 s.marks) (r3 : Rd w w.heap.size A3 shV 4 s.threads) (l1 : s.shots.length ≤ 1000000) (l2 : s.marks.length ≤ 1000000) (l3 : s.threads.length ≤ 1000000) :
    Calls Try.prog 15 #[.agg #[.int .i64 s.n, .slice A1 s.shots.length c1, .slice A2 s.marks.length c2, .slice A3 s.threads.length c3]] w fun e w' =>
      (∃ B1 B2 B3 d1 d2 d3 b1 b2 b3, e = .returned (.agg #[.int .i64 s.n, .slice B1 s.shots.length d1, .slice B2 s.marks.length d2, .slice B3 s.threads.length d3]) ∧
        Own w' b1 78 (.slice B1 s.shots.length d1) shV 4 s.shots ∧ Own w' b2 75 (.slice B2 s.marks.length d2) mkV 3 s.marks ∧ Own w' b3 72 (.slice B3 s.threads.length d3) shV 4 s.threads ∧
        w.heap.size ≤ b1 ∧ b1 ≤ b2 ∧ b2 ≤ b3 ∧ b3 ≤ w'.heap.size ∧ Apart (.slice B1 s.shots.length d1) b2 ∧ Apart (.slice B2 s.marks.length d2) b3) ∧ Below w.heap.size w w' := by
  have R1 := Lib.hid r1
  have R2 := Lib.hid r2
  have R3 := Lib.hid r3
  clear r1 r2 r3
  obtain ⟨i1, hi1, hz11, hz12, hz13⟩ := info_parts infoShot
  obtain ⟨i2, hi2, hz21, hz22, hz23⟩ := info_parts infoMark
  obtain ⟨i3, hi3, hz31, hz32, hz33⟩ := info_parts infoThread
  have I1 := Lib.hid (And.intro hi1 (And.intro hz11 (And.intro hz12 hz13)))
  have I2 := Lib.hid (And.intro hi2 (And.intro hz21 (And.intro hz22 hz23)))
  have I3 := Lib.hid (And.intro hi3 (And.intro hz31 (And.intro hz32 hz33)))
  clear hi1 hi2 hi3 hz11 hz12 hz13 hz21 hz22 hz23 hz31 hz32 hz33
  go_enter Try.func15, Try.ntmps15
  go_upto_region 1 with fail
  obtain ⟨w2, hw2⟩ : ∃ w2, (w.alloc (Obj.cells #[Value.int IntKind.i64 s.n, Value.slice A1 s.shots.length c1, Value.slice A2 s.marks.length c2, Value.slice A3 s.threads.length c3] 26)).alloc (Obj.cells #[Value.int IntKind.i64 0, Value.slice none 0 0, Value.slice none 0 0, Value.slice none 0 0] 26) = w2 := ⟨_, rfl⟩
  rw [hw2]
  have g1 : w2.heap[w.heap.size]? = some (.cells #[Value.int IntKind.i64 s.n, Value.slice A1 s.shots.length c1, Value.slice A2 s.marks.length c2, Value.slice A3 s.threads.length c3] 26 (0, 0)) := by rw [← hw2]; exact heap_alloc2_old w _ _
  have g2 : w2.heap[w.heap.size + 1]? = some (.cells #[Value.int IntKind.i64 0, Value.slice none 0 0, Value.slice none 0 0, Value.slice none 0 0] 26 (0, 0)) := by rw [← hw2]; exact heap_alloc2_new w _ _
  have hb2 : Below w.heap.size w w2 := by rw [← hw2]; (repeat' (first | (with_reducible exact Below.refl _ _) | (with_reducible refine Below.alloc ?_ ?_ _) | (with_reducible refine Below.drew ?_) | (with_reducible refine Below.drewN_ ?_ _) | (with_reducible refine Below.setCell ?_ ?_ _) | (with_reducible refine Below.setRow ?_ ?_ _) | (with_reducible refine Below.via ?_ (by with_reducible assumption) ?_) | go_size))
  have hz2 : w2.heap.size = w.heap.size + 2 := by rw [← hw2]; simp
  obtain ⟨B, hB⟩ : ∃ B, w.heap.size = B := ⟨_, rfl⟩
  rw [hB] at g1 g2 hb2 hz2 R1 R2 R3 ⊢
  have HB := Lib.hid hB
  have HZ2 := Lib.hid hz2
  have hlt2 : B + 1 < w2.heap.size := by omega
  have hlt1 : B < w2.heap.size := by omega
  clear hw2 hB hz2
  -- region 1
  have k0 : w2.cell? ⟨B, 0, none⟩ = some (.int .i64 s.n) := cell_of_row w2 B 0 _ _ _ g1
  have k1 : w2.cell? ⟨B, 1, none⟩ = some (Value.slice A1 s.shots.length c1) := cell_of_row w2 B 1 _ _ _ g1
  have k2 : w2.cell? ⟨B, 2, none⟩ = some (Value.slice A2 s.marks.length c2) := cell_of_row w2 B 2 _ _ _ g1
  have k3 : w2.cell? ⟨B, 3, none⟩ = some (Value.slice A3 s.threads.length c3) := cell_of_row w2 B 3 _ _ _ g1
  have G1 := Lib.hid g1
  have G2 := Lib.hid g2
  clear g1 g2
  have tok : True := trivial
  go_upto_region 2 with (at_builtin; have _t := tok; refine wpList_append_rd rfl (.tmp 3) (.tmp 5) 22 rfl i1 _ 32 Try.underlying22 I1.out.1 I1.out.2.1 I1.out.2.2.1 I1.out.2.2.2 rfl (by omega) shV_len shV_one rfl (Own.empty w2 w2.heap.size 78 shV 4 (Nat.le_refl _)) rfl rfl (R1.out.below (hb2.alloc (Nat.le_of_lt hlt1) _)) (by simp; omega) (by omega) (by simp) ?_; intro v1 w3a ho hg hat; clear tok _t; obtain ⟨hbA, G1a, G2a, hc, hf⟩ := twinStep (j := 1) hg hlt2 (by omega) G1.out G2.out rfl; rw [List.nil_append] at ho; obtain ⟨B1, d1, rfl⟩ := ho.form; have HO1a := Lib.hid ho; have U1 := Lib.hid (show Apart (Value.slice B1 s.shots.length d1) w3a.heap.size from fun k hk => (ho.lt k hk).2); have HG1 := Lib.hid G1a; have HG2 := Lib.hid G2a; clear ho G1a G2a hat hg)
  obtain ⟨w3, hw⟩ : ∃ w3, w3a.setCell ⟨B, 1, none⟩ (Value.slice B1 s.shots.length d1) = w3 := ⟨_, rfl⟩
  rw [hw]
  have g1 : w3.heap[B]? = some (.cells #[Value.int IntKind.i64 s.n, Value.slice B1 s.shots.length d1, Value.slice A2 s.marks.length c2, Value.slice A3 s.threads.length c3] 26 (0, 0)) := by rw [← hw, heap_setCell_same w3a B 1 _ _ _ HG1.out]; rfl
  have g2 : w3.heap[B + 1]? = some (.cells #[Value.int IntKind.i64 0, Value.slice none 0 0, Value.slice none 0 0, Value.slice none 0 0] 26 (0, 0)) := by rw [← hw, Below.heap_setCell _ _ _ _ (by show B + 1 ≠ B; omega)]; exact HG2.out
  have hb3 : Below B w w3 := by rw [← hw]; exact (hb2.trans (hbA.mono (by omega))).setCell (Nat.le_refl _) _
  have hbs : w2.heap.size ≤ w3.heap.size := by rw [← hw]; simpa using hbA.size
  have Z1 := Lib.hid hbs
  have U1b := Lib.hid (show Apart (Value.slice B1 s.shots.length d1) w3.heap.size by rw [← hw]; simpa using U1.out)
  have HO1 : Hid (Own w3 w2.heap.size 78 (Value.slice B1 s.shots.length d1) shV 4 s.shots) := Lib.hid (by rw [← hw]; exact HO1a.out.set_ (by show B < _; omega) _)
  have hlt2 : B + 1 < w3.heap.size := by omega
  have hlt1 : B < w3.heap.size := by omega
  clear k0 k1 k2 k3 hw hc hf hbA HG1 HG2 HO1a hbs
  -- region 2
  have k0 : w3.cell? ⟨B, 0, none⟩ = some (.int .i64 s.n) := cell_of_row w3 B 0 _ _ _ g1
  have k1 : w3.cell? ⟨B, 1, none⟩ = some (Value.slice B1 s.shots.length d1) := cell_of_row w3 B 1 _ _ _ g1
  have k2 : w3.cell? ⟨B, 2, none⟩ = some (Value.slice A2 s.marks.length c2) := cell_of_row w3 B 2 _ _ _ g1
  have k3 : w3.cell? ⟨B, 3, none⟩ = some (Value.slice A3 s.threads.length c3) := cell_of_row w3 B 3 _ _ _ g1
  have G1 := Lib.hid g1
  have G2 := Lib.hid g2
  clear g1 g2
  have tok : True := trivial
  go_upto_region 3 with (at_builtin; have _t := tok; refine wpList_append_rd rfl (.tmp 8) (.tmp 10) 23 rfl i2 _ 24 Try.underlying23 I2.out.1 I2.out.2.1 I2.out.2.2.1 I2.out.2.2.2 rfl (by omega) mkV_len mkV_one rfl (Own.empty w3 w3.heap.size 75 mkV 3 (Nat.le_refl _)) rfl rfl (R2.out.below (hb3.alloc (Nat.le_of_lt hlt1) _)) (by simp; omega) (by omega) (by simp) ?_; intro v2 w4a ho hg hat; clear tok _t; obtain ⟨hbA, G1a, G2a, hc, hf⟩ := twinStep (j := 2) hg hlt2 (by omega) G1.out G2.out rfl; rw [List.nil_append] at ho; obtain ⟨B2, d2, rfl⟩ := ho.form; have HO2a := Lib.hid ho; have U2 := Lib.hid (show Apart (Value.slice B2 s.marks.length d2) w4a.heap.size from fun k hk => (ho.lt k hk).2); have HG1 := Lib.hid G1a; have HG2 := Lib.hid G2a; clear ho G1a G2a hat hg)
  obtain ⟨w4, hw⟩ : ∃ w4, w4a.setCell ⟨B, 2, none⟩ (Value.slice B2 s.marks.length d2) = w4 := ⟨_, rfl⟩
  rw [hw]
  have g1 : w4.heap[B]? = some (.cells #[Value.int IntKind.i64 s.n, Value.slice B1 s.shots.length d1, Value.slice B2 s.marks.length d2, Value.slice A3 s.threads.length c3] 26 (0, 0)) := by rw [← hw, heap_setCell_same w4a B 2 _ _ _ HG1.out]; rfl
  have g2 : w4.heap[B + 1]? = some (.cells #[Value.int IntKind.i64 0, Value.slice none 0 0, Value.slice none 0 0, Value.slice none 0 0] 26 (0, 0)) := by rw [← hw, Below.heap_setCell _ _ _ _ (by show B + 1 ≠ B; omega)]; exact HG2.out
  have hb4 : Below B w w4 := by rw [← hw]; exact (hb3.trans (hbA.mono (by omega))).setCell (Nat.le_refl _) _
  have hbs : w3.heap.size ≤ w4.heap.size := by rw [← hw]; simpa using hbA.size
  have Z2 := Lib.hid hbs
  have U2b := Lib.hid (show Apart (Value.slice B2 s.marks.length d2) w4.heap.size by rw [← hw]; simpa using U2.out)
  have HO2 : Hid (Own w4 w3.heap.size 75 (Value.slice B2 s.marks.length d2) mkV 3 s.marks) := Lib.hid (by rw [← hw]; exact HO2a.out.set_ (by show B < _; omega) _)
  have HO1 : Hid (Own w4 w2.heap.size 78 (Value.slice B1 s.shots.length d1) shV 4 s.shots) := Lib.hid (by rw [← hw]; exact (HO1.out.below hbA).set_ (by show B < _; omega) _)
  have hlt2 : B + 1 < w4.heap.size := by omega
  have hlt1 : B < w4.heap.size := by omega
  clear k0 k1 k2 k3 hw hc hf hbA HG1 HG2 HO2a hbs
  -- region 3
  have k0 : w4.cell? ⟨B, 0, none⟩ = some (.int .i64 s.n) := cell_of_row w4 B 0 _ _ _ g1
  have k1 : w4.cell? ⟨B, 1, none⟩ = some (Value.slice B1 s.shots.length d1) := cell_of_row w4 B 1 _ _ _ g1
  have k2 : w4.cell? ⟨B, 2, none⟩ = some (Value.slice B2 s.marks.length d2) := cell_of_row w4 B 2 _ _ _ g1
  have k3 : w4.cell? ⟨B, 3, none⟩ = some (Value.slice A3 s.threads.length c3) := cell_of_row w4 B 3 _ _ _ g1
  have G1 := Lib.hid g1
  have G2 := Lib.hid g2
  clear g1 g2
  have tok : True := trivial
  go_upto_region 4 with (at_builtin; have _t := tok; refine wpList_append_rd rfl (.tmp 13) (.tmp 15) 24 rfl i3 _ 32 Try.underlying24 I3.out.1 I3.out.2.1 I3.out.2.2.1 I3.out.2.2.2 rfl (by omega) shV_len shV_one rfl (Own.empty w4 w4.heap.size 72 shV 4 (Nat.le_refl _)) rfl rfl (R3.out.below (hb4.alloc (Nat.le_of_lt hlt1) _)) (by simp; omega) (by omega) (by simp) ?_; intro v3 w5a ho hg hat; clear tok _t; obtain ⟨hbA, G1a, G2a, hc, hf⟩ := twinStep (j := 3) hg hlt2 (by omega) G1.out G2.out rfl; rw [List.nil_append] at ho; obtain ⟨B3, d3, rfl⟩ := ho.form; have HO3a := Lib.hid ho; have HG1 := Lib.hid G1a; have HG2 := Lib.hid G2a; clear ho G1a G2a hat hg)
  obtain ⟨w5, hw⟩ : ∃ w5, w5a.setCell ⟨B, 3, none⟩ (Value.slice B3 s.threads.length d3) = w5 := ⟨_, rfl⟩
  rw [hw]
  have g1 : w5.heap[B]? = some (.cells #[Value.int IntKind.i64 s.n, Value.slice B1 s.shots.length d1, Value.slice B2 s.marks.length d2, Value.slice B3 s.threads.length d3] 26 (0, 0)) := by rw [← hw, heap_setCell_same w5a B 3 _ _ _ HG1.out]; rfl
  have g2 : w5.heap[B + 1]? = some (.cells #[Value.int IntKind.i64 0, Value.slice none 0 0, Value.slice none 0 0, Value.slice none 0 0] 26 (0, 0)) := by rw [← hw, Below.heap_setCell _ _ _ _ (by show B + 1 ≠ B; omega)]; exact HG2.out
  have hb5 : Below B w w5 := by rw [← hw]; exact (hb4.trans (hbA.mono (by omega))).setCell (Nat.le_refl _) _
  have hbs : w4.heap.size ≤ w5.heap.size := by rw [← hw]; simpa using hbA.size
  have Z3 := Lib.hid hbs
  have HO3 : Hid (Own w5 w4.heap.size 72 (Value.slice B3 s.threads.length d3) shV 4 s.threads) := Lib.hid (by rw [← hw]; exact HO3a.out.set_ (by show B < _; omega) _)
  have HO1 : Hid (Own w5 w2.heap.size 78 (Value.slice B1 s.shots.length d1) shV 4 s.shots) := Lib.hid (by rw [← hw]; exact (HO1.out.below hbA).set_ (by show B < _; omega) _)
  have HO2 : Hid (Own w5 w3.heap.size 75 (Value.slice B2 s.marks.length d2) mkV 3 s.marks) := Lib.hid (by rw [← hw]; exact (HO2.out.below hbA).set_ (by show B < _; omega) _)
  have hlt2 : B + 1 < w5.heap.size := by omega
  have hlt1 : B < w5.heap.size := by omega
  clear k0 k1 k2 k3 hw hc hf hbA HG1 HG2 HO3a hbs
  have k0 : w5.cell? ⟨B, 0, none⟩ = some (.int .i64 s.n) := cell_of_row w5 B 0 _ _ _ g1
  have k1 : w5.cell? ⟨B, 1, none⟩ = some (Value.slice B1 s.shots.length d1) := cell_of_row w5 B 1 _ _ _ g1
  have k2 : w5.cell? ⟨B, 2, none⟩ = some (Value.slice B2 s.marks.length d2) := cell_of_row w5 B 2 _ _ _ g1
  have k3 : w5.cell? ⟨B, 3, none⟩ = some (Value.slice B3 s.threads.length d3) := cell_of_row w5 B 3 _ _ _ g1
  have n0 : w5.cell? ⟨B + 1, 0, none⟩ = some (.int .i64 0) := cell_of_row w5 _ 0 _ _ _ g2
  have n1 : w5.cell? ⟨B + 1, 1, none⟩ = some (.slice none 0 0) := cell_of_row w5 _ 1 _ _ _ g2
  have n2 : w5.cell? ⟨B + 1, 2, none⟩ = some (.slice none 0 0) := cell_of_row w5 _ 2 _ _ _ g2
  have n3 : w5.cell? ⟨B + 1, 3, none⟩ = some (.slice none 0 0) := cell_of_row w5 _ 3 _ _ _ g2
  have f0 := frozen_of_row w5 (B + 1) 0 _ _ g2
  have f1 := frozen_of_row w5 (B + 1) 1 _ _ g2
  have f2 := frozen_of_row w5 (B + 1) 2 _ _ g2
  have f3 := frozen_of_row w5 (B + 1) 3 _ _ g2
  have G2 := Lib.hid g2
  clear g1 g2
  go_wp2
  refine bodyPost_ret (results_cell_row Try.results15 _ _ (B + 1) 26 #[Value.int IntKind.i64 s.n, Value.slice B1 s.shots.length d1, Value.slice B2 s.marks.length d2, Value.slice B3 s.threads.length d3] (0, 0) _ rfl (heap_set4 G2.out) Try.underlying26 rfl infoSurvey) rfl ?_
  obtain ⟨w6, hw6⟩ : ∃ w6, (((w5.setCell ⟨B + 1, 0, none⟩ (.int .i64 s.n)).setCell ⟨B + 1, 1, none⟩ (Value.slice B1 s.shots.length d1)).setCell ⟨B + 1, 2, none⟩ (Value.slice B2 s.marks.length d2)).setCell ⟨B + 1, 3, none⟩ (Value.slice B3 s.threads.length d3) = w6 := ⟨_, rfl⟩
  rw [hw6]
  have o1 := (((HO1.out.set_ (p := ⟨B + 1, 0, none⟩) (by show B + 1 < _; omega) (.int .i64 s.n)).set_ (p := ⟨B + 1, 1, none⟩) (by show B + 1 < _; omega) (Value.slice B1 s.shots.length d1)).set_ (p := ⟨B + 1, 2, none⟩) (by show B + 1 < _; omega) (Value.slice B2 s.marks.length d2)).set_ (p := ⟨B + 1, 3, none⟩) (by show B + 1 < _; omega) (Value.slice B3 s.threads.length d3)
  have o2 := (((HO2.out.set_ (p := ⟨B + 1, 0, none⟩) (by show B + 1 < _; omega) (.int .i64 s.n)).set_ (p := ⟨B + 1, 1, none⟩) (by show B + 1 < _; omega) (Value.slice B1 s.shots.length d1)).set_ (p := ⟨B + 1, 2, none⟩) (by show B + 1 < _; omega) (Value.slice B2 s.marks.length d2)).set_ (p := ⟨B + 1, 3, none⟩) (by show B + 1 < _; omega) (Value.slice B3 s.threads.length d3)
  have o3 := (((HO3.out.set_ (p := ⟨B + 1, 0, none⟩) (by show B + 1 < _; omega) (.int .i64 s.n)).set_ (p := ⟨B + 1, 1, none⟩) (by show B + 1 < _; omega) (Value.slice B1 s.shots.length d1)).set_ (p := ⟨B + 1, 2, none⟩) (by show B + 1 < _; omega) (Value.slice B2 s.marks.length d2)).set_ (p := ⟨B + 1, 3, none⟩) (by show B + 1 < _; omega) (Value.slice B3 s.threads.length d3)
  rw [hw6] at o1 o2 o3
  refine ⟨⟨B1, B2, B3, d1, d2, d3, _, _, _, rfl, o1, o2, o3, by rw [HB.out]; have := HZ2.out; omega, Z1.out, Z2.out, (by rw [← hw6]; simpa using Z3.out), U1b.out, U2b.out⟩, ?_⟩
  rw [← hw6, HB.out]
  exact (((hb5.setCell (p := ⟨B + 1, 0, none⟩) (Nat.le_succ B) _).setCell (p := ⟨B + 1, 1, none⟩) (Nat.le_succ B) _).setCell (p := ⟨B + 1, 2, none⟩) (Nat.le_succ B) _).setCell (p := ⟨B + 1, 3, none⟩) (Nat.le_succ B) _

end Go.Proofs.Ytaoonfmcimkmhaa

/- LevelReached's two closures: whether heights fit with one mark, or one shot, more. Condition: the survey's slices read below the heap's end, and are not long. -/
set_option linter.unusedVariables false
set_option linter.unusedSimpArgs false
namespace Go.Proofs.Ytaoonfmcimkmhaa
open Go.RowKit

theorem own_rd_set {α : Type} {w : World} {base : Nat} {e : TypeId} {enc : α → List Value} {sz : Nat} {l : List α} {A : Option Addr} {c : Nat} (h : Own w base e (.slice A l.length c) enc sz l) (he : ∀ x, (enc x).length = sz) (p : Addr)
    (hp : ∀ k, (Value.slice A l.length c).ownBlock = some k → k ≠ p.block) (u : Value) : Rd (w.setCell p u) (w.setCell p u).heap.size A enc sz l := by
  have h1 : Own (w.setCell p u) base e (.slice A l.length c) enc sz l := by
    refine h.keep (row := some p.block) ⟨rfl, rfl, rfl, by simp [World.setCell], fun k hk hne => Below.heap_setCell w p u k (fun e => hne (by rw [e]))⟩ ?_
    cases hv : (Value.slice A l.length c).ownBlock with
    | none => exact .inl rfl
    | some k =>
      refine .inr fun e => ?_
      injection e with e
      exact hp k hv e
  exact h1.rd he
def addMk (s : Sv) (m : Mk) : Sv := { s with marks := s.marks ++ [m] }
def addSh (s : Sv) (x : Sh) : Sv := { s with shots := s.shots ++ [x] }
theorem apart_lt {v u : Value} {b : Nat} (h : ∀ k, v.ownBlock = some k → k < b) (h2 : ∀ k, u.ownBlock = some k → b ≤ k) : v.ownBlock = none ∨ v.ownBlock ≠ u.ownBlock := by
  cases hv : v.ownBlock with
  | none => exact .inl rfl
  | some k =>
    refine .inr fun e => ?_
    have h3 := h k hv
    have h4 := h2 k e.symm
    omega
theorem apart_gt {v u : Value} {b : Nat} (h : ∀ k, u.ownBlock = some k → k < b) (h2 : ∀ k, v.ownBlock = some k → b ≤ k) : v.ownBlock = none ∨ v.ownBlock ≠ u.ownBlock := by
  cases hv : v.ownBlock with
  | none => exact .inl rfl
  | some k =>
    refine .inr fun e => ?_
    have h3 := h k e.symm
    have h4 := h2 k hv
    omega
theorem own_apart {v u : Value} {n b : Nat} (h : v.ownBlock = u.ownBlock ∨ v.ownBlock = some n) (hu : Apart u b) (hn : b < n) (k : Nat) (hk : v.ownBlock = some k) : k ≠ b := by
  rcases h with e | e
  · have := hu k (e.symm.trans hk)
    omega
  · have e2 := e.symm.trans hk
    injection e2 with e2
    omega
theorem heights_mk (s : Sv) (m : Mk) (c1 c2 c3 : Nat) (A1 A2 A3 : Option Addr) (w : World)
    (r1 : Rd w w.heap.size A1 shV 4 s.shots) (r2 : Rd w w.heap.size A2 mkV 3 (s.marks ++ [m])) (r3 : Rd w w.heap.size A3 shV 4 s.threads) {L : List (Int × Int)} {E : Int} (h : lvHeights (addMk s m) = (L, E)) :
    Calls Try.prog 16 #[.agg #[.int .i64 s.n, .slice A1 s.shots.length c1, .slice A2 (s.marks.length + 1) c2, .slice A3 s.threads.length c3]] w fun e w' =>
      (∃ A c, e = .returned (.tuple #[.slice A L.length c, .int .i64 E]) ∧ Rd w' w'.heap.size A spV 2 L) ∧ Below w.heap.size w w' := by
  have h1 := heights_as (addMk s m) c1 c2 c3 A1 A2 A3 w r1 r2 r3 h
  rw [show (addMk s m).marks.length = s.marks.length + 1 by simp [addMk]] at h1
  exact h1
theorem heights_sh (s : Sv) (m : Sh) (c1 c2 c3 : Nat) (A1 A2 A3 : Option Addr) (w : World)
    (r1 : Rd w w.heap.size A1 shV 4 (s.shots ++ [m])) (r2 : Rd w w.heap.size A2 mkV 3 s.marks) (r3 : Rd w w.heap.size A3 shV 4 s.threads) {L : List (Int × Int)} {E : Int} (h : lvHeights (addSh s m) = (L, E)) :
    Calls Try.prog 16 #[.agg #[.int .i64 s.n, .slice A1 (s.shots.length + 1) c1, .slice A2 s.marks.length c2, .slice A3 s.threads.length c3]] w fun e w' =>
      (∃ A c, e = .returned (.tuple #[.slice A L.length c, .int .i64 E]) ∧ Rd w' w'.heap.size A spV 2 L) ∧ Below w.heap.size w w' := by
  have h1 := heights_as (addSh s m) c1 c2 c3 A1 A2 A3 w r1 r2 r3 h
  rw [show (addSh s m).shots.length = s.shots.length + 1 by simp [addSh]] at h1
  exact h1

set_option maxRecDepth 100000 in
set_option maxHeartbeats 4000000 in
theorem marked_any (s : Sv) (h a : Int) (gs ga c1 c2 c3 : Nat) (A1 A2 A3 : Option Addr) (w : World)
    (HS : w.heap[gs]? = some (.cells #[.int .i64 s.n, .slice A1 s.shots.length c1, .slice A2 s.marks.length c2, .slice A3 s.threads.length c3] 26 (0, 0))) (Ha : w.heap[ga]? = some (.cells #[.int .i64 a] 3 (0, 0)))
    (r1 : Rd w w.heap.size A1 shV 4 s.shots) (r2 : Rd w w.heap.size A2 mkV 3 s.marks) (r3 : Rd w w.heap.size A3 shV 4 s.threads) (l1 : s.shots.length ≤ 100) (l2 : s.marks.length ≤ 100) (l3 : s.threads.length ≤ 100) :
    Calls Try.prog 40 #[.int .i64 h, .pointer (some ⟨gs, 0, none⟩), .pointer (some ⟨ga, 0, none⟩)] w fun e w' => e = .returned (.bool ((lvHeights (addMk s ⟨a, h, h⟩)).2 == 0)) ∧ Below w.heap.size w w' := by
  have R1 := Lib.hid r1
  have R2 := Lib.hid r2
  have R3 := Lib.hid r3
  obtain ⟨L, E, hLE⟩ : ∃ L E, lvHeights (addMk s ⟨a, h, h⟩) = (L, E) := ⟨_, _, rfl⟩
  rw [hLE]
  have HLE := Lib.hid hLE
  clear hLE
  dsimp only
  have s0 : w.cell? ⟨gs, 0, none⟩ = some (.int .i64 s.n) := cell_of_row w gs 0 _ _ _ HS
  have s1 : w.cell? ⟨gs, 1, none⟩ = some (.slice A1 s.shots.length c1) := cell_of_row w gs 1 _ _ _ HS
  have s2 : w.cell? ⟨gs, 2, none⟩ = some (.slice A2 s.marks.length c2) := cell_of_row w gs 2 _ _ _ HS
  have s3 : w.cell? ⟨gs, 3, none⟩ = some (.slice A3 s.threads.length c3) := cell_of_row w gs 3 _ _ _ HS
  have Ka := Lib.hid Ha
  obtain ⟨i2, hi2, hz21, hz22, hz23⟩ := info_parts infoMark
  have I2 := Lib.hid (And.intro hi2 (And.intro hz21 (And.intro hz22 hz23)))
  clear r1 r2 r3 HS Ha hi2 hz21 hz22 hz23
  go_enter Try.func40, Try.ntmps40
  go_upto_region 2 with (go_at_call 15; refine (twin_own s c1 c2 c3 A1 A2 A3 w R1.out R2.out R3.out (by omega) (by omega) (by omega)).mono ?_; rintro e w1 ⟨⟨B1, B2, B3, d1, d2, d3, b1, b2, b3, rfl, o1, o2, o3, q0, q1, q2, q3, a1, a2⟩, hb1⟩)
  obtain ⟨w2, hw2⟩ : ∃ w2, w1.alloc (.cells #[.int .i64 s.n, .slice B1 s.shots.length d1, .slice B2 s.marks.length d2, .slice B3 s.threads.length d3] 26) = w2 := ⟨_, rfl⟩
  obtain ⟨bt, hbt⟩ : ∃ b, w1.heap.size = b := ⟨_, rfl⟩
  rw [hw2, hbt]
  have hzb := hb1.size
  have T : w2.heap[bt]? = some (.cells #[.int .i64 s.n, .slice B1 s.shots.length d1, .slice B2 s.marks.length d2, .slice B3 s.threads.length d3] 26 (0, 0)) := by rw [← hw2, ← hbt]; exact heap_alloc_new _ _
  have hb12 : Below w1.heap.size w1 w2 := by rw [← hw2]; exact (Below.refl _ _).alloc (Nat.le_refl _) _
  have hz2 : bt < w2.heap.size := by rw [← hw2, ← hbt]; simp
  have O1 := Lib.hid (o1.below hb12)
  have O2 := Lib.hid (o2.below hb12)
  have O3 := Lib.hid (o3.below hb12)
  have L1 := Lib.hid (show Apart (.slice B1 s.shots.length d1) bt from fun k hk => by rw [← hbt]; exact (o1.lt k hk).2)
  have L2 := Lib.hid (show Apart (.slice B2 s.marks.length d2) bt from fun k hk => by rw [← hbt]; exact (o2.lt k hk).2)
  have L3 := Lib.hid (show Apart (.slice B3 s.threads.length d3) bt from fun k hk => by rw [← hbt]; exact (o3.lt k hk).2)
  have E12 := Lib.hid a1
  have E23 := Lib.hid a2
  replace Ka := Lib.hid (row_keep (row_keep Ka.out hb1) hb12)
  have hb2 : Below w.heap.size w w2 := hb1.trans (hb12.mono hb1.size)
  have HT := Lib.hid T
  have ma : w2.cell? ⟨ga, 0, none⟩ = some (.int .i64 a) := cell_of_row w2 ga 0 _ _ _ Ka.out
  have lta := (Array.getElem?_eq_some_iff.1 Ka.out).1
  have mt : w2.cell? ⟨bt, 2, none⟩ = some (.slice B2 s.marks.length d2) := cell_of_row w2 bt 2 _ _ _ T
  rw [hbt] at q3 hzb
  clear T o1 o2 o3 a1 a2 hb12 hw2 hbt s0 s1 s2 s3 hb1
  refine (wpIn_wide (n := 3)).1 ?_
  refine wpIn_region_planYA (X := Nat) (by kernel_rfl) 8 (by decide +kernel) (by decide +kernel) (by omega)
    (fun x i => if i = 7 then .slice (some ⟨x, 0, none⟩) 1 1 else (#[(.pointer (some ⟨bt, 2, none⟩)), (.slice B2 s.marks.length d2), (.int .i64 a), (.int .i64 h), (.int .i64 h), (.agg #[.int .i64 h, .int .i64 h]), (.agg #[.int .i64 a, .int .i64 h, .int .i64 h]), undef] : Array Value).getD i undef)
    (fun L x W => Below w2.heap.size w2 W ∧ (L 7 = true → W.heap[x]? = some (.cells #[.int .i64 a, .int .i64 h, .int .i64 h] 75 (0, 0)))) _ _ 0 ?aF ?hA ?hS ?hstep ?htail
  case hA => intro x; simp [putTo, putIf, dstAt, Act.put, List.range_succ]; rfl
  case hS => exact fun L hL => ⟨(Below.refl _ _).drew, fun h => (by rw [hL] at h; cases h)⟩
  case hstep =>
    intro i o' hi ho L x W hL hcl hdep hW
    obtain ⟨hW, hW11⟩ := hW
    have HW11 := Lib.hid hW11
    clear hW11 hcl hdep
    have hzW := hW.size
    refine ⟨fun _ _ => trivial, ?_⟩
    have pt := (hW.cell (p := ⟨bt, 2, none⟩) (by dsimp only; omega)).trans mt
    have pa := (hW.cell (p := ⟨ga, 0, none⟩) (by dsimp only; omega)).trans ma
    match i, hi, ho with
    | 0, _, ho => simp only [List.getElem?_toArray, List.getElem?_cons_succ, List.getElem?_cons_zero, Option.some.injEq] at ho; subst ho; go_simp; exact ⟨x, fun _ _ => rfl, rfl, hW, fun h => HW11.out (by simpa using h)⟩
    | 1, _, ho => simp only [List.getElem?_toArray, List.getElem?_cons_succ, List.getElem?_cons_zero, Option.some.injEq] at ho; subst ho; go_simp; exact ⟨x, fun _ _ => rfl, rfl, hW, fun h => HW11.out (by simpa using h)⟩
    | 2, _, ho => simp only [List.getElem?_toArray, List.getElem?_cons_succ, List.getElem?_cons_zero, Option.some.injEq] at ho; subst ho; go_simp; exact ⟨x, fun _ _ => rfl, rfl, hW, fun h => HW11.out (by simpa using h)⟩
    | 3, _, ho => simp only [List.getElem?_toArray, List.getElem?_cons_succ, List.getElem?_cons_zero, Option.some.injEq] at ho; subst ho; go_simp; exact ⟨x, fun _ _ => rfl, rfl, hW, fun h => HW11.out (by simpa using h)⟩
    | 4, _, ho => simp only [List.getElem?_toArray, List.getElem?_cons_succ, List.getElem?_cons_zero, Option.some.injEq] at ho; subst ho; go_simp; exact ⟨x, fun _ _ => rfl, rfl, hW, fun h => HW11.out (by simpa using h)⟩
    | 5, _, ho => simp only [List.getElem?_toArray, List.getElem?_cons_succ, List.getElem?_cons_zero, Option.some.injEq] at ho; subst ho; go_simp; refine ⟨by simp, callsIn_wide.2 ((span_any _ _ W).mono ?_)⟩; rintro e w' ⟨rfl, hb⟩; exact ⟨_, rfl, x, fun _ _ => rfl, rfl, hW.trans (hb.mono hzW), fun h => row_keep (HW11.out (by simpa using h)) hb⟩
    | 6, _, ho => simp only [List.getElem?_toArray, List.getElem?_cons_succ, List.getElem?_cons_zero, Option.some.injEq] at ho; subst ho; go_simp; exact ⟨x, fun _ _ => rfl, rfl, hW, fun h => HW11.out (by simpa using h)⟩
    | 7, _, ho => simp only [List.getElem?_toArray, List.getElem?_cons_succ, List.getElem?_cons_zero, Option.some.injEq] at ho; subst ho; go_simp; refine ⟨W.heap.size, fun j hj => ?_, rfl, hW.alloc hzW _, fun _ => heap_alloc_new _ _⟩; by_cases e : j = 7; (rw [e, hL] at hj; cases hj); (dsimp only; rw [if_neg e, if_neg e])
    | k + 8, hk, _ => omega
  case htail =>
    intro L x W hL hW
    obtain ⟨hbW, hW⟩ := hW
    have hx := hW (hL 7 (by omega))
    have hzW := hbW.size
    have rx := rd_row (enc := mkV) (sz := 3) (fun _ => rfl) hx [(⟨a, h, h⟩ : Mk)] rfl
    have RX := Lib.hid rx
    replace HT := Lib.hid (row_keep HT.out hbW)
    replace O1 := Lib.hid (O1.out.below hbW)
    replace O2 := Lib.hid (O2.out.below hbW)
    replace O3 := Lib.hid (O3.out.below hbW)
    have hbw := hb2.trans (hbW.mono hb2.size)
    clear hW hL hx rx ma mt hb2
    have hgt : ∀ (w5 : World), W.grownBy w5 (Value.slice B2 s.marks.length d2).ownBlock → w5.heap[bt]? = some (.cells #[.int .i64 s.n, .slice B1 s.shots.length d1, .slice B2 s.marks.length d2, .slice B3 s.threads.length d3] 26 (0, 0)) := fun w5 hg => (hg.block bt (by omega) (fun e => by have := L2.out bt e.symm; omega)).trans HT.out
    have HGT := Lib.hid hgt
    clear hgt
    simp only [List.drop_succ_cons, List.drop_zero]
    refine wpListIn_append_rd rfl (.tmp 11) (.tmp 17) 23 rfl i2 _ 24 Try.underlying23 I2.out.1 I2.out.2.1 I2.out.2.2.1 I2.out.2.2.2 rfl (by omega) mkV_len mkV_one rfl (O2.out) rfl (m := 1) (news := [(⟨a, h, h⟩ : Mk)]) rfl RX.out (by omega) (by omega) (by omega) ?_
    intro v' w5 ho5 hg5 hat5
    obtain ⟨AV, cV, hV⟩ := ho5.form
    have T5 := HGT.out w5 hg5
    have t0 := frozen_of_row w5 bt 2 _ _ T5
    have t1 : w5.cell? ⟨bt, 2, none⟩ = some (.slice B2 s.marks.length d2) := cell_of_row w5 bt 2 _ _ _ T5
    subst hV
    have HO5 := Lib.hid ho5
    have HG5 := Lib.hid hg5
    have HAT := Lib.hid hat5
    have HT5 := Lib.hid T5
    clear ho5 hg5 hat5 T5
    go_simp
    gi_wp2_with fail
    have hg6 : W.grownBy w5 (Value.slice B2 s.marks.length d2).ownBlock := HG5.out
    have hat6 : (Value.slice AV (s.marks ++ [(⟨a, h, h⟩ : Mk)]).length cV).ownBlock = (Value.slice B2 s.marks.length d2).ownBlock ∨ (Value.slice AV (s.marks ++ [(⟨a, h, h⟩ : Mk)]).length cV).ownBlock = some W.heap.size := HAT.out
    have hz5 : bt < W.heap.size := by omega
    have hv6 : ∀ k, (Value.slice B2 s.marks.length d2).ownBlock = some k → b2 ≤ k := fun k hk => (O2.out.lt k hk).1
    have P1 := O1.out.keep hg6 (apart_lt E12.out (fun k hk => (O2.out.lt k hk).1))
    have P3 := O3.out.keep hg6 (apart_gt E23.out (fun k hk => (O3.out.lt k hk).1))
    have hbw5 : Below w.heap.size w w5 := hbw.trans (below_grown hg6 (by omega) (fun k hk => by have := hv6 k hk; omega))
    obtain ⟨w6, hw6⟩ : ∃ w6, w5.setCell ⟨bt, 2, none⟩ (.slice AV (s.marks.length + 1) cV) = w6 := ⟨_, rfl⟩
    have T6 : w6.heap[bt]? = some (.cells #[.int .i64 s.n, .slice B1 s.shots.length d1, .slice AV (s.marks.length + 1) cV, .slice B3 s.threads.length d3] 26 (0, 0)) := by rw [← hw6, heap_setCell_same w5 bt 2 _ _ _ HT5.out]; rfl
    have q1 : Rd w6 w6.heap.size B1 shV 4 s.shots := by rw [← hw6]; exact own_rd_set P1 shV_len _ (fun k hk => by have := L1.out k hk; dsimp only; omega) _
    have q2 : Rd w6 w6.heap.size AV mkV 3 (s.marks ++ [⟨a, h, h⟩]) := by rw [← hw6]; exact own_rd_set HO5.out mkV_len _ (fun k hk => own_apart hat6 L2.out hz5 k hk) _
    have q3 : Rd w6 w6.heap.size B3 shV 4 s.threads := by rw [← hw6]; exact own_rd_set P3 shV_len _ (fun k hk => by have := L3.out k hk; dsimp only; omega) _
    have hb6 : Below w.heap.size w w6 := by rw [← hw6]; exact hbw5.setCell (by dsimp only; omega) _
    rw [hw6]
    have Q1 := Lib.hid q1
    have Q2 := Lib.hid q2
    have Q3 := Lib.hid q3
    have k0 : w6.cell? ⟨bt, 0, none⟩ = some (.int .i64 s.n) := cell_of_row w6 bt 0 _ _ _ T6
    have k1 := cell_of_row w6 bt 1 _ _ _ T6
    have k2 := cell_of_row w6 bt 2 _ _ _ T6
    have k3 := cell_of_row w6 bt 3 _ _ _ T6
    simp only [List.getElem?_toArray, List.getElem?_cons_zero, List.getElem?_cons_succ] at k1 k2 k3
    clear hw6 T6 q1 q2 q3 hg6 hat6 hv6 P1 P3 hbw hbw5 t0 t1 HT5 HG5 HAT HO5 HGT
    go_wp2_with (go_at_call 16; refine (heights_mk s ⟨a, h, h⟩ d1 cV d3 B1 AV B3 w6 Q1.out Q2.out Q3.out HLE.out).mono ?_; rintro e w7 ⟨⟨AH, cH, rfl, qh⟩, hK⟩)
    go_ret
    exact ⟨rfl, hb6.trans (hK.mono hb6.size)⟩

set_option maxRecDepth 100000 in
set_option maxHeartbeats 4000000 in
theorem shot_any (s : Sv) (h b a : Int) (gs gb ga c1 c2 c3 : Nat) (A1 A2 A3 : Option Addr) (w : World)
    (HS : w.heap[gs]? = some (.cells #[.int .i64 s.n, .slice A1 s.shots.length c1, .slice A2 s.marks.length c2, .slice A3 s.threads.length c3] 26 (0, 0))) (Hb : w.heap[gb]? = some (.cells #[.int .i64 b] 3 (0, 0))) (Ha : w.heap[ga]? = some (.cells #[.int .i64 a] 3 (0, 0)))
    (r1 : Rd w w.heap.size A1 shV 4 s.shots) (r2 : Rd w w.heap.size A2 mkV 3 s.marks) (r3 : Rd w w.heap.size A3 shV 4 s.threads) (l1 : s.shots.length ≤ 100) (l2 : s.marks.length ≤ 100) (l3 : s.threads.length ≤ 100) :
    Calls Try.prog 41 #[.int .i64 h, .pointer (some ⟨gs, 0, none⟩), .pointer (some ⟨gb, 0, none⟩), .pointer (some ⟨ga, 0, none⟩)] w fun e w' => e = .returned (.bool ((lvHeights (addSh s ⟨b, a, h, h⟩)).2 == 0)) ∧ Below w.heap.size w w' := by
  have R1 := Lib.hid r1
  have R2 := Lib.hid r2
  have R3 := Lib.hid r3
  obtain ⟨L, E, hLE⟩ : ∃ L E, lvHeights (addSh s ⟨b, a, h, h⟩) = (L, E) := ⟨_, _, rfl⟩
  rw [hLE]
  have HLE := Lib.hid hLE
  clear hLE
  dsimp only
  have s0 : w.cell? ⟨gs, 0, none⟩ = some (.int .i64 s.n) := cell_of_row w gs 0 _ _ _ HS
  have s1 : w.cell? ⟨gs, 1, none⟩ = some (.slice A1 s.shots.length c1) := cell_of_row w gs 1 _ _ _ HS
  have s2 : w.cell? ⟨gs, 2, none⟩ = some (.slice A2 s.marks.length c2) := cell_of_row w gs 2 _ _ _ HS
  have s3 : w.cell? ⟨gs, 3, none⟩ = some (.slice A3 s.threads.length c3) := cell_of_row w gs 3 _ _ _ HS
  have Kb := Lib.hid Hb
  have Ka := Lib.hid Ha
  obtain ⟨i2, hi2, hz21, hz22, hz23⟩ := info_parts infoShot
  have I2 := Lib.hid (And.intro hi2 (And.intro hz21 (And.intro hz22 hz23)))
  clear r1 r2 r3 HS Hb Ha hi2 hz21 hz22 hz23
  go_enter Try.func41, Try.ntmps41
  go_upto_region 2 with (go_at_call 15; refine (twin_own s c1 c2 c3 A1 A2 A3 w R1.out R2.out R3.out (by omega) (by omega) (by omega)).mono ?_; rintro e w1 ⟨⟨B1, B2, B3, d1, d2, d3, b1, b2, b3, rfl, o1, o2, o3, q0, q1, q2, q3, a1, a2⟩, hb1⟩)
  obtain ⟨w2, hw2⟩ : ∃ w2, w1.alloc (.cells #[.int .i64 s.n, .slice B1 s.shots.length d1, .slice B2 s.marks.length d2, .slice B3 s.threads.length d3] 26) = w2 := ⟨_, rfl⟩
  obtain ⟨bt, hbt⟩ : ∃ b, w1.heap.size = b := ⟨_, rfl⟩
  rw [hw2, hbt]
  have hzb := hb1.size
  have T : w2.heap[bt]? = some (.cells #[.int .i64 s.n, .slice B1 s.shots.length d1, .slice B2 s.marks.length d2, .slice B3 s.threads.length d3] 26 (0, 0)) := by rw [← hw2, ← hbt]; exact heap_alloc_new _ _
  have hb12 : Below w1.heap.size w1 w2 := by rw [← hw2]; exact (Below.refl _ _).alloc (Nat.le_refl _) _
  have hz2 : bt < w2.heap.size := by rw [← hw2, ← hbt]; simp
  have O1 := Lib.hid (o1.below hb12)
  have O2 := Lib.hid (o2.below hb12)
  have O3 := Lib.hid (o3.below hb12)
  have L1 := Lib.hid (show Apart (.slice B1 s.shots.length d1) bt from fun k hk => by rw [← hbt]; exact (o1.lt k hk).2)
  have L2 := Lib.hid (show Apart (.slice B2 s.marks.length d2) bt from fun k hk => by rw [← hbt]; exact (o2.lt k hk).2)
  have L3 := Lib.hid (show Apart (.slice B3 s.threads.length d3) bt from fun k hk => by rw [← hbt]; exact (o3.lt k hk).2)
  have E12 := Lib.hid a1
  have E23 := Lib.hid a2
  replace Kb := Lib.hid (row_keep (row_keep Kb.out hb1) hb12)
  replace Ka := Lib.hid (row_keep (row_keep Ka.out hb1) hb12)
  have hb2 : Below w.heap.size w w2 := hb1.trans (hb12.mono hb1.size)
  have HT := Lib.hid T
  have mb : w2.cell? ⟨gb, 0, none⟩ = some (.int .i64 b) := cell_of_row w2 gb 0 _ _ _ Kb.out
  have ltb := (Array.getElem?_eq_some_iff.1 Kb.out).1
  have ma : w2.cell? ⟨ga, 0, none⟩ = some (.int .i64 a) := cell_of_row w2 ga 0 _ _ _ Ka.out
  have lta := (Array.getElem?_eq_some_iff.1 Ka.out).1
  have mt : w2.cell? ⟨bt, 1, none⟩ = some (.slice B1 s.shots.length d1) := cell_of_row w2 bt 1 _ _ _ T
  rw [hbt] at q3 hzb
  clear T o1 o2 o3 a1 a2 hb12 hw2 hbt s0 s1 s2 s3 hb1
  refine (wpIn_wide (n := 3)).1 ?_
  refine wpIn_region_planYA (X := Nat) (by kernel_rfl) 9 (by decide +kernel) (by decide +kernel) (by omega)
    (fun x i => if i = 8 then .slice (some ⟨x, 0, none⟩) 1 1 else (#[(.pointer (some ⟨bt, 1, none⟩)), (.slice B1 s.shots.length d1), (.int .i64 b), (.int .i64 a), (.int .i64 h), (.int .i64 h), (.agg #[.int .i64 h, .int .i64 h]), (.agg #[.int .i64 b, .int .i64 a, .int .i64 h, .int .i64 h]), undef] : Array Value).getD i undef)
    (fun L x W => Below w2.heap.size w2 W ∧ (L 8 = true → W.heap[x]? = some (.cells #[.int .i64 b, .int .i64 a, .int .i64 h, .int .i64 h] 78 (0, 0)))) _ _ 0 ?aF ?hA ?hS ?hstep ?htail
  case hA => intro x; simp [putTo, putIf, dstAt, Act.put, List.range_succ]; rfl
  case hS => exact fun L hL => ⟨(Below.refl _ _).drew, fun h => (by rw [hL] at h; cases h)⟩
  case hstep =>
    intro i o' hi ho L x W hL hcl hdep hW
    obtain ⟨hW, hW11⟩ := hW
    have HW11 := Lib.hid hW11
    clear hW11 hcl hdep
    have hzW := hW.size
    refine ⟨fun _ _ => trivial, ?_⟩
    have pt := (hW.cell (p := ⟨bt, 1, none⟩) (by dsimp only; omega)).trans mt
    have pb := (hW.cell (p := ⟨gb, 0, none⟩) (by dsimp only; omega)).trans mb
    have pa := (hW.cell (p := ⟨ga, 0, none⟩) (by dsimp only; omega)).trans ma
    match i, hi, ho with
    | 0, _, ho => simp only [List.getElem?_toArray, List.getElem?_cons_succ, List.getElem?_cons_zero, Option.some.injEq] at ho; subst ho; go_simp; exact ⟨x, fun _ _ => rfl, rfl, hW, fun h => HW11.out (by simpa using h)⟩
    | 1, _, ho => simp only [List.getElem?_toArray, List.getElem?_cons_succ, List.getElem?_cons_zero, Option.some.injEq] at ho; subst ho; go_simp; exact ⟨x, fun _ _ => rfl, rfl, hW, fun h => HW11.out (by simpa using h)⟩
    | 2, _, ho => simp only [List.getElem?_toArray, List.getElem?_cons_succ, List.getElem?_cons_zero, Option.some.injEq] at ho; subst ho; go_simp; exact ⟨x, fun _ _ => rfl, rfl, hW, fun h => HW11.out (by simpa using h)⟩
    | 3, _, ho => simp only [List.getElem?_toArray, List.getElem?_cons_succ, List.getElem?_cons_zero, Option.some.injEq] at ho; subst ho; go_simp; exact ⟨x, fun _ _ => rfl, rfl, hW, fun h => HW11.out (by simpa using h)⟩
    | 4, _, ho => simp only [List.getElem?_toArray, List.getElem?_cons_succ, List.getElem?_cons_zero, Option.some.injEq] at ho; subst ho; go_simp; exact ⟨x, fun _ _ => rfl, rfl, hW, fun h => HW11.out (by simpa using h)⟩
    | 5, _, ho => simp only [List.getElem?_toArray, List.getElem?_cons_succ, List.getElem?_cons_zero, Option.some.injEq] at ho; subst ho; go_simp; exact ⟨x, fun _ _ => rfl, rfl, hW, fun h => HW11.out (by simpa using h)⟩
    | 6, _, ho => simp only [List.getElem?_toArray, List.getElem?_cons_succ, List.getElem?_cons_zero, Option.some.injEq] at ho; subst ho; go_simp; refine ⟨by simp, callsIn_wide.2 ((span_any _ _ W).mono ?_)⟩; rintro e w' ⟨rfl, hb⟩; exact ⟨_, rfl, x, fun _ _ => rfl, rfl, hW.trans (hb.mono hzW), fun h => row_keep (HW11.out (by simpa using h)) hb⟩
    | 7, _, ho => simp only [List.getElem?_toArray, List.getElem?_cons_succ, List.getElem?_cons_zero, Option.some.injEq] at ho; subst ho; go_simp; exact ⟨x, fun _ _ => rfl, rfl, hW, fun h => HW11.out (by simpa using h)⟩
    | 8, _, ho => simp only [List.getElem?_toArray, List.getElem?_cons_succ, List.getElem?_cons_zero, Option.some.injEq] at ho; subst ho; go_simp; refine ⟨W.heap.size, fun j hj => ?_, rfl, hW.alloc hzW _, fun _ => heap_alloc_new _ _⟩; by_cases e : j = 8; (rw [e, hL] at hj; cases hj); (dsimp only; rw [if_neg e, if_neg e])
    | k + 9, hk, _ => omega
  case htail =>
    intro L x W hL hW
    obtain ⟨hbW, hW⟩ := hW
    have hx := hW (hL 8 (by omega))
    have hzW := hbW.size
    have rx := rd_row (enc := shV) (sz := 4) (fun _ => rfl) hx [(⟨b, a, h, h⟩ : Sh)] rfl
    have RX := Lib.hid rx
    replace HT := Lib.hid (row_keep HT.out hbW)
    replace O1 := Lib.hid (O1.out.below hbW)
    replace O2 := Lib.hid (O2.out.below hbW)
    replace O3 := Lib.hid (O3.out.below hbW)
    have hbw := hb2.trans (hbW.mono hb2.size)
    clear hW hL hx rx mb ma mt hb2
    have hgt : ∀ (w5 : World), W.grownBy w5 (Value.slice B1 s.shots.length d1).ownBlock → w5.heap[bt]? = some (.cells #[.int .i64 s.n, .slice B1 s.shots.length d1, .slice B2 s.marks.length d2, .slice B3 s.threads.length d3] 26 (0, 0)) := fun w5 hg => (hg.block bt (by omega) (fun e => by have := L1.out bt e.symm; omega)).trans HT.out
    have HGT := Lib.hid hgt
    clear hgt
    simp only [List.drop_succ_cons, List.drop_zero]
    refine wpListIn_append_rd rfl (.tmp 12) (.tmp 19) 22 rfl i2 _ 32 Try.underlying22 I2.out.1 I2.out.2.1 I2.out.2.2.1 I2.out.2.2.2 rfl (by omega) shV_len shV_one rfl (O1.out) rfl (m := 1) (news := [(⟨b, a, h, h⟩ : Sh)]) rfl RX.out (by omega) (by omega) (by omega) ?_
    intro v' w5 ho5 hg5 hat5
    obtain ⟨AV, cV, hV⟩ := ho5.form
    have T5 := HGT.out w5 hg5
    have t0 := frozen_of_row w5 bt 1 _ _ T5
    have t1 : w5.cell? ⟨bt, 1, none⟩ = some (.slice B1 s.shots.length d1) := cell_of_row w5 bt 1 _ _ _ T5
    subst hV
    have HO5 := Lib.hid ho5
    have HG5 := Lib.hid hg5
    have HAT := Lib.hid hat5
    have HT5 := Lib.hid T5
    clear ho5 hg5 hat5 T5
    go_simp
    gi_wp2_with fail
    have hg6 : W.grownBy w5 (Value.slice B1 s.shots.length d1).ownBlock := HG5.out
    have hat6 : (Value.slice AV (s.shots ++ [(⟨b, a, h, h⟩ : Sh)]).length cV).ownBlock = (Value.slice B1 s.shots.length d1).ownBlock ∨ (Value.slice AV (s.shots ++ [(⟨b, a, h, h⟩ : Sh)]).length cV).ownBlock = some W.heap.size := HAT.out
    have hz5 : bt < W.heap.size := by omega
    have hv6 : ∀ k, (Value.slice B1 s.shots.length d1).ownBlock = some k → b1 ≤ k := fun k hk => (O1.out.lt k hk).1
    have P2 := O2.out.keep hg6 (apart_gt E12.out (fun k hk => (O2.out.lt k hk).1))
    have P3 := O3.out.keep hg6 (apart_gt (b := b3) (fun k hk => Nat.lt_of_lt_of_le (E12.out k hk) q2) (fun k hk => (O3.out.lt k hk).1))
    have hbw5 : Below w.heap.size w w5 := hbw.trans (below_grown hg6 (by omega) (fun k hk => by have := hv6 k hk; omega))
    obtain ⟨w6, hw6⟩ : ∃ w6, w5.setCell ⟨bt, 1, none⟩ (.slice AV (s.shots.length + 1) cV) = w6 := ⟨_, rfl⟩
    have T6 : w6.heap[bt]? = some (.cells #[.int .i64 s.n, .slice AV (s.shots.length + 1) cV, .slice B2 s.marks.length d2, .slice B3 s.threads.length d3] 26 (0, 0)) := by rw [← hw6, heap_setCell_same w5 bt 1 _ _ _ HT5.out]; rfl
    have q1 : Rd w6 w6.heap.size AV shV 4 (s.shots ++ [⟨b, a, h, h⟩]) := by rw [← hw6]; exact own_rd_set HO5.out shV_len _ (fun k hk => own_apart hat6 L1.out hz5 k hk) _
    have q2 : Rd w6 w6.heap.size B2 mkV 3 s.marks := by rw [← hw6]; exact own_rd_set P2 mkV_len _ (fun k hk => by have := L2.out k hk; dsimp only; omega) _
    have q3 : Rd w6 w6.heap.size B3 shV 4 s.threads := by rw [← hw6]; exact own_rd_set P3 shV_len _ (fun k hk => by have := L3.out k hk; dsimp only; omega) _
    have hb6 : Below w.heap.size w w6 := by rw [← hw6]; exact hbw5.setCell (by dsimp only; omega) _
    rw [hw6]
    have Q1 := Lib.hid q1
    have Q2 := Lib.hid q2
    have Q3 := Lib.hid q3
    have k0 : w6.cell? ⟨bt, 0, none⟩ = some (.int .i64 s.n) := cell_of_row w6 bt 0 _ _ _ T6
    have k1 := cell_of_row w6 bt 1 _ _ _ T6
    have k2 := cell_of_row w6 bt 2 _ _ _ T6
    have k3 := cell_of_row w6 bt 3 _ _ _ T6
    simp only [List.getElem?_toArray, List.getElem?_cons_zero, List.getElem?_cons_succ] at k1 k2 k3
    clear hw6 T6 q1 q2 q3 hg6 hat6 hv6 P2 P3 hbw hbw5 t0 t1 HT5 HG5 HAT HO5 HGT
    go_wp2_with (go_at_call 16; refine (heights_sh s ⟨b, a, h, h⟩ cV d2 d3 AV B2 B3 w6 Q1.out Q2.out Q3.out HLE.out).mono ?_; rintro e w7 ⟨⟨AH, cH, rfl, qh⟩, hK⟩)
    go_ret
    exact ⟨rfl, hb6.trans (hK.mono hb6.size)⟩

end Go.Proofs.Ytaoonfmcimkmhaa

/- A survey with one mark, or one shot, more: when its heights fit; and what LevelReached's calls answer. Conditions stand at each theorem. -/
set_option linter.unusedVariables false
namespace Go.Proofs.Ytaoonfmcimkmhaa
open Go.RowKit

/-- Heights fit, said of the shots and marks themselves. -/
theorem fitSv_mem (s : Sv) (w : Int) (f : Nat → Int) : FitSv s (fun _ => false) w f ↔
    Within s.n.toNat f ∧ (∀ x ∈ s.shots, Holds w x f) ∧ (∀ m ∈ s.marks, Holds w ⟨s.n, m.p, m.lo, m.hi⟩ f) := by
  constructor
  · rintro ⟨h1, h2⟩
    refine ⟨h1, fun x hx => ?_, fun m hm => ?_⟩
    · obtain ⟨k, hk, rfl⟩ := List.getElem_of_mem hx
      have h3 := h2 k (by omega) rfl
      unfold rdAt at h3
      rw [dif_pos hk] at h3
      exact h3
    · obtain ⟨k, hk, rfl⟩ := List.getElem_of_mem hm
      have h3 := h2 (s.shots.length + k) (by omega) rfl
      unfold rdAt at h3
      have e : s.shots.length + k - s.shots.length = k := by omega
      rw [dif_neg (by omega), dif_pos (by omega)] at h3
      simp only [e] at h3
      exact h3
  · rintro ⟨h1, h2, h3⟩
    refine ⟨h1, fun k hk _ => ?_⟩
    unfold rdAt
    by_cases hs : k < s.shots.length
    · rw [dif_pos hs]
      exact h2 _ (List.getElem_mem hs)
    · rw [dif_neg hs, dif_pos (by omega)]
      exact h3 _ (List.getElem_mem (by omega))

theorem fit_addMk (s : Sv) (m : Mk) (f : Nat → Int) : FitSv (addMk s m) (fun _ => false) 0 f ↔ FitSv s (fun _ => false) 0 f ∧ Holds 0 ⟨s.n, m.p, m.lo, m.hi⟩ f := by
  rw [fitSv_mem, fitSv_mem]
  simp only [addMk, List.mem_append, List.mem_singleton]
  constructor
  · rintro ⟨h1, h2, h3⟩
    exact ⟨⟨h1, h2, fun x hx => h3 x (.inl hx)⟩, h3 m (.inr rfl)⟩
  · rintro ⟨⟨h1, h2, h3⟩, h4⟩
    refine ⟨h1, h2, fun x hx => ?_⟩
    rcases hx with hx | rfl
    · exact h3 x hx
    · exact h4
theorem fit_addSh (s : Sv) (m : Sh) (f : Nat → Int) : FitSv (addSh s m) (fun _ => false) 0 f ↔ FitSv s (fun _ => false) 0 f ∧ Holds 0 m f := by
  rw [fitSv_mem, fitSv_mem]
  simp only [addSh, List.mem_append, List.mem_singleton]
  constructor
  · rintro ⟨h1, h2, h3⟩
    exact ⟨⟨h1, fun x hx => h2 x (.inl hx), h3⟩, h2 m (.inr rfl)⟩
  · rintro ⟨⟨h1, h2, h3⟩, h4⟩
    refine ⟨h1, fun x hx => ?_, h3⟩
    rcases hx with hx | rfl
    · exact h2 x hx
    · exact h4
theorem svD_iff {s : Sv} (hok : svOk s = true) : (svD s).2 = true ↔ ∃ h, FitSv s (fun _ => false) 0 h := wkD_iff hok (by omega) (by omega)
theorem svD_row {s : Sv} (hok : svOk s = true) (hf : (svD s).2 = true) {a : Nat} (ha : a < s.n.toNat + 1) : FitSv s (fun _ => false) 0 (fun x => (svD s).1 a x) := (wkD_spec hok (by omega) (by omega) hf).2.2 a ha
theorem svD_of {s : Sv} (hok : svOk s = true) {h : Nat → Int} (hf : FitSv s (fun _ => false) 0 h) {i k : Nat} (hi : i < s.n.toNat + 1) (hk : k < s.n.toNat + 1) : h k - h i ≤ (svD s).1 i k := (wkD_of_fit hok (by omega) (by omega) hf).2 i k hi hk

theorem hts_ok {s : Sv} : ((lvHeights s).2 == 0) = (svOk s && (svD s).2) := by
  unfold lvHeights
  cases svOk s
  · rfl
  · cases (svD s).2
    · rfl
    · rfl

theorem svOk_iff (s : Sv) : svOk s = true ↔ (1 ≤ s.n ∧ s.n ≤ 20 ∧ s.shots.length ≤ 60 ∧ s.marks.length ≤ 20 ∧ s.threads.length ≤ 30) ∧
    (∀ x ∈ s.shots, shOk s.n (-20000000) 20000000 x = true) ∧ (∀ x ∈ s.marks, mkOk s.n x = true) ∧ (∀ x ∈ s.threads, shOk s.n 1 100000000 x = true) := by
  refine ⟨svOk_spec, ?_⟩
  rintro ⟨⟨h1, h2, h3, h4, h5⟩, h6, h7, h8⟩
  unfold svOk
  rw [decide_eq_true h1, decide_eq_true h2, decide_eq_true h3, decide_eq_true h4, decide_eq_true h5, List.all_eq_true.2 h6, List.all_eq_true.2 h7, List.all_eq_true.2 h8]
  rfl
theorem svOk_mk {s : Sv} (hok : svOk s = true) (hm : s.marks.length < 20) {m : Mk} : svOk (addMk s m) = mkOk s.n m := by
  obtain ⟨⟨h1, h2, h3, h4, h5⟩, h6, h7, h8⟩ := svOk_spec hok
  rw [Bool.eq_iff_iff, svOk_iff]
  constructor
  · rintro ⟨_, _, h, _⟩
    exact h m (by simp [addMk])
  · intro h
    refine ⟨⟨h1, h2, h3, by simp [addMk]; omega, h5⟩, h6, fun x hx => ?_, h8⟩
    rcases List.mem_append.1 hx with hx | hx
    · exact h7 x hx
    · rw [List.mem_singleton.1 hx]
      exact h
theorem svOk_sh {s : Sv} (hok : svOk s = true) (hm : s.shots.length < 60) {m : Sh} : svOk (addSh s m) = shOk s.n (-20000000) 20000000 m := by
  obtain ⟨⟨h1, h2, h3, h4, h5⟩, h6, h7, h8⟩ := svOk_spec hok
  rw [Bool.eq_iff_iff, svOk_iff]
  constructor
  · rintro ⟨_, h, _⟩
    exact h m (by simp [addSh])
  · intro h
    refine ⟨⟨h1, h2, by simp [addSh]; omega, h4, h5⟩, fun x hx => ?_, h7, h8⟩
    rcases List.mem_append.1 hx with hx | hx
    · exact h6 x hx
    · rw [List.mem_singleton.1 hx]
      exact h

def mkB (s : Sv) (i : Nat) (h : Int) : Bool := (lvHeights (addMk s ⟨(i : Int), h, h⟩)).2 == 0
def shB2 (s : Sv) (j i : Nat) (h : Int) : Bool := (lvHeights (addSh s ⟨(j : Int), (i : Int), h, h⟩)).2 == 0

theorem mkB_yes {s : Sv} (hok : svOk s = true) (hm : s.marks.length < 20) {i : Nat} (hi : i < s.n.toNat) {h : Int} (hb : -10000000 ≤ h ∧ h ≤ 10000000) (f : Nat → Int) (hf : FitSv s (fun _ => false) 0 f) (he : f i - f s.n.toNat = h) : mkB s i h = true := by
  have h1 : mkOk s.n ⟨(i : Int), h, h⟩ = true := by unfold mkOk inB spanB; simp; omega
  have h2 : svOk (addMk s ⟨(i : Int), h, h⟩) = true := by rw [svOk_mk hok hm, h1]
  unfold mkB
  rw [hts_ok, h2, (svD_iff h2).2 ⟨f, (fit_addMk _ _ _).2 ⟨hf, ?_⟩⟩]
  · rfl
  · unfold Holds
    dsimp only
    rw [Int.toNat_natCast]
    omega
theorem mkB_no {s : Sv} (hok : svOk s = true) (hm : s.marks.length < 20) {i : Nat} (hi : i < s.n.toNat) {h : Int} (hno : ∀ f, FitSv s (fun _ => false) 0 f → f i - f s.n.toNat ≠ h) : mkB s i h = false := by
  unfold mkB
  rw [hts_ok]
  cases h2 : svOk (addMk s ⟨(i : Int), h, h⟩)
  · rfl
  · cases h3 : (svD (addMk s ⟨(i : Int), h, h⟩)).2
    · rfl
    · obtain ⟨f, hf⟩ := (svD_iff h2).1 h3
      obtain ⟨h4, h5⟩ := (fit_addMk _ _ _).1 hf
      unfold Holds at h5
      dsimp only at h5
      rw [Int.toNat_natCast] at h5
      exact absurd (by omega) (hno f h4)
theorem shB_yes {s : Sv} (hok : svOk s = true) (hm : s.shots.length < 60) {i j : Nat} (hi : i < s.n.toNat) (hj : j < s.n.toNat) (hij : i ≠ j) {h : Int} (hb : -20000000 ≤ h ∧ h ≤ 20000000) (f : Nat → Int) (hf : FitSv s (fun _ => false) 0 f) (he : f i - f j = h) : shB2 s j i h = true := by
  have h1 : shOk s.n (-20000000) 20000000 ⟨(j : Int), (i : Int), h, h⟩ = true := by unfold shOk diffB inB spanB; simp; omega
  have h2 : svOk (addSh s ⟨(j : Int), (i : Int), h, h⟩) = true := by rw [svOk_sh hok hm, h1]
  unfold shB2
  rw [hts_ok, h2, (svD_iff h2).2 ⟨f, (fit_addSh _ _ _).2 ⟨hf, ?_⟩⟩]
  · rfl
  · unfold Holds
    dsimp only
    rw [Int.toNat_natCast, Int.toNat_natCast]
    omega
theorem shB_no {s : Sv} (hok : svOk s = true) (hm : s.shots.length < 60) {i j : Nat} {h : Int} (hno : ∀ f, FitSv s (fun _ => false) 0 f → f i - f j ≠ h) : shB2 s j i h = false := by
  unfold shB2
  rw [hts_ok]
  cases h2 : svOk (addSh s ⟨(j : Int), (i : Int), h, h⟩)
  · rfl
  · cases h3 : (svD (addSh s ⟨(j : Int), (i : Int), h, h⟩)).2
    · rfl
    · obtain ⟨f, hf⟩ := (svD_iff h2).1 h3
      obtain ⟨h4, h5⟩ := (fit_addSh _ _ _).1 hf
      unfold Holds at h5
      dsimp only at h5
      rw [Int.toNat_natCast, Int.toNat_natCast] at h5
      exact absurd (by omega) (hno f h4)

/-- What LevelReached's calls answer where heights fit. -/
theorem reach_vals {s : Sv} (hok : svOk s = true) (hf : (svD s).2 = true) (hsl : s.shots.length < 60) (hml : s.marks.length < 20) {i j : Nat} (hi : i < s.n.toNat) (hj : j < s.n.toNat) :
    ∃ p1 p2 x1 x2 : Int, lvFall s i j = ((x1, x2), 0) ∧ (htsList s)[i]? = some (p1, p2) ∧ (p1 ≤ p2 ∧ -10000000 ≤ p1 ∧ p2 ≤ 10000000 ∧ x1 ≤ x2 ∧ -20000000 ≤ x1 ∧ x2 ≤ 20000000) ∧ (i = j → x1 = 0 ∧ x2 = 0) ∧
      (mkB s i p1 = true ∧ mkB s i p2 = true ∧ mkB s i (p1 - 1) = false ∧ mkB s i (p2 + 1) = false) ∧
      (i ≠ j → shB2 s j i x1 = true ∧ shB2 s j i x2 = true ∧ shB2 s j i (x1 - 1) = false ∧ shB2 s j i (x2 + 1) = false) := by
  have d1 := svD_diag hok hf (i := i) (by omega)
  have d2 := svD_diag hok hf (i := j) (by omega)
  have d3 := svD_diag hok hf (i := s.n.toNat) (by omega)
  have t1 := svD_tri hok hf (i := i) (j := s.n.toNat) (k := i) (by omega) (by omega) (by omega)
  have t2 := svD_tri hok hf (i := i) (j := j) (k := i) (by omega) (by omega) (by omega)
  have b1 := svD_bd hok hf (i := i) (j := j) (by omega) (by omega)
  have b2 := svD_bd hok hf (i := j) (j := i) (by omega) (by omega)
  have r1 := svD_row hok hf (a := i) (by omega)
  have r2 := svD_row hok hf (a := j) (by omega)
  have r3 := svD_row hok hf (a := s.n.toNat) (by omega)
  have w1 : -10000000 ≤ (svD s).1 i i - (svD s).1 i s.n.toNat ∧ (svD s).1 i i - (svD s).1 i s.n.toNat ≤ 10000000 := r1.1 i hi
  have w3 : -10000000 ≤ (svD s).1 s.n.toNat i - (svD s).1 s.n.toNat s.n.toNat ∧ (svD s).1 s.n.toNat i - (svD s).1 s.n.toNat s.n.toNat ≤ 10000000 := r3.1 i hi
  refine ⟨_, _, _, _, lvFall_fit hok hf hi hj, hts_at s hi, ⟨by omega, by omega, by omega, by omega, by omega, by omega⟩, ?_, ⟨?_, ?_, ?_, ?_⟩, fun hij => ⟨?_, ?_, ?_, ?_⟩⟩
  · rintro rfl
    exact ⟨by omega, by omega⟩
  · exact mkB_yes hok hml hi (by omega) _ r1 (by omega)
  · exact mkB_yes hok hml hi (by omega) _ r3 (by omega)
  · refine mkB_no hok hml hi fun f hf2 => ?_
    have := svD_of hok hf2 (i := i) (k := s.n.toNat) (by omega) (by omega)
    omega
  · refine mkB_no hok hml hi fun f hf2 => ?_
    have := svD_of hok hf2 (i := s.n.toNat) (k := i) (by omega) (by omega)
    omega
  · exact shB_yes hok hsl hi hj hij (by omega) _ r1 (by omega)
  · exact shB_yes hok hsl hi hj hij (by omega) _ r2 (by omega)
  · refine shB_no hok hsl fun f hf2 => ?_
    have := svD_of hok hf2 (i := i) (k := j) (by omega) (by omega)
    omega
  · refine shB_no hok hsl fun f hf2 => ?_
    have := svD_of hok hf2 (i := j) (k := i) (by omega) (by omega)
    omega

end Go.Proofs.Ytaoonfmcimkmhaa
