/- A market after a rent gave a field minutes; whether a market's cheapest plan costs so much. Condition: markets within bounds. -/
import Derived.Test.YtjkefoijhphknaaMkCost
namespace Go.Proofs.Ytjkefoijhphknaa
open Go.RowKit Go.IntWalk

def aftM (m : Mk) (i f : Nat) (n : Int) : Mk := { m with left := fun k => if k = i then m.left i - n else m.left k, needs := fun k => if k = f then m.needs f - n else m.needs k }
theorem mkA_setL (m : Mk) (A1 : Option Addr) (c1 : Nat) (A2 : Option Addr) (c2 : Nat) {i : Nat} (hi : i < 8) (v : Int) :
    (mkA m A1 c1 A2 c2).setIfInBounds (10 + i) (.int .i64 v) = mkA { m with left := fun k => if k = i then v else m.left k } A1 c1 A2 c2 := by
  have : i = 0 ∨ i = 1 ∨ i = 2 ∨ i = 3 ∨ i = 4 ∨ i = 5 ∨ i = 6 ∨ i = 7 := by omega
  rcases this with rfl | rfl | rfl | rfl | rfl | rfl | rfl | rfl <;> simp [mkA]
theorem mkA_setN (m : Mk) (A1 : Option Addr) (c1 : Nat) (A2 : Option Addr) (c2 : Nat) {i : Nat} (hi : i < 8) (v : Int) :
    (mkA m A1 c1 A2 c2).setIfInBounds (2 + i) (.int .i64 v) = mkA { m with needs := fun k => if k = i then v else m.needs k } A1 c1 A2 c2 := by
  have : i = 0 ∨ i = 1 ∨ i = 2 ∨ i = 3 ∨ i = 4 ∨ i = 5 ∨ i = 6 ∨ i = 7 := by omega
  rcases this with rfl | rfl | rfl | rfl | rfl | rfl | rfl | rfl <;> simp [mkA]
theorem mkA_one (m : Mk) (A1 : Option Addr) (c1 : Nat) (A2 : Option Addr) (c2 : Nat) : (mkA m A1 c1 A2 c2).all (·.oneCell') = true := by simp [mkA, Value.oneCell']
def zMk : Mk := ⟨[], [], fun _ => 0, fun _ => 0⟩
theorem infoMk (m : Mk) (A1 : Option Addr) (c1 : Nat) (A2 : Option Addr) (c2 : Nat) : (Try.prog.info? 114).map (·.size) = some (mkA m A1 c1 A2 c2).size := by kernel_rfl

set_option maxRecDepth 100000 in
set_option maxHeartbeats 4000000 in
theorem after_any' (m : Mk) (A1 : Option Addr) (c1 : Nat) (A2 : Option Addr) (c2 : Nat) (i f : Nat) (n : Int) (w : World) (hm : MkOk m) (hi : i < 8) (hf : f < 8) (n0 : 0 ≤ n) (n1 : n ≤ 23040) :
    Calls Try.prog 110 #[.agg (mkA m A1 c1 A2 c2), .int .i64 (i : Int), .int .i64 (f : Int), .int .i64 n] w fun e w' => e = .returned (.agg (mkA (aftM m i f n) A1 c1 A2 c2)) ∧ Below w.heap.size w w' := by
  have hl := hm.left i
  have hn := hm.needs f
  have hiI : (i : Int) < 8 := by omega
  have hfI : (f : Int) < 8 := by omega
  have hm2 : aftM m i f n = { ({ m with left := fun k => if k = i then m.left i - n else m.left k } : Mk) with needs := fun k => if k = f then m.needs f - n else m.needs k } := rfl
  have HM2 := Lib.hid hm2
  clear hm2 hm
  go_enter Try.func110, Try.ntmps110
  go_upto_region 1 with (fail)
  change Code.wp _ _ _ _ ((w.alloc (Obj.cells (mkA m A1 c1 A2 c2) 114)).alloc (Obj.cells (mkA zMk none 0 none 0) 114))
  generalize hw0 : (w.alloc (Obj.cells (mkA m A1 c1 A2 c2) 114)).alloc (Obj.cells (mkA zMk none 0 none 0) 114) = w0
  have g0 : w0.heap[w.heap.size]? = some (.cells (mkA m A1 c1 A2 c2) 114 (0, 0)) := by rw [← hw0]; exact (Below.heap_alloc _ _ _ (by simp)).trans (heap_alloc_new _ _)
  have g1 : w0.heap[w.heap.size + 1]? = some (.cells (mkA zMk none 0 none 0) 114 (0, 0)) := by rw [← hw0]; exact heap_alloc2_new _ _ _
  have hb0 : Below w.heap.size w w0 := by rw [← hw0]; (repeat' (first | (with_reducible exact Below.refl _ _) | (with_reducible refine Below.alloc ?_ ?_ _) | (with_reducible refine Below.drew ?_) | (with_reducible refine Below.drewN_ ?_ _) | (with_reducible refine Below.setCell ?_ ?_ _) | (with_reducible refine Below.setRow ?_ ?_ _) | (with_reducible refine Below.via ?_ (by with_reducible assumption) ?_) | go_size))
  clear hw0
  have ka : w0.cell? ⟨w.heap.size, 10 + i, none⟩ = some (.int .i64 (m.left i)) := (cell_of_row w0 w.heap.size (10 + i) _ _ _ g0).trans (mkA_left m A1 c1 A2 c2 hi)
  have fa : w0.frozen? ⟨w.heap.size, 10 + i, none⟩ = false := frozen_of_row w0 w.heap.size _ _ _ g0
  have G0 := Lib.hid g0
  have G1 := Lib.hid g1
  have HB := Lib.hid hb0
  have hl0 : w.heap.size < w0.heap.size := (Array.getElem?_eq_some_iff.1 g0).1
  clear g0 g1 hb0
  go_upto_region 2 with (fail)
  obtain ⟨w1, hw1⟩ : ∃ w1, w0.setCell ⟨w.heap.size, 10 + i, none⟩ (.int .i64 (m.left i - n)) = w1 := ⟨_, rfl⟩
  have d0 : w1.heap[w.heap.size]? = some (.cells (mkA { m with left := fun k => if k = i then m.left i - n else m.left k } A1 c1 A2 c2) 114 (0, 0)) := by
    rw [← hw1]; refine (heap_setCell_same _ w.heap.size _ _ _ _ G0.out).trans ?_; rw [mkA_setL m A1 c1 A2 c2 hi]
  have d1 : w1.heap[w.heap.size + 1]? = some (.cells (mkA zMk none 0 none 0) 114 (0, 0)) := by rw [← hw1]; exact (Below.heap_setCell _ _ _ _ (by show w.heap.size + 1 ≠ w.heap.size; omega)).trans G1.out
  have d2 : Below w.heap.size w w1 := by rw [← hw1]; exact Below.setCell HB.out (Nat.le_refl _) _
  rw [hw1]
  clear hw1 ka fa G0 G1 HB hl0
  have kb : w1.cell? ⟨w.heap.size, 2 + f, none⟩ = some (.int .i64 (m.needs f)) := (cell_of_row w1 w.heap.size (2 + f) _ _ _ d0).trans (mkA_needs _ A1 c1 A2 c2 hf)
  have fb : w1.frozen? ⟨w.heap.size, 2 + f, none⟩ = false := frozen_of_row w1 w.heap.size _ _ _ d0
  have D0 := Lib.hid d0
  have D1 := Lib.hid d1
  have D2 := Lib.hid d2
  have hl0 : w.heap.size < w1.heap.size := (Array.getElem?_eq_some_iff.1 d0).1
  clear d0 d1 d2
  go_upto_region 3 with (fail)
  obtain ⟨w2, hw2⟩ : ∃ w2, w1.setCell ⟨w.heap.size, 2 + f, none⟩ (.int .i64 (m.needs f - n)) = w2 := ⟨_, rfl⟩
  have e0 : w2.heap[w.heap.size]? = some (.cells (mkA (aftM m i f n) A1 c1 A2 c2) 114 (0, 0)) := by
    rw [← hw2]; refine (heap_setCell_same _ w.heap.size _ _ _ _ D0.out).trans ?_; rw [mkA_setN _ A1 c1 A2 c2 hf]; rfl
  have e1 : w2.heap[w.heap.size + 1]? = some (.cells (mkA zMk none 0 none 0) 114 (0, 0)) := by rw [← hw2]; exact (Below.heap_setCell _ _ _ _ (by show w.heap.size + 1 ≠ w.heap.size; omega)).trans D1.out
  have e2 : Below w.heap.size w w2 := by rw [← hw2]; exact Below.setCell D2.out (Nat.le_refl _) _
  rw [hw2]
  clear hw2 kb fb D0 D1 D2 hl0 HM2 hl hn
  have E0 := Lib.hid e0
  have E1 := Lib.hid e1
  clear e0 e1
  have hs1 : (mkA zMk none 0 none 0).size = (mkA (aftM m i f n) A1 c1 A2 c2).size := rfl
  go_wp2_with (first | (refine wpList_load_row rfl 114 (.tmp 4) rfl w.heap.size rfl 114 (mkA (aftM m i f n) A1 c1 A2 c2) (0, 0) _ E0.out Try.underlying114 rfl (infoMk _ _ _ _ _) ?_) | (refine wpList_store_row rfl 114 (.tmp 8) (.tmp 25) rfl (w.heap.size + 1) (mkA (aftM m i f n) A1 c1 A2 c2) rfl rfl 114 (mkA zMk none 0 none 0) E1.out (infoMk _ _ _ _ _) hs1 (mkA_one _ _ _ _ _) ?_))
  refine bodyPost_ret (results_cell_row Try.results110 _ _ (w.heap.size + 1) 114 (mkA (aftM m i f n) A1 c1 A2 c2) (0, 0) _ rfl (setRow_heap _ _ _ _ _ _ E1.out) Try.underlying114 rfl (infoMk _ _ _ _ _)) rfl ⟨rfl, Below.setRow e2 (by omega) _⟩

theorem wpList_load_rowG {P : Program} {ops : Array Oper} {rest : List Oper} {o : Oper} {a : Act} {w : World} {Q : Exit → Act → World → Prop} (hw : Region.wanted o (yielded ops a.tmps) = true) (ty : TypeId) (x : Operand) (ho : o.op = .load ty x)
    (g : Nat) (hx : a.eval x = .pointer (some ⟨g, 0, none⟩)) (t : TypeId) (cs : Array Value) (fr : Nat × Nat) (d : TypeDesc) (hg : w.heap[g]? = some (.cells cs t fr))
    (hu : P.underlying ty = some d) (hd : (match d with | .struct _ | .array _ _ => true | _ => false) = true) (hi : (P.info? ty).map (·.size) = some cs.size)
    (h : wpList P ops Q rest (a.put o.dst (.agg cs)) w) : wpList P ops Q (o :: rest) a w :=
  wpList_step fun K hK => by
    rw [if_pos hw]
    exact wp_load_row ty x ho g hx t cs fr d hg hu hd hi (hK _ _ h)

/-- Whether the cheapest plan of a market costs so much, and there is one. -/
def costsB (m : Mk) (b : Int) : Bool := decide (lkS m 256 = 0) && decide (costI m = b)
set_option maxRecDepth 100000 in
set_option maxHeartbeats 4000000 in
theorem costs_any (m : Mk) (A1 : Option Addr) (c1 : Nat) (A2 : Option Addr) (c2 : Nat) (b : Int) (w : World) (hm : MkOk2 m) (r1 : Rd w w.heap.size A1 lotV 4 m.lots) (r2 : Rd w w.heap.size A2 nnV 1 m.dear) :
    Calls Try.prog 111 #[.agg (mkA m A1 c1 A2 c2), .int .i64 b] w fun e w' => e = .returned (.bool (costsB m b)) ∧ Below w.heap.size w w' := by
  have b0 : Below w.heap.size w (w.alloc (.cells (mkA m A1 c1 A2 c2) 114)) := by (repeat' (first | (with_reducible exact Below.refl _ _) | (with_reducible refine Below.alloc ?_ ?_ _) | (with_reducible refine Below.drew ?_) | (with_reducible refine Below.drewN_ ?_ _) | (with_reducible refine Below.setCell ?_ ?_ _) | (with_reducible refine Below.setRow ?_ ?_ _) | (with_reducible refine Below.via ?_ (by with_reducible assumption) ?_) | go_size))
  have row := Lib.hid (heap_alloc_new w (.cells (mkA m A1 c1 A2 c2) 114))
  have CL := Lib.hid (lack_any m A1 c1 A2 c2 (w.alloc (.cells (mkA m A1 c1 A2 c2) 114)) hm.ok ((r1.below b0).more b0.size))
  have CC := Lib.hid (fun (W : World) (hW : Below w.heap.size w W) => cost_any m A1 c1 A2 c2 W hm ((r1.below hW).more hW.size) ((r2.below hW).more hW.size))
  clear hm r1 r2
  have hcb : costsB m b = (decide (lkS m 256 = 0) && decide (costI m = b)) := rfl
  generalize costsB m b = r at hcb ⊢
  generalize costI m = c at *
  have T1 : Hid True := Lib.hid trivial
  cases hd : decide (lkS m 256 = 0)
  · have hz : decide (lkS m 256 ≠ 0) = true := by simpa using hd
    rw [hd, Bool.false_and] at hcb
    subst hcb
    rw [hz] at CL
    clear hd hz
    go_enter Try.func111, Try.ntmps111
    go_wp2_with (first | (refine wpList_load_row rfl 114 (.tmp 2) rfl w.heap.size rfl 114 (mkA m A1 c1 A2 c2) (0, 0) _ row.out Try.underlying114 rfl (infoMk _ _ _ _ _) ?_) | (go_at_call 57; refine CL.out.mono ?_; rintro e w1 ⟨rfl, hb1⟩; have hz1 := hb1.size))
    go_ret
    exact ⟨rfl, b0.trans (hb1.mono b0.size)⟩
  · have hz : decide (lkS m 256 ≠ 0) = false := by simpa using hd
    rw [hd, Bool.true_and] at hcb
    subst hcb
    rw [hz] at CL
    clear hd hz
    go_enter Try.func111, Try.ntmps111
    go_upto_region 2 with (first | (refine wpList_load_row rfl 114 (.tmp 2) rfl w.heap.size rfl 114 (mkA m A1 c1 A2 c2) (0, 0) _ row.out Try.underlying114 rfl (infoMk _ _ _ _ _) ?_) | (go_at_call 57; refine CL.out.mono ?_; rintro e w1 ⟨rfl, hb1⟩; have hz1 := hb1.size))
    have row1 := Lib.hid ((hb1.block _ (by simp)).trans row.out)
    have HC1 := Lib.hid (CC.out w1 (b0.trans (hb1.mono b0.size)))
    clear row CL CC
    go_wp2_with (first | (refine wpList_load_rowG (by rfl) 114 (.tmp 2) rfl w.heap.size rfl 114 (mkA m A1 c1 A2 c2) (0, 0) _ row1.out Try.underlying114 rfl (infoMk _ _ _ _ _) ?_) | (go_at_call 59; refine HC1.out.mono ?_; rintro e w2 ⟨rfl, hb2⟩; have hz2 := hb2.size))
    go_ret
    exact ⟨rfl, (b0.trans (hb1.mono b0.size)).trans (hb2.mono (Nat.le_trans b0.size hz1))⟩
end Go.Proofs.Ytjkefoijhphknaa
