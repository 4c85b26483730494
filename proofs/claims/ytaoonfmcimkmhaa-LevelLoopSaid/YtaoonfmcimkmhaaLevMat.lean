/- Matrices of 21 times 21 numbers as the cells of one block. No condition. -/
import Derived.Test.YtaoonfmcimkmhaaRows
import Derived.Test.YtaoonfmcimkmhaaWords
import Derived.Deep.WholeRow
namespace Go.Proofs.Ytaoonfmcimkmhaa
open Go.RowKit

def matV (D : Nat → Nat → Int) : Array Value := Array.ofFn (n := 441) fun k => .int .i64 (D (k.1 / 21) (k.1 % 21))
def upd (D : Nat → Nat → Int) (i j : Nat) (v : Int) : Nat → Nat → Int := fun a b => if a = i ∧ b = j then v else D a b

theorem matV_size (D : Nat → Nat → Int) : (matV D).size = 441 := by unfold matV; simp
theorem matV_get (D : Nat → Nat → Int) {i j : Nat} (hi : i < 21) (hj : j < 21) : (matV D)[i * 21 + j]? = some (.int .i64 (D i j)) := by
  unfold matV
  rw [Array.getElem?_ofFn, dif_pos (by omega)]
  have h1 : (i * 21 + j) / 21 = i := by omega
  have h2 : (i * 21 + j) % 21 = j := by omega
  simp only [h1, h2]
theorem matV_set (D : Nat → Nat → Int) {i j : Nat} (hj : j < 21) (v : Int) : (matV D).setIfInBounds (i * 21 + j) (.int .i64 v) = matV (upd D i j v) := by
  apply Array.ext
  · simp [matV]
  · intro k h1 h2
    have hk : k < 441 := by simpa [matV] using h2
    have hs : k < (matV D).size := by rw [matV_size]; exact hk
    rw [Array.getElem_setIfInBounds hs]
    simp only [matV, Array.getElem_ofFn, upd]
    by_cases e : i * 21 + j = k
    · have h3 : k / 21 = i := by omega
      have h4 : k % 21 = j := by omega
      rw [if_pos e, if_pos ⟨h3, h4⟩]
    · have : ¬ (k / 21 = i ∧ k % 21 = j) := by omega
      rw [if_neg e, if_neg this]
theorem zero96 : Try.zeroCells96 = matV (fun _ _ => 0) := by kernel_rfl


theorem zero96_size (D : Nat → Nat → Int) : Try.zeroCells96.size = (matV D).size := by rw [zero96, matV_size, matV_size]
theorem matV_one (D : Nat → Nat → Int) : (matV D).all (·.oneCell') = true := by
  rw [Array.all_eq_true]
  intro i hi
  simp [matV, Value.oneCell']
theorem info93 : (Try.prog.info? 93).map (·.size) = some 85 := by kernel_rfl
theorem info96 (D : Nat → Nat → Int) : (Try.prog.info? 96).map (·.size) = some (matV D).size := by rw [matV_size]; kernel_rfl
/-- Block g is the matrix D. -/
def MatAt (w : World) (g : Nat) (D : Nat → Nat → Int) : Prop := w.heap[g]? = some (.cells (matV D) 96 (0, 0))
theorem MatAt.cell {w : World} {g : Nat} {D : Nat → Nat → Int} (h : MatAt w g D) {i j : Nat} (hi : i < 21) (hj : j < 21) : w.cell? ⟨g, i * 21 + j, none⟩ = some (.int .i64 (D i j)) := by
  rw [cell_of_row w g _ _ _ _ h, matV_get D hi hj]
theorem MatAt.frozen {w : World} {g : Nat} {D : Nat → Nat → Int} (h : MatAt w g D) (o : Nat) : w.frozen? ⟨g, o, none⟩ = false := frozen_of_row w g o _ _ h
theorem MatAt.lt {w : World} {g : Nat} {D : Nat → Nat → Int} (h : MatAt w g D) : g < w.heap.size := by
  rcases Nat.lt_or_ge g w.heap.size with hlt | hge
  · exact hlt
  · unfold MatAt at h; rw [Array.getElem?_eq_none hge] at h; cases h
theorem MatAt.set_ {w : World} {g : Nat} {D : Nat → Nat → Int} (h : MatAt w g D) {i j : Nat} (hj : j < 21) (v : Int) : MatAt (w.setCell ⟨g, i * 21 + j, none⟩ (.int .i64 v)) g (upd D i j v) := by
  unfold MatAt
  rw [heap_setCell_same w g _ _ _ _ h, matV_set D hj]
theorem MatAt.below {w w' : World} {B g : Nat} {D : Nat → Nat → Int} (h : MatAt w g D) (hb : Below B w w') (hg : g < B) : MatAt w' g D := (hb.block g hg).trans h
theorem MatAt.new (w : World) (D : Nat → Nat → Int) : MatAt (w.alloc (.cells (matV D) 96)) w.heap.size D := heap_alloc_new w _

set_option maxHeartbeats 400000 in
theorem rise_any (g i j : Nat) (D : Nat → Nat → Int) (w : World) (hM : MatAt w g D) (hi : i < 21) (hj : j < 21) (n1 : -9223372036854775808 < D j i) (n2 : D j i < 9223372036854775808) :
    Calls Try.prog 45 #[.pointer (some ⟨g, 0, none⟩), .int .i64 i, .int .i64 j] w fun e w' => e = .returned (.agg #[.int .i64 (- D j i), .int .i64 (D i j)]) ∧ Below w.heap.size w w' := by
  have k1 := hM.cell hi hj
  have k2 := hM.cell hj hi
  have hl := hM.lt
  clear hM
  generalize D i j = x at *
  generalize D j i = y at *
  go_enter Try.func45, Try.ntmps45
  go_wp2
  go_region
  go_wp2
  go_returns
  exact ⟨rfl, by (repeat' (first | (with_reducible exact Below.refl _ _) | (with_reducible refine Below.alloc ?_ ?_ _) | (with_reducible refine Below.drew ?_) | (with_reducible refine Below.drewN_ ?_ _) | (with_reducible refine Below.setCell ?_ ?_ _) | (with_reducible refine Below.setRow ?_ ?_ _) | (with_reducible refine Below.via ?_ (by with_reducible assumption) ?_) | go_size))⟩

end Go.Proofs.Ytaoonfmcimkmhaa
