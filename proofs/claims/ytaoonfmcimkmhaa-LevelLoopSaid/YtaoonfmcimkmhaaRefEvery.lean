/- Slices that are made: numbers, rows, bools; the reference's every. -/
import Derived.Test.YtaoonfmcimkmhaaRefRows
import Derived.Test.YtaoonfmcimkmhaaLevHts
import Derived.Deep.LoopGhost
namespace Go.Proofs.Ytaoonfmcimkmhaa
open Go.RowKit

theorem infoInt : (Try.prog.info? 3).map (fun i => (i.zero, i.size, i.bytes)) = some (some (.int .i64 0), 1, 8) := by kernel_rfl
theorem infoInts : (Try.prog.info? 46).map (fun i => (i.zero, i.size, i.bytes)) = some (some (.slice none 0 0), 1, 24) := by kernel_rfl
theorem infoBool : (Try.prog.info? 4).map (fun i => (i.zero, i.size, i.bytes)) = some (some (.bool false), 1, 1) := by kernel_rfl

theorem madeCells_one (v : Value) (h : v.cells = #[v]) (n : Nat) : madeCells v.cells n = Array.replicate n v := by
  rw [h]
  apply Array.ext
  · simp [madeCells]
  · intro j h1 h2
    simp [madeCells]
    have : j % 1 = 0 := by omega
    simp [this]
theorem mkInts (m : Nat) (hm : m ≤ 1000000) (w : World) :
    (Instr.makeSlice 46 (.int .i64 (m : Int)) (.int .i64 (m : Int))).run Try.prog w = .ok (.slice (some ⟨w.heap.size, 0, none⟩) m m) (w.alloc (.cells (rowI m (fun _ => 0)) 3)) := by
  obtain ⟨i0, hi, hz0, hz1, hz2⟩ := info_parts infoInt
  have hr := run_make (P := Try.prog) w 46 3 i0 _ Try.underlying46 hi hz0 .i64 .i64 (m : Int) (m : Int) (by omega) (by omega) (by rw [hz2]; omega) (by omega)
  rw [hr, hz1, Nat.mul_one, madeCells_one _ rfl, Int.toNat_natCast, rowI_zero]
theorem mkRows (m : Nat) (hm : m ≤ 1000000) (R : Nat → Nat) (w : World) :
    (Instr.makeSlice 100 (.int .i64 (m : Int)) (.int .i64 (m : Int))).run Try.prog w = .ok (.slice (some ⟨w.heap.size, 0, none⟩) m m) (w.alloc (.cells (hdI m R 0) 46)) := by
  obtain ⟨i0, hi, hz0, hz1, hz2⟩ := info_parts infoInts
  have hr := run_make (P := Try.prog) w 100 46 i0 _ Try.underlying100 hi hz0 .i64 .i64 (m : Int) (m : Int) (by omega) (by omega) (by rw [hz2]; omega) (by omega)
  rw [hr, hz1, Nat.mul_one, madeCells_one _ rfl, Int.toNat_natCast, hdI_zero]

/-- A row of bools. -/
def boV (m : Nat) (f : Nat → Bool) : Array Value := Array.ofFn (n := m) fun k => .bool (f k.1)
theorem boV_size (m : Nat) (f : Nat → Bool) : (boV m f).size = m := by simp [boV]
theorem boV_get {m : Nat} (f : Nat → Bool) {k : Nat} (hk : k < m) : (boV m f)[k]? = some (.bool (f k)) := by
  unfold boV
  rw [Array.getElem?_ofFn, dif_pos hk]
theorem boV_zero (m : Nat) : Array.replicate m (Value.bool false) = boV m (fun _ => false) := by
  apply Array.ext
  · simp [boV]
  · intro j h1 h2
    simp [boV]
theorem boV_set {m : Nat} (f : Nat → Bool) {k : Nat} (v : Bool) : (boV m f).setIfInBounds k (.bool v) = boV m (fun j => if j = k then v else f j) := by
  apply Array.ext
  · simp [boV]
  · intro j h1 h2
    have hs : j < (boV m f).size := by simpa using h1
    rw [Array.getElem_setIfInBounds hs]
    simp only [boV, Array.getElem_ofFn]
    by_cases e : k = j
    · rw [if_pos e, if_pos e.symm]
    · rw [if_neg e, if_neg (fun h => e h.symm)]
theorem boV_congr {m : Nat} {f g : Nat → Bool} (h : ∀ k, k < m → f k = g k) : boV m f = boV m g := by
  apply Array.ext
  · simp [boV]
  · intro j h1 h2
    have hj : j < m := by simpa [boV] using h2
    simp only [boV, Array.getElem_ofFn]
    rw [h j hj]
theorem mkBools (m : Nat) (hm : m ≤ 1000000) (w : World) :
    (Instr.makeSlice 103 (.int .i64 (m : Int)) (.int .i64 (m : Int))).run Try.prog w = .ok (.slice (some ⟨w.heap.size, 0, none⟩) m m) (w.alloc (.cells (boV m (fun _ => false)) 4)) := by
  obtain ⟨i0, hi, hz0, hz1, hz2⟩ := info_parts infoBool
  have hr := run_make (P := Try.prog) w 103 4 i0 _ Try.underlying103 hi hz0 .i64 .i64 (m : Int) (m : Int) (by omega) (by omega) (by rw [hz2]; omega) (by omega)
  rw [hr, hz1, Nat.mul_one, madeCells_one _ rfl, Int.toNat_natCast, boV_zero]

/-- Block g is a row of bools. -/
def BoAt (w : World) (g m : Nat) (f : Nat → Bool) : Prop := w.heap[g]? = some (.cells (boV m f) 4 (0, 0))
theorem BoAt.cell {w : World} {g m : Nat} {f : Nat → Bool} (h : BoAt w g m f) {k : Nat} (hk : k < m) : w.cell? ⟨g, k, none⟩ = some (.bool (f k)) := by
  rw [cell_of_row w g _ _ _ _ h, boV_get f hk]
theorem BoAt.frozen {w : World} {g m : Nat} {f : Nat → Bool} (h : BoAt w g m f) (o : Nat) : w.frozen? ⟨g, o, none⟩ = false := frozen_of_row w g o _ _ h
theorem BoAt.lt {w : World} {g m : Nat} {f : Nat → Bool} (h : BoAt w g m f) : g < w.heap.size := (Array.getElem?_eq_some_iff.1 h).1
theorem BoAt.set_ {w : World} {g m : Nat} {f : Nat → Bool} (h : BoAt w g m f) (k : Nat) (v : Bool) : BoAt (w.setCell ⟨g, k, none⟩ (.bool v)) g m (fun j => if j = k then v else f j) := by
  unfold BoAt
  rw [heap_setCell_same w g _ _ _ _ h, boV_set]
theorem BoAt.below {w w' : World} {B g m : Nat} {f : Nat → Bool} (h : BoAt w g m f) (hb : Below B w w') (hg : g < B) : BoAt w' g m f := (hb.block g hg).trans h

theorem every_any (p : Int) (n1 n2 c1 c2 : Nat) (A1 A2 : Option Addr) (s3 : Value) (w : World) (h1 : n1 ≤ 1000) (h2 : n2 ≤ 1000) :
    Calls Try.prog 48 #[.agg #[.int .i64 p, .slice A1 n1 c1, .slice A2 n2 c2, s3]] w fun e w' =>
      (∃ g, e = .returned (.slice (some ⟨g, 0, none⟩) (n1 + n2) (n1 + n2)) ∧ w.heap.size ≤ g ∧ BoAt w' g (n1 + n2) (fun _ => true)) ∧ Below w.heap.size w w' := by
  have hk : ∀ w, (Instr.makeSlice 103 (.int .i64 ((n1 : Int) + (n2 : Int))) (.int .i64 ((n1 : Int) + (n2 : Int)))).run Try.prog w = .ok (.slice (some ⟨w.heap.size, 0, none⟩) (n1 + n2) (n1 + n2)) (w.alloc (.cells (boV (n1 + n2) (fun _ => false)) 4)) := fun w => by
    have h := mkBools (n1 + n2) (by omega) w
    rw [Int.natCast_add] at h
    exact h
  go_enter Try.func48, Try.ntmps48
  go_wp2
  clear hk
  obtain ⟨w1, hw1⟩ : ∃ w1, w.alloc (Obj.cells #[Value.int IntKind.i64 p, Value.slice A1 n1 c1, Value.slice A2 n2 c2, s3] 26) = w1 := ⟨_, rfl⟩
  rw [hw1]
  have hb1 : Below w.heap.size w w1 := by rw [← hw1]; (repeat' (first | (with_reducible exact Below.refl _ _) | (with_reducible refine Below.alloc ?_ ?_ _) | (with_reducible refine Below.drew ?_) | (with_reducible refine Below.drewN_ ?_ _) | (with_reducible refine Below.setCell ?_ ?_ _) | (with_reducible refine Below.setRow ?_ ?_ _) | (with_reducible refine Below.via ?_ (by with_reducible assumption) ?_) | go_size))
  obtain ⟨g, hg⟩ : ∃ g, w.heap.size + 1 = g := ⟨_, rfl⟩
  have hsz : w1.heap.size = g := by rw [← hw1, ← hg]; simp
  (try rw [hg])
  (try rw [hsz])
  obtain ⟨w2, hw2⟩ : ∃ w2, w1.alloc (.cells (boV (n1 + n2) (fun _ => false)) 4) = w2 := ⟨_, rfl⟩
  rw [hw2]
  have hB : BoAt w2 g (n1 + n2) (fun k => decide (k < 0)) := by
    rw [← hw2, ← hsz]
    have : (fun k => decide (k < 0)) = (fun _ : Nat => false) := by funext k; simp
    rw [this]
    exact heap_alloc_new _ _
  have hb2 : Below w.heap.size w w2 := by rw [← hw2]; exact hb1.alloc hb1.size _
  have HB := Lib.hid hB
  have hgw : w.heap.size ≤ g := by omega
  have HG := Lib.hid hg
  clear hB hw2 hsz hw1 hg
  go_loopw [4] (fun i W => ∃ k : Nat, k ≤ n1 + n2 ∧ i = .int .i64 k ∧ BoAt W g (n1 + n2) (fun j => decide (j < k)) ∧ Below w.heap.size w W) (fun i _ => n1 + n2 - (intOf i).toNat)
  case atStart => exact ⟨0, by omega, rfl, HB.out, hb2⟩
  case round =>
    obtain ⟨k, hkn, rfl, hB, hb⟩ := hrel
    by_cases hlt : k < n1 + n2
    · have q := hB.cell hlt
      have qf := hB.frozen k
      have hB3 := hB.set_ k true
      have HB3 : Hid (BoAt (wr.setCell ⟨g, k, none⟩ (.bool true)) g (n1 + n2) (fun j => decide (j < k + 1))) := Lib.hid (by
        have e : (fun j => decide (j < k + 1)) = (fun j => if j = k then true else decide (j < k)) := by
          funext j
          by_cases h : j = k
          · rw [if_pos h]; simp; omega
          · rw [if_neg h]; congr 1; simp; omega
        rw [e]
        exact hB3)
      clear hB hB3
      go_wp2
      go_roundw
      case rel => exact ⟨k + 1, by omega, by go_num, HB3.out, hb.setCell hgw _⟩
      case measure => simp [intOf]; omega
    · have HBe : Hid (BoAt wr g (n1 + n2) (fun _ => true)) := Lib.hid (by
        unfold BoAt at hB ⊢
        rw [hB, boV_congr (g := fun _ => true) (fun j hj => by simp; omega)])
      clear hB
      go_wp2
      go_ret
      exact ⟨⟨g, rfl, hgw, HBe.out⟩, hb⟩

end Go.Proofs.Ytaoonfmcimkmhaa
