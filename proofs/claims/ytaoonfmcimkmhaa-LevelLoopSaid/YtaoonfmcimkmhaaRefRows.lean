/- A slice of slices of numbers as blocks: a head of slices, and a block for each row. No condition. -/
import Derived.Test.YtaoonfmcimkmhaaLevMat
import Derived.Test.YtaoonfmcimkmhaaFwS
namespace Go.Proofs.Ytaoonfmcimkmhaa
open Go.RowKit

def rowI (m : Nat) (f : Nat → Int) : Array Value := Array.ofFn (n := m) fun k => .int .i64 (f k.1)
def hdI (m : Nat) (R : Nat → Nat) (i : Nat) : Array Value := Array.ofFn (n := m) fun k => if k.1 < i then .slice (some ⟨R k.1, 0, none⟩) m m else .slice none 0 0
theorem rowI_size (m : Nat) (f : Nat → Int) : (rowI m f).size = m := by simp [rowI]
theorem hdI_size (m : Nat) (R : Nat → Nat) (i : Nat) : (hdI m R i).size = m := by simp [hdI]
theorem rowI_get {m : Nat} (f : Nat → Int) {k : Nat} (hk : k < m) : (rowI m f)[k]? = some (.int .i64 (f k)) := by
  unfold rowI
  rw [Array.getElem?_ofFn, dif_pos hk]
theorem hdI_get {m : Nat} (R : Nat → Nat) {i k : Nat} (hk : k < m) (hi : k < i) : (hdI m R i)[k]? = some (.slice (some ⟨R k, 0, none⟩) m m) := by
  unfold hdI
  rw [Array.getElem?_ofFn, dif_pos hk]
  simp [hi]
theorem rowI_set {m : Nat} (f : Nat → Int) {k : Nat} (v : Int) : (rowI m f).setIfInBounds k (.int .i64 v) = rowI m (fun j => if j = k then v else f j) := by
  apply Array.ext
  · simp [rowI]
  · intro j h1 h2
    have hs : j < (rowI m f).size := by simpa using h1
    rw [Array.getElem_setIfInBounds hs]
    simp only [rowI, Array.getElem_ofFn]
    by_cases e : k = j
    · rw [if_pos e, if_pos e.symm]
    · rw [if_neg e, if_neg (fun h => e h.symm)]
theorem hdI_set {m : Nat} (R : Nat → Nat) {i : Nat} (b : Nat) : (hdI m R i).setIfInBounds i (.slice (some ⟨b, 0, none⟩) m m) = hdI m (fun j => if j = i then b else R j) (i + 1) := by
  apply Array.ext
  · simp [hdI]
  · intro j h1 h2
    have hs : j < (hdI m R i).size := by simpa using h1
    rw [Array.getElem_setIfInBounds hs]
    simp only [hdI, Array.getElem_ofFn]
    by_cases e : i = j
    · subst e
      rw [if_pos rfl, if_pos (by omega)]
      simp
    · rw [if_neg e]
      by_cases e2 : j < i
      · rw [if_pos e2, if_pos (by omega), if_neg (fun h => e h.symm)]
      · rw [if_neg e2, if_neg (by omega)]
theorem hdI_zero (m : Nat) (R : Nat → Nat) : Array.replicate m (Value.slice none 0 0) = hdI m R 0 := by
  apply Array.ext
  · simp [hdI]
  · intro j h1 h2
    simp [hdI]
theorem rowI_zero (m : Nat) : Array.replicate m (Value.int .i64 0) = rowI m (fun _ => 0) := by
  apply Array.ext
  · simp [rowI]
  · intro j h1 h2
    simp [rowI]
theorem rowI_congr {m : Nat} {f g : Nat → Int} (h : ∀ k, k < m → f k = g k) : rowI m f = rowI m g := by
  apply Array.ext
  · simp [rowI]
  · intro j h1 h2
    have hj : j < m := by simpa [rowI] using h2
    simp only [rowI, Array.getElem_ofFn]
    rw [h j hj]

/-- The head g holds m slices, of which the first i are the rows of D, each in a block of its own from B on. -/
structure RowsUp (w : World) (B g m i : Nat) (R : Nat → Nat) (D : Mat) : Prop where
  hd : w.heap[g]? = some (.cells (hdI m R i) 46 (0, 0))
  lo : B ≤ g
  row : ∀ k, k < i → w.heap[R k]? = some (.cells (rowI m (D k)) 3 (0, 0))
  rlo : ∀ k, k < i → B ≤ R k
  inj : ∀ k l, k < i → l < i → R k = R l → k = l

section
variable {w w' : World} {B g m i : Nat} {R : Nat → Nat} {D : Mat}
theorem RowsUp.head (h : RowsUp w B g m i R D) {k : Nat} (hk : k < i) (hm : k < m) : w.cell? ⟨g, k, none⟩ = some (.slice (some ⟨R k, 0, none⟩) m m) := by
  rw [cell_of_row w g _ _ _ _ h.hd, hdI_get R hm hk]
theorem RowsUp.head0 (h : RowsUp w B g m i R D) {k : Nat} (hk : i ≤ k) (hm : k < m) : w.cell? ⟨g, k, none⟩ = some (.slice none 0 0) := by
  rw [cell_of_row w g _ _ _ _ h.hd]
  unfold hdI
  rw [Array.getElem?_ofFn, dif_pos hm]
  simp only [Option.some.injEq]
  rw [if_neg (by omega)]
theorem RowsUp.none_ (g m : Nat) (R : Nat → Nat) (D : Mat) (hd : w.heap[g]? = some (.cells (hdI m R 0) 46 (0, 0))) (hB : B ≤ g) : RowsUp w B g m 0 R D :=
  ⟨hd, hB, fun k hk => by omega, fun k hk => by omega, fun k l hk => by omega⟩
theorem RowsUp.cell (h : RowsUp w B g m i R D) {k l : Nat} (hk : k < i) (hl : l < m) : w.cell? ⟨R k, l, none⟩ = some (.int .i64 (D k l)) := by
  rw [cell_of_row w _ _ _ _ _ (h.row k hk), rowI_get _ hl]
theorem RowsUp.frozen (h : RowsUp w B g m i R D) {k : Nat} (hk : k < i) (o : Nat) : w.frozen? ⟨R k, o, none⟩ = false := frozen_of_row w _ o _ _ (h.row k hk)
theorem RowsUp.hfrozen (h : RowsUp w B g m i R D) (o : Nat) : w.frozen? ⟨g, o, none⟩ = false := frozen_of_row w _ o _ _ h.hd
theorem RowsUp.glt (h : RowsUp w B g m i R D) : g < w.heap.size := (Array.getElem?_eq_some_iff.1 h.hd).1
theorem RowsUp.rlt (h : RowsUp w B g m i R D) {k : Nat} (hk : k < i) : R k < w.heap.size := (Array.getElem?_eq_some_iff.1 (h.row k hk)).1
theorem RowsUp.ne (h : RowsUp w B g m i R D) {k : Nat} (hk : k < i) : g ≠ R k := by
  intro e
  have h1 := h.hd
  rw [e, h.row k hk] at h1
  have h2 := Obj.cells.inj (Option.some.inj h1)
  exact absurd h2.2.1 (by decide)
theorem RowsUp.below {B' : Nat} (h : RowsUp w B g m i R D) (hb : Below B' w w') (hB : w.heap.size ≤ B') : RowsUp w' B g m i R D :=
  ⟨(hb.block g (by have := h.glt; omega)).trans h.hd, h.lo, fun k hk => (hb.block _ (by have := h.rlt hk; omega)).trans (h.row k hk), h.rlo, h.inj⟩
theorem RowsUp.set_ (h : RowsUp w B g m i R D) {k l : Nat} (hk : k < i) (v : Int) : RowsUp (w.setCell ⟨R k, l, none⟩ (.int .i64 v)) B g m i R (upd D k l v) := by
  refine ⟨?_, h.lo, fun j hj => ?_, h.rlo, h.inj⟩
  · exact (Below.heap_setCell w ⟨R k, l, none⟩ _ g (h.ne hk)).trans h.hd
  · by_cases e : j = k
    · subst e
      rw [heap_setCell_same w _ _ _ _ _ (h.row j hj), rowI_set]
      congr 3
      funext c
      unfold upd
      by_cases e2 : c = l
      · rw [if_pos e2, if_pos ⟨rfl, e2⟩]
      · rw [if_neg e2, if_neg (fun h => e2 h.2)]
    · refine (Below.heap_setCell w ⟨R k, l, none⟩ _ (R j) (fun e2 => e (h.inj j k hj hk e2))).trans ((h.row j hj).trans ?_)
      congr 3
      funext c
      unfold upd
      rw [if_neg (fun h => e h.1)]
/-- A row more. -/
theorem RowsUp.more (h : RowsUp w B g m i R D) (hB : B ≤ w.heap.size) {f : Nat → Int} :
    RowsUp ((w.alloc (.cells (rowI m f) 3)).setCell ⟨g, i, none⟩ (.slice (some ⟨w.heap.size, 0, none⟩) m m)) B g m (i + 1) (fun j => if j = i then w.heap.size else R j) (fun a b => if a = i then f b else D a b) := by
  have hg := h.glt
  refine ⟨?_, h.lo, fun k hk => ?_, fun k hk => ?_, fun k l hk hl e => ?_⟩
  · rw [heap_setCell_same _ g i _ _ _ ((Below.heap_alloc w _ g hg).trans h.hd), hdI_set]
  · by_cases e : k = i
    · subst e
      simp only [if_true]
      rw [Below.heap_setCell _ _ _ _ (show w.heap.size ≠ g by omega)]
      exact heap_alloc_new w _
    · simp only [if_neg e]
      have hki : k < i := by omega
      rw [Below.heap_setCell _ _ _ _ (show R k ≠ g from fun e2 => h.ne hki e2.symm), Below.heap_alloc w _ _ (h.rlt hki)]
      exact h.row k hki
  · split
    · exact hB
    · exact h.rlo k (by omega)
  · by_cases e1 : k = i <;> by_cases e2 : l = i
    · omega
    · rw [if_pos e1, if_neg e2] at e
      have := h.rlt (k := l) (by omega)
      omega
    · rw [if_neg e1, if_pos e2] at e
      have := h.rlt (k := k) (by omega)
      omega
    · rw [if_neg e1, if_neg e2] at e
      exact h.inj k l (by omega) (by omega) e
theorem RowsUp.more' (h : RowsUp w B g m i R D) (hB : B ≤ w.heap.size) {f : Nat → Int} :
    RowsUp ((w.setCell ⟨g, i, none⟩ (.slice (some ⟨w.heap.size, 0, none⟩) m m)).alloc (.cells (rowI m f) 3)) B g m (i + 1) (fun j => if j = i then w.heap.size else R j) (fun a b => if a = i then f b else D a b) := by
  have h1 := h.more hB (f := f)
  rw [World.setCell_alloc_past _ _ _ _ h.glt] at h1
  exact h1
theorem RowsUp.congr {E : Mat} (h : RowsUp w B g m i R D) (he : ∀ a b, a < i → b < m → D a b = E a b) : RowsUp w B g m i R E :=
  ⟨h.hd, h.lo, fun k hk => (h.row k hk).trans (by rw [rowI_congr fun c hc => he k c hk hc]), h.rlo, h.inj⟩
theorem RowsUp.drewN (h : RowsUp w B g m i R D) (n : Nat) : RowsUp (w.drewN n) B g m i R D := ⟨h.hd, h.lo, h.row, h.rlo, h.inj⟩
theorem RowsUp.drew (h : RowsUp w B g m i R D) : RowsUp w.drew B g m i R D := ⟨h.hd, h.lo, h.row, h.rlo, h.inj⟩
end

end Go.Proofs.Ytaoonfmcimkmhaa
