/- Three soils made of one; the closure of SaltMore. Condition: bounds. -/
import Derived.Test.YtjkefoijhphknaaSaFine
set_option linter.unusedSimpArgs false
set_option linter.unusedVariables false
namespace Go.Proofs.Ytjkefoijhphknaa
open Go.RowKit Go.IntWalk

def soZ : Array Value := #[.int .i64 0, .int .i64 0, .int .i64 0, .int .i64 0, .int .i64 0, .int .i64 0, .int .i64 0, .int .i64 0, .int .i64 0, .int .i64 0]
def ifS (b : Bool) (x y : Array Value) : Array Value := if b = true then x else y
theorem soA_one (s : So) : (soA s).all (·.oneCell') = true := by simp [soA, Value.oneCell']
structure S3 (s : So) (v : World) (l3 l4 l5 l6 l7 l8 : Bool) (g1 g2 g3 : Nat) (W : World) : Prop where
  b : Below v.heap.size v W
  r1 : l3 = true → v.heap.size ≤ g1 ∧ W.heap[g1]? = some (.cells (ifS l6 (soA s) soZ) 25 (0, 0))
  r2 : l4 = true → v.heap.size ≤ g2 ∧ W.heap[g2]? = some (.cells (ifS l7 (soA s) soZ) 25 (0, 0))
  r3 : l5 = true → v.heap.size ≤ g3 ∧ W.heap[g3]? = some (.cells (ifS l8 (soA s) soZ) 25 (0, 0))
  n12 : l3 = true → l4 = true → g1 ≠ g2
  n13 : l3 = true → l5 = true → g1 ≠ g3
  n23 : l4 = true → l5 = true → g2 ≠ g3
theorem lt_row {W : World} {g : Nat} {o : Obj} (h : W.heap[g]? = some o) : g < W.heap.size := (Array.getElem?_eq_some_iff.1 h).1
section
variable {s : So} {v W : World} {l3 l4 l5 l6 l7 l8 : Bool} {g1 g2 g3 : Nat}
theorem S3.alloc1 (h : S3 s v l3 l4 l5 l6 l7 l8 g1 g2 g3 W) (h6 : l6 = false) : S3 s v true l4 l5 l6 l7 l8 W.heap.size g2 g3 (W.alloc (.cells soZ 25)) := by
  subst h6
  refine ⟨h.b.alloc h.b.size _, fun _ => ⟨h.b.size, heap_alloc_new _ _⟩, fun e => ⟨(h.r2 e).1, (Below.heap_alloc _ _ _ (lt_row (h.r2 e).2)).trans (h.r2 e).2⟩, fun e => ⟨(h.r3 e).1, (Below.heap_alloc _ _ _ (lt_row (h.r3 e).2)).trans (h.r3 e).2⟩, fun _ e => ?_, fun _ e => ?_, h.n23⟩
  · have := lt_row (h.r2 e).2; omega
  · have := lt_row (h.r3 e).2; omega
theorem S3.alloc2 (h : S3 s v l3 l4 l5 l6 l7 l8 g1 g2 g3 W) (h7 : l7 = false) : S3 s v l3 true l5 l6 l7 l8 g1 W.heap.size g3 (W.alloc (.cells soZ 25)) := by
  subst h7
  refine ⟨h.b.alloc h.b.size _, fun e => ⟨(h.r1 e).1, (Below.heap_alloc _ _ _ (lt_row (h.r1 e).2)).trans (h.r1 e).2⟩, fun _ => ⟨h.b.size, heap_alloc_new _ _⟩, fun e => ⟨(h.r3 e).1, (Below.heap_alloc _ _ _ (lt_row (h.r3 e).2)).trans (h.r3 e).2⟩, fun e _ => ?_, h.n13, fun _ e => ?_⟩
  · have := lt_row (h.r1 e).2; omega
  · have := lt_row (h.r3 e).2; omega
theorem S3.alloc3 (h : S3 s v l3 l4 l5 l6 l7 l8 g1 g2 g3 W) (h8 : l8 = false) : S3 s v l3 l4 true l6 l7 l8 g1 g2 W.heap.size (W.alloc (.cells soZ 25)) := by
  subst h8
  refine ⟨h.b.alloc h.b.size _, fun e => ⟨(h.r1 e).1, (Below.heap_alloc _ _ _ (lt_row (h.r1 e).2)).trans (h.r1 e).2⟩, fun e => ⟨(h.r2 e).1, (Below.heap_alloc _ _ _ (lt_row (h.r2 e).2)).trans (h.r2 e).2⟩, fun _ => ⟨h.b.size, heap_alloc_new _ _⟩, h.n12, fun e _ => ?_, fun e _ => ?_⟩
  · have := lt_row (h.r1 e).2; omega
  · have := lt_row (h.r2 e).2; omega
theorem S3.store1 (h : S3 s v l3 l4 l5 l6 l7 l8 g1 g2 g3 W) (h3 : l3 = true) : S3 s v l3 l4 l5 true l7 l8 g1 g2 g3 (W.setRow g1 (soA s)) :=
  ⟨Below.setRow h.b (h.r1 h3).1 _, fun e => ⟨(h.r1 e).1, setRow_heap _ _ _ _ _ _ (h.r1 e).2⟩, fun e => ⟨(h.r2 e).1, (setRow_other _ _ _ _ (fun e2 => h.n12 h3 e e2.symm)).trans (h.r2 e).2⟩, fun e => ⟨(h.r3 e).1, (setRow_other _ _ _ _ (fun e2 => h.n13 h3 e e2.symm)).trans (h.r3 e).2⟩, h.n12, h.n13, h.n23⟩
theorem S3.store2 (h : S3 s v l3 l4 l5 l6 l7 l8 g1 g2 g3 W) (h4 : l4 = true) : S3 s v l3 l4 l5 l6 true l8 g1 g2 g3 (W.setRow g2 (soA s)) :=
  ⟨Below.setRow h.b (h.r2 h4).1 _, fun e => ⟨(h.r1 e).1, (setRow_other _ _ _ _ (fun e2 => h.n12 e h4 e2)).trans (h.r1 e).2⟩, fun e => ⟨(h.r2 e).1, setRow_heap _ _ _ _ _ _ (h.r2 e).2⟩, fun e => ⟨(h.r3 e).1, (setRow_other _ _ _ _ (fun e2 => h.n23 h4 e e2.symm)).trans (h.r3 e).2⟩, h.n12, h.n13, h.n23⟩
theorem S3.store3 (h : S3 s v l3 l4 l5 l6 l7 l8 g1 g2 g3 W) (h5 : l5 = true) : S3 s v l3 l4 l5 l6 l7 true g1 g2 g3 (W.setRow g3 (soA s)) :=
  ⟨Below.setRow h.b (h.r3 h5).1 _, fun e => ⟨(h.r1 e).1, (setRow_other _ _ _ _ (fun e2 => h.n13 e h5 e2)).trans (h.r1 e).2⟩, fun e => ⟨(h.r2 e).1, (setRow_other _ _ _ _ (fun e2 => h.n23 e h5 e2)).trans (h.r2 e).2⟩, fun e => ⟨(h.r3 e).1, setRow_heap _ _ _ _ _ _ (h.r3 e).2⟩, h.n12, h.n13, h.n23⟩
end

/-- One old block is written while the rest only grows. -/
structure S1 (v : World) (base X : Nat) (row : Array Value) (W : World) : Prop where
  z : v.heap.size ≤ W.heap.size
  k : ∀ b, b < v.heap.size → b ≠ X → W.heap[b]? = v.heap[b]?
  r : W.heap[X]? = some (.cells row 25 (0, 0))
  b : Below base v W
theorem S1.below {v W W' : World} {base X : Nat} {row : Array Value} (h : S1 v base X row W) (hX : X < v.heap.size) (hB : base ≤ v.heap.size) (hb : Below W.heap.size W W') : S1 v base X row W' :=
  ⟨Nat.le_trans h.z hb.size, fun b hlt hne => (hb.block b (Nat.lt_of_lt_of_le hlt h.z)).trans (h.k b hlt hne), (hb.block X (Nat.lt_of_lt_of_le hX h.z)).trans h.r, h.b.trans (hb.mono (Nat.le_trans hB h.z))⟩
theorem S1.set {v W : World} {base X i : Nat} {row : Array Value} {u : Value} (h : S1 v base X row W) (hbX : base ≤ X) : S1 v base X (row.setIfInBounds i u) (W.setCell ⟨X, i, none⟩ u) :=
  ⟨by simp; exact h.z, fun b hlt hne => (Below.heap_setCell _ _ _ _ hne).trans (h.k b hlt hne), heap_setCell_same W X i _ _ u h.r, Below.setCell h.b hbX _⟩

/-- The saltier soil, the soil that is washed more, the one that is known better, while they are made. -/
def sltB (s : So) (k0 k1 : Int) (a b : Bool) : So := { s with saL := if a = true then s.saL + k0 else s.saL, saH := if a = true then s.saH + k0 else s.saH, riL := if b = true then s.riL + k1 else s.riL, riH := if b = true then s.riH + k1 else s.riH }
def wasB (s : So) (k2 : Int) (a : Bool) : So := { s with waL := if a = true then s.waL + k2 else s.waL, waH := if a = true then s.waH + k2 else s.waH }
def knoB (s : So) (p3 p4 : Int) (a b : Bool) : So := { s with saL := if a = true then p3 else s.saL, miH := if b = true then p4 else s.miH }
theorem slt_ff (s : So) (k0 k1 : Int) : sltB s k0 k1 false false = s := by cases s; simp [sltB]
theorem was_f (s : So) (k2 : Int) : wasB s k2 false = s := by cases s; simp [wasB]
theorem kno_ff (s : So) (p3 p4 : Int) : knoB s p3 p4 false false = s := by cases s; simp [knoB]
theorem slt_a (s : So) (k0 k1 : Int) (b : Bool) : ((soA (sltB s k0 k1 false b)).setIfInBounds 0 (.int .i64 (s.saL + k0))).setIfInBounds 1 (.int .i64 (s.saH + k0)) = soA (sltB s k0 k1 true b) := by cases b <;> rfl
theorem slt_b (s : So) (k0 k1 : Int) (a : Bool) : ((soA (sltB s k0 k1 a false)).setIfInBounds 8 (.int .i64 (s.riL + k1))).setIfInBounds 9 (.int .i64 (s.riH + k1)) = soA (sltB s k0 k1 a true) := by cases a <;> rfl
theorem was_a (s : So) (k2 : Int) : ((soA (wasB s k2 false)).setIfInBounds 6 (.int .i64 (s.waL + k2))).setIfInBounds 7 (.int .i64 (s.waH + k2)) = soA (wasB s k2 true) := rfl
theorem kno_a (s : So) (p3 p4 : Int) (b : Bool) : (soA (knoB s p3 p4 false b)).setIfInBounds 0 (.int .i64 p3) = soA (knoB s p3 p4 true b) := by cases b <;> rfl
theorem kno_b (s : So) (p3 p4 : Int) (a : Bool) : (soA (knoB s p3 p4 a false)).setIfInBounds 5 (.int .i64 p4) = soA (knoB s p3 p4 a true) := by cases a <;> rfl

theorem at_anyM (l : List U32) (i : Nat) (A : Option Addr) (c : Nat) (w : World) (r : Rd w w.heap.size A uV 1 l) (hl : l.length ≤ 9223372036854775807) (hi : i ≤ 1000000000) :
    Calls Try.prog 36 #[.slice A l.length c, .int .i64 (i : Int)] w fun e w' => e = .returned (.int .u32 (atI l i)) ∧ Below w.heap.size w w' :=
  (at_any l i A c w r hl hi).mono fun e w' ⟨h1, h2⟩ => ⟨h1, by rw [← h2]; exact Below.refl _ _⟩
theorem aftS_getM (s : So) (wl wh : Int) {n k : Nat} (h : k < n) : (aftS s wl wh n)[k]'(by simpa using h) = saS (itS s wl wh (k + 1)) := by
  unfold aftS
  simp
theorem after2 (S : So) (wl wh : Int) (ok : soOk S = true) (h2 : so1 wl wh 1000000000 = true) (W : World) :
    Calls Try.prog 12 #[.agg (soA S), .agg #[.int .i64 wl, .int .i64 wh], .int .i64 2] W fun e w' => (∃ A c, e = .returned (.tuple #[.slice A 2 c, .int .i64 0]) ∧ Rd w' w'.heap.size A spV 2 (aftS S wl wh 2)) ∧ Below W.heap.size W w' := by
  have h := After_any S wl wh 2 W
  have hsa : saAfter S wl wh 2 = (aftS S wl wh 2, 0) := by
    have h3 : (so1 wl wh 1000000000 && soIn 2 0 100) = true := by rw [h2]; rfl
    unfold saAfter
    rw [if_neg (by rw [ok]; simp), if_neg (by rw [h3]; simp)]
    rfl
  unfold AfterPost at h
  rw [hsa] at h
  simp only [aftS_length] at h
  exact h
/-- How far a span is moved up. -/
def upI (hi most n : Int) : Int := n % (most - hi + 1)
theorem upI_in {hi most n : Int} (h : hi ≤ most) : 0 ≤ upI hi most n ∧ hi + upI hi most n ≤ most := by
  have h1 := Int.emod_nonneg n (show most - hi + 1 ≠ 0 by omega)
  have h2 := Int.emod_lt_of_pos n (show 0 < most - hi + 1 by omega)
  unfold upI
  omega
set_option maxRecDepth 100000 in
set_option maxHeartbeats 2000000 in
theorem up_any (lo hi most n : Int) (w : World) (h0 : 0 ≤ lo) (h1 : lo ≤ hi) (h2 : hi ≤ most) (h3 : most ≤ 1000000000) (n0 : 0 ≤ n) (n1 : n ≤ 4294967295) :
    Calls Try.prog 39 #[.agg #[.int .i64 lo, .int .i64 hi], .int .i64 most, .int .u32 n] w fun e w' => e = .returned (.agg #[.int .i64 (lo + upI hi most n), .int .i64 (hi + upI hi most n)]) ∧ Below w.heap.size w w' := by
  have hp := upI_in (n := n) h2
  have ht : Int.tmod n (most - hi + 1) = n % (most - hi + 1) := Int.tmod_eq_emod_of_nonneg n0
  have hx : upI hi most n = n % (most - hi + 1) := rfl
  have hnz : ¬ most - hi + 1 = 0 := by omega
  rw [← hx] at ht
  clear hx
  generalize upI hi most n = r at *
  have w1 : IntKind.i64.wrap (most - hi + 1) = most - hi + 1 := IntWalk.i64_in _ (by omega)
  have SP := Lib.hid span_any
  go_enter Try.func39, Try.ntmps39
  go_upto_region 2 with (fail)
  obtain ⟨R, hR⟩ : ∃ R, w.heap.size + 1 = R := ⟨_, rfl⟩
  obtain ⟨B, hB⟩ : ∃ B, w.heap.size = B := ⟨_, rfl⟩
  obtain ⟨w5, hw5⟩ : ∃ w5, (w.alloc (Obj.cells #[.int .i64 lo, .int .i64 hi] 23)).alloc (Obj.cells #[.int .i64 0, .int .i64 0] 23) = w5 := ⟨_, rfl⟩
  have z5 : w5.heap[R]? = some (.cells #[.int .i64 0, .int .i64 0] 23 (0, 0)) := by rw [← hw5, ← hR]; exact heap_alloc2_new _ _ _
  have y5 : w5.heap[B]? = some (.cells #[.int .i64 lo, .int .i64 hi] 23 (0, 0)) := by rw [← hw5, ← hB]; exact (Below.heap_alloc _ _ _ (by simp)).trans (heap_alloc_new _ _)
  have b5 : Below w.heap.size w w5 := by rw [← hw5]; (repeat' (first | (with_reducible exact Below.refl _ _) | (with_reducible refine Below.alloc ?_ ?_ _) | (with_reducible refine Below.drew ?_) | (with_reducible refine Below.drewN_ ?_ _) | (with_reducible refine Below.setCell ?_ ?_ _) | (with_reducible refine Below.setRow ?_ ?_ _) | (with_reducible refine Below.via ?_ (by with_reducible assumption) ?_) | go_size))
  have hRB : w.heap.size ≤ R := by omega
  rw [hw5, hR, hB]
  have BB := Lib.hid b5
  have Z5 := Lib.hid z5
  have c0 := cell_of_row w5 B 0 _ _ _ y5
  have c1 := cell_of_row w5 B 1 _ _ _ y5
  simp only [List.getElem?_toArray, List.getElem?_cons_zero, List.getElem?_cons_succ] at c0 c1
  clear hw5 hR hB z5 y5 b5
  go_wp2_with (first | (go_at_call 38; refine (SP.out _ _ _).mono ?_; rintro e w6 ⟨rfl, hb⟩) | (refine wpList_store_row rfl 23 (.tmp 6) (.tmp 24) rfl R #[.int .i64 (lo + r), .int .i64 (hi + r)] rfl rfl 23 #[.int .i64 0, .int .i64 0] (row_keep Z5.out hb) infoSpan rfl (by simp [Value.oneCell']) ?_))
  have row : (w6.setRow R #[.int .i64 (lo + r), .int .i64 (hi + r)]).heap[R]? = some (.cells #[.int .i64 (lo + r), .int .i64 (hi + r)] 23 (0, 0)) := setRow_heap _ _ _ _ _ _ (row_keep Z5.out hb)
  refine bodyPost_ret (results_cell_row Try.results39 _ _ R 23 #[.int .i64 (lo + r), .int .i64 (hi + r)] (0, 0) _ rfl row Try.underlying23 rfl infoSpan) rfl ?_
  exact ⟨rfl, Below.setRow (below_keep BB.out BB.out.size hb) hRB _⟩
end Go.Proofs.Ytjkefoijhphknaa
