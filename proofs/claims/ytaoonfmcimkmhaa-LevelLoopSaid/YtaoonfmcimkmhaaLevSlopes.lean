/- level.above and level.slopes of two lengths. -/
import Derived.Test.YtaoonfmcimkmhaaLevSlp
import Derived.Deep.QuietTactic
namespace Go.Proofs.Ytaoonfmcimkmhaa
open Go.RowKit

def aboveB (lo hi : Int) : Int := if 0 < lo then 2 else if hi ≤ 0 then 0 else 1

theorem above_any (lo hi : Int) (w : World) :
    Calls Try.prog 67 #[.agg #[.int .i64 lo, .int .i64 hi]] w fun e w' => e = .returned (.int .u8 (aboveB lo hi)) ∧ Below w.heap.size w w' := by
  by_cases h1 : 0 < lo <;> by_cases h2 : hi ≤ 0
  all_goals
    go_enter Try.func67, Try.ntmps67
    go_wp2
    go_ret
    refine ⟨?_, by go_grown⟩
    first | (rw [show aboveB lo hi = 2 from by unfold aboveB; rw [if_pos (by omega)]]) | (rw [show aboveB lo hi = 0 from by unfold aboveB; rw [if_neg (by omega), if_pos (by omega)]]) | (rw [show aboveB lo hi = 1 from by unfold aboveB; rw [if_neg (by omega), if_neg (by omega)]])
    rfl

theorem absRounds {P : Program} {c : Code} {Q : Exit → Act → World → Prop} {n : Nat} {a : Act} {W0 : World} (F : World → Prop) (h0 : F W0) (h : ∀ W, F W → Code.rounds P c Q n a W) : Code.rounds P c Q n a W0 := h W0 h0

theorem heap_alloc3 (w : World) (x y z : Obj) : ((w.alloc x).alloc y |>.alloc z).heap[w.heap.size]? = some x ∧ ((w.alloc x).alloc y |>.alloc z).heap[w.heap.size + 1]? = some y ∧ ((w.alloc x).alloc y |>.alloc z).heap[w.heap.size + 1 + 1]? = some z ∧
    ((w.alloc x).alloc y |>.alloc z).heap.size = w.heap.size + 3 ∧ Below w.heap.size w ((w.alloc x).alloc y |>.alloc z) := by
  refine ⟨?_, ?_, ?_, ?_, by (repeat' (first | (with_reducible exact Below.refl _ _) | (with_reducible refine Below.alloc ?_ ?_ _) | (with_reducible refine Below.drew ?_) | (with_reducible refine Below.drewN_ ?_ _) | (with_reducible refine Below.setCell ?_ ?_ _) | (with_reducible refine Below.setRow ?_ ?_ _) | (with_reducible refine Below.via ?_ (by with_reducible assumption) ?_) | go_size))⟩
  · show (((w.heap.push x).push y).push z)[_]? = _
    rw [Array.getElem?_push, if_neg (by simp; omega), Array.getElem?_push, if_neg (by simp), Array.getElem?_push, if_pos rfl]
  · show (((w.heap.push x).push y).push z)[_]? = _
    rw [Array.getElem?_push, if_neg (by simp), Array.getElem?_push, if_pos (by simp)]
  · show (((w.heap.push x).push y).push z)[_]? = _
    rw [Array.getElem?_push, if_pos (by simp)]
  · show (((w.heap.push x).push y).push z).size = _
    simp

def SlpW (w : World) (lo hi x y : Int) (W : World) : Prop :=
  Below w.heap.size w W ∧ w.heap.size + 1 + 1 < W.heap.size ∧
  W.heap[w.heap.size]? = some (.cells #[.int .i64 lo, .int .i64 hi] 36 (0, 0)) ∧ W.heap[w.heap.size + 1]? = some (.cells #[.int .i64 0, .int .i64 0] 36 (0, 0)) ∧
  W.heap[w.heap.size + 1 + 1]? = some (.cells #[.int .i64 x, .int .i64 y] 36 (0, 0))

theorem slpW_of {w T W : World} {lo hi x y : Int} (hb : Below w.heap.size w T) (hz : w.heap.size + 1 + 1 < T.heap.size)
    (h0 : T.heap[w.heap.size]? = some (.cells #[.int .i64 lo, .int .i64 hi] 36 (0, 0))) (h1 : T.heap[w.heap.size + 1]? = some (.cells #[.int .i64 0, .int .i64 0] 36 (0, 0)))
    (h2 : W.heap[w.heap.size + 1 + 1]? = some (.cells #[.int .i64 x, .int .i64 y] 36 (0, 0))) (hB : Below (w.heap.size + 1 + 1) T W) : SlpW w lo hi x y W :=
  ⟨hb.trans (hB.mono (by omega)), Nat.lt_of_lt_of_le hz hB.size, (hB.block _ (by omega)).trans h0, (hB.block _ (by omega)).trans h1, h2⟩

set_option maxHeartbeats 1000000 in
theorem slopes_any (lo hi l0 l1 : Int) (g : Nat) (c : Nat) (w : World) (hg : w.heap[g]? = some (.cells #[.int .i64 l0, .int .i64 l1] 3 (0, 0)))
    (a1 : 1 ≤ l0) (a2 : l0 ≤ 100000000) (b1 : 1 ≤ l1) (b2 : l1 ≤ 100000000) (c1 : -300000000000000 ≤ lo) (c2 : lo ≤ 300000000000000) (d1 : -300000000000000 ≤ hi) (d2 : hi ≤ 300000000000000) :
    Calls Try.prog 64 #[.agg #[.int .i64 lo, .int .i64 hi], .slice (some ⟨g, 0, none⟩) 2 c] w fun e w' => e = .returned (.agg #[.int .i64 (slp lo hi l0 l1).1, .int .i64 (slp lo hi l0 l1).2]) ∧ Below w.heap.size w w' := by
  have hl : g < w.heap.size := (Array.getElem?_eq_some_iff.1 hg).1
  have k0 := cell_of_row w g 0 _ _ _ hg
  have k1 := cell_of_row w g 1 _ _ _ hg
  simp at k0 k1
  have hl1 : g < w.heap.size + 1 := by omega
  have hl2 : g < w.heap.size + 1 + 1 := by omega
  have hl3 : g < w.heap.size + 1 + 1 + 1 := by omega
  clear hg
  obtain ⟨m1, m2⟩ := ediv_bd (lo * 1000) l0 a1 (by omega) (by omega)
  obtain ⟨m3, m4⟩ := ediv_bd (lo * 1000) l1 b1 (by omega) (by omega)
  obtain ⟨m5, m6⟩ := ediv_bd (-hi * 1000) l0 a1 (by omega) (by omega)
  obtain ⟨m7, m8⟩ := ediv_bd (-hi * 1000) l1 b1 (by omega) (by omega)
  go_enter Try.func64, Try.ntmps64
  go_wp2
  refine wp_loop_rounds 3 ?_
  rw [rounds_succ]
  go_wp2
  go_quiet (first | (go_at_call 74; refine Calls.quiet_of_same ((roundDown_any _ _ _ (by omega) (by omega) (by omega) (by omega)).mono (fun _ _ h => ⟨h.1, h.2.symm⟩))))
  go_wp2
  refine absRounds (SlpW w lo hi (lo * 1000 / l0) (-(-hi * 1000 / l0))) ?_ ?_
  · have t0 := heap_alloc3 w (Obj.cells #[Value.int IntKind.i64 lo, Value.int IntKind.i64 hi] 36) (Obj.cells #[Value.int IntKind.i64 0, Value.int IntKind.i64 0] 36) (Obj.cells #[Value.int IntKind.i64 0, Value.int IntKind.i64 0] 36)
    generalize hT : ((w.alloc (Obj.cells #[Value.int IntKind.i64 lo, Value.int IntKind.i64 hi] 36)).alloc (Obj.cells #[Value.int IntKind.i64 0, Value.int IntKind.i64 0] 36)).alloc (Obj.cells #[Value.int IntKind.i64 0, Value.int IntKind.i64 0] 36) = T at *
    obtain ⟨t0, t1, t2, t3, t4⟩ := t0
    refine slpW_of (T := T.drewN nq) (Below.drewN_ t4 nq) ?_ t0 t1 ?_ ?_
    · show w.heap.size + 1 + 1 < T.heap.size; omega
    · exact heap_set2 (heap_set2 t2)
    · (repeat' (first | (with_reducible exact Below.refl _ _) | (with_reducible refine Below.alloc ?_ ?_ _) | (with_reducible refine Below.drew ?_) | (with_reducible refine Below.drewN_ ?_ _) | (with_reducible refine Below.setCell ?_ ?_ _) | (with_reducible refine Below.setRow ?_ ?_ _) | (with_reducible refine Below.via ?_ (by with_reducible assumption) ?_) | go_size))
  · clear nq
    rintro W ⟨hb, hz, hr0, hr1, hr2⟩
    have q1 := (hb.cell (p := ⟨g, 1, none⟩) hl).trans k1
    have c0 := cell_of_row W w.heap.size 0 _ _ _ hr0
    have c1 := cell_of_row W w.heap.size 1 _ _ _ hr0
    have d0 := cell_of_row W (w.heap.size + 1) 0 _ _ _ hr1
    have d1 := cell_of_row W (w.heap.size + 1) 1 _ _ _ hr1
    have e0 := cell_of_row W (w.heap.size + 1 + 1) 0 _ _ _ hr2
    have e1 := cell_of_row W (w.heap.size + 1 + 1) 1 _ _ _ hr2
    have f1 := frozen_of_row W (w.heap.size + 1) 0 _ _ hr1
    have f2 := frozen_of_row W (w.heap.size + 1) 1 _ _ hr1
    have f3 := frozen_of_row W (w.heap.size + 1 + 1) 0 _ _ hr2
    have f4 := frozen_of_row W (w.heap.size + 1 + 1) 1 _ _ hr2
    simp at c0 c1 d0 d1 e0 e1
    have n1 : w.heap.size < W.heap.size := by omega
    have n2 : w.heap.size + 1 < W.heap.size := by omega
    have n3 : w.heap.size + 1 + 1 < W.heap.size := by omega
    have HZ := Lib.hid hz
    have H0 := Lib.hid hr0
    have H1 := Lib.hid hr1
    have H2 := Lib.hid hr2
    have HB := Lib.hid hb
    clear hz hr0 hr1 hr2 hb k0 k1
    rw [rounds_succ]
    go_wp2
    go_quiet (first | (go_at_call 74; refine Calls.quiet_of_same ((roundDown_any _ _ _ (by omega) (by omega) (by omega) (by omega)).mono (fun _ _ h => ⟨h.1, h.2.symm⟩))))
    go_wp2
    all_goals
      refine absRounds (SlpW w lo hi (slp lo hi l0 l1).1 (slp lo hi l0 l1).2) ?_ ?_
    any_goals
      refine slpW_of (T := W.drewN nq) (Below.drewN_ HB.out nq) n3 H0.out H1.out ?_ (by (repeat' (first | (with_reducible exact Below.refl _ _) | (with_reducible refine Below.alloc ?_ ?_ _) | (with_reducible refine Below.drew ?_) | (with_reducible refine Below.drewN_ ?_ _) | (with_reducible refine Below.setCell ?_ ?_ _) | (with_reducible refine Below.setRow ?_ ?_ _) | (with_reducible refine Below.via ?_ (by with_reducible assumption) ?_) | go_size)))
      refine (heap_set2 H2.out).trans ?_
      unfold slp
      congr 3
      simp only [List.cons.injEq, Value.int.injEq, and_true, true_and]
      constructor <;> omega
    all_goals
      clear nq
      clear q1 c0 c1 d0 d1 e0 e1 f1 f2 f3 f4 n1 n2 n3 HZ H0 H1 H2 HB
      clear W
      rintro W ⟨hb, hz, hr0, hr1, hr2⟩
      have d0 := cell_of_row W (w.heap.size + 1) 0 _ _ _ hr1
      have d1 := cell_of_row W (w.heap.size + 1) 1 _ _ _ hr1
      have e0 := cell_of_row W (w.heap.size + 1 + 1) 0 _ _ _ hr2
      have e1 := cell_of_row W (w.heap.size + 1 + 1) 1 _ _ _ hr2
      have f1 := frozen_of_row W (w.heap.size + 1) 0 _ _ hr1
      have f2 := frozen_of_row W (w.heap.size + 1) 1 _ _ hr1
      simp at d0 d1 e0 e1
      have n2 : w.heap.size + 1 < W.heap.size := by omega
      have HB := Lib.hid hb
      have H1 := Lib.hid hr1
      clear hz hr0 hr1 hr2 hb
      rw [rounds_succ]
      go_wp2
      refine bodyPost_ret (results_cell_row Try.results64 _ _ (w.heap.size + 1) 36 #[.int .i64 (slp lo hi l0 l1).1, .int .i64 (slp lo hi l0 l1).2] (0, 0) _ rfl (heap_set2 H1.out) Try.underlying36 rfl info36') rfl ?_
      refine ⟨rfl, ?_⟩
      replace HB := HB.out
      (repeat' (first | (with_reducible exact Below.refl _ _) | (with_reducible refine Below.alloc ?_ ?_ _) | (with_reducible refine Below.drew ?_) | (with_reducible refine Below.drewN_ ?_ _) | (with_reducible refine Below.setCell ?_ ?_ _) | (with_reducible refine Below.setRow ?_ ?_ _) | (with_reducible refine Below.via ?_ (by with_reducible assumption) ?_) | go_size))

end Go.Proofs.Ytaoonfmcimkmhaa
