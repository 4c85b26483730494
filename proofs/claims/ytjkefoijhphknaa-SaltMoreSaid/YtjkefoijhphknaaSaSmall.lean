/- The small functions of salt and of its reference, each by its contract. No condition. -/
import Derived.Test.YtjkefoijhphknaaRows
import Derived.Test.YtjkefoijhphknaaWords
import Derived.Test.YtjkefoijhphknaaSaMath
import Derived.Laws.EntriesVeiled
namespace Go.Proofs.Ytjkefoijhphknaa
open Go.RowKit

set_option maxHeartbeats 400000 in
theorem between_any (n lo hi : Int) (w : World) :
    Calls Try.prog 44 #[.int .i64 n, .int .i64 lo, .int .i64 hi] w fun e w' => e = .returned (.bool (soIn n lo hi)) ∧ w = w' := by
  by_cases h : lo ≤ n
  all_goals
    go_enter Try.func44, Try.ntmps44
    go_wp2
    go_ret
    simp [soIn]
    try omega

set_option maxHeartbeats 400000 in
theorem within_any (lo hi most : Int) (w : World) :
    Calls Try.prog 43 #[.agg #[.int .i64 lo, .int .i64 hi], .int .i64 most] w fun e w' => e = .returned (.bool (so1 lo hi most)) ∧ Below w.heap.size w w' := by
  cases h1 : soIn lo 0 hi
  all_goals
    go_enter Try.func43, Try.ntmps43
    go_wp2_with (go_at_call 44; refine (between_any _ _ _ _).mono ?_; rintro e w' ⟨rfl, rfl⟩)
    go_ret
    refine ⟨?_, by (repeat' (first | (with_reducible exact Below.refl _ _) | (with_reducible refine Below.alloc ?_ ?_ _) | (with_reducible refine Below.drew ?_) | (with_reducible refine Below.drewN_ ?_ _) | (with_reducible refine Below.setCell ?_ ?_ _) | (with_reducible refine Below.setRow ?_ ?_ _) | (with_reducible refine Below.via ?_ (by with_reducible assumption) ?_) | go_size))⟩
    simp [soIn] at h1
    simp [so1]
    try omega

set_option maxHeartbeats 400000 in
theorem lo_any (lo hi : Int) (w : World) :
    Calls Try.prog 113 #[.agg #[.int .i64 lo, .int .i64 hi]] w fun e w' => e = .returned (.int .i64 lo) ∧ Below w.heap.size w w' := by
  go_enter Try.func113, Try.ntmps113
  go_wp2
  go_ret
  exact ⟨rfl, by (repeat' (first | (with_reducible exact Below.refl _ _) | (with_reducible refine Below.alloc ?_ ?_ _) | (with_reducible refine Below.drew ?_) | (with_reducible refine Below.drewN_ ?_ _) | (with_reducible refine Below.setCell ?_ ?_ _) | (with_reducible refine Below.setRow ?_ ?_ _) | (with_reducible refine Below.via ?_ (by with_reducible assumption) ?_) | go_size))⟩
set_option maxHeartbeats 400000 in
theorem hi_any (lo hi : Int) (w : World) :
    Calls Try.prog 114 #[.agg #[.int .i64 lo, .int .i64 hi]] w fun e w' => e = .returned (.int .i64 hi) ∧ Below w.heap.size w w' := by
  go_enter Try.func114, Try.ntmps114
  go_wp2
  go_ret
  exact ⟨rfl, by (repeat' (first | (with_reducible exact Below.refl _ _) | (with_reducible refine Below.alloc ?_ ?_ _) | (with_reducible refine Below.drew ?_) | (with_reducible refine Below.drewN_ ?_ _) | (with_reducible refine Below.setCell ?_ ?_ _) | (with_reducible refine Below.setRow ?_ ?_ _) | (with_reducible refine Below.via ?_ (by with_reducible assumption) ?_) | go_size))⟩
set_option maxHeartbeats 400000 in
theorem min_any (a b : Int) (w : World) :
    Calls Try.prog 115 #[.int .i64 a, .int .i64 b] w fun e w' => e = .returned (.int .i64 (min a b)) ∧ w = w' := by
  by_cases h : a ≤ b
  all_goals
    go_enter Try.func115, Try.ntmps115
    go_wp2
    all_goals go_ret
    all_goals (simp; try omega)
set_option maxHeartbeats 400000 in
theorem max_any (a b : Int) (w : World) :
    Calls Try.prog 117 #[.int .i64 a, .int .i64 b] w fun e w' => e = .returned (.int .i64 (max a b)) ∧ w = w' := by
  by_cases h : a ≤ b
  all_goals
    go_enter Try.func117, Try.ntmps117
    go_wp2
    all_goals go_ret
    all_goals (simp; try omega)
set_option maxHeartbeats 400000 in
theorem sdown_any (a : Int) (w : World) (h : 0 ≤ a) (h2 : a ≤ 1000000000000000000) :
    Calls Try.prog 116 #[.int .i64 a] w fun e w' => e = .returned (.int .i64 (a / 1000)) ∧ w = w' := by
  go_enter Try.func116, Try.ntmps116
  go_wp2
  go_ret
  first | exact ⟨rfl, rfl⟩ | exact ⟨by rw [Int.tdiv_eq_ediv_of_nonneg h], rfl⟩
set_option maxHeartbeats 400000 in
theorem sup_any (a : Int) (w : World) (h : 0 ≤ a) (h2 : a ≤ 1000000000000000000) :
    Calls Try.prog 118 #[.int .i64 a] w fun e w' => e = .returned (.int .i64 ((a + 999) / 1000)) ∧ w = w' := by
  go_enter Try.func118, Try.ntmps118
  go_wp2
  go_ret
  exact ⟨by simp; omega, rfl⟩
theorem heap_set4 {w : World} {g : Nat} {x y z u a b c d : Value} {t : TypeId} (h : w.heap[g]? = some (.cells #[x, y, z, u] t (0, 0))) :
    ((((w.setCell ⟨g, 0, none⟩ a).setCell ⟨g, 1, none⟩ b).setCell ⟨g, 2, none⟩ c).setCell ⟨g, 3, none⟩ d).heap[g]? = some (.cells #[a, b, c, d] t (0, 0)) := by
  rw [heap_setCell_same _ g 3 _ _ d (heap_setCell_same _ g 2 _ _ c (heap_setCell_same _ g 1 _ _ b (heap_setCell_same w g 0 _ _ a h)))]
  rfl
theorem heap_set2 {w : World} {g : Nat} {x y a b : Value} {t : TypeId} (h : w.heap[g]? = some (.cells #[x, y] t (0, 0))) :
    ((w.setCell ⟨g, 0, none⟩ a).setCell ⟨g, 1, none⟩ b).heap[g]? = some (.cells #[a, b] t (0, 0)) := by
  rw [heap_setCell_same _ g 1 _ _ b (heap_setCell_same w g 0 _ _ a h)]
  rfl
theorem infoEnd : (Try.prog.info? 137).map (·.size) = some 4 := by kernel_rfl
theorem infoSpan : (Try.prog.info? 23).map (·.size) = some 2 := by kernel_rfl
set_option maxHeartbeats 400000 in
theorem lowest_any (w : World) :
    Calls Try.prog 74 #[] w fun e w' => e = .returned (.agg #[.func (.func 113) #[] #[], .func (.func 114) #[] #[], .func (.func 115) #[] #[], .func (.func 116) #[] #[]]) ∧ Below w.heap.size w w' := by
  go_enter Try.func74, Try.ntmps74
  go_wp2
  refine bodyPost_ret (results_cell_row Try.results74 _ _ w.heap.size 137 #[.func (.func 113) #[] #[], .func (.func 114) #[] #[], .func (.func 115) #[] #[], .func (.func 116) #[] #[]] (0, 0) _ rfl (heap_alloc_new _ _) Try.underlying137 rfl infoEnd) rfl ⟨rfl, Below.alloc (Below.refl _ _) (Nat.le_refl _) _⟩
set_option maxHeartbeats 400000 in
theorem highest_any (w : World) :
    Calls Try.prog 75 #[] w fun e w' => e = .returned (.agg #[.func (.func 114) #[] #[], .func (.func 113) #[] #[], .func (.func 117) #[] #[], .func (.func 118) #[] #[]]) ∧ Below w.heap.size w w' := by
  go_enter Try.func75, Try.ntmps75
  go_wp2
  refine bodyPost_ret (results_cell_row Try.results75 _ _ w.heap.size 137 #[.func (.func 114) #[] #[], .func (.func 113) #[] #[], .func (.func 117) #[] #[], .func (.func 118) #[] #[]] (0, 0) _ rfl (heap_alloc_new _ _) Try.underlying137 rfl infoEnd) rfl ⟨rfl, Below.alloc (Below.refl _ _) (Nat.le_refl _) _⟩
set_option maxHeartbeats 400000 in
theorem r2within_any (n lo hi : Int) (w : World) :
    Calls Try.prog 71 #[.int .i64 n, .int .i64 lo, .int .i64 hi] w fun e w' => e = .returned (.bool (soIn n lo hi)) ∧ w = w' := by
  by_cases h : lo ≤ n
  all_goals
    go_enter Try.func71, Try.ntmps71
    go_wp2
    go_ret
    simp [soIn]
    try omega
set_option maxHeartbeats 400000 in
theorem r6within_any (n lo hi : Int) (w : World) :
    Calls Try.prog 46 #[.int .i64 n, .int .i64 lo, .int .i64 hi] w fun e w' => e = .returned (.bool (soIn n lo hi)) ∧ w = w' := by
  by_cases h : lo ≤ n
  all_goals
    go_enter Try.func46, Try.ntmps46
    go_wp2
    go_ret
    simp [soIn]
    try omega
set_option maxHeartbeats 400000 in
theorem spanned_any (lo hi most : Int) (w : World) :
    Calls Try.prog 34 #[.agg #[.int .i64 lo, .int .i64 hi], .int .i64 0, .int .i64 most] w fun e w' => e = .returned (.bool (so1 lo hi most)) ∧ Below w.heap.size w w' := by
  cases h1 : soIn lo 0 hi
  all_goals
    go_enter Try.func34, Try.ntmps34
    go_wp2_with (go_at_call 71; refine (r2within_any _ _ _ _).mono ?_; rintro e w' ⟨rfl, rfl⟩)
    go_ret
    refine ⟨?_, by (repeat' (first | (with_reducible exact Below.refl _ _) | (with_reducible refine Below.alloc ?_ ?_ _) | (with_reducible refine Below.drew ?_) | (with_reducible refine Below.drewN_ ?_ _) | (with_reducible refine Below.setCell ?_ ?_ _) | (with_reducible refine Below.setRow ?_ ?_ _) | (with_reducible refine Below.via ?_ (by with_reducible assumption) ?_) | go_size))⟩
    simp [soIn] at h1
    simp [so1]
    try omega
end Go.Proofs.Ytjkefoijhphknaa
