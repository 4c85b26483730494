/- Soils: Check of both, and what the salt is with some water, at both ends; the reference's least and most. Condition: numbers within bounds. -/
import Derived.Test.YtjkefoijhphknaaSaSmall
import Derived.Test.YtjkefoijhphknaaCalm
import Derived.Deep.QuietTactic
namespace Go.Proofs.Ytjkefoijhphknaa
open Go.RowKit

set_option maxHeartbeats 1000000 in
theorem isSoil_any (s : So) (w : World) :
    Calls Try.prog 50 #[.agg #[.int .i64 s.saL, .int .i64 s.saH, .int .i64 s.lim, .int .i64 s.crop, .int .i64 s.miL, .int .i64 s.miH, .int .i64 s.waL, .int .i64 s.waH, .int .i64 s.riL, .int .i64 s.riH]] w fun e w' => e = .returned (.bool (soOk s)) ∧ Below w.heap.size w w' := by
  have hx : soOk s = (so1 s.saL s.saH 100000000 && (soIn s.lim 0 100000000 && (soIn s.crop 0 1000000000 && (so1 s.miL s.miH 100000 && (so1 s.waL s.waH 100000 && so1 s.riL s.riH 100000000))))) := rfl
  generalize soOk s = r at hx ⊢
  cases h1 : so1 s.saL s.saH 100000000
  case' true =>
    cases h2 : soIn s.lim 0 100000000
    case' true =>
      cases h3 : soIn s.crop 0 1000000000
      case' true =>
        cases h4 : so1 s.miL s.miH 100000
        case' true =>
          cases h5 : so1 s.waL s.waH 100000
  all_goals
    simp only [*, Bool.true_and, Bool.false_and] at hx
    subst hx
    go_enter Try.func50, Try.ntmps50
    go_wp2_with (first | (go_at_call 43; refine (within_any _ _ _ _).mono ?_; rintro e w' ⟨rfl, hb1⟩; obtain ⟨hc1, hf1⟩ := bcell hb1; have hz1 := hb1.size; (try simp at hz1); (try have hy1 : w.heap.size < w'.heap.size := by omega)) | (go_at_call 44; refine (between_any _ _ _ _).mono ?_; rintro e w' ⟨rfl, rfl⟩))
    go_ret
    exact ⟨rfl, by (repeat' (first | (with_reducible exact Below.refl _ _) | (with_reducible refine Below.alloc ?_ ?_ _) | (with_reducible refine Below.drew ?_) | (with_reducible refine Below.drewN_ ?_ _) | (with_reducible refine Below.setCell ?_ ?_ _) | (with_reducible refine Below.setRow ?_ ?_ _) | (with_reducible refine Below.via ?_ (by with_reducible assumption) ?_) | go_size))⟩

set_option maxHeartbeats 1000000 in
theorem scheck_any (s : So) (w : World) :
    Calls Try.prog 16 #[.agg #[.int .i64 s.saL, .int .i64 s.saH, .int .i64 s.lim, .int .i64 s.crop, .int .i64 s.miL, .int .i64 s.miH, .int .i64 s.waL, .int .i64 s.waH, .int .i64 s.riL, .int .i64 s.riH]] w fun e w' => e = .returned (.int .i64 (if soOk s then 0 else 60)) ∧ Below w.heap.size w w' := by
  cases h : soOk s
  all_goals
    go_enter Try.func16, Try.ntmps16
    go_wp2_with (go_at_call 50; refine (isSoil_any s _).mono ?_; rintro e w' ⟨rfl, hb1⟩; obtain ⟨hc1, hf1⟩ := bcell hb1; have hz1 := hb1.size; (try simp at hz1); (try have hy1 : w.heap.size < w'.heap.size := by omega))
    go_ret
    exact ⟨by simp, by (repeat' (first | (with_reducible exact Below.refl _ _) | (with_reducible refine Below.alloc ?_ ?_ _) | (with_reducible refine Below.drew ?_) | (with_reducible refine Below.drewN_ ?_ _) | (with_reducible refine Below.setCell ?_ ?_ _) | (with_reducible refine Below.setRow ?_ ?_ _) | (with_reducible refine Below.via ?_ (by with_reducible assumption) ?_) | go_size))⟩

set_option maxHeartbeats 1000000 in
theorem rsCheck_any (s : So) (w : World) :
    Calls Try.prog 17 #[.agg #[.int .i64 s.saL, .int .i64 s.saH, .int .i64 s.lim, .int .i64 s.crop, .int .i64 s.miL, .int .i64 s.miH, .int .i64 s.waL, .int .i64 s.waH, .int .i64 s.riL, .int .i64 s.riH]] w fun e w' => e = .returned (.int .i64 (if soOk s then 0 else 60)) ∧ Below w.heap.size w w' := by
  have hx : soOk s = (so1 s.saL s.saH 100000000 && (soIn s.lim 0 100000000 && (soIn s.crop 0 1000000000 && (so1 s.miL s.miH 100000 && (so1 s.waL s.waH 100000 && so1 s.riL s.riH 100000000))))) := rfl
  generalize soOk s = r at hx ⊢
  cases h1 : so1 s.saL s.saH 100000000
  case' true =>
    cases h2 : soIn s.lim 0 100000000
    case' true =>
      cases h3 : soIn s.crop 0 1000000000
      case' true =>
        cases h4 : so1 s.miL s.miH 100000
        case' true =>
          cases h5 : so1 s.waL s.waH 100000
          case' true => cases h6 : so1 s.riL s.riH 100000000
  all_goals
    simp only [*, Bool.true_and, Bool.false_and] at hx
    subst hx
    go_enter Try.func17, Try.ntmps17
    go_wp2_with (first | (go_at_call 34; refine (spanned_any _ _ _ _).mono ?_; rintro e w' ⟨rfl, hb1⟩; obtain ⟨hc1, hf1⟩ := bcell hb1; have hz1 := hb1.size; (try simp at hz1); (try have hy1 : w.heap.size < w'.heap.size := by omega)) | (go_at_call 46; refine (r6within_any _ _ _ _).mono ?_; rintro e w' ⟨rfl, rfl⟩))
    go_ret
    exact ⟨rfl, by (repeat' (first | (with_reducible exact Below.refl _ _) | (with_reducible refine Below.alloc ?_ ?_ _) | (with_reducible refine Below.drew ?_) | (with_reducible refine Below.drewN_ ?_ _) | (with_reducible refine Below.setCell ?_ ?_ _) | (with_reducible refine Below.setRow ?_ ?_ _) | (with_reducible refine Below.via ?_ (by with_reducible assumption) ?_) | go_size))⟩

set_option maxHeartbeats 1000000 in
theorem rthen_any (sa mi wa ri crop x : Int) (w : World) (h1 : 0 ≤ sa) (h2 : sa ≤ 100000000000000) (h3 : 0 ≤ ri) (h4 : ri ≤ 100000000) (h5 : 0 ≤ x) (h6 : x ≤ 1000000000) (h7 : 0 ≤ mi) (h8 : mi ≤ 100000) (h9 : 0 ≤ wa) (h10 : wa ≤ 100000) (h11 : 0 ≤ crop) (h12 : crop ≤ 1000000000) :
    Calls Try.prog 119 #[.int .i64 sa, .int .i64 mi, .int .i64 wa, .int .i64 ri, .int .i64 crop, .int .i64 x] w fun e w' => e = .returned (.int .i64 (thenI sa mi wa ri crop x)) ∧ w = w' := by
  have p1 := mul_le_of h5 h6 h7 h8
  have p2 := mul_le_of h9 h10 (show 0 ≤ max 0 (x - crop) by omega) (show max 0 (x - crop) ≤ 1000000000 by omega)
  simp only [Int.reduceMul] at p1 p2
  by_cases hc : x ≤ crop
  · have hm : thenI sa mi wa ri crop x = 1000 * (sa + ri) + x * mi := by unfold thenI; rw [show max 0 (x - crop) = 0 by omega]; omega
    rw [hm]
    clear hm p2
    go_enter Try.func119, Try.ntmps119
    go_wp2
    all_goals go_ret
    all_goals refine ⟨?_, rfl⟩
    all_goals simp
    all_goals omega
  · have hm : thenI sa mi wa ri crop x = 1000 * (sa + ri) + x * mi - wa * (x - crop) := by unfold thenI; rw [show max 0 (x - crop) = x - crop by omega]
    rw [show max 0 (x - crop) = x - crop by omega] at p2
    rw [hm]
    clear hm
    go_enter Try.func119, Try.ntmps119
    go_wp2
    all_goals go_ret
    all_goals refine ⟨?_, rfl⟩
    all_goals simp
end Go.Proofs.Ytjkefoijhphknaa
