/- The small functions of level and of the reference that test numbers, each by its contract. No condition. -/
import Derived.Test.YtaoonfmcimkmhaaRows
import Derived.Test.YtaoonfmcimkmhaaWords
import Derived.Test.YtaoonfmcimkmhaaLevModel
namespace Go.Proofs.Ytaoonfmcimkmhaa
open Go.RowKit

set_option maxHeartbeats 400000 in
theorem isPoint_any (p i : Int) (s1 s2 s3 : Value) (w : World) :
    Calls Try.prog 49 #[.agg #[.int .i64 p, s1, s2, s3], .int .i64 i] w fun e w' => e = .returned (.bool (inB p i)) ∧ Below w.heap.size w w' := by
  by_cases h : 0 ≤ i
  all_goals
    go_enter Try.func49, Try.ntmps49
    go_wp2
    go_ret
    refine ⟨?_, by go_grown⟩
    simp [inB]
    try omega

set_option maxHeartbeats 400000 in
theorem rwithin_any (n lo hi : Int) (w : World) :
    Calls Try.prog 50 #[.int .i64 n, .int .i64 lo, .int .i64 hi] w fun e w' => e = .returned (.bool (inR lo hi n)) ∧ w = w' := by
  by_cases h : lo ≤ n
  all_goals
    go_enter Try.func50, Try.ntmps50
    go_wp2
    go_ret
    simp [inR]
    try omega

set_option maxHeartbeats 400000 in
theorem differ_any (p i j : Int) (s1 s2 s3 : Value) (w : World) :
    Calls Try.prog 52 #[.agg #[.int .i64 p, s1, s2, s3], .int .i64 i, .int .i64 j] w fun e w' => e = .returned (.bool (diffB p i j)) ∧ Below w.heap.size w w' := by
  cases h1 : inB p i <;> cases h2 : inB p j
  all_goals
    go_enter Try.func52, Try.ntmps52
    go_wp2_with (go_at_call 49; refine (isPoint_any _ _ _ _ _ _).mono ?_; rintro e w' ⟨rfl, hb1⟩; obtain ⟨hc1, hf1⟩ := bcell hb1; have hz1 := hb1.size; (try simp at hz1); (try have hy1 : w.heap.size < w'.heap.size := by omega))
    go_ret
    refine ⟨by simp [diffB, h1, h2, bne], ?_⟩
    (repeat' (first | (with_reducible exact Below.refl _ _) | (with_reducible refine Below.alloc ?_ ?_ _) | (with_reducible refine Below.drew ?_) | (with_reducible refine Below.drewN_ ?_ _) | (with_reducible refine Below.setCell ?_ ?_ _) | (with_reducible refine Below.setRow ?_ ?_ _) | (with_reducible refine Below.via ?_ (by with_reducible assumption) ?_) | go_size))

set_option maxHeartbeats 400000 in
theorem lwithin_any (a b lo hi : Int) (w : World) :
    Calls Try.prog 53 #[.agg #[.int .i64 a, .int .i64 b], .int .i64 lo, .int .i64 hi] w fun e w' => e = .returned (.bool (spanB a b lo hi)) ∧ Below w.heap.size w w' := by
  by_cases h1 : lo ≤ a <;> by_cases h2 : a ≤ b
  all_goals
    go_enter Try.func53, Try.ntmps53
    go_wp2
    go_ret
    refine ⟨?_, by go_grown⟩
    simp [spanB]
    try omega

set_option maxHeartbeats 400000 in
theorem rspanned_any (a b lo hi : Int) (w : World) :
    Calls Try.prog 55 #[.agg #[.int .i64 a, .int .i64 b], .int .i64 lo, .int .i64 hi] w fun e w' => e = .returned (.bool (spanB a b lo hi)) ∧ Below w.heap.size w w' := by
  cases h1 : inR lo b a
  all_goals
    go_enter Try.func55, Try.ntmps55
    go_wp2_with (go_at_call 50; refine (rwithin_any _ _ _ _).mono ?_; rintro e w' ⟨rfl, rfl⟩)
    go_ret
    refine ⟨?_, by (repeat' (first | (with_reducible exact Below.refl _ _) | (with_reducible refine Below.alloc ?_ ?_ _) | (with_reducible refine Below.drew ?_) | (with_reducible refine Below.drewN_ ?_ _) | (with_reducible refine Below.setCell ?_ ?_ _) | (with_reducible refine Below.setRow ?_ ?_ _) | (with_reducible refine Below.via ?_ (by with_reducible assumption) ?_) | go_size))⟩
    simp [inR] at h1
    simp [spanB]
    try omega

set_option maxHeartbeats 400000 in
theorem rtwo_any (p i j : Int) (s1 s2 s3 : Value) (w : World) (hp : 0 ≤ p) (hp2 : p ≤ 4000000000) :
    Calls Try.prog 54 #[.agg #[.int .i64 p, s1, s2, s3], .int .i64 i, .int .i64 j] w fun e w' => e = .returned (.bool (diffB p i j)) ∧ Below w.heap.size w w' := by
  have k1 : ∀ x, inR 0 (p - 1) x = inB p x := fun x => by unfold inR inB; congr 1; simp; omega
  cases h1 : inB p i <;> cases h2 : inB p j
  all_goals
    go_enter Try.func54, Try.ntmps54
    go_wp2_with (go_at_call 50; refine (rwithin_any _ _ _ _).mono ?_; rintro e w' ⟨rfl, rfl⟩)
    go_ret
    refine ⟨by simp [diffB, h1, h2, bne], ?_⟩
    (repeat' (first | (with_reducible exact Below.refl _ _) | (with_reducible refine Below.alloc ?_ ?_ _) | (with_reducible refine Below.drew ?_) | (with_reducible refine Below.drewN_ ?_ _) | (with_reducible refine Below.setCell ?_ ?_ _) | (with_reducible refine Below.setRow ?_ ?_ _) | (with_reducible refine Below.via ?_ (by with_reducible assumption) ?_) | go_size))

end Go.Proofs.Ytaoonfmcimkmhaa
