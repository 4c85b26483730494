/- Numbers that are chosen by numbers. Condition: bounds. -/
import Derived.Test.YtjkefoijhphknaaSaRefC
import Derived.IntWalk
set_option linter.unusedSimpArgs false
set_option linter.unusedVariables false
namespace Go.Proofs.Ytjkefoijhphknaa
open Go.RowKit Go.IntWalk

/-- A number of 32 bits. -/
structure U32 where
  (v : Int) (h0 : 0 ≤ v) (h1 : v ≤ 4294967295)
def uV (u : U32) : List Value := [.int .u32 u.v]
def atI (l : List U32) (i : Nat) : Int := if h : l.length = 0 then 0 else (l[i % l.length]'(Nat.mod_lt _ (by omega))).v
theorem atI_b (l : List U32) (i : Nat) : 0 ≤ atI l i ∧ atI l i ≤ 4294967295 := by
  unfold atI
  split
  · omega
  · exact ⟨U32.h0 _, U32.h1 _⟩

set_option maxHeartbeats 1000000 in
theorem at_any (l : List U32) (i : Nat) (A : Option Addr) (c : Nat) (w : World) (r : Rd w w.heap.size A uV 1 l) (hl : l.length ≤ 9223372036854775807) (hi : i ≤ 1000000000) :
    Calls Try.prog 36 #[.slice A l.length c, .int .i64 (i : Int)] w fun e w' => e = .returned (.int .u32 (atI l i)) ∧ w = w' := by
  by_cases h : l.length = 0
  · have hx : atI l i = 0 := by unfold atI; rw [dif_pos h]
    rw [hx, h]
    clear hx r
    go_enter Try.func36, Try.ntmps36
    go_wp2
    go_ret
    exact ⟨rfl, rfl⟩
  · have hm : i % l.length < l.length := Nat.mod_lt _ (by omega)
    obtain ⟨b, o, rfl, hb, hc⟩ := r.at_ hm
    have q0 := hc 0 _ rfl
    have hx : atI l i = (l[i % l.length]).v := by unfold atI; rw [dif_neg h]
    rw [hx]
    have ht : Int.tmod (i : Int) (l.length : Int) = ((i % l.length : Nat) : Int) := by
      rw [Int.tmod_eq_emod_of_nonneg (by omega)]
      rfl
    have h0 : ¬ (l.length : Int) = 0 := by omega
    have hmI : ((i % l.length : Nat) : Int) < (l.length : Int) := by omega
    generalize l[i % l.length] = x at *
    generalize i % l.length = j at *
    simp only [Nat.add_zero, Nat.mul_one] at q0
    clear hc hx r
    go_enter Try.func36, Try.ntmps36
    go_wp2
    go_ret
    exact ⟨rfl, rfl⟩

/-- A number of a span, chosen by another one. -/
def pickI (lo hi n : Int) : Int := lo + n % (hi - lo + 1)
theorem pickI_in {lo hi n : Int} (h : lo ≤ hi) : lo ≤ pickI lo hi n ∧ pickI lo hi n ≤ hi := by
  have h1 := Int.emod_nonneg n (show hi - lo + 1 ≠ 0 by omega)
  have h2 := Int.emod_lt_of_pos n (show 0 < hi - lo + 1 by omega)
  unfold pickI
  omega
set_option maxHeartbeats 1000000 in
theorem pick_any (lo hi n : Int) (w : World) (h0 : 0 ≤ lo) (h1 : lo ≤ hi) (h2 : hi ≤ 1000000000) (n0 : 0 ≤ n) (n1 : n ≤ 4294967295) :
    Calls Try.prog 35 #[.agg #[.int .i64 lo, .int .i64 hi], .int .u32 n] w fun e w' => e = .returned (.int .i64 (pickI lo hi n)) ∧ Below w.heap.size w w' := by
  have hp := pickI_in (n := n) h1
  have ht : Int.tmod n (hi - lo + 1) = n % (hi - lo + 1) := Int.tmod_eq_emod_of_nonneg n0
  have hx : pickI lo hi n = lo + n % (hi - lo + 1) := rfl
  have hnz : ¬ hi - lo + 1 = 0 := by omega
  generalize pickI lo hi n = p at *
  generalize hr : n % (hi - lo + 1) = r at *
  have w1 : IntKind.i64.wrap (hi - lo + 1) = hi - lo + 1 := IntWalk.i64_in _ (by omega)
  go_enter Try.func35, Try.ntmps35
  go_wp2
  go_quiet (fail)
  go_wp2
  go_ret
  exact ⟨by rw [hx]; rfl, by (repeat' (first | (with_reducible exact Below.refl _ _) | (with_reducible refine Below.alloc ?_ ?_ _) | (with_reducible refine Below.drew ?_) | (with_reducible refine Below.drewN_ ?_ _) | (with_reducible refine Below.setCell ?_ ?_ _) | (with_reducible refine Below.setRow ?_ ?_ _) | (with_reducible refine Below.via ?_ (by with_reducible assumption) ?_) | go_size))⟩
end Go.Proofs.Ytjkefoijhphknaa
