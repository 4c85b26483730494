/- The reference's Great; level.after. -/
import Derived.Test.YtaoonfmcimkmhaaRefSame
namespace Go.Proofs.Ytaoonfmcimkmhaa
open Go.RowKit

theorem great_any (p : Int) (a b d c1 c2 c3 : Nat) (A1 A2 A3 : Option Addr) (w : World) :
    Calls Try.prog 14 #[.agg #[.int .i64 p, .slice A1 a c1, .slice A2 b c2, .slice A3 d c3]] w fun e w' => e = .returned (.bool (decide (90 < a) || decide (30 < b) || decide (50 < d))) ∧ Below w.heap.size w w' := by
  by_cases h1 : (90 : Int) < a <;> by_cases h2 : (30 : Int) < b <;> by_cases h3 : (50 : Int) < d
  all_goals
    go_enter Try.func14, Try.ntmps14
    go_wp2
    go_ret
    refine ⟨?_, by (repeat' (first | (with_reducible exact Below.refl _ _) | (with_reducible refine Below.alloc ?_ ?_ _) | (with_reducible refine Below.drew ?_) | (with_reducible refine Below.drewN_ ?_ _) | (with_reducible refine Below.setCell ?_ ?_ _) | (with_reducible refine Below.setRow ?_ ?_ _) | (with_reducible refine Below.via ?_ (by with_reducible assumption) ?_) | go_size))⟩
    congr 1
    congr 1
    simp
    omega

theorem after_any (xs : List Int) (c1 : Nat) (A1 : Option Addr) (k : Nat) (w : World) (r1 : Rd w w.heap.size A1 inV 1 xs) (hl : xs.length ≤ 1000000000) (hk : k < xs.length) :
    Calls Try.prog 58 #[.slice A1 xs.length c1, .int .i64 k] w fun e w' => e = .returned (.int .i64 (xs.getD ((k + 1) % xs.length) 0)) ∧ w = w' := by
  have hm : (k + 1) % xs.length < xs.length := Nat.mod_lt _ (by omega)
  obtain ⟨b, o, rfl, hbl, hcell⟩ := r1.at_ hm
  have q0 := hcell 0 _ rfl
  simp only [Nat.add_zero, Nat.mul_one] at q0
  clear hcell
  have hv : xs.getD ((k + 1) % xs.length) 0 = xs[(k + 1) % xs.length] := by rw [List.getD_eq_getElem?_getD, List.getElem?_eq_getElem hm]; rfl
  rw [hv]
  clear hv r1
  have ht : ((k : Int) + 1).tmod (xs.length : Int) = (((k + 1) % xs.length : Nat) : Int) := by rw [Int.tmod_eq_emod_of_nonneg (by omega)]; push_cast; rfl
  have ht2 : ((k : Int) + 1) % (xs.length : Int) = (((k + 1) % xs.length : Nat) : Int) := by push_cast; rfl
  generalize xs[(k + 1) % xs.length] = x at *
  generalize hj : (k + 1) % xs.length = j at *
  clear hj
  have hz : ((xs.length : Int) == 0) = false := by rw [beq_eq_false_iff_ne]; omega
  go_enter Try.func58, Try.ntmps58
  go_wp2
  go_ret
  exact ⟨rfl, rfl⟩

end Go.Proofs.Ytaoonfmcimkmhaa
