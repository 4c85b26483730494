/- The reference's rounded divisions. -/
import Derived.Test.YtbolfjlfpkgfiaaLevSlopes
namespace Go.Proofs.Ytbolfjlfpkgfiaa
open Go.RowKit

theorem down_floor (a b : Int) (hb : 0 < b) : (if a < 0 then -((b - 1 - a).tdiv b) else a.tdiv b) = a / b := by
  by_cases h : a < 0
  · rw [if_pos h, Int.tdiv_eq_ediv_of_nonneg (by omega)]
    have h1 : b - 1 - a = (-a) + (b - 1) := by omega
    have h2 : (b - 1 - a) / b = -(a / b) := by
      have e1 := Int.mul_ediv_add_emod a b
      have e2 := Int.emod_nonneg a (by omega : b ≠ 0)
      have e3 := Int.emod_lt_of_pos a hb
      have : b - 1 - a = (b - 1 - a % b) + b * (-(a / b)) := by rw [Int.mul_neg]; omega
      rw [this, Int.add_mul_ediv_left _ _ (by omega), Int.ediv_eq_zero_of_lt (by omega) (by omega)]
      omega
    rw [h2]; omega
  · rw [if_neg h, Int.tdiv_eq_ediv_of_nonneg (by omega)]

theorem down_any (a b : Int) (w : World) (hb : 1 ≤ b) (hb2 : b ≤ 1000000000000) (h1 : -1000000000000000000 ≤ a) (h2 : a ≤ 1000000000000000000) :
    Calls Try.prog 65 #[.int .i64 a, .int .i64 b] w fun e w' => e = .returned (.int .i64 (a / b)) ∧ w = w' := by
  have hf := down_floor a b (by omega)
  have HF := Lib.hid hf
  clear hf
  have hb0 : (b == 0) = false := by simp; omega
  have q1 : a < 0 → 0 ≤ (b - 1 - a).tdiv b ∧ (b - 1 - a).tdiv b ≤ 2000000000000000000 := by
    intro ha
    have h3 : ((b - 1 - a).tdiv b).natAbs ≤ (b - 1 - a).natAbs := by rw [Int.natAbs_tdiv]; exact Nat.div_le_self _ _
    have h4 := Int.tdiv_nonneg (a := b - 1 - a) (b := b) (by omega) (by omega)
    omega
  by_cases hm : a < 0
  · obtain ⟨q2, q3⟩ := q1 hm
    clear q1
    go_enter Try.func65, Try.ntmps65
    go_wp2
    go_ret
    refine ⟨?_, rfl⟩
    have h := HF.out
    rw [if_pos hm] at h
    exact congrArg (fun x => Ending.returned (.int .i64 x)) h
  · clear q1
    go_enter Try.func65, Try.ntmps65
    go_wp2
    go_ret
    exact ⟨rfl, rfl⟩

theorem up_any (a b : Int) (w : World) (hb : 1 ≤ b) (hb2 : b ≤ 1000000000000) (h1 : -1000000000000000000 ≤ a) (h2 : a ≤ 1000000000000000000) :
    Calls Try.prog 66 #[.int .i64 a, .int .i64 b] w fun e w' => e = .returned (.int .i64 (-(-a / b))) ∧ w = w' := by
  obtain ⟨m1, m2⟩ := ediv_bd (-a) b hb (by omega) (by omega)
  go_enter Try.func66, Try.ntmps66
  go_wp2_with (go_at_call 65; refine (down_any _ _ _ (by omega) (by omega) (by omega) (by omega)).mono ?_; rintro e w1 ⟨rfl, rfl⟩)
  go_ret
  exact ⟨rfl, rfl⟩

end Go.Proofs.Ytbolfjlfpkgfiaa
