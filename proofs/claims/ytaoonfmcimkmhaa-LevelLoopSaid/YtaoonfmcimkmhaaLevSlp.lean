/- level's rounding and its slopes of two lengths. -/
import Derived.Test.YtaoonfmcimkmhaaLevFall
import Derived.IntWalk
namespace Go.Proofs.Ytaoonfmcimkmhaa
open Go.RowKit

theorem tdiv_floor (n b : Int) (hb : 0 < b) : (if n.tmod b < 0 then n.tdiv b - 1 else n.tdiv b) = n / b := by
  have h1 := Int.tdiv_eq_ediv (a := n) (b := b)
  have h2 := Int.tmod_eq_emod (a := n) (b := b)
  have h3 := Int.emod_nonneg n (by omega : b ≠ 0)
  have h4 := Int.emod_lt_of_pos n hb
  have hs : b.sign = 1 := Int.sign_eq_one_of_pos hb
  by_cases hc : 0 ≤ n ∨ b ∣ n
  · rw [if_pos hc] at h1 h2
    rw [if_neg (by omega), h1]
    omega
  · rw [if_neg hc] at h1 h2
    have hn : ¬ b ∣ n := fun h => hc (.inr h)
    have h5 : n % b ≠ 0 := fun h => hn (Int.dvd_of_emod_eq_zero h)
    have h6 : (b.natAbs : Int) = b := by omega
    rw [if_pos (by omega), h1, hs]
    omega

theorem roundDown_any (n b : Int) (w : World) (hb : 1 ≤ b) (hb2 : b ≤ 1000000000000) (h1 : -1000000000000000000 ≤ n) (h2 : n ≤ 1000000000000000000) :
    Calls Try.prog 74 #[.int .i64 n, .int .i64 b] w fun e w' => e = .returned (.int .i64 (n / b)) ∧ w = w' := by
  have hf := tdiv_floor n b (by omega)
  have HF := Lib.hid hf
  have q1 : -1000000000000000000 ≤ n.tdiv b ∧ n.tdiv b ≤ 1000000000000000000 := by
    have h3 : (n.tdiv b).natAbs ≤ n.natAbs := by rw [Int.natAbs_tdiv]; exact Nat.div_le_self _ _
    omega
  clear hf
  have hb0 : (b == 0) = false := by simp; omega
  by_cases hm : n.tmod b < 0
  all_goals
    go_enter Try.func74, Try.ntmps74
    go_wp2
    go_ret
    refine ⟨?_, rfl⟩
    have h := HF.out
    first | (rw [if_pos hm] at h; exact congrArg (fun x => Ending.returned (.int .i64 x)) h) | (rw [if_neg (by omega)] at h; exact congrArg (fun x => Ending.returned (.int .i64 x)) h)

def slp (lo hi a b : Int) : Int × Int := (min (lo * 1000 / a) (lo * 1000 / b), max (-(-hi * 1000 / a)) (-(-hi * 1000 / b)))

theorem ediv_bd (n b : Int) (hb : 1 ≤ b) (h1 : -1000000000000000000 ≤ n) (h2 : n ≤ 1000000000000000000) : -1000000000000000000 ≤ n / b ∧ n / b ≤ 1000000000000000000 := by
  have h0 : (0 : Int) < b := by omega
  constructor
  · rw [Int.le_ediv_iff_mul_le h0]
    have : (1000000000000000000 : Int) * 1 ≤ 1000000000000000000 * b := Int.mul_le_mul_of_nonneg_left hb (by omega)
    omega
  · refine Int.ediv_le_of_le_mul h0 ?_
    have : (1000000000000000000 : Int) * 1 ≤ 1000000000000000000 * b := Int.mul_le_mul_of_nonneg_left hb (by omega)
    omega

end Go.Proofs.Ytaoonfmcimkmhaa
