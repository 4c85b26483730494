/- Sets of fields as numbers: what bits they have, how many, and the order of two of them. Condition: less than 256. -/
import Derived.Test.YtjkefoijhphknaaSaSmall
namespace Go.Proofs.Ytjkefoijhphknaa
open Go.RowKit

/-- How many bits a number below 256 has, and its bits the other way round. -/
def popI (s : Nat) : Nat := s % 2 + s / 2 % 2 + s / 4 % 2 + s / 8 % 2 + s / 16 % 2 + s / 32 % 2 + s / 64 % 2 + s / 128 % 2
def rv8 (s : Nat) : Nat := 128 * (s % 2) + 64 * (s / 2 % 2) + 32 * (s / 4 % 2) + 16 * (s / 8 % 2) + 8 * (s / 16 % 2) + 4 * (s / 32 % 2) + 2 * (s / 64 % 2) + s / 128 % 2
theorem rv8_lt (s : Nat) : rv8 s < 256 := by unfold rv8; omega
theorem popI_le (s : Nat) : popI s ≤ 8 := by unfold popI; omega
/-- What cmp.Compare says of two numbers. -/
def cmpI (a b : Int) : Int := if a < b then -1 else if b < a then 1 else 0

set_option maxHeartbeats 400000 in
theorem has_any (s f : Nat) (w : World) (hs : s < 256) (hf : f < 8) :
    Calls Try.prog 112 #[.int .i64 (s : Int), .int .i64 (f : Int)] w fun e w' => e = .returned (.bool (s.testBit f)) ∧ w = w' := by
  go_enter Try.func112, Try.ntmps112
  go_wp2
  go_ret
  refine ⟨congrArg (fun x => Ending.returned (.bool x)) ?_, rfl⟩
  clear w
  revert f
  revert s
  decide +kernel

set_option maxHeartbeats 4000000 in
theorem ones64_any (s : Nat) (w : World) (hs : s < 256) :
    Calls Try.prog 159 #[.int .u64 (s : Int)] w fun e w' => e = .returned (.int .i64 (popI s : Nat)) ∧ w = w' := by
  go_enter Try.func159, Try.ntmps159
  go_wp2
  go_ret
  refine ⟨congrArg (fun x => Ending.returned (.int .i64 x)) ?_, rfl⟩
  clear w
  revert s
  decide +kernel
set_option maxHeartbeats 4000000 in
theorem ones_any (s : Nat) (w : World) (hs : s < 256) :
    Calls Try.prog 139 #[.int .u64 (s : Int)] w fun e w' => e = .returned (.int .i64 (popI s : Nat)) ∧ w = w' := by
  go_enter Try.func139, Try.ntmps139
  go_wp2_with (go_at_call 159; refine (ones64_any s _ hs).mono ?_; rintro e w' ⟨rfl, rfl⟩)
  go_ret
  exact ⟨rfl, rfl⟩

set_option maxHeartbeats 4000000 in
theorem revb_any (r : Nat) (x : Int) (hx : x = (r : Int)) (hr : r < 256) (w : World) :
    Calls Try.prog 173 #[.int .u64 x] w fun e w' => e = .returned (.int .u64 ((r * 72057594037927936 : Nat) : Int)) ∧ w = w' := by
  subst hx
  go_enter Try.func173, Try.ntmps173
  go_wp2
  go_ret
  refine ⟨congrArg (fun x => Ending.returned (.int .u64 x)) ?_, rfl⟩
  clear w
  revert r
  decide +kernel
set_option maxHeartbeats 4000000 in
theorem rev64_any (s : Nat) (w : World) (hs : s < 256) :
    Calls Try.prog 162 #[.int .u64 (s : Int)] w fun e w' => e = .returned (.int .u64 ((rv8 s * 72057594037927936 : Nat) : Int)) ∧ w = w' := by
  go_enter Try.func162, Try.ntmps162
  go_wp2_with (go_at_call 173; refine (revb_any (rv8 s) _ (by have hs2 := hs; revert hs2; generalize s = t; revert t; decide +kernel) (rv8_lt s) _).mono ?_; rintro e w' ⟨rfl, rfl⟩)
  go_ret
  exact ⟨rfl, rfl⟩
set_option maxHeartbeats 4000000 in
theorem rev_any (s : Nat) (w : World) (hs : s < 256) :
    Calls Try.prog 141 #[.int .u64 (s : Int)] w fun e w' => e = .returned (.int .u64 ((rv8 s * 72057594037927936 : Nat) : Int)) ∧ w = w' := by
  go_enter Try.func141, Try.ntmps141
  go_wp2_with (go_at_call 162; refine (rev64_any s _ hs).mono ?_; rintro e w' ⟨rfl, rfl⟩)
  go_ret
  exact ⟨rfl, rfl⟩

set_option maxHeartbeats 400000 in
theorem nan_any (a : Int) (w : World) : Calls Try.prog 136 #[.int .i64 a] w fun e w' => e = .returned (.bool false) ∧ w = w' := by
  go_enter Try.func136, Try.ntmps136
  go_wp2
  go_ret
  exact ⟨by simp, rfl⟩
set_option maxHeartbeats 400000 in
theorem nanu_any (a : Int) (w : World) : Calls Try.prog 160 #[.int .u64 a] w fun e w' => e = .returned (.bool false) ∧ w = w' := by
  go_enter Try.func160, Try.ntmps160
  go_wp2
  go_ret
  exact ⟨by simp, rfl⟩
set_option maxHeartbeats 1000000 in
theorem cmp_any (a b : Int) (w : World) : Calls Try.prog 101 #[.int .i64 a, .int .i64 b] w fun e w' => e = .returned (.int .i64 (cmpI a b)) ∧ w = w' := by
  by_cases h1 : a < b
  · have e : cmpI a b = -1 := by unfold cmpI; rw [if_pos h1]
    rw [e]
    clear e
    go_enter Try.func101, Try.ntmps101
    go_wp2_with (go_at_call 136; refine (nan_any _ _).mono ?_; rintro e w' ⟨rfl, rfl⟩)
    go_ret
    exact ⟨rfl, rfl⟩
  · by_cases h2 : b < a
    · have e : cmpI a b = 1 := by unfold cmpI; rw [if_neg h1, if_pos h2]
      rw [e]
      clear e
      go_enter Try.func101, Try.ntmps101
      go_wp2_with (go_at_call 136; refine (nan_any _ _).mono ?_; rintro e w' ⟨rfl, rfl⟩)
      go_ret
      exact ⟨rfl, rfl⟩
    · have e : cmpI a b = 0 := by unfold cmpI; rw [if_neg h1, if_neg h2]
      rw [e]
      clear e
      go_enter Try.func101, Try.ntmps101
      go_wp2_with (go_at_call 136; refine (nan_any _ _).mono ?_; rintro e w' ⟨rfl, rfl⟩)
      go_ret
      exact ⟨rfl, rfl⟩
set_option maxHeartbeats 1000000 in
theorem cmpu_any (a b : Int) (w : World) : Calls Try.prog 140 #[.int .u64 a, .int .u64 b] w fun e w' => e = .returned (.int .i64 (cmpI a b)) ∧ w = w' := by
  by_cases h1 : a < b
  · have e : cmpI a b = -1 := by unfold cmpI; rw [if_pos h1]
    rw [e]
    clear e
    go_enter Try.func140, Try.ntmps140
    go_wp2_with (go_at_call 160; refine (nanu_any _ _).mono ?_; rintro e w' ⟨rfl, rfl⟩)
    go_ret
    exact ⟨rfl, rfl⟩
  · by_cases h2 : b < a
    · have e : cmpI a b = 1 := by unfold cmpI; rw [if_neg h1, if_pos h2]
      rw [e]
      clear e
      go_enter Try.func140, Try.ntmps140
      go_wp2_with (go_at_call 160; refine (nanu_any _ _).mono ?_; rintro e w' ⟨rfl, rfl⟩)
      go_ret
      exact ⟨rfl, rfl⟩
    · have e : cmpI a b = 0 := by unfold cmpI; rw [if_neg h1, if_neg h2]
      rw [e]
      clear e
      go_enter Try.func140, Try.ntmps140
      go_wp2_with (go_at_call 160; refine (nanu_any _ _).mono ?_; rintro e w' ⟨rfl, rfl⟩)
      go_ret
      exact ⟨rfl, rfl⟩
set_option maxHeartbeats 1000000 in
theorem fewer_any (s t : Nat) (w : World) (hs : s < 256) (ht : t < 256) :
    Calls Try.prog 107 #[.int .i64 (s : Int), .int .i64 (t : Int)] w fun e w' => e = .returned (.int .i64 (cmpI (popI s : Nat) (popI t : Nat))) ∧ w = w' := by
  have h1 : (s : Int) < 256 := by omega
  have h2 : (t : Int) < 256 := by omega
  have T1 : Hid True := Lib.hid trivial
  go_enter Try.func107, Try.ntmps107
  go_wp2_with (first | (go_at_call 139; first | (have _t := T1; refine (ones_any s _ hs).mono ?_; rintro e w' ⟨rfl, rfl⟩; clear T1 _t) | (refine (ones_any t _ ht).mono ?_; rintro e w' ⟨rfl, rfl⟩)) | (go_at_call 101; refine (cmp_any _ _ _).mono ?_; rintro e w' ⟨rfl, rfl⟩))
  go_ret
  exact ⟨rfl, rfl⟩
set_option maxHeartbeats 1000000 in
theorem first_any (s t : Nat) (w : World) (hs : s < 256) (ht : t < 256) :
    Calls Try.prog 108 #[.int .i64 (s : Int), .int .i64 (t : Int)] w fun e w' => e = .returned (.int .i64 (cmpI (rv8 t : Nat) (rv8 s : Nat))) ∧ w = w' := by
  have h1 : (s : Int) < 256 := by omega
  have h2 : (t : Int) < 256 := by omega
  have hc : cmpI ((rv8 t * 72057594037927936 : Nat) : Int) ((rv8 s * 72057594037927936 : Nat) : Int) = cmpI (rv8 t : Nat) (rv8 s : Nat) := by
    unfold cmpI
    generalize rv8 t = a
    generalize rv8 s = b
    repeat' split
    all_goals omega
  have HC := Lib.hid hc
  clear hc
  have T1 : Hid True := Lib.hid trivial
  go_enter Try.func108, Try.ntmps108
  go_wp2_with (first | (go_at_call 141; first | (have _t := T1; refine (rev_any t _ ht).mono ?_; rintro e w' ⟨rfl, rfl⟩; clear T1 _t) | (refine (rev_any s _ hs).mono ?_; rintro e w' ⟨rfl, rfl⟩)) | (go_at_call 140; refine (cmpu_any _ _ _).mono ?_; rintro e w' ⟨rfl, rfl⟩))
  go_ret
  refine ⟨?_, rfl⟩
  rw [← HC.out]
  rfl
end Go.Proofs.Ytjkefoijhphknaa
