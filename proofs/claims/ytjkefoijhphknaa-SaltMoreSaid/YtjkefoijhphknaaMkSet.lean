/- The set of some fields, and the fields of a set. Condition: fields below 8. -/
import Derived.Test.YtjkefoijhphknaaMkAre
import Derived.Test.YtjkefoijhphknaaMkModel
import Derived.Test.YtjkefoijhphknaaMkPlanM
import Derived.Test.YtjkefoijhphknaaOwn
namespace Go.Proofs.Ytjkefoijhphknaa
open Go.RowKit

def setF (l : List Nat) : Nat := l.foldl (fun s f => s ||| 2 ^ f) 0
theorem or_lt {s f : Nat} (hs : s < 256) (hf : f < 8) : s ||| 2 ^ f < 256 := Nat.or_lt_two_pow (n := 8) hs (Nat.pow_lt_pow_right (by omega) hf)
theorem or_eq {s f : Nat} (hs : s < 256) (hf : f < 8) : bits BinOp.or IntKind.i64 (s : Int) (wrap64 (2 ^ f)) = ((s ||| 2 ^ f : Nat) : Int) := by
  revert f
  revert s
  decide +kernel
theorem setF_lt : ∀ (l : List Nat) (s : Nat), s < 256 → (∀ f ∈ l, f < 8) → l.foldl (fun s f => s ||| 2 ^ f) s < 256
  | [], s, h, _ => h
  | f :: l, s, h, hl => setF_lt l _ (or_lt h (hl f (by simp))) fun g hg => hl g (by simp [hg])

set_option maxHeartbeats 1000000 in
theorem setOf_any (xs : List Nat) (A1 : Option Addr) (c1 : Nat) (w : World) (r1 : Rd w w.heap.size A1 nnV 1 xs) (hl : xs.length ≤ 1000000000) (hx : ∀ f ∈ xs, f < 8) :
    Calls Try.prog 99 #[.slice A1 xs.length c1] w fun e w' => e = .returned (.int .i64 ((setF xs : Nat) : Int)) ∧ w = w' := by
  have R1 := Lib.hid r1
  have HX := Lib.hid hx
  clear r1 hx
  go_enter Try.func99, Try.ntmps99
  go_wp2
  go_loopw [3, 8] (fun x i W => ∃ (k s : Nat), k ≤ xs.length ∧ x = .int .i64 s ∧ i = .int .i64 k ∧ s < 256 ∧ setF xs = (xs.drop k).foldl (fun s f => s ||| 2 ^ f) s ∧ w = W) (fun _ i _ => xs.length - (intOf i).toNat)
  case atStart => exact ⟨0, 0, by omega, rfl, rfl, by omega, by simp [setF], rfl⟩
  case round =>
    obtain ⟨k, s, hk, rfl, rfl, hs, hall, rfl⟩ := hrel
    have HA := Lib.hid hall
    clear hall
    by_cases hlt : k < xs.length
    · obtain ⟨b, o, rfl, hbl, hcell⟩ := R1.out.at_ hlt
      have q0 := hcell 0 _ rfl
      simp only [Nat.add_zero, Nat.mul_one] at q0
      clear hcell
      have hd := drop_at hlt
      have hf := HX.out _ (List.getElem_mem hlt)
      generalize xs[k] = f at *
      have HD := Lib.hid hd
      clear hd
      go_wp2
      go_roundw
      case rel =>
        refine ⟨k + 1, s ||| 2 ^ f, by omega, ?_, by go_num, or_lt hs hf, ?_, by trivial⟩
        · rw [or_eq hs hf]
        · rw [HA.out, HD.out]
          rfl
      case measure => simp [intOf]; omega
    · have hx : xs.drop k = [] := List.drop_of_length_le (by omega)
      have HE := Lib.hid hx
      clear hx
      go_wp2
      go_ret
      exact ⟨by rw [HA.out, HE.out]; rfl, rfl⟩

/-- The fields of a set below k. -/
def fldsN (s : Nat) (k : Nat) : List Nat := (List.range k).filter fun f => s.testBit f
theorem fldsN_succ (s k : Nat) : fldsN s (k + 1) = fldsN s k ++ (if s.testBit k then [k] else []) := by
  unfold fldsN
  rw [List.range_succ, List.filter_append]
  congr 1
  by_cases h : s.testBit k <;> simp [h]
theorem fldsN_len (s k : Nat) : (fldsN s k).length ≤ k := by
  unfold fldsN
  exact Nat.le_trans (List.length_filter_le _ _) (by simp)
theorem nnV_len (x : Nat) : (nnV x).length = 1 := rfl
theorem nnV_one (x : Nat) : ∀ u ∈ nnV x, u.oneCell' = true := by intro u hu; unfold nnV at hu; simp at hu; subst hu; rfl

set_option maxHeartbeats 2000000 in
theorem fields_any (s : Nat) (w : World) (hs : s < 256) :
    Calls Try.prog 63 #[.int .i64 (s : Int)] w fun e w' => (∃ A c, e = .returned (.slice A (fldsN s 8).length c) ∧ Rd w' w'.heap.size A nnV 1 (fldsN s 8)) ∧ Below w.heap.size w w' := by
  obtain ⟨i0, hi0, hz0, hz1, hz2⟩ := info_parts' infoInt
  have I0 := Lib.hid (And.intro hi0 (And.intro hz0 (And.intro hz1 hz2)))
  clear hi0 hz0 hz1 hz2
  go_enter Try.func63, Try.ntmps63
  go_wp2
  go_loopw [3, 5] (fun v i W => ∃ k : Nat, k ≤ 8 ∧ i = .int .i64 k ∧ Own W w.heap.size 3 v nnV 1 (fldsN s k) ∧ Below w.heap.size w W) (fun _ i _ => 8 - (intOf i).toNat)
  case atStart => exact ⟨0, by omega, rfl, Own.nil_ _ _ _ _ _, Below.refl _ _⟩
  case round =>
    obtain ⟨k, hk, rfl, ho, hb⟩ := hrel
    have HO := Lib.hid ho
    have hsz := hb.size
    clear ho
    by_cases hlt : k < 8
    · have hltI : (k : Int) < 8 := by omega
      have hlen := fldsN_len s k
      have hsu := fldsN_succ s k
      cases ht : s.testBit k
      · rw [ht] at hsu
        simp only [Bool.false_eq_true, if_false, List.append_nil] at hsu
        have HSU := Lib.hid hsu
        have HT := Lib.hid ht
        clear hsu ht
        go_wp2_with (go_at_call 112; refine (has_any s k _ hs hlt).mono ?_; rintro e w' ⟨rfl, rfl⟩; rw [HT.out])
        go_roundw
        case rel => exact ⟨k + 1, by omega, by go_num, by rw [HSU.out]; exact HO.out, hb⟩
        case measure => (simp [intOf] <;> omega)
      · rw [ht] at hsu
        simp only [if_true] at hsu
        have HSU := Lib.hid hsu
        have HT := Lib.hid ht
        clear hsu ht
        go_upto_region 6 with (go_at_call 112; refine (has_any s k _ hs hlt).mono ?_; rintro e w' ⟨rfl, rfl⟩; rw [HT.out])
        go_wp2_with (at_builtin; refine wpList_append_rd rfl (.tmp 11) (.tmp 13) 41 rfl i0 _ 8 Try.underlying41 I0.out.1 I0.out.2.1 I0.out.2.2.1 I0.out.2.2.2 rfl (by omega) nnV_len nnV_one rfl (HO.out.below ((Below.refl _ _).alloc (Nat.le_refl _) _)) rfl rfl (Rd.one _ k #[.int .i64 k] 3 rfl) (by simp; omega) (by omega) (by simp; omega) ?_; intro v' w8 ho8 hg8 hat8)
        have hb9 : Below w.heap.size w w8 := (hb.alloc hsz _).trans (below_grown hg8 (by simp; omega) (fun b hb' => (HO.out.lt b hb').1))
        clear hg8 hat8
        go_roundw
        case rel => exact ⟨k + 1, by omega, by go_num, by rw [HSU.out]; exact ho8, hb9⟩
        case measure => (simp [intOf] <;> omega)
    · obtain rfl : k = 8 := by omega
      go_wp2
      go_ret
      obtain ⟨A, c, rfl⟩ := HO.out.form
      exact ⟨⟨A, c, rfl, HO.out.rd nnV_len⟩, hb⟩
end Go.Proofs.Ytjkefoijhphknaa
