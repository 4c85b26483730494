/- Words of this layer: lists counted up, spans as values; the reference's SameInts and SameSpans. No condition. -/
import Derived.Test.YtjkefoijhphknaaRows
import Derived.Test.YtjkefoijhphknaaWords
import Derived.Test.YtjkefoijhphknaaCalm
import Derived.Deep.QuietTactic
namespace Go.Proofs.Ytjkefoijhphknaa
open Go.RowKit

def upto {α : Type} (f : Nat → α) (k : Nat) : List α := (List.range k).map f
theorem upto_succ {α : Type} (f : Nat → α) (k : Nat) : upto f (k + 1) = upto f k ++ [f k] := by simp [upto, List.range_succ]
theorem upto_length {α : Type} (f : Nat → α) (k : Nat) : (upto f k).length = k := by simp [upto]
def spV (x : Int × Int) : List Value := [.int .i64 x.1, .int .i64 x.2]
theorem spV_len (x : Int × Int) : (spV x).length = 2 := rfl
theorem spV_one (x : Int × Int) : ∀ u ∈ spV x, u.oneCell' = true := by intro u hu; unfold spV at hu; simp at hu; rcases hu with rfl | rfl <;> rfl


def inV (x : Int) : List Value := [.int .i64 x]
theorem take_snoc {α : Type} {xs : List α} {k : Nat} (h : k < xs.length) : xs.take (k + 1) = xs.take k ++ [xs[k]] := by
  rw [List.take_add_one, List.getElem?_eq_getElem h]; rfl

theorem sameInts_any (xs ys : List Int) (c1 c2 : Nat) (A1 A2 : Option Addr) (w : World) (r1 : Rd w w.heap.size A1 inV 1 xs) (r2 : Rd w w.heap.size A2 inV 1 ys) (hl1 : xs.length ≤ 1000000000) (hl2 : ys.length ≤ 1000000000) :
    Calls Try.prog 23 #[.slice A1 xs.length c1, .slice A2 ys.length c2] w fun e w' => e = .returned (.bool (decide (xs = ys))) ∧ Below w.heap.size w w' := by
  have R1 := Lib.hid r1
  have R2 := Lib.hid r2
  clear r1 r2
  by_cases hne : xs.length = ys.length
  · have HE := Lib.hid hne
    go_enter Try.func23, Try.ntmps23
    go_wp2
    clear hne
    go_loopw [5] (fun i W => ∃ k : Nat, k ≤ xs.length ∧ i = .int .i64 k ∧ xs.take k = ys.take k ∧ Below w.heap.size w W) (fun i _ => xs.length - (intOf i).toNat)
    case atStart => exact ⟨0, by omega, rfl, by simp, Below.refl _ _⟩
    case round =>
      obtain ⟨k, hk, rfl, hall, hb⟩ := hrel
      have HA := Lib.hid hall
      clear hall
      by_cases hlt : k < xs.length
      · have hlt2 : k < ys.length := by have := HE.out; omega
        obtain ⟨b, o, rfl, hbl, hcell⟩ := (R1.out.below hb).at_ hlt
        obtain ⟨b', o', rfl, hbl', hcell'⟩ := (R2.out.below hb).at_ hlt2
        have q0 := hcell 0 _ rfl
        have q1 := hcell' 0 _ rfl
        simp only [Nat.add_zero, Nat.mul_one] at q0 q1
        clear hcell hcell'
        have HN : Hid (xs[k] = ys[k] → xs.take (k + 1) = ys.take (k + 1)) := Lib.hid (fun h => by rw [take_snoc hlt, take_snoc hlt2, HA.out, h])
        have HD : Hid (¬ xs[k] = ys[k] → decide (xs = ys) = false) := Lib.hid (fun h => by simp only [decide_eq_false_iff_not]; intro h2; subst h2; exact h rfl)
        generalize xs[k] = x at *
        generalize ys[k] = y at *
        by_cases hxy : x = y
        · subst hxy
          have HN2 := Lib.hid (HN.out rfl)
          clear HN HD
          go_wp2
          go_quiet (fail)
          go_wp2
          go_roundw
          case rel => exact ⟨k + 1, by omega, by go_num, HN2.out, by (repeat' (first | (with_reducible exact Below.refl _ _) | (with_reducible refine Below.alloc ?_ ?_ _) | (with_reducible refine Below.drew ?_) | (with_reducible refine Below.drewN_ ?_ _) | (with_reducible refine Below.setCell ?_ ?_ _) | (with_reducible refine Below.setRow ?_ ?_ _) | (with_reducible refine Below.via ?_ (by with_reducible assumption) ?_) | go_size))⟩
          case measure => simp [intOf]; omega
        · have HD2 := Lib.hid (HD.out hxy)
          clear HN HD
          go_wp2
          go_quiet (fail)
          go_wp2
          go_ret
          exact ⟨by rw [HD2.out]; rfl, by (repeat' (first | (with_reducible exact Below.refl _ _) | (with_reducible refine Below.alloc ?_ ?_ _) | (with_reducible refine Below.drew ?_) | (with_reducible refine Below.drewN_ ?_ _) | (with_reducible refine Below.setCell ?_ ?_ _) | (with_reducible refine Below.setRow ?_ ?_ _) | (with_reducible refine Below.via ?_ (by with_reducible assumption) ?_) | go_size))⟩
      · have hx : xs = ys := by have h := HA.out; rw [List.take_of_length_le (by omega), List.take_of_length_le (by have := HE.out; omega)] at h; exact h
        have HX := Lib.hid (by simp [hx] : decide (xs = ys) = true)
        clear hx
        go_wp2
        go_ret
        exact ⟨by rw [HX.out]; rfl, by (repeat' (first | (with_reducible exact Below.refl _ _) | (with_reducible refine Below.alloc ?_ ?_ _) | (with_reducible refine Below.drew ?_) | (with_reducible refine Below.drewN_ ?_ _) | (with_reducible refine Below.setCell ?_ ?_ _) | (with_reducible refine Below.setRow ?_ ?_ _) | (with_reducible refine Below.via ?_ (by with_reducible assumption) ?_) | go_size))⟩
  · have hf : decide (xs = ys) = false := by simp; intro h; exact hne (by rw [h])
    rw [hf]
    clear hf
    have hi : ¬ (xs.length : Int) = (ys.length : Int) := by omega
    go_enter Try.func23, Try.ntmps23
    go_wp2
    go_ret
    exact ⟨rfl, by (repeat' (first | (with_reducible exact Below.refl _ _) | (with_reducible refine Below.alloc ?_ ?_ _) | (with_reducible refine Below.drew ?_) | (with_reducible refine Below.drewN_ ?_ _) | (with_reducible refine Below.setCell ?_ ?_ _) | (with_reducible refine Below.setRow ?_ ?_ _) | (with_reducible refine Below.via ?_ (by with_reducible assumption) ?_) | go_size))⟩



theorem sameSpans_any (xs ys : List (Int × Int)) (c1 c2 : Nat) (A1 A2 : Option Addr) (w : World) (r1 : Rd w w.heap.size A1 spV 2 xs) (r2 : Rd w w.heap.size A2 spV 2 ys) (hl1 : xs.length ≤ 1000000000) (hl2 : ys.length ≤ 1000000000) :
    Calls Try.prog 18 #[.slice A1 xs.length c1, .slice A2 ys.length c2] w fun e w' => e = .returned (.bool (decide (xs = ys))) ∧ Below w.heap.size w w' := by
  have R1 := Lib.hid r1
  have R2 := Lib.hid r2
  clear r1 r2
  by_cases hne : xs.length = ys.length
  · have HE := Lib.hid hne
    go_enter Try.func18, Try.ntmps18
    go_wp2
    clear hne
    go_loopw [5] (fun i W => ∃ k : Nat, k ≤ xs.length ∧ i = .int .i64 k ∧ xs.take k = ys.take k ∧ Below w.heap.size w W) (fun i _ => xs.length - (intOf i).toNat)
    case atStart => exact ⟨0, by omega, rfl, by simp, Below.refl _ _⟩
    case round =>
      obtain ⟨k, hk, rfl, hall, hb⟩ := hrel
      have HA := Lib.hid hall
      clear hall
      by_cases hlt : k < xs.length
      · have hlt2 : k < ys.length := by have := HE.out; omega
        obtain ⟨b, o, rfl, hbl, hcell⟩ := (R1.out.below hb).at_ hlt
        obtain ⟨b', o', rfl, hbl', hcell'⟩ := (R2.out.below hb).at_ hlt2
        have q0 := hcell 0 _ rfl
        have q1 := hcell' 0 _ rfl
        have q2 := hcell 1 _ rfl
        have q3 := hcell' 1 _ rfl
        simp only [Nat.add_zero] at q0 q1
        clear hcell hcell'
        have HN : Hid (xs[k] = ys[k] → xs.take (k + 1) = ys.take (k + 1)) := Lib.hid (fun h => by rw [take_snoc hlt, take_snoc hlt2, HA.out, h])
        have HD : Hid (¬ xs[k] = ys[k] → decide (xs = ys) = false) := Lib.hid (fun h => by simp only [decide_eq_false_iff_not]; intro h2; subst h2; exact h rfl)
        generalize xs[k] = x at *
        generalize ys[k] = y at *
        obtain ⟨x0, x1⟩ := x
        obtain ⟨y0, y1⟩ := y
        simp only [] at q0 q1 q2 q3
        by_cases hxy : x0 = y0 ∧ x1 = y1
        · obtain ⟨rfl, rfl⟩ := hxy
          have HN2 := Lib.hid (HN.out rfl)
          clear HN HD
          go_wp2
          go_quiet (fail)
          go_wp2
          go_roundw
          case rel => exact ⟨k + 1, by omega, by go_num, HN2.out, by (repeat' (first | (with_reducible exact Below.refl _ _) | (with_reducible refine Below.alloc ?_ ?_ _) | (with_reducible refine Below.drew ?_) | (with_reducible refine Below.drewN_ ?_ _) | (with_reducible refine Below.setCell ?_ ?_ _) | (with_reducible refine Below.setRow ?_ ?_ _) | (with_reducible refine Below.via ?_ (by with_reducible assumption) ?_) | go_size))⟩
          case measure => simp [intOf]; omega
        · have HD2 := Lib.hid (HD.out (fun h => hxy (by simpa using h)))
          have HQ := Lib.hid hxy
          clear hxy
          clear HN HD
          by_cases h0 : x0 = y0
          · subst h0
            have h1 : ¬ x1 = y1 := fun h => HQ.out ⟨rfl, h⟩
            go_wp2
            go_quiet (fail)
            go_wp2
            go_ret
            exact ⟨by rw [HD2.out]; rfl, by (repeat' (first | (with_reducible exact Below.refl _ _) | (with_reducible refine Below.alloc ?_ ?_ _) | (with_reducible refine Below.drew ?_) | (with_reducible refine Below.drewN_ ?_ _) | (with_reducible refine Below.setCell ?_ ?_ _) | (with_reducible refine Below.setRow ?_ ?_ _) | (with_reducible refine Below.via ?_ (by with_reducible assumption) ?_) | go_size))⟩
          · go_wp2
            go_quiet (fail)
            go_wp2
            go_ret
            exact ⟨by rw [HD2.out]; rfl, by (repeat' (first | (with_reducible exact Below.refl _ _) | (with_reducible refine Below.alloc ?_ ?_ _) | (with_reducible refine Below.drew ?_) | (with_reducible refine Below.drewN_ ?_ _) | (with_reducible refine Below.setCell ?_ ?_ _) | (with_reducible refine Below.setRow ?_ ?_ _) | (with_reducible refine Below.via ?_ (by with_reducible assumption) ?_) | go_size))⟩
      · have hx : xs = ys := by have h := HA.out; rw [List.take_of_length_le (by omega), List.take_of_length_le (by have := HE.out; omega)] at h; exact h
        have HX := Lib.hid (by simp [hx] : decide (xs = ys) = true)
        clear hx
        go_wp2
        go_ret
        exact ⟨by rw [HX.out]; rfl, by (repeat' (first | (with_reducible exact Below.refl _ _) | (with_reducible refine Below.alloc ?_ ?_ _) | (with_reducible refine Below.drew ?_) | (with_reducible refine Below.drewN_ ?_ _) | (with_reducible refine Below.setCell ?_ ?_ _) | (with_reducible refine Below.setRow ?_ ?_ _) | (with_reducible refine Below.via ?_ (by with_reducible assumption) ?_) | go_size))⟩
  · have hf : decide (xs = ys) = false := by simp; intro h; exact hne (by rw [h])
    rw [hf]
    clear hf
    have hi : ¬ (xs.length : Int) = (ys.length : Int) := by omega
    go_enter Try.func18, Try.ntmps18
    go_wp2
    go_ret
    exact ⟨rfl, by (repeat' (first | (with_reducible exact Below.refl _ _) | (with_reducible refine Below.alloc ?_ ?_ _) | (with_reducible refine Below.drew ?_) | (with_reducible refine Below.drewN_ ?_ _) | (with_reducible refine Below.setCell ?_ ?_ _) | (with_reducible refine Below.setRow ?_ ?_ _) | (with_reducible refine Below.via ?_ (by with_reducible assumption) ?_) | go_size))⟩

end Go.Proofs.Ytjkefoijhphknaa
