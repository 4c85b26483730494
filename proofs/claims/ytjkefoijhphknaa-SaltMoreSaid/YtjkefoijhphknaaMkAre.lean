/- Which needs, fields and rents are valid. Condition: lists that can be read, of no more than 1000000000 items. -/
import Derived.Test.YtjkefoijhphknaaSaSmall
import Derived.Test.YtjkefoijhphknaaSpans
import Derived.Test.YtjkefoijhphknaaMkBits
import Derived.Deep.Cut
namespace Go.Proofs.Ytjkefoijhphknaa
open Go.RowKit

def fldsB (q : Int) : Int → List Int → Bool
  | _, [] => true
  | nx, f :: l => soIn f nx (q - 1) && fldsB q (f + 1) l
def needsB (xs : List Int) : Bool := (xs.all fun n => soIn n 0 23040) && decide (xs.length ≤ 8)
theorem drop_at {α : Type} {xs : List α} {k : Nat} (h : k < xs.length) : xs.drop k = xs[k] :: xs.drop (k + 1) := List.drop_eq_getElem_cons h

set_option maxHeartbeats 1000000 in
theorem areFields_any (xs : List Int) (q : Nat) (A1 : Option Addr) (c1 : Nat) (w : World) (r1 : Rd w w.heap.size A1 inV 1 xs) (hl : xs.length ≤ 1000000000) (hq : q ≤ 1000) :
    Calls Try.prog 135 #[.slice A1 xs.length c1, .int .i64 (q : Int)] w fun e w' => e = .returned (.bool (fldsB q 0 xs)) ∧ w = w' := by
  have R1 := Lib.hid r1
  clear r1
  go_enter Try.func135, Try.ntmps135
  go_wp2
  go_loopw [5, 10] (fun x i W => ∃ (k : Nat) (nx : Int), k ≤ xs.length ∧ x = .int .i64 nx ∧ i = .int .i64 k ∧ 0 ≤ nx ∧ nx ≤ 1000 ∧ fldsB q 0 xs = fldsB q nx (xs.drop k) ∧ w = W) (fun _ i _ => xs.length - (intOf i).toNat)
  case atStart => exact ⟨0, 0, by omega, rfl, rfl, by omega, by omega, by simp, rfl⟩
  case round =>
    obtain ⟨k, nx, hk, rfl, rfl, hn0, hn1, hall, rfl⟩ := hrel
    have HA := Lib.hid hall
    clear hall
    by_cases hlt : k < xs.length
    · obtain ⟨b, o, rfl, hbl, hcell⟩ := R1.out.at_ hlt
      have q0 := hcell 0 _ rfl
      simp only [Nat.add_zero, Nat.mul_one] at q0
      clear hcell
      have hd := drop_at hlt
      generalize xs[k] = f at *
      have HD := Lib.hid hd
      clear hd
      cases hs : soIn f nx ((q : Int) - 1)
      · have HS := Lib.hid hs
        go_wp2_with (go_at_call 44; refine (between_any _ _ _ _).mono ?_; rintro e w' ⟨rfl, rfl⟩; rw [HS.out])
        go_ret
        refine ⟨?_, rfl⟩
        rw [HA.out, HD.out]
        simp [fldsB, HS.out]
      · have HS := Lib.hid hs
        have hfb : nx ≤ f ∧ f ≤ (q : Int) - 1 := by simpa [soIn] using hs
        clear hs
        go_wp2_with (go_at_call 44; refine (between_any _ _ _ _).mono ?_; rintro e w' ⟨rfl, rfl⟩; rw [HS.out])
        go_roundw
        case rel =>
          refine ⟨k + 1, f + 1, by omega, by go_num, by go_num, by omega, by omega, ?_, by trivial⟩
          rw [HA.out, HD.out]
          simp [fldsB, HS.out]
        case measure => simp [intOf]; omega
    · have hx : fldsB (q : Int) 0 xs = true := by rw [HA.out, List.drop_of_length_le (by omega)]; rfl
      have HX := Lib.hid hx
      clear hx
      go_wp2
      go_ret
      exact ⟨by rw [HX.out]; rfl, rfl⟩

set_option maxHeartbeats 1000000 in
theorem areNeeds_any (xs : List Int) (A1 : Option Addr) (c1 : Nat) (w : World) (r1 : Rd w w.heap.size A1 inV 1 xs) (hl : xs.length ≤ 1000000000) :
    Calls Try.prog 97 #[.slice A1 xs.length c1] w fun e w' => e = .returned (.bool (needsB xs)) ∧ w = w' := by
  have R1 := Lib.hid r1
  clear r1
  go_enter Try.func97, Try.ntmps97
  go_wp2
  go_loopw [7] (fun i W => ∃ k : Nat, k ≤ xs.length ∧ i = .int .i64 k ∧ (xs.all fun n => soIn n 0 23040) = ((xs.drop k).all fun n => soIn n 0 23040) ∧ w = W) (fun i _ => xs.length - (intOf i).toNat)
  case atStart => exact ⟨0, by omega, rfl, by simp, rfl⟩
  case round =>
    obtain ⟨k, hk, rfl, hall, rfl⟩ := hrel
    have HA := Lib.hid hall
    clear hall
    by_cases hlt : k < xs.length
    · obtain ⟨b, o, rfl, hbl, hcell⟩ := R1.out.at_ hlt
      have q0 := hcell 0 _ rfl
      simp only [Nat.add_zero, Nat.mul_one] at q0
      clear hcell
      have hd := drop_at hlt
      generalize xs[k] = f at *
      have HD := Lib.hid hd
      clear hd
      cases hs : soIn f 0 23040
      · have HS := Lib.hid hs
        go_wp2_with (go_at_call 44; refine (between_any _ _ _ _).mono ?_; rintro e w' ⟨rfl, rfl⟩; rw [HS.out])
        go_ret
        refine ⟨?_, rfl⟩
        unfold needsB
        rw [HA.out, HD.out]
        simp [HS.out]
      · have HS := Lib.hid hs
        clear hs
        go_wp2_with (go_at_call 44; refine (between_any _ _ _ _).mono ?_; rintro e w' ⟨rfl, rfl⟩; rw [HS.out])
        go_roundw
        case rel =>
          refine ⟨k + 1, by omega, by go_num, ?_, by trivial⟩
          rw [HA.out, HD.out]
          simp [HS.out]
        case measure => simp [intOf]; omega
    · have hx : needsB xs = decide ((xs.length : Int) ≤ 8) := by unfold needsB; rw [HA.out, List.drop_of_length_le (by omega)]; simp; omega
      have HX := Lib.hid hx
      clear hx
      go_wp2
      go_ret
      exact ⟨by rw [HX.out]; rfl, rfl⟩

/-- A rent: its minutes and price, its fields, and where these lie. -/
structure Re where
  (mins price : Int) (fA : Option Addr) (fc : Nat) (fl : List Int)
def reV (r : Re) : List Value := [.int .i64 r.mins, .int .i64 r.price, .slice r.fA r.fl.length r.fc]
theorem reV_len (r : Re) : (reV r).length = 3 := rfl
def rentB (left q : Int) (r : Re) : Bool := soIn r.mins 0 left && (soIn r.price 0 100000 && fldsB q 0 r.fl)
def rentsL (q : Int) : Int → List Re → Bool
  | _, [] => true
  | left, r :: l => rentB left q r && rentsL q (left - r.mins) l
def rentsB (q : Int) (rs : List Re) : Bool := rentsL q 23040 rs && decide (rs.length ≤ 8)
/-- The fields of the rents can be read. -/
def ReAt (w : World) (B : Nat) (rs : List Re) : Prop := ∀ r ∈ rs, Rd w B r.fA inV 1 r.fl ∧ r.fl.length ≤ 1000000000

set_option maxHeartbeats 4000000 in
theorem areRents_any (rs : List Re) (q : Nat) (A1 : Option Addr) (c1 : Nat) (w : World) (r1 : Rd w w.heap.size A1 reV 3 rs) (rf : ReAt w w.heap.size rs) (hl : rs.length ≤ 1000000000) (hq : q ≤ 1000) :
    Calls Try.prog 98 #[.slice A1 rs.length c1, .int .i64 (q : Int)] w fun e w' => e = .returned (.bool (rentsB q rs)) ∧ Below w.heap.size w w' := by
  have R1 := Lib.hid r1
  have RF := Lib.hid rf
  clear r1 rf
  go_enter Try.func98, Try.ntmps98
  go_wp2
  go_loopw [5, 10] (fun x i W => ∃ (k : Nat) (left : Int), k ≤ rs.length ∧ x = .int .i64 left ∧ i = .int .i64 k ∧ 0 ≤ left ∧ left ≤ 23040 ∧ rentsL q 23040 rs = rentsL q left (rs.drop k) ∧ Below w.heap.size w W) (fun _ i _ => rs.length - (intOf i).toNat)
  case atStart => exact ⟨0, 23040, by omega, rfl, rfl, by omega, by omega, by simp, Below.refl _ _⟩
  case round =>
    obtain ⟨k, left, hk, rfl, rfl, hn0, hn1, hall, hb⟩ := hrel
    have HA := Lib.hid hall
    clear hall
    by_cases hlt : k < rs.length
    · obtain ⟨b, o, rfl, hbl, hcell⟩ := (R1.out.below hb).at_ hlt
      have q0 := hcell 0 _ rfl
      have q1 := hcell 1 _ rfl
      have q2 := hcell 2 _ rfl
      simp only [Nat.add_zero] at q0
      clear hcell
      have hd := drop_at hlt
      have hr := RF.out _ (List.getElem_mem hlt)
      generalize rs[k] = r at *
      obtain ⟨mins, price, fA, fc, fl⟩ := r
      dsimp only at hr q0 q1 q2
      obtain ⟨hr1, hr2⟩ := hr
      have HD := Lib.hid hd
      have HB := Lib.hid hb
      have HR1 := Lib.hid hr1
      clear hd hr1
      obtain ⟨w2, hw2⟩ : ∃ w2, wr.alloc (.cells #[.int .i64 mins, .int .i64 price, .slice fA fl.length fc] 89) = w2 := ⟨_, rfl⟩
      have b2 : Below w.heap.size w w2 := by rw [← hw2]; exact hb.alloc hb.size _
      have z0 : w2.cell? ⟨wr.heap.size, 0, none⟩ = some (.int .i64 mins) := by rw [← hw2]; simp
      have z1 : w2.cell? ⟨wr.heap.size, 1, none⟩ = some (.int .i64 price) := by rw [← hw2]; simp
      have z2 : w2.cell? ⟨wr.heap.size, 2, none⟩ = some (.slice fA fl.length fc) := by rw [← hw2]; simp
      have HW2 := Lib.hid hw2
      have B2 := Lib.hid b2
      have HAF := Lib.hid (areFields_any fl q fA fc w2 ((HR1.out.below b2).more b2.size) hr2 hq)
      clear hb hw2 b2
      go_upto_region 5 with (fail)
      rw [HW2.out]
      clear q0 q1 q2
      cases hs1 : soIn mins 0 left
      · have HS1 := Lib.hid hs1
        clear hs1
        go_wp2_with (go_at_call 44; refine (between_any _ _ _ _).mono ?_; rintro e w' ⟨rfl, rfl⟩; rw [HS1.out])
        go_ret
        refine ⟨?_, B2.out⟩
        unfold rentsB
        rw [HA.out, HD.out]
        simp [rentsL, rentB, HS1.out]
      · have HS1 := Lib.hid hs1
        have hm : 0 ≤ mins ∧ mins ≤ left := by simpa [soIn] using hs1
        clear hs1
        cases hs2 : soIn price 0 100000
        · have HS2 := Lib.hid hs2
          clear hs2
          have T1 : Hid True := Lib.hid trivial
          go_wp2_with (first | (have _t := T1; go_at_call 44; refine (between_any _ _ _ _).mono ?_; rintro e w' ⟨rfl, rfl⟩; rw [HS1.out]; clear T1 _t) | (go_at_call 44; refine (between_any _ _ _ _).mono ?_; rintro e w' ⟨rfl, rfl⟩; rw [HS2.out]))
          go_ret
          refine ⟨?_, B2.out⟩
          unfold rentsB
          rw [HA.out, HD.out]
          simp [rentsL, rentB, HS2.out]
        · have HS2 := Lib.hid hs2
          clear hs2
          have T1 : Hid True := Lib.hid trivial
          cases hs3 : fldsB (q : Int) 0 fl
          · have HS3 := Lib.hid hs3
            clear hs3
            go_wp2_with (first | (have _t := T1; go_at_call 44; refine (between_any _ _ _ _).mono ?_; rintro e w' ⟨rfl, rfl⟩; rw [HS1.out]; clear T1 _t) | (go_at_call 44; refine (between_any _ _ _ _).mono ?_; rintro e w' ⟨rfl, rfl⟩; rw [HS2.out]) | (go_at_call 135; refine HAF.out.mono ?_; rintro e w' ⟨rfl, rfl⟩; rw [HS3.out]))
            go_ret
            refine ⟨?_, B2.out⟩
            unfold rentsB
            rw [HA.out, HD.out]
            simp [rentsL, rentB, HS3.out]
          · have HS3 := Lib.hid hs3
            clear hs3
            go_wp2_with (first | (have _t := T1; go_at_call 44; refine (between_any _ _ _ _).mono ?_; rintro e w' ⟨rfl, rfl⟩; rw [HS1.out]; clear T1 _t) | (go_at_call 44; refine (between_any _ _ _ _).mono ?_; rintro e w' ⟨rfl, rfl⟩; rw [HS2.out]) | (go_at_call 135; refine HAF.out.mono ?_; rintro e w' ⟨rfl, rfl⟩; rw [HS3.out]))
            go_roundw
            case rel =>
              refine ⟨k + 1, left - mins, by omega, by go_num, by go_num, by omega, by omega, ?_, B2.out⟩
              rw [HA.out, HD.out]
              simp [rentsL, rentB, HS1.out, HS2.out, HS3.out]
            case measure => simp [intOf]; omega
    · have hx : rentsB (q : Int) rs = decide ((rs.length : Int) ≤ 8) := by unfold rentsB; rw [HA.out, List.drop_of_length_le (by omega)]; simp [rentsL]; omega
      have HX := Lib.hid hx
      clear hx
      go_wp2
      go_ret
      exact ⟨by rw [HX.out]; rfl, hb⟩
end Go.Proofs.Ytjkefoijhphknaa
