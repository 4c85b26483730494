/- Lists of lists of numbers are compared. Condition: lists that can be read, of no more than 1000000000 items. -/
import Derived.Test.YtjkefoijhphknaaSpans
import Derived.Deep.Cut
set_option linter.unusedSimpArgs false
set_option linter.unusedVariables false
namespace Go.Proofs.Ytjkefoijhphknaa
open Go.RowKit

/-- A list of numbers, and where it lies. -/
structure Hd where
  (A : Option Addr) (c : Nat) (l : List Int)
def hdV (h : Hd) : List Value := [.slice h.A h.l.length h.c]
def HdAt (w : World) (B : Nat) (hs : List Hd) : Prop := ∀ h ∈ hs, Rd w B h.A inV 1 h.l ∧ h.l.length ≤ 1000000000
theorem HdAt.below {w w' : World} {hs : List Hd} (h : HdAt w w.heap.size hs) (hb : Below w.heap.size w w') : HdAt w' w'.heap.size hs := fun r hr => ⟨((h r hr).1.below hb).more hb.size, (h r hr).2⟩

set_option maxHeartbeats 2000000 in
theorem sameLists_any (xs ys : List Hd) (c1 c2 : Nat) (A1 A2 : Option Addr) (w : World) (r1 : Rd w w.heap.size A1 hdV 1 xs) (r2 : Rd w w.heap.size A2 hdV 1 ys) (f1 : HdAt w w.heap.size xs) (f2 : HdAt w w.heap.size ys) (hl1 : xs.length ≤ 1000000000) (hl2 : ys.length ≤ 1000000000) :
    Calls Try.prog 31 #[.slice A1 xs.length c1, .slice A2 ys.length c2] w fun e w' => e = .returned (.bool (decide (xs.map (·.l) = ys.map (·.l)))) ∧ Below w.heap.size w w' := by
  have R1 := Lib.hid r1
  have R2 := Lib.hid r2
  have F1 := Lib.hid f1
  have F2 := Lib.hid f2
  clear r1 r2 f1 f2
  by_cases hne : xs.length = ys.length
  · have HE := Lib.hid hne
    go_enter Try.func31, Try.ntmps31
    go_wp2
    clear hne
    go_loopw [5] (fun i W => ∃ k : Nat, k ≤ xs.length ∧ i = .int .i64 k ∧ (xs.map (·.l)).take k = (ys.map (·.l)).take k ∧ Below w.heap.size w W) (fun i _ => xs.length - (intOf i).toNat)
    case atStart => exact ⟨0, by omega, rfl, by simp, Below.refl _ _⟩
    case round =>
      obtain ⟨k, hk, rfl, hall, hb⟩ := hrel
      have HA := Lib.hid hall
      clear hall
      by_cases hlt : k < xs.length
      · have hlt2 : k < ys.length := by have := HE.out; omega
        obtain ⟨b, o, rfl, hbl, hcell⟩ := R1.out.at_ hlt
        obtain ⟨b', o', rfl, hbl', hcell'⟩ := R2.out.at_ hlt2
        have q0 := hcell 0 _ rfl
        have q1 := hcell' 0 _ rfl
        simp only [Nat.add_zero, Nat.mul_one] at q0 q1
        clear hcell hcell'
        obtain ⟨fx, lx⟩ := F1.out xs[k] (List.getElem_mem hlt)
        obtain ⟨fy, ly⟩ := F2.out ys[k] (List.getElem_mem hlt2)
        have HN : Hid (xs[k].l = ys[k].l → (xs.map (·.l)).take (k + 1) = (ys.map (·.l)).take (k + 1)) := Lib.hid (fun h => by
          rw [take_snoc (by rw [List.length_map]; exact hlt), take_snoc (by rw [List.length_map]; exact hlt2), HA.out, List.getElem_map, List.getElem_map, h])
        have HD : Hid (¬ xs[k].l = ys[k].l → decide (xs.map (·.l) = ys.map (·.l)) = false) := Lib.hid (fun h => by
          simp only [decide_eq_false_iff_not]
          intro h2
          have h3 : (xs.map (·.l))[k]? = (ys.map (·.l))[k]? := by rw [h2]
          rw [List.getElem?_map, List.getElem?_map, List.getElem?_eq_getElem hlt, List.getElem?_eq_getElem hlt2] at h3
          exact h (by simpa using h3))
        generalize xs[k] = x at *
        generalize ys[k] = y at *
        obtain ⟨xA, xc, xl⟩ := x
        obtain ⟨yA, yc, yl⟩ := y
        dsimp only at fx fy lx ly HN HD
        have Q0 : Hid (w.cell? ⟨b, o + k, none⟩ = some (.slice xA xl.length xc)) := Lib.hid q0
        have Q1 : Hid (w.cell? ⟨b', o' + k, none⟩ = some (.slice yA yl.length yc)) := Lib.hid q1
        have q0' := (hb.cell (p := ⟨b, o + k, none⟩) hbl).trans Q0.out
        have q1' := (hb.cell (p := ⟨b', o' + k, none⟩) hbl').trans Q1.out
        have FX := Lib.hid fx
        have FY := Lib.hid fy
        clear q0 q1 fx fy
        by_cases hle : xl.length = yl.length
        · have HL := Lib.hid hle
          go_wp2
          go_quiet (fail)
          go_wp2
          clear hle
          go_loopw [6] (fun i W => ∃ j : Nat, j ≤ xl.length ∧ i = .int .i64 j ∧ xl.take j = yl.take j ∧ Below w.heap.size w W) (fun i _ => xl.length - (intOf i).toNat)
          case atStart => exact ⟨0, by omega, rfl, by simp, by (repeat' (first | (with_reducible exact Below.refl _ _) | (with_reducible refine Below.alloc ?_ ?_ _) | (with_reducible refine Below.drew ?_) | (with_reducible refine Below.drewN_ ?_ _) | (with_reducible refine Below.setCell ?_ ?_ _) | (with_reducible refine Below.setRow ?_ ?_ _) | (with_reducible refine Below.via ?_ (by with_reducible assumption) ?_) | go_size))⟩
          case round =>
            clear q0' q1' hb
            obtain ⟨j, hj, rfl, hal, hb⟩ := hrel
            have HB := Lib.hid hal
            clear hal
            have q0' := (hb.cell (p := ⟨b, o + k, none⟩) hbl).trans Q0.out
            have q1' := (hb.cell (p := ⟨b', o' + k, none⟩) hbl').trans Q1.out
            by_cases hjl : j < xl.length
            · have hjl2 : j < yl.length := by have := HL.out; omega
              obtain ⟨bx, ox, rfl, hbx, hcx⟩ := FX.out.at_ hjl
              obtain ⟨bY, oY, rfl, hbY, hcY⟩ := FY.out.at_ hjl2
              have p0 := (hb.cell (p := ⟨bx, ox + j, none⟩) hbx).trans (by have := hcx 0 _ rfl; simpa using this)
              have p1 := (hb.cell (p := ⟨bY, oY + j, none⟩) hbY).trans (by have := hcY 0 _ rfl; simpa using this)
              clear hcx hcY
              have HN3 : Hid (xl[j] = yl[j] → xl.take (j + 1) = yl.take (j + 1)) := Lib.hid (fun h => by rw [take_snoc hjl, take_snoc hjl2, HB.out, h])
              have HD3 : Hid (¬ xl[j] = yl[j] → ¬ xl = yl) := Lib.hid (fun h h2 => by subst h2; exact h rfl)
              generalize xl[j] = x at *
              generalize yl[j] = y at *
              by_cases hxy : x = y
              · subst hxy
                have HN2 := Lib.hid (HN3.out rfl)
                clear HN3 HD3
                go_wp2
                go_quiet (fail)
                go_wp2
                go_roundw
                case rel => exact ⟨j + 1, by omega, by go_num, HN2.out, by (repeat' (first | (with_reducible exact Below.refl _ _) | (with_reducible refine Below.alloc ?_ ?_ _) | (with_reducible refine Below.drew ?_) | (with_reducible refine Below.drewN_ ?_ _) | (with_reducible refine Below.setCell ?_ ?_ _) | (with_reducible refine Below.setRow ?_ ?_ _) | (with_reducible refine Below.via ?_ (by with_reducible assumption) ?_) | go_size))⟩
                case measure => simp [intOf]; omega
              · have HD2 := Lib.hid (HD.out (HD3.out hxy))
                clear HN3 HD3
                go_wp2
                go_quiet (fail)
                go_wp2
                go_ret
                exact ⟨by rw [HD2.out]; rfl, by (repeat' (first | (with_reducible exact Below.refl _ _) | (with_reducible refine Below.alloc ?_ ?_ _) | (with_reducible refine Below.drew ?_) | (with_reducible refine Below.drewN_ ?_ _) | (with_reducible refine Below.setCell ?_ ?_ _) | (with_reducible refine Below.setRow ?_ ?_ _) | (with_reducible refine Below.via ?_ (by with_reducible assumption) ?_) | go_size))⟩
            · have hx : xl = yl := by have h := HB.out; rw [List.take_of_length_le (by omega), List.take_of_length_le (by have := HL.out; omega)] at h; exact h
              have HN2 := Lib.hid (HN.out hx)
              clear hx
              go_wp2
              go_roundw
              case rel => exact ⟨k + 1, by omega, by go_num, HN2.out, by (repeat' (first | (with_reducible exact Below.refl _ _) | (with_reducible refine Below.alloc ?_ ?_ _) | (with_reducible refine Below.drew ?_) | (with_reducible refine Below.drewN_ ?_ _) | (with_reducible refine Below.setCell ?_ ?_ _) | (with_reducible refine Below.setRow ?_ ?_ _) | (with_reducible refine Below.via ?_ (by with_reducible assumption) ?_) | go_size))⟩
              case measure => simp [intOf]; omega
        · have HD2 := Lib.hid (HD.out (fun h => hle (by rw [h])))
          have hi : ¬ (xl.length : Int) = (yl.length : Int) := by omega
          clear HN HD
          go_wp2
          go_quiet (fail)
          go_wp2
          go_ret
          exact ⟨by rw [HD2.out]; rfl, by (repeat' (first | (with_reducible exact Below.refl _ _) | (with_reducible refine Below.alloc ?_ ?_ _) | (with_reducible refine Below.drew ?_) | (with_reducible refine Below.drewN_ ?_ _) | (with_reducible refine Below.setCell ?_ ?_ _) | (with_reducible refine Below.setRow ?_ ?_ _) | (with_reducible refine Below.via ?_ (by with_reducible assumption) ?_) | go_size))⟩
      · have hx : xs.map (·.l) = ys.map (·.l) := by have h := HA.out; rw [List.take_of_length_le (by rw [List.length_map]; omega), List.take_of_length_le (by have := HE.out; rw [List.length_map]; omega)] at h; exact h
        have HX := Lib.hid (by simp [hx] : decide (xs.map (·.l) = ys.map (·.l)) = true)
        clear hx
        go_wp2
        go_ret
        exact ⟨by rw [HX.out]; rfl, by (repeat' (first | (with_reducible exact Below.refl _ _) | (with_reducible refine Below.alloc ?_ ?_ _) | (with_reducible refine Below.drew ?_) | (with_reducible refine Below.drewN_ ?_ _) | (with_reducible refine Below.setCell ?_ ?_ _) | (with_reducible refine Below.setRow ?_ ?_ _) | (with_reducible refine Below.via ?_ (by with_reducible assumption) ?_) | go_size))⟩
  · have hf : decide (xs.map (·.l) = ys.map (·.l)) = false := by simp; intro h; have := congrArg List.length h; simp at this; exact hne this
    rw [hf]
    clear hf
    have hi : ¬ (xs.length : Int) = (ys.length : Int) := by omega
    go_enter Try.func31, Try.ntmps31
    go_wp2
    go_ret
    exact ⟨rfl, by (repeat' (first | (with_reducible exact Below.refl _ _) | (with_reducible refine Below.alloc ?_ ?_ _) | (with_reducible refine Below.drew ?_) | (with_reducible refine Below.drewN_ ?_ _) | (with_reducible refine Below.setCell ?_ ?_ _) | (with_reducible refine Below.setRow ?_ ?_ _) | (with_reducible refine Below.via ?_ (by with_reducible assumption) ?_) | go_size))⟩
end Go.Proofs.Ytjkefoijhphknaa
