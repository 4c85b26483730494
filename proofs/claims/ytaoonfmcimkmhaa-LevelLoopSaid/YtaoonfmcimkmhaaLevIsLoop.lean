/- level.isLoop. -/
import Derived.Test.YtaoonfmcimkmhaaLevAfter
import Derived.Test.YtaoonfmcimkmhaaPlan
namespace Go.Proofs.Ytaoonfmcimkmhaa
open Go.RowKit

/-- Whether the first k steps round a list of points lead from one point to another. -/
def stepB (p : Int) (xs : List Int) (k : Nat) : Bool := diffB p (xs.getD k 0) (xs.getD ((k + 1) % xs.length) 0)
def loopB (p : Int) (xs : List Int) : Bool := decide (2 ≤ xs.length) && decide (xs.length ≤ 20) && (List.range xs.length).all (stepB p xs)

theorem isLoop_any (p : Int) (s1 s2 s3 : Value) (xs : List Int) (c1 : Nat) (A1 : Option Addr) (w : World) (r1 : Rd w w.heap.size A1 inV 1 xs) (hl : xs.length ≤ 1000000000) :
    Calls Try.prog 56 #[.agg #[.int .i64 p, s1, s2, s3], .slice A1 xs.length c1] w fun e w' => e = .returned (.bool (loopB p xs)) ∧ Below w.heap.size w w' := by
  have R1 := Lib.hid r1
  clear r1
  by_cases h1 : (xs.length : Int) < 2
  · have HF : Hid (loopB p xs = false) := Lib.hid (by unfold loopB; rw [decide_eq_false (by omega)]; rfl)
    go_enter Try.func56, Try.ntmps56
    go_wp2
    go_ret
    exact ⟨by rw [HF.out]; rfl, by (repeat' (first | (with_reducible exact Below.refl _ _) | (with_reducible refine Below.alloc ?_ ?_ _) | (with_reducible refine Below.drew ?_) | (with_reducible refine Below.drewN_ ?_ _) | (with_reducible refine Below.setCell ?_ ?_ _) | (with_reducible refine Below.setRow ?_ ?_ _) | (with_reducible refine Below.via ?_ (by with_reducible assumption) ?_) | go_size))⟩
  · by_cases h2 : (20 : Int) < xs.length
    · have HF : Hid (loopB p xs = false) := Lib.hid (by unfold loopB; rw [decide_eq_false (p := xs.length ≤ 20) (by omega)]; simp)
      go_enter Try.func56, Try.ntmps56
      go_wp2
      go_ret
      exact ⟨by rw [HF.out]; rfl, by (repeat' (first | (with_reducible exact Below.refl _ _) | (with_reducible refine Below.alloc ?_ ?_ _) | (with_reducible refine Below.drew ?_) | (with_reducible refine Below.drewN_ ?_ _) | (with_reducible refine Below.setCell ?_ ?_ _) | (with_reducible refine Below.setRow ?_ ?_ _) | (with_reducible refine Below.via ?_ (by with_reducible assumption) ?_) | go_size))⟩
    · go_enter Try.func56, Try.ntmps56
      go_wp2
      generalize hw0 : (w.alloc (Obj.cells #[Value.int IntKind.i64 p, s1, s2, s3] 26)) = w0
      have hb0 : Below w.heap.size w w0 := by rw [← hw0]; (repeat' (first | (with_reducible exact Below.refl _ _) | (with_reducible refine Below.alloc ?_ ?_ _) | (with_reducible refine Below.drew ?_) | (with_reducible refine Below.drewN_ ?_ _) | (with_reducible refine Below.setCell ?_ ?_ _) | (with_reducible refine Below.setRow ?_ ?_ _) | (with_reducible refine Below.via ?_ (by with_reducible assumption) ?_) | go_size))
      have k0 : w0.cell? ⟨w.heap.size, 0, none⟩ = some (.int .i64 p) := by rw [← hw0]; simp
      have k1 : w0.cell? ⟨w.heap.size, 1, none⟩ = some s1 := by rw [← hw0]; simp
      have k2 : w0.cell? ⟨w.heap.size, 2, none⟩ = some s2 := by rw [← hw0]; simp
      have k3 : w0.cell? ⟨w.heap.size, 3, none⟩ = some s3 := by rw [← hw0]; simp
      have hsz : w0.heap.size = w.heap.size + 1 := by rw [← hw0]; simp
      have HS := Lib.hid hsz
      clear hsz hw0
      go_loopw [17] (fun i W => ∃ k : Nat, k ≤ xs.length ∧ i = .int .i64 k ∧ (∀ j, j < k → stepB p xs j = true) ∧ Below (w.heap.size + 1) w0 W) (fun i _ => xs.length - (intOf i).toNat)
      case atStart => exact ⟨0, by omega, rfl, fun j hj => by omega, Below.refl _ _⟩
      case round =>
        obtain ⟨k, hk, rfl, hall, hb⟩ := hrel
        have HA := Lib.hid hall
        clear hall
        have m0 := (hb.cell (p := ⟨w.heap.size, 0, none⟩) (Nat.lt_succ_self _)).trans k0
        have m1 := (hb.cell (p := ⟨w.heap.size, 1, none⟩) (Nat.lt_succ_self _)).trans k1
        have m2 := (hb.cell (p := ⟨w.heap.size, 2, none⟩) (Nat.lt_succ_self _)).trans k2
        have m3 := (hb.cell (p := ⟨w.heap.size, 3, none⟩) (Nat.lt_succ_self _)).trans k3
        have hz : w.heap.size < wr.heap.size := by have := hb.size; rw [HS.out] at this; omega
        by_cases hlt : k < xs.length
        · have hR := ((R1.out.below hb0).more (Nat.le_succ _)).below hb
          have HR := Lib.hid (hR.more (by omega : w.heap.size + 1 ≤ wr.heap.size))
          obtain ⟨b, o, rfl, hbl, hcell⟩ := hR.at_ hlt
          have q0 := hcell 0 _ rfl
          simp only [Nat.add_zero, Nat.mul_one] at q0
          clear hcell hR
          have HX := Lib.hid (by rw [List.getD_eq_getElem?_getD, List.getElem?_eq_getElem hlt]; rfl : xs.getD k 0 = xs[k])
          generalize xs[k] = x at *
          have HS1 := Lib.hid (by unfold stepB; rw [HX.out] : stepB p xs k = diffB p x (xs.getD ((k + 1) % xs.length) 0))
          have HAF := Lib.hid (fun (W : World) (h : Below wr.heap.size wr W) => after_any xs c1 _ k W ((HR.out.below h).more h.size) hl hlt)
          generalize xs.getD ((k + 1) % xs.length) 0 = nx at *
          go_wp2
          refine (wpIn_wide (n := 3)).1 ?_
          refine wpIn_region_planA (by kernel_rfl) 7 (by kernel_rfl) (by omega)
            (fun i => (#[.agg #[.int .i64 p, s1, s2, s3], .int .i64 x, .slice (some ⟨b, o, none⟩) xs.length c1, .int .i64 k, .int .i64 nx, .bool (diffB p x nx), .bool (!diffB p x nx)] : Array Value).getD i undef)
            (fun W => Below wr.heap.size wr W) _ _ ?aF ?hA ?hS ?hstep ?htail
          case hA => simp [putTo, putIf, dstAt, Act.put, List.range_succ]; rfl
          case hS => exact (Below.refl _ _).drew
          case hstep =>
            intro i o hi ho W hS
            refine ⟨fun _ _ => trivial, ?_⟩
            have y0 := (hS.cell (p := ⟨w.heap.size, 0, none⟩) hz).trans m0
            have y1 := (hS.cell (p := ⟨w.heap.size, 1, none⟩) hz).trans m1
            have y2 := (hS.cell (p := ⟨w.heap.size, 2, none⟩) hz).trans m2
            have y3 := (hS.cell (p := ⟨w.heap.size, 3, none⟩) hz).trans m3
            have hi' : i = 0 ∨ i = 1 ∨ i = 2 ∨ i = 3 ∨ i = 4 ∨ i = 5 ∨ i = 6 := by omega
            rcases hi' with rfl | rfl | rfl | rfl | rfl | rfl | rfl
            all_goals (simp only [List.getElem?_toArray, List.getElem?_cons_succ, List.getElem?_cons_zero, Option.some.injEq] at ho; subst ho)
            case inr.inr.inr.inr.inl =>
              go_simp
              refine ⟨by simp, callsIn_wide.2 ((HAF.out W hS).mono ?_)⟩
              rintro e w' ⟨rfl, rfl⟩
              exact ⟨_, rfl, rfl, hS⟩
            case inr.inr.inr.inr.inr.inl =>
              go_simp
              refine ⟨by simp, callsIn_wide.2 ((differ_any p x nx s1 s2 s3 W).mono ?_)⟩
              rintro e w' ⟨rfl, hb⟩
              exact ⟨_, rfl, rfl, hS.trans (hb.mono hS.size)⟩
            all_goals go_simp
            all_goals exact ⟨rfl, hS⟩
          case htail =>
            intro W hS
            simp only [List.drop_succ_cons, List.drop_zero]
            show Exit.then _ _ _ _ _
            have hbW := hb.trans (hS.mono (by omega))
            cases hd : diffB p x nx
            · have HF : Hid (loopB p xs = false) := Lib.hid (by
                have h5 : ((List.range xs.length).all (stepB p xs)) = false := by
                  rw [List.all_eq_false]
                  exact ⟨k, List.mem_range.2 hlt, by rw [HS1.out, hd]; simp⟩
                unfold loopB
                rw [h5]; simp)
              clear hd
              go_wp2
              go_ret
              exact ⟨by rw [HF.out]; rfl, by (repeat' (first | (with_reducible exact Below.refl _ _) | (with_reducible refine Below.alloc ?_ ?_ _) | (with_reducible refine Below.drew ?_) | (with_reducible refine Below.drewN_ ?_ _) | (with_reducible refine Below.setCell ?_ ?_ _) | (with_reducible refine Below.setRow ?_ ?_ _) | (with_reducible refine Below.via ?_ (by with_reducible assumption) ?_) | go_size))⟩
            · have HN : Hid (∀ j, j < k + 1 → stepB p xs j = true) := Lib.hid (fun j hj => by
                by_cases h : j < k
                · exact HA.out j h
                · rw [show j = k by omega, HS1.out, hd])
              clear hd
              go_wp2
              go_roundw
              case rel => exact ⟨k + 1, by omega, by go_num, HN.out, hbW⟩
              case measure => simp [intOf]; omega
        · have HF : Hid (loopB p xs = true) := Lib.hid (by
            unfold loopB
            rw [decide_eq_true (by omega), decide_eq_true (by omega)]
            simp only [Bool.true_and, List.all_eq_true, List.mem_range]
            exact fun j hj => HA.out j (by omega))
          go_wp2
          go_ret
          exact ⟨by rw [HF.out]; rfl, by (repeat' (first | (with_reducible exact Below.refl _ _) | (with_reducible refine Below.alloc ?_ ?_ _) | (with_reducible refine Below.drew ?_) | (with_reducible refine Below.drewN_ ?_ _) | (with_reducible refine Below.setCell ?_ ?_ _) | (with_reducible refine Below.setRow ?_ ?_ _) | (with_reducible refine Below.via ?_ (by with_reducible assumption) ?_) | go_size))⟩

end Go.Proofs.Ytaoonfmcimkmhaa
