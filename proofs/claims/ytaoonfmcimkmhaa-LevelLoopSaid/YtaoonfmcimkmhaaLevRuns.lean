/- level.Runs: what it answers of every survey that reads as plain data, and of every list of numbers. Condition: the slices read below the heap's end. -/
import Derived.Test.YtaoonfmcimkmhaaRuns
import Derived.Test.YtaoonfmcimkmhaaLevFall
import Derived.Test.YtaoonfmcimkmhaaRefHts
set_option linter.unusedVariables false
namespace Go.Proofs.Ytaoonfmcimkmhaa
open Go.RowKit
attribute [local go_sem] wx_cell wx_frozen

set_option maxRecDepth 100000 in
set_option maxHeartbeats 4000000 in
theorem lruns_bad (s : Sv) (xs : List Int) (cp c1 c2 c3 : Nat) (AP A1 A2 A3 : Option Addr) (w : World)
    (r1 : Rd w w.heap.size A1 shV 4 s.shots) (r2 : Rd w w.heap.size A2 mkV 3 s.marks) (r3 : Rd w w.heap.size A3 shV 4 s.threads) (rp : Rd w w.heap.size AP inV 1 xs) (hok : svOk s = false) :
    Calls Try.prog 33 #[.agg #[.int .i64 s.n, .slice A1 s.shots.length c1, .slice A2 s.marks.length c2, .slice A3 s.threads.length c3], .slice AP xs.length cp] w fun e w' =>
      (∃ A c, e = .returned (.tuple #[.slice A (lvRuns s xs).1.length c, .int .i64 (lvRuns s xs).2]) ∧ Rd w' w'.heap.size A u8V 1 (lvRuns s xs).1) ∧ Below w.heap.size w w' := by
  have hb0 : Below w.heap.size w (w.alloc (Obj.cells #[Value.int IntKind.i64 s.n, Value.slice A1 s.shots.length c1, Value.slice A2 s.marks.length c2, Value.slice A3 s.threads.length c3] 26)) := by (repeat' (first | (with_reducible exact Below.refl _ _) | (with_reducible refine Below.alloc ?_ ?_ _) | (with_reducible refine Below.drew ?_) | (with_reducible refine Below.drewN_ ?_ _) | (with_reducible refine Below.setCell ?_ ?_ _) | (with_reducible refine Below.setRow ?_ ?_ _) | (with_reducible refine Below.via ?_ (by with_reducible assumption) ?_) | go_size))
  have R1 := Lib.hid ((r1.below hb0).more hb0.size)
  have R2 := Lib.hid ((r2.below hb0).more hb0.size)
  have R3 := Lib.hid ((r3.below hb0).more hb0.size)
  have RP := Lib.hid rp
  clear r1 r2 r3 rp
  have HC := Lib.hid (lcheck_any s c1 c2 c3 A1 A2 A3 (w.alloc (Obj.cells #[Value.int IntKind.i64 s.n, Value.slice A1 s.shots.length c1, Value.slice A2 s.marks.length c2, Value.slice A3 s.threads.length c3] 26)) R1.out R2.out R3.out)
  have e1 : svErr s = 10 := by unfold svErr; rw [hok]; rfl
  rw [e1] at HC
  rw [lvRuns_bad hok]
  clear e1 hok
  go_enter Try.func33, Try.ntmps33
  go_wp2_with (go_at_call 20; refine HC.out.mono ?_; rintro e w' ⟨rfl, hb1⟩; obtain ⟨hc1, hf1⟩ := bcell hb1; have hz1 := hb1.size; (try simp at hz1); (try have hy1 : w.heap.size < w'.heap.size := by omega))
  go_ret2
  exact ⟨⟨none, 0, rfl, fun h => absurd h (by simp)⟩, by (repeat' (first | (with_reducible exact Below.refl _ _) | (with_reducible refine Below.alloc ?_ ?_ _) | (with_reducible refine Below.drew ?_) | (with_reducible refine Below.drewN_ ?_ _) | (with_reducible refine Below.setCell ?_ ?_ _) | (with_reducible refine Below.setRow ?_ ?_ _) | (with_reducible refine Below.via ?_ (by with_reducible assumption) ?_) | go_size))⟩

set_option maxRecDepth 100000 in
set_option maxHeartbeats 4000000 in
theorem lruns_many (s : Sv) (xs : List Int) (cp c1 c2 c3 : Nat) (AP A1 A2 A3 : Option Addr) (w : World)
    (r1 : Rd w w.heap.size A1 shV 4 s.shots) (r2 : Rd w w.heap.size A2 mkV 3 s.marks) (r3 : Rd w w.heap.size A3 shV 4 s.threads) (rp : Rd w w.heap.size AP inV 1 xs) (hok : svOk s = true) (hgt : 20 < xs.length) :
    Calls Try.prog 33 #[.agg #[.int .i64 s.n, .slice A1 s.shots.length c1, .slice A2 s.marks.length c2, .slice A3 s.threads.length c3], .slice AP xs.length cp] w fun e w' =>
      (∃ A c, e = .returned (.tuple #[.slice A (lvRuns s xs).1.length c, .int .i64 (lvRuns s xs).2]) ∧ Rd w' w'.heap.size A u8V 1 (lvRuns s xs).1) ∧ Below w.heap.size w w' := by
  have hb0 : Below w.heap.size w (w.alloc (Obj.cells #[Value.int IntKind.i64 s.n, Value.slice A1 s.shots.length c1, Value.slice A2 s.marks.length c2, Value.slice A3 s.threads.length c3] 26)) := by (repeat' (first | (with_reducible exact Below.refl _ _) | (with_reducible refine Below.alloc ?_ ?_ _) | (with_reducible refine Below.drew ?_) | (with_reducible refine Below.drewN_ ?_ _) | (with_reducible refine Below.setCell ?_ ?_ _) | (with_reducible refine Below.setRow ?_ ?_ _) | (with_reducible refine Below.via ?_ (by with_reducible assumption) ?_) | go_size))
  have R1 := Lib.hid ((r1.below hb0).more hb0.size)
  have R2 := Lib.hid ((r2.below hb0).more hb0.size)
  have R3 := Lib.hid ((r3.below hb0).more hb0.size)
  have RP := Lib.hid rp
  clear r1 r2 r3 rp
  have HC := Lib.hid (lcheck_any s c1 c2 c3 A1 A2 A3 (w.alloc (Obj.cells #[Value.int IntKind.i64 s.n, Value.slice A1 s.shots.length c1, Value.slice A2 s.marks.length c2, Value.slice A3 s.threads.length c3] 26)) R1.out R2.out R3.out)
  have e1 : svErr s = 0 := by unfold svErr; rw [hok]; rfl
  rw [e1] at HC
  rw [lvRuns_many hok hgt]
  have hgt2 : (20 : Int) < (xs.length : Int) := by omega
  clear e1 hok
  go_enter Try.func33, Try.ntmps33
  go_wp2_with (go_at_call 20; refine HC.out.mono ?_; rintro e w' ⟨rfl, hb1⟩; obtain ⟨hc1, hf1⟩ := bcell hb1; have hz1 := hb1.size; (try simp at hz1); (try have hy1 : w.heap.size < w'.heap.size := by omega))
  go_ret2
  exact ⟨⟨none, 0, rfl, fun h => absurd h (by simp)⟩, by (repeat' (first | (with_reducible exact Below.refl _ _) | (with_reducible refine Below.alloc ?_ ?_ _) | (with_reducible refine Below.drew ?_) | (with_reducible refine Below.drewN_ ?_ _) | (with_reducible refine Below.setCell ?_ ?_ _) | (with_reducible refine Below.setRow ?_ ?_ _) | (with_reducible refine Below.via ?_ (by with_reducible assumption) ?_) | go_size))⟩

set_option maxRecDepth 100000 in
set_option maxHeartbeats 4000000 in
theorem lruns_arg (s : Sv) (xs : List Int) (cp c1 c2 c3 : Nat) (AP A1 A2 A3 : Option Addr) (w : World)
    (r1 : Rd w w.heap.size A1 shV 4 s.shots) (r2 : Rd w w.heap.size A2 mkV 3 s.marks) (r3 : Rd w w.heap.size A3 shV 4 s.threads) (rp : Rd w w.heap.size AP inV 1 xs) (hok : svOk s = true) (hle : xs.length ≤ 20) (hin0 : xs.all (inB s.n) = false) :
    Calls Try.prog 33 #[.agg #[.int .i64 s.n, .slice A1 s.shots.length c1, .slice A2 s.marks.length c2, .slice A3 s.threads.length c3], .slice AP xs.length cp] w fun e w' =>
      (∃ A c, e = .returned (.tuple #[.slice A (lvRuns s xs).1.length c, .int .i64 (lvRuns s xs).2]) ∧ Rd w' w'.heap.size A u8V 1 (lvRuns s xs).1) ∧ Below w.heap.size w w' := by
  have hb0 : Below w.heap.size w (w.alloc (Obj.cells #[Value.int IntKind.i64 s.n, Value.slice A1 s.shots.length c1, Value.slice A2 s.marks.length c2, Value.slice A3 s.threads.length c3] 26)) := by (repeat' (first | (with_reducible exact Below.refl _ _) | (with_reducible refine Below.alloc ?_ ?_ _) | (with_reducible refine Below.drew ?_) | (with_reducible refine Below.drewN_ ?_ _) | (with_reducible refine Below.setCell ?_ ?_ _) | (with_reducible refine Below.setRow ?_ ?_ _) | (with_reducible refine Below.via ?_ (by with_reducible assumption) ?_) | go_size))
  have R1 := Lib.hid ((r1.below hb0).more hb0.size)
  have R2 := Lib.hid ((r2.below hb0).more hb0.size)
  have R3 := Lib.hid ((r3.below hb0).more hb0.size)
  have RP := Lib.hid rp
  clear r1 r2 r3 rp
  have HC := Lib.hid (lcheck_any s c1 c2 c3 A1 A2 A3 (w.alloc (Obj.cells #[Value.int IntKind.i64 s.n, Value.slice A1 s.shots.length c1, Value.slice A2 s.marks.length c2, Value.slice A3 s.threads.length c3] 26)) R1.out R2.out R3.out)
  have e1 : svErr s = 0 := by unfold svErr; rw [hok]; rfl
  rw [e1] at HC
  rw [lvRuns_arg hok hle hin0]
  have HIN := Lib.hid hin0
  clear e1 hok hin0
  have hle2 : ¬ (20 : Int) < (xs.length : Int) := by omega
  go_enter Try.func33, Try.ntmps33
  go_upto_region 7 with (go_at_call 20; refine HC.out.mono ?_; rintro e w' ⟨rfl, hb1⟩; obtain ⟨hc1, hf1⟩ := bcell hb1; have hz1 := hb1.size; (try simp at hz1); (try have hy1 : w.heap.size < w'.heap.size := by omega))
  have s0 : w'.cell? ⟨w.heap.size, 0, none⟩ = some (.int .i64 s.n) := by rw [hc1 _ _ (by simp)]; simp
  have s1 : w'.cell? ⟨w.heap.size, 1, none⟩ = some (.slice A1 s.shots.length c1) := by rw [hc1 _ _ (by simp)]; simp
  have s2 : w'.cell? ⟨w.heap.size, 2, none⟩ = some (.slice A2 s.marks.length c2) := by rw [hc1 _ _ (by simp)]; simp
  have s3 : w'.cell? ⟨w.heap.size, 3, none⟩ = some (.slice A3 s.threads.length c3) := by rw [hc1 _ _ (by simp)]; simp
  have hb3 : Below w.heap.size w w' := by (repeat' (first | (with_reducible exact Below.refl _ _) | (with_reducible refine Below.alloc ?_ ?_ _) | (with_reducible refine Below.drew ?_) | (with_reducible refine Below.drewN_ ?_ _) | (with_reducible refine Below.setCell ?_ ?_ _) | (with_reducible refine Below.setRow ?_ ?_ _) | (with_reducible refine Below.via ?_ (by with_reducible assumption) ?_) | go_size))
  have hws : w.heap.size < w'.heap.size := by omega
  have S1 := Lib.hid ((R1.out.below hb1).more hb1.size)
  have S2 := Lib.hid ((R2.out.below hb1).more hb1.size)
  have SP := Lib.hid ((RP.out.below hb3).more hb3.size)
  clear hc1 hf1 hb1 hb0 hz1 R1 R2 R3 RP HC hy1
  go_loopw [23] (fun i W => ∃ k : Nat, k ≤ xs.length ∧ i = .int .i64 k ∧ (∀ j, j < k → inB s.n (xs.getD j 0) = true) ∧ Below w'.heap.size w' W) (fun i _ => xs.length - (intOf i).toNat)
  case atStart => exact ⟨0, by omega, rfl, fun j hj => by omega, Below.refl _ _⟩
  case round =>
    obtain ⟨k, hk, rfl, hall, hb⟩ := hrel
    have HA := Lib.hid hall
    clear hall
    have m0 := (hb.cell (p := ⟨w.heap.size, 0, none⟩) hws).trans s0
    have m1 := (hb.cell (p := ⟨w.heap.size, 1, none⟩) hws).trans s1
    have m2 := (hb.cell (p := ⟨w.heap.size, 2, none⟩) hws).trans s2
    have m3 := (hb.cell (p := ⟨w.heap.size, 3, none⟩) hws).trans s3
    clear s0 s1 s2 s3
    have hwr : w.heap.size < wr.heap.size := Nat.lt_of_lt_of_le hws hb.size
    have hbr := hb3.trans (hb.mono (by omega))
    by_cases hlt : k < xs.length
    · obtain ⟨b, o, rfl, hbl, hcell⟩ := (SP.out.below hb).at_ hlt
      have q0 := hcell 0 _ rfl
      simp only [Nat.add_zero, Nat.mul_one] at q0
      clear hcell
      have HX := Lib.hid (by rw [List.getD_eq_getElem?_getD, List.getElem?_eq_getElem hlt]; rfl : xs.getD k 0 = xs[k])
      have HXM := Lib.hid (List.getElem_mem hlt)
      generalize xs[k] = x at *
      have hfz : ∀ W, Below wr.heap.size wr W → True := fun _ _ => trivial
      cases hin : inB s.n x
      · go_wp2_with (go_at_call 49; refine (isPoint_any _ _ _ _ _ _).mono ?_; rintro e w2 ⟨rfl, hb2⟩; try rw [hin])
        go_ret2
        exact ⟨⟨none, 0, rfl, fun h => absurd h (by simp)⟩, hbr.trans (hb2.mono hbr.size)⟩
      · have HN : Hid (∀ j, j < k + 1 → inB s.n (xs.getD j 0) = true) := Lib.hid (fun j hj => by
          by_cases h : j < k
          · exact HA.out j h
          · rw [show j = k by omega, HX.out, hin])
        go_wp2_with (go_at_call 49; refine (isPoint_any _ _ _ _ _ _).mono ?_; rintro e w2 ⟨rfl, hb2⟩; try rw [hin])
        go_roundw
        case rel => exact ⟨k + 1, by omega, by go_num, HN.out, hb.trans (hb2.mono hb.size)⟩
        case measure => simp [intOf]; omega
    · exfalso
      have h := HIN.out
      rw [List.all_eq_false] at h
      obtain ⟨x, hx, hx2⟩ := h
      obtain ⟨j, hj, rfl⟩ := List.mem_iff_getElem.1 hx
      have h3 := HA.out j (by omega)
      rw [List.getD_eq_getElem?_getD, List.getElem?_eq_getElem hj] at h3
      exact hx2 h3

set_option maxRecDepth 100000 in
set_option maxHeartbeats 4000000 in
theorem lruns_apart (s : Sv) (xs : List Int) (cp c1 c2 c3 : Nat) (AP A1 A2 A3 : Option Addr) (w : World)
    (r1 : Rd w w.heap.size A1 shV 4 s.shots) (r2 : Rd w w.heap.size A2 mkV 3 s.marks) (r3 : Rd w w.heap.size A3 shV 4 s.threads) (rp : Rd w w.heap.size AP inV 1 xs) (hok : svOk s = true) (hle : xs.length ≤ 20) (hin0 : xs.all (inB s.n) = true) (D : Nat → Nat → Int) (hR : svD s = (D, false)) :
    Calls Try.prog 33 #[.agg #[.int .i64 s.n, .slice A1 s.shots.length c1, .slice A2 s.marks.length c2, .slice A3 s.threads.length c3], .slice AP xs.length cp] w fun e w' =>
      (∃ A c, e = .returned (.tuple #[.slice A (lvRuns s xs).1.length c, .int .i64 (lvRuns s xs).2]) ∧ Rd w' w'.heap.size A u8V 1 (lvRuns s xs).1) ∧ Below w.heap.size w w' := by
  have hb0 : Below w.heap.size w (w.alloc (Obj.cells #[Value.int IntKind.i64 s.n, Value.slice A1 s.shots.length c1, Value.slice A2 s.marks.length c2, Value.slice A3 s.threads.length c3] 26)) := by (repeat' (first | (with_reducible exact Below.refl _ _) | (with_reducible refine Below.alloc ?_ ?_ _) | (with_reducible refine Below.drew ?_) | (with_reducible refine Below.drewN_ ?_ _) | (with_reducible refine Below.setCell ?_ ?_ _) | (with_reducible refine Below.setRow ?_ ?_ _) | (with_reducible refine Below.via ?_ (by with_reducible assumption) ?_) | go_size))
  have R1 := Lib.hid ((r1.below hb0).more hb0.size)
  have R2 := Lib.hid ((r2.below hb0).more hb0.size)
  have R3 := Lib.hid ((r3.below hb0).more hb0.size)
  have RP := Lib.hid rp
  clear r1 r2 r3 rp
  have HC := Lib.hid (lcheck_any s c1 c2 c3 A1 A2 A3 (w.alloc (Obj.cells #[Value.int IntKind.i64 s.n, Value.slice A1 s.shots.length c1, Value.slice A2 s.marks.length c2, Value.slice A3 s.threads.length c3] 26)) R1.out R2.out R3.out)
  have e1 : svErr s = 0 := by unfold svErr; rw [hok]; rfl
  rw [e1] at HC
  rw [lvRuns_apart hok hle hin0 hR]
  have HOK := Lib.hid hok
  have hst := wkC_one s.n A1 A2 A3 s.shots.length s.marks.length s.threads.length c1 c2 c3
  have hsz := wkC_size (.int .i64 s.n) (.slice A1 s.shots.length c1) (.slice A2 s.marks.length c2) (.slice A3 s.threads.length c3)
  obtain ⟨cs, hcs⟩ : ∃ cs, wkC (.int .i64 s.n) (.slice A1 s.shots.length c1) (.slice A2 s.marks.length c2) (.slice A3 s.threads.length c3) = cs := ⟨_, rfl⟩
  have hcs' : (((Try.zeroCells93.setIfInBounds 0 (.int .i64 s.n)).setIfInBounds 1 (.slice A1 s.shots.length c1)).setIfInBounds 2 (.slice A2 s.marks.length c2)).setIfInBounds 3 (.slice A3 s.threads.length c3) = cs := (wkC_eq _ _ _ _).trans hcs
  have HCS := Lib.hid hcs
  have HCS' := Lib.hid hcs'
  clear hst hsz hcs hcs'
  have hda : ∀ W, WkAll W cs s (fun _ => false) 0 → Calls Try.prog 44 #[.agg cs] W fun e w' => e = .returned (.tuple #[.agg (matV D), .bool false]) ∧ Below W.heap.size W w' := fun W h => by
    have h2 := differences_any cs s _ 0 W h
    unfold svD at hR
    rw [hR] at h2
    exact h2
  have HDA := Lib.hid hda
  have HR := Lib.hid hR
  have HIN := Lib.hid hin0
  clear hda hR e1 hok hin0
  have hle2 : ¬ (20 : Int) < (xs.length : Int) := by omega
  go_enter Try.func33, Try.ntmps33
  go_upto_region 7 with (go_at_call 20; refine HC.out.mono ?_; rintro e w' ⟨rfl, hb1⟩; obtain ⟨hc1, hf1⟩ := bcell hb1; have hz1 := hb1.size; (try simp at hz1); (try have hy1 : w.heap.size < w'.heap.size := by omega))
  have s0 : w'.cell? ⟨w.heap.size, 0, none⟩ = some (.int .i64 s.n) := by rw [hc1 _ _ (by simp)]; simp
  have s1 : w'.cell? ⟨w.heap.size, 1, none⟩ = some (.slice A1 s.shots.length c1) := by rw [hc1 _ _ (by simp)]; simp
  have s2 : w'.cell? ⟨w.heap.size, 2, none⟩ = some (.slice A2 s.marks.length c2) := by rw [hc1 _ _ (by simp)]; simp
  have s3 : w'.cell? ⟨w.heap.size, 3, none⟩ = some (.slice A3 s.threads.length c3) := by rw [hc1 _ _ (by simp)]; simp
  have hb3 : Below w.heap.size w w' := by (repeat' (first | (with_reducible exact Below.refl _ _) | (with_reducible refine Below.alloc ?_ ?_ _) | (with_reducible refine Below.drew ?_) | (with_reducible refine Below.drewN_ ?_ _) | (with_reducible refine Below.setCell ?_ ?_ _) | (with_reducible refine Below.setRow ?_ ?_ _) | (with_reducible refine Below.via ?_ (by with_reducible assumption) ?_) | go_size))
  have hws : w.heap.size < w'.heap.size := by omega
  have S1 := Lib.hid ((R1.out.below hb1).more hb1.size)
  have S2 := Lib.hid ((R2.out.below hb1).more hb1.size)
  have SP := Lib.hid ((RP.out.below hb3).more hb3.size)
  clear hc1 hf1 hb1 hb0 hz1 R1 R2 R3 RP HC hy1
  go_loopw [23] (fun i W => ∃ k : Nat, k ≤ xs.length ∧ i = .int .i64 k ∧ (∀ j, j < k → inB s.n (xs.getD j 0) = true) ∧ Below w'.heap.size w' W) (fun i _ => xs.length - (intOf i).toNat)
  case atStart => exact ⟨0, by omega, rfl, fun j hj => by omega, Below.refl _ _⟩
  case round =>
    obtain ⟨k, hk, rfl, hall, hb⟩ := hrel
    have HA := Lib.hid hall
    clear hall
    have m0 := (hb.cell (p := ⟨w.heap.size, 0, none⟩) hws).trans s0
    have m1 := (hb.cell (p := ⟨w.heap.size, 1, none⟩) hws).trans s1
    have m2 := (hb.cell (p := ⟨w.heap.size, 2, none⟩) hws).trans s2
    have m3 := (hb.cell (p := ⟨w.heap.size, 3, none⟩) hws).trans s3
    clear s0 s1 s2 s3
    have hwr : w.heap.size < wr.heap.size := Nat.lt_of_lt_of_le hws hb.size
    have hbr := hb3.trans (hb.mono (by omega))
    by_cases hlt : k < xs.length
    · obtain ⟨b, o, rfl, hbl, hcell⟩ := (SP.out.below hb).at_ hlt
      have q0 := hcell 0 _ rfl
      simp only [Nat.add_zero, Nat.mul_one] at q0
      clear hcell
      have HX := Lib.hid (by rw [List.getD_eq_getElem?_getD, List.getElem?_eq_getElem hlt]; rfl : xs.getD k 0 = xs[k])
      have HXM := Lib.hid (List.getElem_mem hlt)
      generalize xs[k] = x at *
      have hfz : ∀ W, Below wr.heap.size wr W → True := fun _ _ => trivial
      cases hin : inB s.n x
      · exfalso
        have h := HIN.out
        rw [List.all_eq_true] at h
        have h3 := h x HXM.out
        rw [hin] at h3
        cases h3
      · have HN : Hid (∀ j, j < k + 1 → inB s.n (xs.getD j 0) = true) := Lib.hid (fun j hj => by
          by_cases h : j < k
          · exact HA.out j h
          · rw [show j = k by omega, HX.out, hin])
        go_wp2_with (go_at_call 49; refine (isPoint_any _ _ _ _ _ _).mono ?_; rintro e w2 ⟨rfl, hb2⟩; try rw [hin])
        go_roundw
        case rel => exact ⟨k + 1, by omega, by go_num, HN.out, hb.trans (hb2.mono hb.size)⟩
        case measure => simp [intOf]; omega
    · have hcs'' := HCS'.out
      have tok1 : True := trivial
      go_wp2_with (first | (go_at_call 44; refine (HDA.out _ (by rw [← HCS.out]; exact wkAll_of _ s c1 c2 c3 A1 A2 A3 HOK.out ((S1.out.below hb).more hb.size) ((S2.out.below hb).more hb.size))).mono ?_; rintro e w2 ⟨rfl, hb2⟩; have hz2 := hb2.size; clear hcs'') | (have _t := tok1; refine wpList_store_row rfl 96 (.tmp 9) (.tmp 36) rfl w2.heap.size (matV D) rfl rfl 96 Try.zeroCells96 (heap_alloc_new _ _) (info96 D) (zero96_size D) (matV_one D) ?_; rw [World.setRow_alloc_new]; clear tok1 _t))
      go_ret2
      exact ⟨⟨none, 0, rfl, fun h => absurd h (by simp)⟩, hbr.trans (Below.mono (by (repeat' (first | (with_reducible exact Below.refl _ _) | (with_reducible refine Below.alloc ?_ ?_ _) | (with_reducible refine Below.drew ?_) | (with_reducible refine Below.drewN_ ?_ _) | (with_reducible refine Below.setCell ?_ ?_ _) | (with_reducible refine Below.setRow ?_ ?_ _) | (with_reducible refine Below.via ?_ (by with_reducible assumption) ?_) | go_size))) hbr.size)⟩

set_option maxRecDepth 100000 in
set_option maxHeartbeats 4000000 in
theorem lruns_fine (s : Sv) (xs : List Int) (cp c1 c2 c3 : Nat) (AP A1 A2 A3 : Option Addr) (w : World)
    (r1 : Rd w w.heap.size A1 shV 4 s.shots) (r2 : Rd w w.heap.size A2 mkV 3 s.marks) (r3 : Rd w w.heap.size A3 shV 4 s.threads) (rp : Rd w w.heap.size AP inV 1 xs) (hok : svOk s = true) (hle : xs.length ≤ 20) (hin0 : xs.all (inB s.n) = true) (D : Nat → Nat → Int) (hR : svD s = (D, true)) :
    Calls Try.prog 33 #[.agg #[.int .i64 s.n, .slice A1 s.shots.length c1, .slice A2 s.marks.length c2, .slice A3 s.threads.length c3], .slice AP xs.length cp] w fun e w' =>
      (∃ A c, e = .returned (.tuple #[.slice A (lvRuns s xs).1.length c, .int .i64 (lvRuns s xs).2]) ∧ Rd w' w'.heap.size A u8V 1 (lvRuns s xs).1) ∧ Below w.heap.size w w' := by
  have HSM := Lib.hid (fun (a b : Nat) ha hb => svD_order hok hR (a := a) (b := b) ha hb)
  have hn20 : s.n.toNat ≤ 20 := by obtain ⟨⟨n1, n2, _⟩, _⟩ := svOk_spec hok; omega
  have hb0 : Below w.heap.size w (w.alloc (Obj.cells #[Value.int IntKind.i64 s.n, Value.slice A1 s.shots.length c1, Value.slice A2 s.marks.length c2, Value.slice A3 s.threads.length c3] 26)) := by (repeat' (first | (with_reducible exact Below.refl _ _) | (with_reducible refine Below.alloc ?_ ?_ _) | (with_reducible refine Below.drew ?_) | (with_reducible refine Below.drewN_ ?_ _) | (with_reducible refine Below.setCell ?_ ?_ _) | (with_reducible refine Below.setRow ?_ ?_ _) | (with_reducible refine Below.via ?_ (by with_reducible assumption) ?_) | go_size))
  have R1 := Lib.hid ((r1.below hb0).more hb0.size)
  have R2 := Lib.hid ((r2.below hb0).more hb0.size)
  have R3 := Lib.hid ((r3.below hb0).more hb0.size)
  have RP := Lib.hid rp
  clear r1 r2 r3 rp
  have HC := Lib.hid (lcheck_any s c1 c2 c3 A1 A2 A3 (w.alloc (Obj.cells #[Value.int IntKind.i64 s.n, Value.slice A1 s.shots.length c1, Value.slice A2 s.marks.length c2, Value.slice A3 s.threads.length c3] 26)) R1.out R2.out R3.out)
  have e1 : svErr s = 0 := by unfold svErr; rw [hok]; rfl
  rw [e1] at HC
  rw [lvRuns_fine hok hle hin0 hR]
  have HOK := Lib.hid hok
  have hst := wkC_one s.n A1 A2 A3 s.shots.length s.marks.length s.threads.length c1 c2 c3
  have hsz := wkC_size (.int .i64 s.n) (.slice A1 s.shots.length c1) (.slice A2 s.marks.length c2) (.slice A3 s.threads.length c3)
  obtain ⟨cs, hcs⟩ : ∃ cs, wkC (.int .i64 s.n) (.slice A1 s.shots.length c1) (.slice A2 s.marks.length c2) (.slice A3 s.threads.length c3) = cs := ⟨_, rfl⟩
  have hcs' : (((Try.zeroCells93.setIfInBounds 0 (.int .i64 s.n)).setIfInBounds 1 (.slice A1 s.shots.length c1)).setIfInBounds 2 (.slice A2 s.marks.length c2)).setIfInBounds 3 (.slice A3 s.threads.length c3) = cs := (wkC_eq _ _ _ _).trans hcs
  have HCS := Lib.hid hcs
  have HCS' := Lib.hid hcs'
  clear hst hsz hcs hcs'
  have hda : ∀ W, WkAll W cs s (fun _ => false) 0 → Calls Try.prog 44 #[.agg cs] W fun e w' => e = .returned (.tuple #[.agg (matV D), .bool true]) ∧ Below W.heap.size W w' := fun W h => by
    have h2 := differences_any cs s _ 0 W h
    unfold svD at hR
    rw [hR] at h2
    exact h2
  have HDA := Lib.hid hda
  have HR := Lib.hid hR
  have HIN := Lib.hid hin0
  clear hda hR e1 hok hin0
  have hle2 : ¬ (20 : Int) < (xs.length : Int) := by omega
  go_enter Try.func33, Try.ntmps33
  go_upto_region 7 with (go_at_call 20; refine HC.out.mono ?_; rintro e w' ⟨rfl, hb1⟩; obtain ⟨hc1, hf1⟩ := bcell hb1; have hz1 := hb1.size; (try simp at hz1); (try have hy1 : w.heap.size < w'.heap.size := by omega))
  have s0 : w'.cell? ⟨w.heap.size, 0, none⟩ = some (.int .i64 s.n) := by rw [hc1 _ _ (by simp)]; simp
  have s1 : w'.cell? ⟨w.heap.size, 1, none⟩ = some (.slice A1 s.shots.length c1) := by rw [hc1 _ _ (by simp)]; simp
  have s2 : w'.cell? ⟨w.heap.size, 2, none⟩ = some (.slice A2 s.marks.length c2) := by rw [hc1 _ _ (by simp)]; simp
  have s3 : w'.cell? ⟨w.heap.size, 3, none⟩ = some (.slice A3 s.threads.length c3) := by rw [hc1 _ _ (by simp)]; simp
  have hb3 : Below w.heap.size w w' := by (repeat' (first | (with_reducible exact Below.refl _ _) | (with_reducible refine Below.alloc ?_ ?_ _) | (with_reducible refine Below.drew ?_) | (with_reducible refine Below.drewN_ ?_ _) | (with_reducible refine Below.setCell ?_ ?_ _) | (with_reducible refine Below.setRow ?_ ?_ _) | (with_reducible refine Below.via ?_ (by with_reducible assumption) ?_) | go_size))
  have hws : w.heap.size < w'.heap.size := by omega
  have S1 := Lib.hid ((R1.out.below hb1).more hb1.size)
  have S2 := Lib.hid ((R2.out.below hb1).more hb1.size)
  have SP := Lib.hid ((RP.out.below hb3).more hb3.size)
  clear hc1 hf1 hb1 hb0 hz1 R1 R2 R3 RP HC hy1
  go_loopw [23] (fun i W => ∃ k : Nat, k ≤ xs.length ∧ i = .int .i64 k ∧ (∀ j, j < k → inB s.n (xs.getD j 0) = true) ∧ Below w'.heap.size w' W) (fun i _ => xs.length - (intOf i).toNat)
  case atStart => exact ⟨0, by omega, rfl, fun j hj => by omega, Below.refl _ _⟩
  case round =>
    obtain ⟨k, hk, rfl, hall, hb⟩ := hrel
    have HA := Lib.hid hall
    clear hall
    have m0 := (hb.cell (p := ⟨w.heap.size, 0, none⟩) hws).trans s0
    have m1 := (hb.cell (p := ⟨w.heap.size, 1, none⟩) hws).trans s1
    have m2 := (hb.cell (p := ⟨w.heap.size, 2, none⟩) hws).trans s2
    have m3 := (hb.cell (p := ⟨w.heap.size, 3, none⟩) hws).trans s3
    clear s0 s1 s2 s3
    have hwr : w.heap.size < wr.heap.size := Nat.lt_of_lt_of_le hws hb.size
    have hbr := hb3.trans (hb.mono (by omega))
    by_cases hlt : k < xs.length
    · obtain ⟨b, o, rfl, hbl, hcell⟩ := (SP.out.below hb).at_ hlt
      have q0 := hcell 0 _ rfl
      simp only [Nat.add_zero, Nat.mul_one] at q0
      clear hcell
      have HX := Lib.hid (by rw [List.getD_eq_getElem?_getD, List.getElem?_eq_getElem hlt]; rfl : xs.getD k 0 = xs[k])
      have HXM := Lib.hid (List.getElem_mem hlt)
      generalize xs[k] = x at *
      have hfz : ∀ W, Below wr.heap.size wr W → True := fun _ _ => trivial
      cases hin : inB s.n x
      · exfalso
        have h := HIN.out
        rw [List.all_eq_true] at h
        have h3 := h x HXM.out
        rw [hin] at h3
        cases h3
      · have HN : Hid (∀ j, j < k + 1 → inB s.n (xs.getD j 0) = true) := Lib.hid (fun j hj => by
          by_cases h : j < k
          · exact HA.out j h
          · rw [show j = k by omega, HX.out, hin])
        go_wp2_with (go_at_call 49; refine (isPoint_any _ _ _ _ _ _).mono ?_; rintro e w2 ⟨rfl, hb2⟩; try rw [hin])
        go_roundw
        case rel => exact ⟨k + 1, by omega, by go_num, HN.out, hb.trans (hb2.mono hb.size)⟩
        case measure => simp [intOf]; omega
    · have hcs'' := HCS'.out
      have tok1 : True := trivial
      clear HA
      go_upto_region 17 with (first | (go_at_call 44; refine (HDA.out _ (by rw [← HCS.out]; exact wkAll_of _ s c1 c2 c3 A1 A2 A3 HOK.out ((S1.out.below hb).more hb.size) ((S2.out.below hb).more hb.size))).mono ?_; rintro e w2 ⟨rfl, hb2⟩; have hz2 := hb2.size; clear hcs'') | (have _t := tok1; refine wpList_store_row rfl 96 (.tmp 9) (.tmp 36) rfl w2.heap.size (matV D) rfl rfl 96 Try.zeroCells96 (heap_alloc_new _ _) (info96 D) (zero96_size D) (matV_one D) ?_; rw [World.setRow_alloc_new]; clear tok1 _t))
      obtain ⟨w3, hw3⟩ : ∃ w3, w2.alloc (.cells (matV D) 96) = w3 := ⟨_, rfl⟩
      obtain ⟨g, hg⟩ : ∃ g, w2.heap.size = g := ⟨_, rfl⟩
      rw [hw3, hg]
      have HM3 := Lib.hid (show MatAt w3 g D by rw [← hw3, ← hg]; exact MatAt.new _ _)
      have hb23 : Below w2.heap.size w2 w3 := by rw [← hw3]; exact (Below.refl _ _).alloc (Nat.le_refl _) _
      have hg3 : g < w3.heap.size := by rw [← hw3, ← hg]; simp
      have hbr3 : Below wr.heap.size wr w3 := hb2.trans (hb23.mono hb2.size)
      have hb03 : Below w.heap.size w w3 := hbr.trans (hbr3.mono hbr.size)
      have T := Lib.hid ((SP.out.below (hb.trans (hbr3.mono hb.size))).more (hb.trans (hbr3.mono hb.size)).size)
      have hwg : w.heap.size ≤ g := by have := hbr.size; omega
      clear hlt hk hb23 hbr3 hb2 hz2 hw3 hg m0 m1 m2 m3 hbr hwr hb hb3 hws S1 S2 SP HDA HCS HCS'
      obtain ⟨i0, hi0, hz0, hz1, hz2⟩ := info_parts infoU8
      have I0 := Lib.hid (And.intro hi0 (And.intro hz0 (And.intro hz1 hz2)))
      clear hi0 hz0 hz1 hz2
      go_loopw [11, 12] (fun v11 v12 W => ∃ k : Nat, (k + 1 ≤ xs.length ∨ k = 0) ∧ v12 = .int .i64 ((k : Int) + 1) ∧ Own W w3.heap.size 5 v11 u8V 1 ((runsOf D xs).take k) ∧ Below w3.heap.size w3 W) (fun _ i _ => xs.length - (intOf i).toNat)
      case atStart => exact ⟨0, .inr rfl, rfl, Own.nil_ _ _ _ _ _, Below.refl _ _⟩
      case round =>
        obtain ⟨k, hk, rfl, hO, hbk⟩ := hrel
        have HO := Lib.hid hO
        clear hO
        by_cases hlt : k + 1 < xs.length
        · have HT := Lib.hid (runsOf_take (D := D) hlt)
          have hRT := T.out.below hbk
          obtain ⟨b, o, rfl, hbl, hcell⟩ := hRT.at_ hlt
          have q1 := hcell 0 _ rfl
          obtain ⟨b', o', hbo, hbl', hcell'⟩ := hRT.at_ (show k < xs.length by omega)
          have q0 := hcell' 0 _ rfl
          injection hbo with hbo
          injection hbo with hbo1 hbo2 _
          subst hbo1 hbo2
          simp only [Nat.add_zero, Nat.mul_one] at q0 q1
          clear hcell hcell' hRT hbl'
          have i0' := ptIn HIN.out (show k < xs.length by omega)
          have i1' := ptIn HIN.out hlt
          have HRA : Hid (runAt D xs k = aboveB (-(D (xs.getD k 0).toNat (xs.getD (k + 1) 0).toNat)) (D (xs.getD (k + 1) 0).toNat (xs.getD k 0).toNat)) := Lib.hid rfl
          have hg0 : xs.getD k 0 = xs[k] := by rw [List.getD_eq_getElem?_getD, List.getElem?_eq_getElem (show k < xs.length by omega)]; rfl
          have hg1 : xs.getD (k + 1) 0 = xs[k + 1] := by rw [List.getD_eq_getElem?_getD, List.getElem?_eq_getElem hlt]; rfl
          rw [hg0] at i0'
          rw [hg1] at i1'
          have HRA2 : Hid (runAt D xs k = aboveB (-(D xs[k].toNat xs[k + 1].toNat)) (D xs[k + 1].toNat xs[k].toNat)) := Lib.hid (by rw [HRA.out, hg0, hg1])
          clear HRA hg0 hg1
          generalize xs[k] = x0 at *
          generalize xs[k + 1] = x1 at *
          obtain ⟨y0, hy0⟩ := Int.eq_ofNat_of_zero_le i0'.1
          obtain ⟨y1, hy1⟩ := Int.eq_ofNat_of_zero_le i1'.1
          subst hy0 hy1
          have ly0 : y0 < s.n.toNat + 1 := by omega
          have ly1 : y1 < s.n.toNat + 1 := by omega
          clear i0' i1'
          have hblr : b < wr.heap.size := Nat.lt_of_lt_of_le hbl hbk.size
          have hki : IntKind.i64.wrap ((k : Int) + 1 - 1) = k := by rw [show (k : Int) + 1 - 1 = k by omega]; exact IntWalk.i64_in _ (by omega)
          have hord := HSM.out y0 y1 ly0 ly1
          have hord2 := HSM.out y1 y0 ly1 ly0
          have HRA3 : Hid (runAt D xs k = aboveB (-(D y0 y1)) (D y1 y0)) := HRA2
          clear HRA2
          have HM := Lib.hid (HM3.out.below hbk hg3)
          have HRS := Lib.hid (fun (W : World) (h : Below wr.heap.size wr W) => rise_any g y1 y0 D W (HM.out.below h (HM.out.lt)) (by omega) (by omega) (by omega) (by omega))
          have hlk : ((runsOf D xs).take k).length ≤ 20 := by rw [List.length_take, runsOf_len]; omega
          have hbd := aboveB_bd (-(D y0 y1)) (D y1 y0)
          go_wp2
          refine wp_region_calm_tail0 12 (by kernel_rfl) (by kernel_rfl) (by omega) (by kernel_rfl) (by kernel_rfl) (by kernel_rfl) _ _ rfl rfl rfl (fun _ _ _ h => h) ?_
          (simp only [List.take_succ_cons, List.take_zero, List.drop_succ_cons, List.drop_zero])
          repeat (go_big_quiet_step ((first | (go_at_call 45; exact calm_of (HRS.out _ (wx_below _ _))) | (go_at_call 67; exact calm_of (above_any _ _ _)))))
          refine wpQuiet_nil ?_; rintro _ ⟨dx, rfl⟩
          obtain ⟨wy, hwy⟩ : ∃ wy, wx _ dx = wy := ⟨_, rfl⟩; have hby := wx_below _ dx; rw [hwy] at hby ⊢
          gi_wp2_with (gi_at_builtin; refine wpListIn_append_rd rfl (.tmp 46) (.tmp 58) 61 rfl i0 _ 1 Try.underlying61 I0.out.1 I0.out.2.1 I0.out.2.2.1 I0.out.2.2.2 rfl (by omega) u8V_len u8V_one rfl (HO.out.below (hby.alloc hby.size _)) rfl rfl (Rd.one _ (aboveB (-(D y0 y1)) (D y1 y0)) #[.int .u8 (aboveB (-(D y0 y1)) (D y1 y0))] 5 rfl) (by simp; omega) (by omega) (by simp; have := hby.size; have := hbk.size; omega) ?_; intro v' w5 ho5 hg5 hat5)
          have hg6 : World.grownBy _ w5 u11.ownBlock := hg5
          have hb5 : Below w3.heap.size w3 w5 := ((hbk.trans (hby.mono hbk.size)).alloc (by have := hby.size; have := hbk.size; omega) _).trans (below_grown hg6 (by simp; have := hby.size; have := hbk.size; omega) (fun b hb => (HO.out.lt b hb).1))
          have HO5 := Lib.hid ho5
          clear ho5 hg5 hg6 hat5
          go_wp2
          go_roundw
          case rel => exact ⟨k + 1, by omega, by go_num, by rw [HT.out, HRA3.out]; exact HO5.out, hb5⟩
          case measure => (simp [intOf] <;> omega)
        · have HO6 : Hid (Own wr w3.heap.size 5 u11 u8V 1 (runsOf D xs)) := Lib.hid (by have h := HO.out; rw [runsOf_all (by omega)] at h; exact h)
          go_wp2
          go_ret2
          obtain ⟨A, c, rfl⟩ := HO6.out.form
          exact ⟨⟨A, c, rfl, HO6.out.rd u8V_len⟩, hb03.trans (hbk.mono hb03.size)⟩

/-- level.Runs answers lvRuns. -/
theorem lruns_any (s : Sv) (xs : List Int) (cp c1 c2 c3 : Nat) (AP A1 A2 A3 : Option Addr) (w : World)
    (r1 : Rd w w.heap.size A1 shV 4 s.shots) (r2 : Rd w w.heap.size A2 mkV 3 s.marks) (r3 : Rd w w.heap.size A3 shV 4 s.threads) (rp : Rd w w.heap.size AP inV 1 xs) :
    Calls Try.prog 33 #[.agg #[.int .i64 s.n, .slice A1 s.shots.length c1, .slice A2 s.marks.length c2, .slice A3 s.threads.length c3], .slice AP xs.length cp] w fun e w' =>
      (∃ A c, e = .returned (.tuple #[.slice A (lvRuns s xs).1.length c, .int .i64 (lvRuns s xs).2]) ∧ Rd w' w'.heap.size A u8V 1 (lvRuns s xs).1) ∧ Below w.heap.size w w' := by
  cases hok : svOk s
  · exact lruns_bad s xs cp c1 c2 c3 AP A1 A2 A3 w r1 r2 r3 rp hok
  · by_cases hl : 20 < xs.length
    · exact lruns_many s xs cp c1 c2 c3 AP A1 A2 A3 w r1 r2 r3 rp hok hl
    · cases hin : xs.all (inB s.n)
      · exact lruns_arg s xs cp c1 c2 c3 AP A1 A2 A3 w r1 r2 r3 rp hok (by omega) hin
      · obtain ⟨D, b, hR⟩ : ∃ D b, svD s = (D, b) := ⟨_, _, rfl⟩
        cases b
        · exact lruns_apart s xs cp c1 c2 c3 AP A1 A2 A3 w r1 r2 r3 rp hok (by omega) hin D hR
        · exact lruns_fine s xs cp c1 c2 c3 AP A1 A2 A3 w r1 r2 r3 rp hok (by omega) hin D hR


end Go.Proofs.Ytaoonfmcimkmhaa
