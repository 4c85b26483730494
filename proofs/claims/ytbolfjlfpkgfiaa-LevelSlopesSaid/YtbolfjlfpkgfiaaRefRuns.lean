/- aflajref01.Runs: what it answers of every survey that reads as plain data, and of every list of numbers. Condition: the slices read below the heap's end. -/
import Derived.Test.YtbolfjlfpkgfiaaRuns
import Derived.Test.YtbolfjlfpkgfiaaRefFall
import Derived.Test.YtbolfjlfpkgfiaaFloatX
set_option linter.unusedVariables false
set_option linter.unusedSimpArgs false
namespace Go.Proofs.Ytbolfjlfpkgfiaa
open Go.RowKit
attribute [local go_sem] wx_cell wx_frozen

set_option maxRecDepth 100000 in
set_option maxHeartbeats 4000000 in
theorem rruns_bad (s : Sv) (xs : List Int) (cp c1 c2 c3 : Nat) (AP A1 A2 A3 : Option Addr) (w : World)
    (r1 : Rd w w.heap.size A1 shV 4 s.shots) (r2 : Rd w w.heap.size A2 mkV 3 s.marks) (r3 : Rd w w.heap.size A3 shV 4 s.threads) (rp : Rd w w.heap.size AP inV 1 xs) (hok : svOk s = false) :
    Calls Try.prog 34 #[.agg #[.int .i64 s.n, .slice A1 s.shots.length c1, .slice A2 s.marks.length c2, .slice A3 s.threads.length c3], .slice AP xs.length cp] w fun e w' =>
      (∃ A c, e = .returned (.tuple #[.slice A (lvRuns s xs).1.length c, .int .i64 (lvRuns s xs).2]) ∧ Rd w' w'.heap.size A u8V 1 (lvRuns s xs).1) ∧ Below w.heap.size w w' := by
  have hb0 : Below w.heap.size w (w.alloc (Obj.cells #[Value.int IntKind.i64 s.n, Value.slice A1 s.shots.length c1, Value.slice A2 s.marks.length c2, Value.slice A3 s.threads.length c3] 26)) := by (repeat' (first | (with_reducible exact Below.refl _ _) | (with_reducible refine Below.alloc ?_ ?_ _) | (with_reducible refine Below.drew ?_) | (with_reducible refine Below.drewN_ ?_ _) | (with_reducible refine Below.setCell ?_ ?_ _) | (with_reducible refine Below.setRow ?_ ?_ _) | (with_reducible refine Below.via ?_ (by with_reducible assumption) ?_) | go_size))
  have R1 := Lib.hid ((r1.below hb0).more hb0.size)
  have R2 := Lib.hid ((r2.below hb0).more hb0.size)
  have R3 := Lib.hid ((r3.below hb0).more hb0.size)
  have RP := Lib.hid rp
  have P1 := Lib.hid r1
  have P2 := Lib.hid r2
  clear r1 r2 r3 rp
  have HC := Lib.hid (rcheck_any s c1 c2 c3 A1 A2 A3 (w.alloc (Obj.cells #[Value.int IntKind.i64 s.n, Value.slice A1 s.shots.length c1, Value.slice A2 s.marks.length c2, Value.slice A3 s.threads.length c3] 26)) R1.out R2.out R3.out)
  have e1 : svErr s = 10 := by unfold svErr; rw [hok]; rfl
  rw [e1] at HC
  rw [lvRuns_bad hok]
  clear e1 hok
  go_enter Try.func34, Try.ntmps34
  go_wp2_with (go_at_call 21; refine HC.out.mono ?_; rintro e w' ⟨rfl, hb1⟩; obtain ⟨hc1, hf1⟩ := bcell hb1; have hz1 := hb1.size; (try simp at hz1); (try have hy1 : w.heap.size < w'.heap.size := by omega))
  go_ret2
  exact ⟨⟨none, 0, rfl, fun h => absurd h (by simp)⟩, by (repeat' (first | (with_reducible exact Below.refl _ _) | (with_reducible refine Below.alloc ?_ ?_ _) | (with_reducible refine Below.drew ?_) | (with_reducible refine Below.drewN_ ?_ _) | (with_reducible refine Below.setCell ?_ ?_ _) | (with_reducible refine Below.setRow ?_ ?_ _) | (with_reducible refine Below.via ?_ (by with_reducible assumption) ?_) | go_size))⟩

set_option maxRecDepth 100000 in
set_option maxHeartbeats 4000000 in
theorem rruns_many (s : Sv) (xs : List Int) (cp c1 c2 c3 : Nat) (AP A1 A2 A3 : Option Addr) (w : World)
    (r1 : Rd w w.heap.size A1 shV 4 s.shots) (r2 : Rd w w.heap.size A2 mkV 3 s.marks) (r3 : Rd w w.heap.size A3 shV 4 s.threads) (rp : Rd w w.heap.size AP inV 1 xs) (hok : svOk s = true) (hgt : 20 < xs.length) :
    Calls Try.prog 34 #[.agg #[.int .i64 s.n, .slice A1 s.shots.length c1, .slice A2 s.marks.length c2, .slice A3 s.threads.length c3], .slice AP xs.length cp] w fun e w' =>
      (∃ A c, e = .returned (.tuple #[.slice A (lvRuns s xs).1.length c, .int .i64 (lvRuns s xs).2]) ∧ Rd w' w'.heap.size A u8V 1 (lvRuns s xs).1) ∧ Below w.heap.size w w' := by
  have hb0 : Below w.heap.size w (w.alloc (Obj.cells #[Value.int IntKind.i64 s.n, Value.slice A1 s.shots.length c1, Value.slice A2 s.marks.length c2, Value.slice A3 s.threads.length c3] 26)) := by (repeat' (first | (with_reducible exact Below.refl _ _) | (with_reducible refine Below.alloc ?_ ?_ _) | (with_reducible refine Below.drew ?_) | (with_reducible refine Below.drewN_ ?_ _) | (with_reducible refine Below.setCell ?_ ?_ _) | (with_reducible refine Below.setRow ?_ ?_ _) | (with_reducible refine Below.via ?_ (by with_reducible assumption) ?_) | go_size))
  have R1 := Lib.hid ((r1.below hb0).more hb0.size)
  have R2 := Lib.hid ((r2.below hb0).more hb0.size)
  have R3 := Lib.hid ((r3.below hb0).more hb0.size)
  have RP := Lib.hid rp
  have P1 := Lib.hid r1
  have P2 := Lib.hid r2
  clear r1 r2 r3 rp
  have HC := Lib.hid (rcheck_any s c1 c2 c3 A1 A2 A3 (w.alloc (Obj.cells #[Value.int IntKind.i64 s.n, Value.slice A1 s.shots.length c1, Value.slice A2 s.marks.length c2, Value.slice A3 s.threads.length c3] 26)) R1.out R2.out R3.out)
  have e1 : svErr s = 0 := by unfold svErr; rw [hok]; rfl
  rw [e1] at HC
  rw [lvRuns_many hok hgt]
  have hgt2 : (20 : Int) < (xs.length : Int) := by omega
  clear e1 hok
  go_enter Try.func34, Try.ntmps34
  go_wp2_with (go_at_call 21; refine HC.out.mono ?_; rintro e w' ⟨rfl, hb1⟩; obtain ⟨hc1, hf1⟩ := bcell hb1; have hz1 := hb1.size; (try simp at hz1); (try have hy1 : w.heap.size < w'.heap.size := by omega))
  go_ret2
  exact ⟨⟨none, 0, rfl, fun h => absurd h (by simp)⟩, by (repeat' (first | (with_reducible exact Below.refl _ _) | (with_reducible refine Below.alloc ?_ ?_ _) | (with_reducible refine Below.drew ?_) | (with_reducible refine Below.drewN_ ?_ _) | (with_reducible refine Below.setCell ?_ ?_ _) | (with_reducible refine Below.setRow ?_ ?_ _) | (with_reducible refine Below.via ?_ (by with_reducible assumption) ?_) | go_size))⟩

set_option maxRecDepth 100000 in
set_option maxHeartbeats 4000000 in
theorem rruns_arg (s : Sv) (xs : List Int) (cp c1 c2 c3 : Nat) (AP A1 A2 A3 : Option Addr) (w : World)
    (r1 : Rd w w.heap.size A1 shV 4 s.shots) (r2 : Rd w w.heap.size A2 mkV 3 s.marks) (r3 : Rd w w.heap.size A3 shV 4 s.threads) (rp : Rd w w.heap.size AP inV 1 xs) (hok : svOk s = true) (hle : xs.length ≤ 20) (hin0 : xs.all (inB s.n) = false) :
    Calls Try.prog 34 #[.agg #[.int .i64 s.n, .slice A1 s.shots.length c1, .slice A2 s.marks.length c2, .slice A3 s.threads.length c3], .slice AP xs.length cp] w fun e w' =>
      (∃ A c, e = .returned (.tuple #[.slice A (lvRuns s xs).1.length c, .int .i64 (lvRuns s xs).2]) ∧ Rd w' w'.heap.size A u8V 1 (lvRuns s xs).1) ∧ Below w.heap.size w w' := by
  have hb0 : Below w.heap.size w (w.alloc (Obj.cells #[Value.int IntKind.i64 s.n, Value.slice A1 s.shots.length c1, Value.slice A2 s.marks.length c2, Value.slice A3 s.threads.length c3] 26)) := by (repeat' (first | (with_reducible exact Below.refl _ _) | (with_reducible refine Below.alloc ?_ ?_ _) | (with_reducible refine Below.drew ?_) | (with_reducible refine Below.drewN_ ?_ _) | (with_reducible refine Below.setCell ?_ ?_ _) | (with_reducible refine Below.setRow ?_ ?_ _) | (with_reducible refine Below.via ?_ (by with_reducible assumption) ?_) | go_size))
  have R1 := Lib.hid ((r1.below hb0).more hb0.size)
  have R2 := Lib.hid ((r2.below hb0).more hb0.size)
  have R3 := Lib.hid ((r3.below hb0).more hb0.size)
  have RP := Lib.hid rp
  have P1 := Lib.hid r1
  have P2 := Lib.hid r2
  clear r1 r2 r3 rp
  have HC := Lib.hid (rcheck_any s c1 c2 c3 A1 A2 A3 (w.alloc (Obj.cells #[Value.int IntKind.i64 s.n, Value.slice A1 s.shots.length c1, Value.slice A2 s.marks.length c2, Value.slice A3 s.threads.length c3] 26)) R1.out R2.out R3.out)
  have e1 : svErr s = 0 := by unfold svErr; rw [hok]; rfl
  rw [e1] at HC
  obtain ⟨⟨n1, n2, g3, g4, _⟩, _⟩ := svOk_spec hok
  have hsub : IntKind.i64.wrap (s.n - 1) = s.n - 1 := IntWalk.i64_in _ (by omega)
  rw [lvRuns_arg hok hle hin0]
  have HIN := Lib.hid hin0
  clear e1 hok hin0
  have hle2 : ¬ (20 : Int) < (xs.length : Int) := by omega
  go_enter Try.func34, Try.ntmps34
  go_upto_region 6 with (go_at_call 21; refine HC.out.mono ?_; rintro e w' ⟨rfl, hb1⟩; obtain ⟨hc1, hf1⟩ := bcell hb1; have hz1 := hb1.size; (try simp at hz1); (try have hy1 : w.heap.size < w'.heap.size := by omega))
  have s0 : w'.cell? ⟨w.heap.size, 0, none⟩ = some (.int .i64 s.n) := by rw [hc1 _ _ (by simp)]; simp
  have s1 : w'.cell? ⟨w.heap.size, 1, none⟩ = some (.slice A1 s.shots.length c1) := by rw [hc1 _ _ (by simp)]; simp
  have s2 : w'.cell? ⟨w.heap.size, 2, none⟩ = some (.slice A2 s.marks.length c2) := by rw [hc1 _ _ (by simp)]; simp
  have s3 : w'.cell? ⟨w.heap.size, 3, none⟩ = some (.slice A3 s.threads.length c3) := by rw [hc1 _ _ (by simp)]; simp
  have hb3 : Below w.heap.size w w' := by (repeat' (first | (with_reducible exact Below.refl _ _) | (with_reducible refine Below.alloc ?_ ?_ _) | (with_reducible refine Below.drew ?_) | (with_reducible refine Below.drewN_ ?_ _) | (with_reducible refine Below.setCell ?_ ?_ _) | (with_reducible refine Below.setRow ?_ ?_ _) | (with_reducible refine Below.via ?_ (by with_reducible assumption) ?_) | go_size))
  have hws : w.heap.size < w'.heap.size := by omega
  have SP := Lib.hid ((RP.out.below hb3).more hb3.size)
  clear hc1 hf1 hb1 hb0 hz1 R1 R2 R3 RP HC hy1
  go_loopw [6] (fun i W => ∃ k : Nat, k ≤ xs.length ∧ i = .int .i64 k ∧ (∀ j, j < k → inB s.n (xs.getD j 0) = true) ∧ Below w'.heap.size w' W) (fun i _ => xs.length - (intOf i).toNat)
  case atStart => exact ⟨0, by omega, rfl, fun j hj => by omega, Below.refl _ _⟩
  case round =>
    obtain ⟨k, hk, rfl, hall, hb⟩ := hrel
    have HA := Lib.hid hall
    clear hall
    have m0 := (hb.cell (p := ⟨w.heap.size, 0, none⟩) hws).trans s0
    have m1 := (hb.cell (p := ⟨w.heap.size, 1, none⟩) hws).trans s1
    have m2 := (hb.cell (p := ⟨w.heap.size, 2, none⟩) hws).trans s2
    have m3 := (hb.cell (p := ⟨w.heap.size, 3, none⟩) hws).trans s3
    clear s0 s1 s2 s3
    have hwr : w.heap.size < wr.heap.size := Nat.lt_of_lt_of_le hws hb.size
    have hbr := hb3.trans (hb.mono (by omega))
    by_cases hlt : k < xs.length
    · obtain ⟨b, o, rfl, hbl, hcell⟩ := (SP.out.below hb).at_ hlt
      have q0 := hcell 0 _ rfl
      simp only [Nat.add_zero, Nat.mul_one] at q0
      clear hcell
      have HX := Lib.hid (by rw [List.getD_eq_getElem?_getD, List.getElem?_eq_getElem hlt]; rfl : xs.getD k 0 = xs[k])
      have HXM := Lib.hid (List.getElem_mem hlt)
      generalize xs[k] = x at *
      cases hin : inB s.n x
      · rw [← inR_inB] at hin
        go_wp2
        go_quiet (first | (go_at_call 50; refine Calls.quiet_of_same ((rwithin_any _ _ _ _).mono (fun _ _ h => ⟨h.1, h.2.symm⟩))))
        try rw [hin]
        go_wp2
        go_ret2
        exact ⟨⟨none, 0, rfl, fun h => absurd h (by simp)⟩, hbr.trans (Below.mono (by (repeat' (first | (with_reducible exact Below.refl _ _) | (with_reducible refine Below.alloc ?_ ?_ _) | (with_reducible refine Below.drew ?_) | (with_reducible refine Below.drewN_ ?_ _) | (with_reducible refine Below.setCell ?_ ?_ _) | (with_reducible refine Below.setRow ?_ ?_ _) | (with_reducible refine Below.via ?_ (by with_reducible assumption) ?_) | go_size))) hbr.size)⟩
      · have HN : Hid (∀ j, j < k + 1 → inB s.n (xs.getD j 0) = true) := Lib.hid (fun j hj => by
          by_cases h : j < k
          · exact HA.out j h
          · rw [show j = k by omega, HX.out, hin])
        rw [← inR_inB] at hin
        go_wp2
        go_quiet (first | (go_at_call 50; refine Calls.quiet_of_same ((rwithin_any _ _ _ _).mono (fun _ _ h => ⟨h.1, h.2.symm⟩))))
        try rw [hin]
        go_wp2
        go_roundw
        case rel => exact ⟨k + 1, by omega, by go_num, HN.out, hb.trans (by (repeat' (first | (with_reducible exact Below.refl _ _) | (with_reducible refine Below.alloc ?_ ?_ _) | (with_reducible refine Below.drew ?_) | (with_reducible refine Below.drewN_ ?_ _) | (with_reducible refine Below.setCell ?_ ?_ _) | (with_reducible refine Below.setRow ?_ ?_ _) | (with_reducible refine Below.via ?_ (by with_reducible assumption) ?_) | go_size)))⟩
        case measure => simp [intOf]; omega
    · exfalso
      have h := HIN.out
      rw [List.all_eq_false] at h
      obtain ⟨x, hx, hx2⟩ := h
      obtain ⟨j, hj, rfl⟩ := List.mem_iff_getElem.1 hx
      have h3 := HA.out j (by omega)
      rw [List.getD_eq_getElem?_getD, List.getElem?_eq_getElem hj] at h3
      exact hx2 h3

set_option maxRecDepth 100000 in
set_option maxHeartbeats 4000000 in
theorem rruns_apart (s : Sv) (xs : List Int) (cp c1 c2 c3 : Nat) (AP A1 A2 A3 : Option Addr) (w : World)
    (r1 : Rd w w.heap.size A1 shV 4 s.shots) (r2 : Rd w w.heap.size A2 mkV 3 s.marks) (r3 : Rd w w.heap.size A3 shV 4 s.threads) (rp : Rd w w.heap.size AP inV 1 xs) (hok : svOk s = true) (hle : xs.length ≤ 20) (hin0 : xs.all (inB s.n) = true) (D : Mat) (hR : svD s = (D, false)) :
    Calls Try.prog 34 #[.agg #[.int .i64 s.n, .slice A1 s.shots.length c1, .slice A2 s.marks.length c2, .slice A3 s.threads.length c3], .slice AP xs.length cp] w fun e w' =>
      (∃ A c, e = .returned (.tuple #[.slice A (lvRuns s xs).1.length c, .int .i64 (lvRuns s xs).2]) ∧ Rd w' w'.heap.size A u8V 1 (lvRuns s xs).1) ∧ Below w.heap.size w w' := by
  have hb0 : Below w.heap.size w (w.alloc (Obj.cells #[Value.int IntKind.i64 s.n, Value.slice A1 s.shots.length c1, Value.slice A2 s.marks.length c2, Value.slice A3 s.threads.length c3] 26)) := by (repeat' (first | (with_reducible exact Below.refl _ _) | (with_reducible refine Below.alloc ?_ ?_ _) | (with_reducible refine Below.drew ?_) | (with_reducible refine Below.drewN_ ?_ _) | (with_reducible refine Below.setCell ?_ ?_ _) | (with_reducible refine Below.setRow ?_ ?_ _) | (with_reducible refine Below.via ?_ (by with_reducible assumption) ?_) | go_size))
  have R1 := Lib.hid ((r1.below hb0).more hb0.size)
  have R2 := Lib.hid ((r2.below hb0).more hb0.size)
  have R3 := Lib.hid ((r3.below hb0).more hb0.size)
  have RP := Lib.hid rp
  have P1 := Lib.hid r1
  have P2 := Lib.hid r2
  clear r1 r2 r3 rp
  have HC := Lib.hid (rcheck_any s c1 c2 c3 A1 A2 A3 (w.alloc (Obj.cells #[Value.int IntKind.i64 s.n, Value.slice A1 s.shots.length c1, Value.slice A2 s.marks.length c2, Value.slice A3 s.threads.length c3] 26)) R1.out R2.out R3.out)
  have e1 : svErr s = 0 := by unfold svErr; rw [hok]; rfl
  rw [e1] at HC
  obtain ⟨⟨n1, n2, g3, g4, _⟩, _⟩ := svOk_spec hok
  have hsub : IntKind.i64.wrap (s.n - 1) = s.n - 1 := IntWalk.i64_in _ (by omega)
  rw [lvRuns_apart hok hle hin0 hR]
  have HIN := Lib.hid hin0
  have HSN := Lib.hid (fun (W : World) gc cc (hb : Below w.heap.size w W) hBo => sides_no s c1 c2 c3 A1 A2 A3 W hok ((P1.out.below hb).more hb.size) ((P2.out.below hb).more hb.size) gc cc hBo (by rw [hR]))
  clear e1 hok hin0 hR P1 P2
  have hle2 : ¬ (20 : Int) < (xs.length : Int) := by omega
  go_enter Try.func34, Try.ntmps34
  go_upto_region 6 with (go_at_call 21; refine HC.out.mono ?_; rintro e w' ⟨rfl, hb1⟩; obtain ⟨hc1, hf1⟩ := bcell hb1; have hz1 := hb1.size; (try simp at hz1); (try have hy1 : w.heap.size < w'.heap.size := by omega))
  have s0 : w'.cell? ⟨w.heap.size, 0, none⟩ = some (.int .i64 s.n) := by rw [hc1 _ _ (by simp)]; simp
  have s1 : w'.cell? ⟨w.heap.size, 1, none⟩ = some (.slice A1 s.shots.length c1) := by rw [hc1 _ _ (by simp)]; simp
  have s2 : w'.cell? ⟨w.heap.size, 2, none⟩ = some (.slice A2 s.marks.length c2) := by rw [hc1 _ _ (by simp)]; simp
  have s3 : w'.cell? ⟨w.heap.size, 3, none⟩ = some (.slice A3 s.threads.length c3) := by rw [hc1 _ _ (by simp)]; simp
  have hb3 : Below w.heap.size w w' := by (repeat' (first | (with_reducible exact Below.refl _ _) | (with_reducible refine Below.alloc ?_ ?_ _) | (with_reducible refine Below.drew ?_) | (with_reducible refine Below.drewN_ ?_ _) | (with_reducible refine Below.setCell ?_ ?_ _) | (with_reducible refine Below.setRow ?_ ?_ _) | (with_reducible refine Below.via ?_ (by with_reducible assumption) ?_) | go_size))
  have hws : w.heap.size < w'.heap.size := by omega
  have SP := Lib.hid ((RP.out.below hb3).more hb3.size)
  clear hc1 hf1 hb1 hb0 hz1 R1 R2 R3 RP HC hy1
  go_loopw [6] (fun i W => ∃ k : Nat, k ≤ xs.length ∧ i = .int .i64 k ∧ (∀ j, j < k → inB s.n (xs.getD j 0) = true) ∧ Below w'.heap.size w' W) (fun i _ => xs.length - (intOf i).toNat)
  case atStart => exact ⟨0, by omega, rfl, fun j hj => by omega, Below.refl _ _⟩
  case round =>
    obtain ⟨k, hk, rfl, hall, hb⟩ := hrel
    have HA := Lib.hid hall
    clear hall
    have m0 := (hb.cell (p := ⟨w.heap.size, 0, none⟩) hws).trans s0
    have m1 := (hb.cell (p := ⟨w.heap.size, 1, none⟩) hws).trans s1
    have m2 := (hb.cell (p := ⟨w.heap.size, 2, none⟩) hws).trans s2
    have m3 := (hb.cell (p := ⟨w.heap.size, 3, none⟩) hws).trans s3
    clear s0 s1 s2 s3
    have hwr : w.heap.size < wr.heap.size := Nat.lt_of_lt_of_le hws hb.size
    have hbr := hb3.trans (hb.mono (by omega))
    by_cases hlt : k < xs.length
    · obtain ⟨b, o, rfl, hbl, hcell⟩ := (SP.out.below hb).at_ hlt
      have q0 := hcell 0 _ rfl
      simp only [Nat.add_zero, Nat.mul_one] at q0
      clear hcell
      have HX := Lib.hid (by rw [List.getD_eq_getElem?_getD, List.getElem?_eq_getElem hlt]; rfl : xs.getD k 0 = xs[k])
      have HXM := Lib.hid (List.getElem_mem hlt)
      generalize xs[k] = x at *
      cases hin : inB s.n x
      · exfalso
        have h := HIN.out
        rw [List.all_eq_true] at h
        have h3 := h x HXM.out
        rw [hin] at h3
        cases h3
      · have HN : Hid (∀ j, j < k + 1 → inB s.n (xs.getD j 0) = true) := Lib.hid (fun j hj => by
          by_cases h : j < k
          · exact HA.out j h
          · rw [show j = k by omega, HX.out, hin])
        rw [← inR_inB] at hin
        go_wp2
        go_quiet (first | (go_at_call 50; refine Calls.quiet_of_same ((rwithin_any _ _ _ _).mono (fun _ _ h => ⟨h.1, h.2.symm⟩))))
        try rw [hin]
        go_wp2
        go_roundw
        case rel => exact ⟨k + 1, by omega, by go_num, HN.out, hb.trans (by (repeat' (first | (with_reducible exact Below.refl _ _) | (with_reducible refine Below.alloc ?_ ?_ _) | (with_reducible refine Below.drew ?_) | (with_reducible refine Below.drewN_ ?_ _) | (with_reducible refine Below.setCell ?_ ?_ _) | (with_reducible refine Below.setRow ?_ ?_ _) | (with_reducible refine Below.via ?_ (by with_reducible assumption) ?_) | go_size)))⟩
        case measure => simp [intOf]; omega
    · go_upto_region 10 with fail
      go_cut [7, 8] from 11 to 40 (fun a b W => a = .slice none 0 0 ∧ b = .bool false ∧ Below wr.heap.size wr W)
      case first =>
        go_region_with (first
          | (go_at_call 48; refine (every_any s.n s.shots.length s.marks.length c1 c2 A1 A2 _ _ (by omega) (by omega)).mono ?_; rintro e w3 ⟨⟨gc, rfl, hgc, hBo⟩, hb4⟩; have n0 := (hb4.cell (p := ⟨w.heap.size, 0, none⟩) hwr).trans m0; have n1 := (hb4.cell (p := ⟨w.heap.size, 1, none⟩) hwr).trans m1; have n2 := (hb4.cell (p := ⟨w.heap.size, 2, none⟩) hwr).trans m2; have n3 := (hb4.cell (p := ⟨w.heap.size, 3, none⟩) hwr).trans m3; have HBO := Lib.hid hBo; clear hBo)
          | (go_at_call 47; refine (HSN.out _ _ _ (hbr.drew.trans (hb4.mono hbr.size)) HBO.out).mono ?_; rintro e w4 ⟨rfl, hb5⟩))
        all_goals
          go_wp2_with fail
          go_meet
          exact ⟨rfl, rfl, (Below.refl _ _).drew.trans (hb4.trans (hb5.mono hb4.size))⟩
      case rest =>
        obtain ⟨rfl, rfl, hbc⟩ := hcut
        go_wp2
        go_ret2
        exact ⟨⟨none, 0, rfl, fun h => absurd h (by simp)⟩, hbr.trans (hbc.mono hbr.size)⟩


end Go.Proofs.Ytbolfjlfpkgfiaa
