/- The law LevelHeights answers true of every survey that reads as plain data, and of any two numbers. Condition: the survey's slices read below the heap's end. -/
import Derived.Test.YthpjcpaedigdfaaRefFall
import Derived.Test.YthpjcpaedigdfaaRefTwin
import Derived.Test.YthpjcpaedigdfaaRefSm
import Derived.Test.YthpjcpaedigdfaaRefSpans
import Derived.Test.YthpjcpaedigdfaaLevAfter
namespace Go.Proofs.Ythpjcpaedigdfaa
open Go.RowKit
attribute [local go_sem] wx_cell wx_frozen

theorem lvHeights_len (s : Sv) : (lvHeights s).1.length ≤ 20 ∨ (lvHeights s).1.length ≤ 1000000000 := by
  unfold lvHeights
  cases hok : svOk s
  · simp
  · obtain ⟨⟨n1, n2, _⟩, _⟩ := svOk_spec hok
    split
    · simp
    · split
      · simp
      · unfold htsList; rw [List.length_map, List.length_range]; omega

theorem heights_as (s : Sv) (c1 c2 c3 : Nat) (A1 A2 A3 : Option Addr) (w : World)
    (r1 : Rd w w.heap.size A1 shV 4 s.shots) (r2 : Rd w w.heap.size A2 mkV 3 s.marks) (r3 : Rd w w.heap.size A3 shV 4 s.threads) {L : List (Int × Int)} {E : Int} (h : lvHeights s = (L, E)) :
    Calls Try.prog 16 #[.agg #[.int .i64 s.n, .slice A1 s.shots.length c1, .slice A2 s.marks.length c2, .slice A3 s.threads.length c3]] w fun e w' =>
      (∃ A c, e = .returned (.tuple #[.slice A L.length c, .int .i64 E]) ∧ Rd w' w'.heap.size A spV 2 L) ∧ Below w.heap.size w w' := by
  have h1 := heights_any s c1 c2 c3 A1 A2 A3 w r1 r2 r3
  rw [h] at h1
  exact h1
theorem rheights_as (s : Sv) (c1 c2 c3 : Nat) (A1 A2 A3 : Option Addr) (w : World)
    (r1 : Rd w w.heap.size A1 shV 4 s.shots) (r2 : Rd w w.heap.size A2 mkV 3 s.marks) (r3 : Rd w w.heap.size A3 shV 4 s.threads) {L : List (Int × Int)} {E : Int} (h : lvHeights s = (L, E)) :
    Calls Try.prog 17 #[.agg #[.int .i64 s.n, .slice A1 s.shots.length c1, .slice A2 s.marks.length c2, .slice A3 s.threads.length c3]] w fun e w' =>
      (∃ A c, e = .returned (.tuple #[.slice A L.length c, .int .i64 E]) ∧ Rd w' w'.heap.size A spV 2 L) ∧ Below w.heap.size w w' := by
  have h1 := rheights_any s c1 c2 c3 A1 A2 A3 w r1 r2 r3
  rw [h] at h1
  exact h1
theorem fall_as (s : Sv) (from_ to_ : Int) (c1 c2 c3 : Nat) (A1 A2 A3 : Option Addr) (w : World)
    (r1 : Rd w w.heap.size A1 shV 4 s.shots) (r2 : Rd w w.heap.size A2 mkV 3 s.marks) (r3 : Rd w w.heap.size A3 shV 4 s.threads) {F1 F2 F3 : Int} (h : lvFall s from_ to_ = ((F1, F2), F3)) :
    Calls Try.prog 18 #[.agg #[.int .i64 s.n, .slice A1 s.shots.length c1, .slice A2 s.marks.length c2, .slice A3 s.threads.length c3], .int .i64 from_, .int .i64 to_] w fun e w' =>
      e = .returned (.tuple #[.agg #[.int .i64 F1, .int .i64 F2], .int .i64 F3]) ∧ Below w.heap.size w w' := by
  have h1 := fall_any s from_ to_ c1 c2 c3 A1 A2 A3 w r1 r2 r3
  rw [h] at h1
  exact h1
theorem rFall_as (s : Sv) (from_ to_ : Int) (c1 c2 c3 : Nat) (A1 A2 A3 : Option Addr) (w : World)
    (r1 : Rd w w.heap.size A1 shV 4 s.shots) (r2 : Rd w w.heap.size A2 mkV 3 s.marks) (r3 : Rd w w.heap.size A3 shV 4 s.threads) {F1 F2 F3 : Int} (h : lvFall s from_ to_ = ((F1, F2), F3)) :
    Calls Try.prog 19 #[.agg #[.int .i64 s.n, .slice A1 s.shots.length c1, .slice A2 s.marks.length c2, .slice A3 s.threads.length c3], .int .i64 from_, .int .i64 to_] w fun e w' =>
      e = .returned (.tuple #[.agg #[.int .i64 F1, .int .i64 F2], .int .i64 F3]) ∧ Below w.heap.size w w' := by
  have h1 := rFall_any s from_ to_ c1 c2 c3 A1 A2 A3 w r1 r2 r3
  rw [h] at h1
  exact h1
theorem sameSpans_self (xs : List (Int × Int)) (c1 c2 : Nat) (A1 A2 : Option Addr) (w : World) (r1 : Rd w w.heap.size A1 spV 2 xs) (r2 : Rd w w.heap.size A2 spV 2 xs) (hl : xs.length ≤ 1000000000) :
    Calls Try.prog 22 #[.slice A1 xs.length c1, .slice A2 xs.length c2] w fun e w' => e = .returned (.bool true) ∧ Below w.heap.size w w' := by
  have h := sameSpans_any xs xs c1 c2 A1 A2 w r1 r2 hl hl
  rw [decide_eq_true rfl] at h
  exact h

set_option maxRecDepth 100000 in
set_option maxHeartbeats 1000000 in
theorem lawHeights_great (s : Sv) (from_ to_ : Int) (c1 c2 c3 : Nat) (A1 A2 A3 : Option Addr) (w : World) (hgr : (decide (90 < s.shots.length) || decide (30 < s.marks.length) || decide (50 < s.threads.length)) = true) :
    Calls Try.prog 3 #[.agg #[.int .i64 s.n, .slice A1 s.shots.length c1, .slice A2 s.marks.length c2, .slice A3 s.threads.length c3], .int .i64 from_, .int .i64 to_] w fun e w' => e = .returned (.bool true) ∧ Below w.heap.size w w' := by
  have hG := Lib.hid (fun W => (great_any s.n s.shots.length s.marks.length s.threads.length c1 c2 c3 A1 A2 A3 W))
  rw [hgr] at hG
  clear hgr
  go_enter Try.func3, Try.ntmps3
  go_wp2_with (go_at_call 14; refine (hG.out _).mono ?_; rintro e w1 ⟨rfl, hb1⟩)
  go_ret
  exact ⟨rfl, by (repeat' (first | (with_reducible exact Below.refl _ _) | (with_reducible refine Below.alloc ?_ ?_ _) | (with_reducible refine Below.drew ?_) | (with_reducible refine Below.drewN_ ?_ _) | (with_reducible refine Below.setCell ?_ ?_ _) | (with_reducible refine Below.setRow ?_ ?_ _) | (with_reducible refine Below.via ?_ (by with_reducible assumption) ?_) | go_size))⟩

set_option maxRecDepth 100000 in
set_option maxHeartbeats 8000000 in
theorem lawHeights_small (s : Sv) (from_ to_ : Int) (c1 c2 c3 : Nat) (A1 A2 A3 : Option Addr) (w : World)
    (r1 : Rd w w.heap.size A1 shV 4 s.shots) (r2 : Rd w w.heap.size A2 mkV 3 s.marks) (r3 : Rd w w.heap.size A3 shV 4 s.threads) (hgr : (decide (90 < s.shots.length) || decide (30 < s.marks.length) || decide (50 < s.threads.length)) = false) :
    Calls Try.prog 3 #[.agg #[.int .i64 s.n, .slice A1 s.shots.length c1, .slice A2 s.marks.length c2, .slice A3 s.threads.length c3], .int .i64 from_, .int .i64 to_] w fun e w' => e = .returned (.bool true) ∧ Below w.heap.size w w' := by
  have R1 := Lib.hid r1
  have R2 := Lib.hid r2
  have R3 := Lib.hid r3
  have hG := Lib.hid (fun W => (great_any s.n s.shots.length s.marks.length s.threads.length c1 c2 c3 A1 A2 A3 W))
  rw [hgr] at hG
  have hle : s.shots.length ≤ 90 ∧ s.marks.length ≤ 30 ∧ s.threads.length ≤ 50 := by
    simp only [Bool.or_eq_false_iff, decide_eq_false_iff_not] at hgr
    omega
  obtain ⟨l1, l2, l3⟩ := hle
  have hLL : (lvHeights s).1.length ≤ 1000000000 := by rcases lvHeights_len s with h | h <;> omega
  obtain ⟨L, E, hLE⟩ : ∃ L E, lvHeights s = (L, E) := ⟨_, _, rfl⟩
  obtain ⟨F1, F2, F3, hFF⟩ : ∃ F1 F2 F3, lvFall s from_ to_ = ((F1, F2), F3) := ⟨_, _, _, rfl⟩
  rw [hLE] at hLL
  dsimp only at hLL
  have HLE := Lib.hid hLE
  have HFF := Lib.hid hFF
  clear r1 r2 r3 hgr hLE hFF
  go_enter Try.func3, Try.ntmps3
  go_upto_region 3 with (go_at_call 14; refine (hG.out _).mono ?_; rintro e w1 ⟨rfl, hb1⟩; obtain ⟨hc1, hf1⟩ := bcell hb1)
  have hz1 := hb1.size
  simp at hz1
  have hws1 : w.heap.size < w1.heap.size := by omega
  have hb01 : Below w.heap.size w w1 := by (repeat' (first | (with_reducible exact Below.refl _ _) | (with_reducible refine Below.alloc ?_ ?_ _) | (with_reducible refine Below.drew ?_) | (with_reducible refine Below.drewN_ ?_ _) | (with_reducible refine Below.setCell ?_ ?_ _) | (with_reducible refine Below.setRow ?_ ?_ _) | (with_reducible refine Below.via ?_ (by with_reducible assumption) ?_) | go_size))
  have s0 : w1.cell? ⟨w.heap.size, 0, none⟩ = some (.int .i64 s.n) := by rw [hc1 _ _ (by simp)]; simp
  have s1 : w1.cell? ⟨w.heap.size, 1, none⟩ = some (.slice A1 s.shots.length c1) := by rw [hc1 _ _ (by simp)]; simp
  have s2 : w1.cell? ⟨w.heap.size, 2, none⟩ = some (.slice A2 s.marks.length c2) := by rw [hc1 _ _ (by simp)]; simp
  have s3 : w1.cell? ⟨w.heap.size, 3, none⟩ = some (.slice A3 s.threads.length c3) := by rw [hc1 _ _ (by simp)]; simp
  clear hc1 hf1 hb1
  go_upto_region 4 with (go_at_call 15; refine (twin_any s c1 c2 c3 A1 A2 A3 w1 ((R1.out.below hb01).more hb01.size) ((R2.out.below hb01).more hb01.size) ((R3.out.below hb01).more hb01.size) (by omega) (by omega) (by omega)).mono ?_; rintro e w2 ⟨⟨B1, B2, B3, d1, d2, d3, rfl, t1, t2, t3⟩, hb2⟩; have T1 := Lib.hid t1; have T2 := Lib.hid t2; have T3 := Lib.hid t3; clear t1 t2 t3)
  obtain ⟨w3, hw3⟩ : ∃ w3, w2.alloc (.cells #[.int .i64 s.n, .slice B1 s.shots.length d1, .slice B2 s.marks.length d2, .slice B3 s.threads.length d3] 26) = w3 := ⟨_, rfl⟩
  obtain ⟨bo, hbo'⟩ : ∃ bo, w2.heap.size = bo := ⟨_, rfl⟩
  rw [hw3, hbo']
  have hb23 : Below w2.heap.size w2 w3 := by rw [← hw3]; exact (Below.refl _ _).alloc (Nat.le_refl _) _
  have hb13 : Below w1.heap.size w1 w3 := hb2.trans (hb23.mono hb2.size)
  have hb3 : Below w.heap.size w w3 := hb01.trans (hb13.mono hb01.size)
  have hbo : bo < w3.heap.size := by rw [← hw3, ← hbo']; simp
  have hws : w.heap.size < w3.heap.size := Nat.lt_of_lt_of_le hws1 hb13.size
  have U1 := Lib.hid ((T1.out.below hb23).more hb23.size)
  have U2 := Lib.hid ((T2.out.below hb23).more hb23.size)
  have U3 := Lib.hid ((T3.out.below hb23).more hb23.size)
  have o0 : w3.cell? ⟨bo, 0, none⟩ = some (.int .i64 s.n) := by rw [← hw3, ← hbo']; simp
  have o1 : w3.cell? ⟨bo, 1, none⟩ = some (.slice B1 s.shots.length d1) := by rw [← hw3, ← hbo']; simp
  have o2 : w3.cell? ⟨bo, 2, none⟩ = some (.slice B2 s.marks.length d2) := by rw [← hw3, ← hbo']; simp
  have o3 : w3.cell? ⟨bo, 3, none⟩ = some (.slice B3 s.threads.length d3) := by rw [← hw3, ← hbo']; simp
  replace s0 := (hb13.cell (p := ⟨w.heap.size, 0, none⟩) hws1).trans s0
  replace s1 := (hb13.cell (p := ⟨w.heap.size, 1, none⟩) hws1).trans s1
  replace s2 := (hb13.cell (p := ⟨w.heap.size, 2, none⟩) hws1).trans s2
  replace s3 := (hb13.cell (p := ⟨w.heap.size, 3, none⟩) hws1).trans s3
  clear hw3 hbo' T1 T2 T3 hb2 hb23 hb13 hb01 hws1 hz1 hG
  go_upto_region 5 with (go_at_call 16; refine (heights_as s d1 d2 d3 B1 B2 B3 w3 U1.out U2.out U3.out HLE.out).mono ?_; rintro e w4 ⟨⟨A4, c4, rfl, q4⟩, hb4⟩; have Q4 := Lib.hid q4; clear q4)
  replace s0 := (hb4.cell (p := ⟨w.heap.size, 0, none⟩) hws).trans s0
  replace s1 := (hb4.cell (p := ⟨w.heap.size, 1, none⟩) hws).trans s1
  replace s2 := (hb4.cell (p := ⟨w.heap.size, 2, none⟩) hws).trans s2
  replace s3 := (hb4.cell (p := ⟨w.heap.size, 3, none⟩) hws).trans s3
  replace o0 := (hb4.cell (p := ⟨bo, 0, none⟩) hbo).trans o0
  replace o1 := (hb4.cell (p := ⟨bo, 1, none⟩) hbo).trans o1
  replace o2 := (hb4.cell (p := ⟨bo, 2, none⟩) hbo).trans o2
  replace o3 := (hb4.cell (p := ⟨bo, 3, none⟩) hbo).trans o3
  replace hws := Nat.lt_of_lt_of_le hws hb4.size
  replace hbo := Nat.lt_of_lt_of_le hbo hb4.size
  replace hb3 := hb3.trans (hb4.mono (Nat.le_trans hb3.size (Nat.le_refl _)))
  have V1 := Lib.hid ((U1.out.below hb4).more hb4.size)
  have V2 := Lib.hid ((U2.out.below hb4).more hb4.size)
  have V3 := Lib.hid ((U3.out.below hb4).more hb4.size)
  clear hb4 U1 U2 U3
  go_upto_region 6 with (go_at_call 17; refine (rheights_as s c1 c2 c3 A1 A2 A3 w4 ((R1.out.below hb3).more hb3.size) ((R2.out.below hb3).more hb3.size) ((R3.out.below hb3).more hb3.size) HLE.out).mono ?_; rintro e w5 ⟨⟨A5, c5, rfl, q5⟩, hb5⟩; have Q5 := Lib.hid q5; clear q5)
  replace s0 := (hb5.cell (p := ⟨w.heap.size, 0, none⟩) hws).trans s0
  replace s1 := (hb5.cell (p := ⟨w.heap.size, 1, none⟩) hws).trans s1
  replace s2 := (hb5.cell (p := ⟨w.heap.size, 2, none⟩) hws).trans s2
  replace s3 := (hb5.cell (p := ⟨w.heap.size, 3, none⟩) hws).trans s3
  replace o0 := (hb5.cell (p := ⟨bo, 0, none⟩) hbo).trans o0
  replace o1 := (hb5.cell (p := ⟨bo, 1, none⟩) hbo).trans o1
  replace o2 := (hb5.cell (p := ⟨bo, 2, none⟩) hbo).trans o2
  replace o3 := (hb5.cell (p := ⟨bo, 3, none⟩) hbo).trans o3
  replace hws := Nat.lt_of_lt_of_le hws hb5.size
  replace hbo := Nat.lt_of_lt_of_le hbo hb5.size
  replace hb3 := hb3.trans (hb5.mono hb3.size)
  have U1 := Lib.hid ((V1.out.below hb5).more hb5.size)
  have U2 := Lib.hid ((V2.out.below hb5).more hb5.size)
  have U3 := Lib.hid ((V3.out.below hb5).more hb5.size)
  replace Q4 := Lib.hid ((Q4.out.below hb5).more hb5.size)
  clear hb5 V1 V2 V3
  go_upto_region 7 with (go_at_call 18; refine (fall_as s from_ to_ d1 d2 d3 B1 B2 B3 w5 U1.out U2.out U3.out HFF.out).mono ?_; rintro e w6 ⟨rfl, hb6⟩)
  obtain ⟨w7, hw7⟩ : ∃ w7, w6.alloc (.cells #[.int .i64 F1, .int .i64 F2] 36) = w7 := ⟨_, rfl⟩
  obtain ⟨bc, hbc'⟩ : ∃ bc, w6.heap.size = bc := ⟨_, rfl⟩
  rw [hw7, hbc']
  have hb67 : Below w6.heap.size w6 w7 := by rw [← hw7]; exact (Below.refl _ _).alloc (Nat.le_refl _) _
  have hb7 : Below w5.heap.size w5 w7 := hb6.trans (hb67.mono hb6.size)
  have y0 : w7.cell? ⟨bc, 0, none⟩ = some (.int .i64 F1) := by rw [← hw7, ← hbc']; simp
  have y1 : w7.cell? ⟨bc, 1, none⟩ = some (.int .i64 F2) := by rw [← hw7, ← hbc']; simp
  have hbc : bc < w7.heap.size := by rw [← hw7, ← hbc']; simp
  replace s0 := (hb7.cell (p := ⟨w.heap.size, 0, none⟩) hws).trans s0
  replace s1 := (hb7.cell (p := ⟨w.heap.size, 1, none⟩) hws).trans s1
  replace s2 := (hb7.cell (p := ⟨w.heap.size, 2, none⟩) hws).trans s2
  replace s3 := (hb7.cell (p := ⟨w.heap.size, 3, none⟩) hws).trans s3
  replace o0 := (hb7.cell (p := ⟨bo, 0, none⟩) hbo).trans o0
  replace o1 := (hb7.cell (p := ⟨bo, 1, none⟩) hbo).trans o1
  replace o2 := (hb7.cell (p := ⟨bo, 2, none⟩) hbo).trans o2
  replace o3 := (hb7.cell (p := ⟨bo, 3, none⟩) hbo).trans o3
  replace hws := Nat.lt_of_lt_of_le hws hb7.size
  replace hbo := Nat.lt_of_lt_of_le hbo hb7.size
  replace hb3 := hb3.trans (hb7.mono hb3.size)
  have V1 := Lib.hid ((U1.out.below hb7).more hb7.size)
  have V2 := Lib.hid ((U2.out.below hb7).more hb7.size)
  have V3 := Lib.hid ((U3.out.below hb7).more hb7.size)
  replace Q4 := Lib.hid ((Q4.out.below hb7).more hb7.size)
  replace Q5 := Lib.hid ((Q5.out.below hb7).more hb7.size)
  clear hb6 hb7 hb67 hw7 hbc' U1 U2 U3
  go_upto_region 8 with (go_at_call 19; refine (rFall_as s from_ to_ c1 c2 c3 A1 A2 A3 w7 ((R1.out.below hb3).more hb3.size) ((R2.out.below hb3).more hb3.size) ((R3.out.below hb3).more hb3.size) HFF.out).mono ?_; rintro e w8 ⟨rfl, hb8⟩)
  obtain ⟨w9, hw9⟩ : ∃ w9, w8.alloc (.cells #[.int .i64 F1, .int .i64 F2] 36) = w9 := ⟨_, rfl⟩
  obtain ⟨bd, hbd'⟩ : ∃ bd, w8.heap.size = bd := ⟨_, rfl⟩
  rw [hw9, hbd']
  have hb89 : Below w8.heap.size w8 w9 := by rw [← hw9]; exact (Below.refl _ _).alloc (Nat.le_refl _) _
  have hb9 : Below w7.heap.size w7 w9 := hb8.trans (hb89.mono hb8.size)
  have z0 : w9.cell? ⟨bd, 0, none⟩ = some (.int .i64 F1) := by rw [← hw9, ← hbd']; simp
  have z1 : w9.cell? ⟨bd, 1, none⟩ = some (.int .i64 F2) := by rw [← hw9, ← hbd']; simp
  have hbd : bd < w9.heap.size := by rw [← hw9, ← hbd']; simp
  replace s0 := (hb9.cell (p := ⟨w.heap.size, 0, none⟩) hws).trans s0
  replace s1 := (hb9.cell (p := ⟨w.heap.size, 1, none⟩) hws).trans s1
  replace s2 := (hb9.cell (p := ⟨w.heap.size, 2, none⟩) hws).trans s2
  replace s3 := (hb9.cell (p := ⟨w.heap.size, 3, none⟩) hws).trans s3
  replace o0 := (hb9.cell (p := ⟨bo, 0, none⟩) hbo).trans o0
  replace o1 := (hb9.cell (p := ⟨bo, 1, none⟩) hbo).trans o1
  replace o2 := (hb9.cell (p := ⟨bo, 2, none⟩) hbo).trans o2
  replace o3 := (hb9.cell (p := ⟨bo, 3, none⟩) hbo).trans o3
  replace hws := Nat.lt_of_lt_of_le hws hb9.size
  replace hbo := Nat.lt_of_lt_of_le hbo hb9.size
  replace y0 := (hb9.cell (p := ⟨bc, 0, none⟩) hbc).trans y0
  replace y1 := (hb9.cell (p := ⟨bc, 1, none⟩) hbc).trans y1
  replace hbc := Nat.lt_of_lt_of_le hbc hb9.size
  replace hb3 := hb3.trans (hb9.mono hb3.size)
  have U1 := Lib.hid ((V1.out.below hb9).more hb9.size)
  have U2 := Lib.hid ((V2.out.below hb9).more hb9.size)
  have U3 := Lib.hid ((V3.out.below hb9).more hb9.size)
  replace Q4 := Lib.hid ((Q4.out.below hb9).more hb9.size)
  replace Q5 := Lib.hid ((Q5.out.below hb9).more hb9.size)
  have S1 := Lib.hid ((R1.out.below hb3).more hb3.size)
  have S2 := Lib.hid ((R2.out.below hb3).more hb3.size)
  have S3 := Lib.hid ((R3.out.below hb3).more hb3.size)
  clear hb8 hb9 hb89 hw9 hbd' V1 V2 V3
  refine wp_region_calm (by kernel_rfl) (by kernel_rfl) ?_
  repeat (go_big_quiet_step ((first
    | (go_at_call 20; exact calm_of (lcheck_any s d1 d2 d3 B1 B2 B3 _ ((U1.out.below (wx_below _ _)).more (wx_below _ _).size) ((U2.out.below (wx_below _ _)).more (wx_below _ _).size) ((U3.out.below (wx_below _ _)).more (wx_below _ _).size)))
    | (go_at_call 21; exact calm_of (rcheck_any s c1 c2 c3 A1 A2 A3 _ ((S1.out.below (wx_below _ _)).more (wx_below _ _).size) ((S2.out.below (wx_below _ _)).more (wx_below _ _).size) ((S3.out.below (wx_below _ _)).more (wx_below _ _).size)))
    | (go_at_call 22; exact calm_of (sameSpans_self L c4 c5 A4 A5 _ ((Q4.out.below (wx_below _ _)).more (wx_below _ _).size) ((Q5.out.below (wx_below _ _)).more (wx_below _ _).size) hLL))
    | (go_at_call 23; exact calm_of (same_any s d1 d2 d3 c1 c2 c3 B1 B2 B3 A1 A2 A3 _ ((U1.out.below (wx_below _ _)).more (wx_below _ _).size) ((U2.out.below (wx_below _ _)).more (wx_below _ _).size) ((U3.out.below (wx_below _ _)).more (wx_below _ _).size) ((S1.out.below (wx_below _ _)).more (wx_below _ _).size) ((S2.out.below (wx_below _ _)).more (wx_below _ _).size) ((S3.out.below (wx_below _ _)).more (wx_below _ _).size) (by omega) (by omega) (by omega))))))
  refine wpQuiet_nil ?_; rintro _ ⟨dx, rfl⟩
  obtain ⟨wy, hwy⟩ : ∃ wy, wx _ dx = wy := ⟨_, rfl⟩; have hby := wx_below _ dx; rw [hwy] at hby ⊢
  go_wp2
  go_ret
  exact ⟨rfl, hb3.trans (hby.mono hb3.size)⟩

theorem lawHeights_any (s : Sv) (from_ to_ : Int) (c1 c2 c3 : Nat) (A1 A2 A3 : Option Addr) (w : World)
    (r1 : Rd w w.heap.size A1 shV 4 s.shots) (r2 : Rd w w.heap.size A2 mkV 3 s.marks) (r3 : Rd w w.heap.size A3 shV 4 s.threads) :
    Calls Try.prog 3 #[.agg #[.int .i64 s.n, .slice A1 s.shots.length c1, .slice A2 s.marks.length c2, .slice A3 s.threads.length c3], .int .i64 from_, .int .i64 to_] w fun e w' => e = .returned (.bool true) ∧ Below w.heap.size w w' := by
  cases hgr : (decide (90 < s.shots.length) || decide (30 < s.marks.length) || decide (50 < s.threads.length))
  · exact lawHeights_small s from_ to_ c1 c2 c3 A1 A2 A3 w r1 r2 r3 hgr
  · exact lawHeights_great s from_ to_ c1 c2 c3 A1 A2 A3 w hgr

end Go.Proofs.Ythpjcpaedigdfaa
