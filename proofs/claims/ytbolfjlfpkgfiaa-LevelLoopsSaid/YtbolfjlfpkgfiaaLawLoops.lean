/- The law LevelLoops answers true of every survey that reads as plain data, and of every list of numbers. Condition: the slices read below the heap's end. -/
import Derived.Test.YtbolfjlfpkgfiaaRefTwin
import Derived.Test.YtbolfjlfpkgfiaaRefSm
import Derived.Test.YtbolfjlfpkgfiaaLevAfter
import Derived.Test.YtbolfjlfpkgfiaaRefSame
import Derived.Test.YtbolfjlfpkgfiaaCalm
import Derived.Test.YtbolfjlfpkgfiaaRefLoop
import Derived.Test.YtbolfjlfpkgfiaaLevLoop
import Derived.Test.YtbolfjlfpkgfiaaLevClash
import Derived.Test.YtbolfjlfpkgfiaaRefClash
import Derived.Test.YtbolfjlfpkgfiaaLevWid
import Derived.Test.YtbolfjlfpkgfiaaRefWid
set_option linter.unusedVariables false
set_option linter.unusedSimpArgs false
namespace Go.Proofs.Ytbolfjlfpkgfiaa
open Go.RowKit
attribute [local go_sem] wx_cell wx_frozen

theorem sameInts_selfL (xs : List Int) (c1 c2 : Nat) (A1 A2 : Option Addr) (w : World) (r1 : Rd w w.heap.size A1 inV 1 xs) (r2 : Rd w w.heap.size A2 inV 1 xs) (hl : xs.length ≤ 1000000000) :
    Calls Try.prog 30 #[.slice A1 xs.length c1, .slice A2 xs.length c2] w fun e w' => e = .returned (.bool true) ∧ Below w.heap.size w w' := by
  have h := sameInts_any xs xs c1 c2 A1 A2 w r1 r2 hl hl
  rw [decide_eq_true rfl] at h
  exact h
theorem lvClash_len (s : Sv) : (lvClash s).1.length ≤ 80 := by
  unfold lvClash
  cases hok : svOk s
  · simp
  · obtain ⟨⟨_, _, g3, g4, _⟩, _⟩ := svOk_spec hok
    rw [if_neg (by simp)]
    split
    · simp
    · have := clL_len (fitB s) (s.shots.length + s.marks.length)
      dsimp only
      omega

theorem lloop_as (s : Sv) (xs : List Int) (cp c1 c2 c3 : Nat) (AP A1 A2 A3 : Option Addr) (w : World)
    (r1 : Rd w w.heap.size A1 shV 4 s.shots) (r2 : Rd w w.heap.size A2 mkV 3 s.marks) (r3 : Rd w w.heap.size A3 shV 4 s.threads) (rp : Rd w w.heap.size AP inV 1 xs) (hl9 : xs.length ≤ 1000000000) {F1 F2 F3 : Int} (h : lvLoop s xs = ((F1, F2), F3)) :
    Calls Try.prog 24 #[.agg #[.int .i64 s.n, .slice A1 s.shots.length c1, .slice A2 s.marks.length c2, .slice A3 s.threads.length c3], .slice AP xs.length cp] w fun e w' =>
      e = .returned (.tuple #[.agg #[.int .i64 F1, .int .i64 F2], .int .i64 F3]) ∧ Below w.heap.size w w' := by
  have h1 := lloop_any s xs cp c1 c2 c3 AP A1 A2 A3 w r1 r2 r3 rp hl9
  rw [h] at h1
  exact h1
theorem rloop_as (s : Sv) (xs : List Int) (cp c1 c2 c3 : Nat) (AP A1 A2 A3 : Option Addr) (w : World)
    (r1 : Rd w w.heap.size A1 shV 4 s.shots) (r2 : Rd w w.heap.size A2 mkV 3 s.marks) (r3 : Rd w w.heap.size A3 shV 4 s.threads) (rp : Rd w w.heap.size AP inV 1 xs) (hl9 : xs.length ≤ 1000000000) {F1 F2 F3 : Int} (h : lvLoop s xs = ((F1, F2), F3)) :
    Calls Try.prog 25 #[.agg #[.int .i64 s.n, .slice A1 s.shots.length c1, .slice A2 s.marks.length c2, .slice A3 s.threads.length c3], .slice AP xs.length cp] w fun e w' =>
      e = .returned (.tuple #[.agg #[.int .i64 F1, .int .i64 F2], .int .i64 F3]) ∧ Below w.heap.size w w' := by
  have h1 := rloop_any s xs cp c1 c2 c3 AP A1 A2 A3 w r1 r2 r3 rp hl9
  rw [h] at h1
  exact h1
theorem lclash_as (s : Sv) (c1 c2 c3 : Nat) (A1 A2 A3 : Option Addr) (w : World)
    (r1 : Rd w w.heap.size A1 shV 4 s.shots) (r2 : Rd w w.heap.size A2 mkV 3 s.marks) (r3 : Rd w w.heap.size A3 shV 4 s.threads) {L : List Int} {E : Int} (h : lvClash s = (L, E)) :
    Calls Try.prog 26 #[.agg #[.int .i64 s.n, .slice A1 s.shots.length c1, .slice A2 s.marks.length c2, .slice A3 s.threads.length c3]] w fun e w' =>
      (∃ A c, e = .returned (.tuple #[.slice A L.length c, .int .i64 E]) ∧ Rd w' w'.heap.size A inV 1 L) ∧ Below w.heap.size w w' := by
  have h1 := lclash_any s c1 c2 c3 A1 A2 A3 w r1 r2 r3
  rw [h] at h1
  exact h1
theorem rclash_as (s : Sv) (c1 c2 c3 : Nat) (A1 A2 A3 : Option Addr) (w : World)
    (r1 : Rd w w.heap.size A1 shV 4 s.shots) (r2 : Rd w w.heap.size A2 mkV 3 s.marks) (r3 : Rd w w.heap.size A3 shV 4 s.threads) {L : List Int} {E : Int} (h : lvClash s = (L, E)) :
    Calls Try.prog 27 #[.agg #[.int .i64 s.n, .slice A1 s.shots.length c1, .slice A2 s.marks.length c2, .slice A3 s.threads.length c3]] w fun e w' =>
      (∃ A c, e = .returned (.tuple #[.slice A L.length c, .int .i64 E]) ∧ Rd w' w'.heap.size A inV 1 L) ∧ Below w.heap.size w w' := by
  have h1 := rclash_any s c1 c2 c3 A1 A2 A3 w r1 r2 r3
  rw [h] at h1
  exact h1
/-- What Widen answers. -/
theorem widen_both (s : Sv) : ∃ V E : Int, (∀ (c1 c2 c3 : Nat) (A1 A2 A3 : Option Addr) (w : World), Rd w w.heap.size A1 shV 4 s.shots → Rd w w.heap.size A2 mkV 3 s.marks → Rd w w.heap.size A3 shV 4 s.threads →
      Calls Try.prog 28 #[.agg #[.int .i64 s.n, .slice A1 s.shots.length c1, .slice A2 s.marks.length c2, .slice A3 s.threads.length c3]] w fun e w' => e = .returned (.tuple #[.int .i64 V, .int .i64 E]) ∧ Below w.heap.size w w') ∧
    (∀ (c1 c2 c3 : Nat) (A1 A2 A3 : Option Addr) (w : World), Rd w w.heap.size A1 shV 4 s.shots → Rd w w.heap.size A2 mkV 3 s.marks → Rd w w.heap.size A3 shV 4 s.threads →
      Calls Try.prog 29 #[.agg #[.int .i64 s.n, .slice A1 s.shots.length c1, .slice A2 s.marks.length c2, .slice A3 s.threads.length c3]] w fun e w' => e = .returned (.tuple #[.int .i64 V, .int .i64 E]) ∧ Below w.heap.size w w') := by
  cases hok : svOk s
  · exact ⟨0, 10, fun c1 c2 c3 A1 A2 A3 w r1 r2 r3 => lwiden_bad s c1 c2 c3 A1 A2 A3 w r1 r2 r3 hok, fun c1 c2 c3 A1 A2 A3 w r1 r2 r3 => rwiden_bad s c1 c2 c3 A1 A2 A3 w r1 r2 r3 hok⟩
  · obtain ⟨r, hr, hP⟩ := wid_least (s := s) (fun _ => false) hok
    exact ⟨r, 0, fun c1 c2 c3 A1 A2 A3 w r1 r2 r3 => lwiden_fine s c1 c2 c3 A1 A2 A3 w r1 r2 r3 hok r hr hP, fun c1 c2 c3 A1 A2 A3 w r1 r2 r3 => rwiden_fine s c1 c2 c3 A1 A2 A3 w r1 r2 r3 hok r hr hP⟩

set_option maxRecDepth 100000 in
set_option maxHeartbeats 8000000 in
theorem lawLoops_great (s : Sv) (xs : List Int) (cp c1 c2 c3 : Nat) (AP A1 A2 A3 : Option Addr) (w : World) (hgr : (decide (90 < s.shots.length) || decide (30 < s.marks.length) || decide (50 < s.threads.length)) = true) :
    Calls Try.prog 4 #[.agg #[.int .i64 s.n, .slice A1 s.shots.length c1, .slice A2 s.marks.length c2, .slice A3 s.threads.length c3], .slice AP xs.length cp] w fun e w' => e = .returned (.bool true) ∧ Below w.heap.size w w' := by
  have hG := Lib.hid (fun W => (great_any s.n s.shots.length s.marks.length s.threads.length c1 c2 c3 A1 A2 A3 W))
  rw [hgr] at hG
  clear hgr
  go_enter Try.func4, Try.ntmps4
  go_wp2_with (go_at_call 14; refine (hG.out _).mono ?_; rintro e w1 ⟨rfl, hb1⟩)
  go_ret
  exact ⟨rfl, by (repeat' (first | (with_reducible exact Below.refl _ _) | (with_reducible refine Below.alloc ?_ ?_ _) | (with_reducible refine Below.drew ?_) | (with_reducible refine Below.drewN_ ?_ _) | (with_reducible refine Below.setCell ?_ ?_ _) | (with_reducible refine Below.setRow ?_ ?_ _) | (with_reducible refine Below.via ?_ (by with_reducible assumption) ?_) | go_size))⟩

set_option maxRecDepth 100000 in
set_option maxHeartbeats 8000000 in
theorem lawLoops_many (s : Sv) (xs : List Int) (cp c1 c2 c3 : Nat) (AP A1 A2 A3 : Option Addr) (w : World) (hgr : (decide (90 < s.shots.length) || decide (30 < s.marks.length) || decide (50 < s.threads.length)) = false) (hl : 40 < xs.length) :
    Calls Try.prog 4 #[.agg #[.int .i64 s.n, .slice A1 s.shots.length c1, .slice A2 s.marks.length c2, .slice A3 s.threads.length c3], .slice AP xs.length cp] w fun e w' => e = .returned (.bool true) ∧ Below w.heap.size w w' := by
  have hG := Lib.hid (fun W => (great_any s.n s.shots.length s.marks.length s.threads.length c1 c2 c3 A1 A2 A3 W))
  rw [hgr] at hG
  clear hgr
  have hl2 : (40 : Int) < (xs.length : Int) := by omega
  go_enter Try.func4, Try.ntmps4
  go_wp2_with (go_at_call 14; refine (hG.out _).mono ?_; rintro e w1 ⟨rfl, hb1⟩)
  go_ret
  exact ⟨rfl, by (repeat' (first | (with_reducible exact Below.refl _ _) | (with_reducible refine Below.alloc ?_ ?_ _) | (with_reducible refine Below.drew ?_) | (with_reducible refine Below.drewN_ ?_ _) | (with_reducible refine Below.setCell ?_ ?_ _) | (with_reducible refine Below.setRow ?_ ?_ _) | (with_reducible refine Below.via ?_ (by with_reducible assumption) ?_) | go_size))⟩

set_option maxRecDepth 100000 in
set_option maxHeartbeats 8000000 in
theorem lawLoops_small (s : Sv) (xs : List Int) (cp c1 c2 c3 : Nat) (AP A1 A2 A3 : Option Addr) (w : World) (r1 : Rd w w.heap.size A1 shV 4 s.shots) (r2 : Rd w w.heap.size A2 mkV 3 s.marks) (r3 : Rd w w.heap.size A3 shV 4 s.threads) (rp : Rd w w.heap.size AP inV 1 xs) (hgr : (decide (90 < s.shots.length) || decide (30 < s.marks.length) || decide (50 < s.threads.length)) = false) (hl : xs.length ≤ 40) :
    Calls Try.prog 4 #[.agg #[.int .i64 s.n, .slice A1 s.shots.length c1, .slice A2 s.marks.length c2, .slice A3 s.threads.length c3], .slice AP xs.length cp] w fun e w' => e = .returned (.bool true) ∧ Below w.heap.size w w' := by
  have R1 := Lib.hid r1
  have R2 := Lib.hid r2
  have R3 := Lib.hid r3
  have RP := Lib.hid rp
  have hG := Lib.hid (fun W => (great_any s.n s.shots.length s.marks.length s.threads.length c1 c2 c3 A1 A2 A3 W))
  rw [hgr] at hG
  have hle : s.shots.length ≤ 90 ∧ s.marks.length ≤ 30 ∧ s.threads.length ≤ 50 := by
    simp only [Bool.or_eq_false_iff, decide_eq_false_iff_not] at hgr
    omega
  obtain ⟨l1, l2, l3⟩ := hle
  have hl2 : ¬ (40 : Int) < (xs.length : Int) := by omega
  have hLL := lvClash_len s
  obtain ⟨L, E, hLE⟩ : ∃ L E, lvClash s = (L, E) := ⟨_, _, rfl⟩
  obtain ⟨F1, F2, F3, hFF⟩ : ∃ F1 F2 F3, lvLoop s xs = ((F1, F2), F3) := ⟨_, _, _, rfl⟩
  obtain ⟨V, EV, hV1, hV2⟩ := widen_both s
  rw [hLE] at hLL
  dsimp only at hLL
  have HLE := Lib.hid hLE
  have HFF := Lib.hid hFF
  have HV1 := Lib.hid hV1
  have HV2 := Lib.hid hV2
  clear r1 r2 r3 rp hgr hLE hFF hV1 hV2
  obtain ⟨i0, hi0, hz0, hz1, hz2⟩ := info_parts infoInt
  have I0 := Lib.hid (And.intro hi0 (And.intro hz0 (And.intro hz1 hz2)))
  clear hi0 hz0 hz1 hz2
  go_enter Try.func4, Try.ntmps4
  go_upto_region 3 with (go_at_call 14; refine (hG.out _).mono ?_; rintro e w1 ⟨rfl, hb1⟩; obtain ⟨hc1, hf1⟩ := bcell hb1)
  have hz1 := hb1.size
  simp at hz1
  have hws : w.heap.size < w1.heap.size := by omega
  have hb3 : Below w.heap.size w w1 := by (repeat' (first | (with_reducible exact Below.refl _ _) | (with_reducible refine Below.alloc ?_ ?_ _) | (with_reducible refine Below.drew ?_) | (with_reducible refine Below.drewN_ ?_ _) | (with_reducible refine Below.setCell ?_ ?_ _) | (with_reducible refine Below.setRow ?_ ?_ _) | (with_reducible refine Below.via ?_ (by with_reducible assumption) ?_) | go_size))
  have s0 : w1.cell? ⟨w.heap.size, 0, none⟩ = some (.int .i64 s.n) := by rw [hc1 _ _ (by simp)]; simp
  have s1 : w1.cell? ⟨w.heap.size, 1, none⟩ = some (.slice A1 s.shots.length c1) := by rw [hc1 _ _ (by simp)]; simp
  have s2 : w1.cell? ⟨w.heap.size, 2, none⟩ = some (.slice A2 s.marks.length c2) := by rw [hc1 _ _ (by simp)]; simp
  have s3 : w1.cell? ⟨w.heap.size, 3, none⟩ = some (.slice A3 s.threads.length c3) := by rw [hc1 _ _ (by simp)]; simp
  clear hc1 hf1 hb1 hz1 hG
  go_upto_region 4 with (first | (go_at_call 15; refine (twin_any s c1 c2 c3 A1 A2 A3 w1 ((R1.out.below hb3).more hb3.size) ((R2.out.below hb3).more hb3.size) ((R3.out.below hb3).more hb3.size) (by omega) (by omega) (by omega)).mono ?_; rintro e w2 ⟨⟨B1, B2, B3, d1, d2, d3, rfl, t1, t2, t3⟩, hb2⟩; have U1 := Lib.hid t1; have U2 := Lib.hid t2; have U3 := Lib.hid t3; clear t1 t2 t3; have hb4 := hb3.trans (hb2.mono hb3.size)) | (at_builtin; refine wpList_append_rd rfl (.tmp 28) (.tmp 29) 46 rfl i0 _ 8 Try.underlying46 I0.out.1 I0.out.2.1 I0.out.2.2.1 I0.out.2.2.2 rfl (by omega) inV_len' inV_one' rfl (Own.empty w2 w2.heap.size 3 inV 1 (Nat.le_refl _)) rfl rfl (RP.out.below (hb4.alloc hb4.size _)) (by simp; omega) (by omega) (by simp) ?_; intro v1 w2a ho hg hat; have hbA := below_new_append hg; rw [List.nil_append] at ho; obtain ⟨AM, cm, rfl⟩ := ho.form; have U := Lib.hid (ho.rd inV_len'); clear ho hg hat))
  obtain ⟨w3, hw3⟩ : ∃ w3, w2a.alloc (.cells #[.int .i64 s.n, .slice B1 s.shots.length d1, .slice B2 s.marks.length d2, .slice B3 s.threads.length d3] 26) = w3 := ⟨_, rfl⟩
  obtain ⟨bo, hbo'⟩ : ∃ bo, w2a.heap.size = bo := ⟨_, rfl⟩
  rw [hw3, hbo']
  have hb23 : Below w2a.heap.size w2a w3 := by rw [← hw3]; exact (Below.refl _ _).alloc (Nat.le_refl _) _
  have hbAA : Below w2.heap.size w2 w3 := hbA.trans (hb23.mono hbA.size)
  have hb13 : Below w1.heap.size w1 w3 := hb2.trans (hbAA.mono hb2.size)
  have hbo : bo < w3.heap.size := by rw [← hw3, ← hbo']; simp
  replace U := Lib.hid ((U.out.below hb23).more hb23.size)
  replace U1 := Lib.hid ((U1.out.below hbAA).more hbAA.size)
  replace U2 := Lib.hid ((U2.out.below hbAA).more hbAA.size)
  replace U3 := Lib.hid ((U3.out.below hbAA).more hbAA.size)
  have o0 : w3.cell? ⟨bo, 0, none⟩ = some (.int .i64 s.n) := by rw [← hw3, ← hbo']; simp
  have o1 : w3.cell? ⟨bo, 1, none⟩ = some (.slice B1 s.shots.length d1) := by rw [← hw3, ← hbo']; simp
  have o2 : w3.cell? ⟨bo, 2, none⟩ = some (.slice B2 s.marks.length d2) := by rw [← hw3, ← hbo']; simp
  have o3 : w3.cell? ⟨bo, 3, none⟩ = some (.slice B3 s.threads.length d3) := by rw [← hw3, ← hbo']; simp
  replace s0 := (hb13.cell (p := ⟨w.heap.size, 0, none⟩) hws).trans s0
  replace s1 := (hb13.cell (p := ⟨w.heap.size, 1, none⟩) hws).trans s1
  replace s2 := (hb13.cell (p := ⟨w.heap.size, 2, none⟩) hws).trans s2
  replace s3 := (hb13.cell (p := ⟨w.heap.size, 3, none⟩) hws).trans s3
  replace hws := Nat.lt_of_lt_of_le hws hb13.size
  replace hb3 := hb3.trans (hb13.mono hb3.size)
  clear hw3 hbo' hb2 hb23 hbA hbAA hb13 hb4
  go_upto_region 5 with (go_at_call 24; refine (lloop_as s xs cm d1 d2 d3 AM B1 B2 B3 w3 U1.out U2.out U3.out U.out (by omega) HFF.out).mono ?_; rintro e w4 ⟨rfl, hb6⟩)
  obtain ⟨w5, hw7⟩ : ∃ w5, w4.alloc (.cells #[.int .i64 F1, .int .i64 F2] 36) = w5 := ⟨_, rfl⟩
  obtain ⟨bc, hbc'⟩ : ∃ bc, w4.heap.size = bc := ⟨_, rfl⟩
  rw [hw7, hbc']
  have hb67 : Below w4.heap.size w4 w5 := by rw [← hw7]; exact (Below.refl _ _).alloc (Nat.le_refl _) _
  have hb7 : Below w3.heap.size w3 w5 := hb6.trans (hb67.mono hb6.size)
  replace s0 := (hb7.cell (p := ⟨w.heap.size, 0, none⟩) hws).trans s0
  replace s1 := (hb7.cell (p := ⟨w.heap.size, 1, none⟩) hws).trans s1
  replace s2 := (hb7.cell (p := ⟨w.heap.size, 2, none⟩) hws).trans s2
  replace s3 := (hb7.cell (p := ⟨w.heap.size, 3, none⟩) hws).trans s3
  replace o0 := (hb7.cell (p := ⟨bo, 0, none⟩) hbo).trans o0
  replace o1 := (hb7.cell (p := ⟨bo, 1, none⟩) hbo).trans o1
  replace o2 := (hb7.cell (p := ⟨bo, 2, none⟩) hbo).trans o2
  replace o3 := (hb7.cell (p := ⟨bo, 3, none⟩) hbo).trans o3
  replace hbo := Nat.lt_of_lt_of_le hbo hb7.size
  replace hws := Nat.lt_of_lt_of_le hws hb7.size
  replace U := Lib.hid ((U.out.below hb7).more hb7.size)
  replace U1 := Lib.hid ((U1.out.below hb7).more hb7.size)
  replace U2 := Lib.hid ((U2.out.below hb7).more hb7.size)
  replace U3 := Lib.hid ((U3.out.below hb7).more hb7.size)
  replace hb3 := hb3.trans (hb7.mono hb3.size)
  have y0 : w5.cell? ⟨bc, 0, none⟩ = some (.int .i64 F1) := by rw [← hw7, ← hbc']; simp
  have y1 : w5.cell? ⟨bc, 1, none⟩ = some (.int .i64 F2) := by rw [← hw7, ← hbc']; simp
  have hbc : bc < w5.heap.size := by rw [← hw7, ← hbc']; simp
  clear hb6 hb7 hb67 hw7 hbc'
  go_upto_region 6 with (go_at_call 25; refine (rloop_as s xs cp c1 c2 c3 AP A1 A2 A3 w5 ((R1.out.below hb3).more hb3.size) ((R2.out.below hb3).more hb3.size) ((R3.out.below hb3).more hb3.size) ((RP.out.below hb3).more hb3.size) (by omega) HFF.out).mono ?_; rintro e w6 ⟨rfl, hb6⟩)
  obtain ⟨w7, hw7⟩ : ∃ w7, w6.alloc (.cells #[.int .i64 F1, .int .i64 F2] 36) = w7 := ⟨_, rfl⟩
  obtain ⟨bd, hbc'⟩ : ∃ bd, w6.heap.size = bd := ⟨_, rfl⟩
  rw [hw7, hbc']
  have hb67 : Below w6.heap.size w6 w7 := by rw [← hw7]; exact (Below.refl _ _).alloc (Nat.le_refl _) _
  have hb7 : Below w5.heap.size w5 w7 := hb6.trans (hb67.mono hb6.size)
  replace s0 := (hb7.cell (p := ⟨w.heap.size, 0, none⟩) hws).trans s0
  replace s1 := (hb7.cell (p := ⟨w.heap.size, 1, none⟩) hws).trans s1
  replace s2 := (hb7.cell (p := ⟨w.heap.size, 2, none⟩) hws).trans s2
  replace s3 := (hb7.cell (p := ⟨w.heap.size, 3, none⟩) hws).trans s3
  replace o0 := (hb7.cell (p := ⟨bo, 0, none⟩) hbo).trans o0
  replace o1 := (hb7.cell (p := ⟨bo, 1, none⟩) hbo).trans o1
  replace o2 := (hb7.cell (p := ⟨bo, 2, none⟩) hbo).trans o2
  replace o3 := (hb7.cell (p := ⟨bo, 3, none⟩) hbo).trans o3
  replace y0 := (hb7.cell (p := ⟨bc, 0, none⟩) hbc).trans y0
  replace y1 := (hb7.cell (p := ⟨bc, 1, none⟩) hbc).trans y1
  replace hbc := Nat.lt_of_lt_of_le hbc hb7.size
  replace hbo := Nat.lt_of_lt_of_le hbo hb7.size
  replace hws := Nat.lt_of_lt_of_le hws hb7.size
  replace U := Lib.hid ((U.out.below hb7).more hb7.size)
  replace U1 := Lib.hid ((U1.out.below hb7).more hb7.size)
  replace U2 := Lib.hid ((U2.out.below hb7).more hb7.size)
  replace U3 := Lib.hid ((U3.out.below hb7).more hb7.size)
  replace hb3 := hb3.trans (hb7.mono hb3.size)
  have z0 : w7.cell? ⟨bd, 0, none⟩ = some (.int .i64 F1) := by rw [← hw7, ← hbc']; simp
  have z1 : w7.cell? ⟨bd, 1, none⟩ = some (.int .i64 F2) := by rw [← hw7, ← hbc']; simp
  have hbd : bd < w7.heap.size := by rw [← hw7, ← hbc']; simp
  clear hb6 hb7 hb67 hw7 hbc'
  go_upto_region 7 with (go_at_call 26; refine (lclash_as s d1 d2 d3 B1 B2 B3 w7 U1.out U2.out U3.out HLE.out).mono ?_; rintro e w8 ⟨⟨A8, c8, rfl, q8⟩, hb8⟩; have Q8 := Lib.hid q8; clear q8)
  replace s0 := (hb8.cell (p := ⟨w.heap.size, 0, none⟩) hws).trans s0
  replace s1 := (hb8.cell (p := ⟨w.heap.size, 1, none⟩) hws).trans s1
  replace s2 := (hb8.cell (p := ⟨w.heap.size, 2, none⟩) hws).trans s2
  replace s3 := (hb8.cell (p := ⟨w.heap.size, 3, none⟩) hws).trans s3
  replace o0 := (hb8.cell (p := ⟨bo, 0, none⟩) hbo).trans o0
  replace o1 := (hb8.cell (p := ⟨bo, 1, none⟩) hbo).trans o1
  replace o2 := (hb8.cell (p := ⟨bo, 2, none⟩) hbo).trans o2
  replace o3 := (hb8.cell (p := ⟨bo, 3, none⟩) hbo).trans o3
  replace y0 := (hb8.cell (p := ⟨bc, 0, none⟩) hbc).trans y0
  replace y1 := (hb8.cell (p := ⟨bc, 1, none⟩) hbc).trans y1
  replace z0 := (hb8.cell (p := ⟨bd, 0, none⟩) hbd).trans z0
  replace z1 := (hb8.cell (p := ⟨bd, 1, none⟩) hbd).trans z1
  replace hbc := Nat.lt_of_lt_of_le hbc hb8.size
  replace hbd := Nat.lt_of_lt_of_le hbd hb8.size
  replace hbo := Nat.lt_of_lt_of_le hbo hb8.size
  replace hws := Nat.lt_of_lt_of_le hws hb8.size
  replace U := Lib.hid ((U.out.below hb8).more hb8.size)
  replace U1 := Lib.hid ((U1.out.below hb8).more hb8.size)
  replace U2 := Lib.hid ((U2.out.below hb8).more hb8.size)
  replace U3 := Lib.hid ((U3.out.below hb8).more hb8.size)
  replace hb3 := hb3.trans (hb8.mono hb3.size)
  clear hb8
  go_upto_region 8 with (go_at_call 27; refine (rclash_as s c1 c2 c3 A1 A2 A3 w8 ((R1.out.below hb3).more hb3.size) ((R2.out.below hb3).more hb3.size) ((R3.out.below hb3).more hb3.size) HLE.out).mono ?_; rintro e w9 ⟨⟨A9, c9, rfl, q9⟩, hb9⟩; have Q9 := Lib.hid q9; clear q9)
  replace s0 := (hb9.cell (p := ⟨w.heap.size, 0, none⟩) hws).trans s0
  replace s1 := (hb9.cell (p := ⟨w.heap.size, 1, none⟩) hws).trans s1
  replace s2 := (hb9.cell (p := ⟨w.heap.size, 2, none⟩) hws).trans s2
  replace s3 := (hb9.cell (p := ⟨w.heap.size, 3, none⟩) hws).trans s3
  replace o0 := (hb9.cell (p := ⟨bo, 0, none⟩) hbo).trans o0
  replace o1 := (hb9.cell (p := ⟨bo, 1, none⟩) hbo).trans o1
  replace o2 := (hb9.cell (p := ⟨bo, 2, none⟩) hbo).trans o2
  replace o3 := (hb9.cell (p := ⟨bo, 3, none⟩) hbo).trans o3
  replace y0 := (hb9.cell (p := ⟨bc, 0, none⟩) hbc).trans y0
  replace y1 := (hb9.cell (p := ⟨bc, 1, none⟩) hbc).trans y1
  replace z0 := (hb9.cell (p := ⟨bd, 0, none⟩) hbd).trans z0
  replace z1 := (hb9.cell (p := ⟨bd, 1, none⟩) hbd).trans z1
  replace hbc := Nat.lt_of_lt_of_le hbc hb9.size
  replace hbd := Nat.lt_of_lt_of_le hbd hb9.size
  replace hbo := Nat.lt_of_lt_of_le hbo hb9.size
  replace hws := Nat.lt_of_lt_of_le hws hb9.size
  replace U := Lib.hid ((U.out.below hb9).more hb9.size)
  replace U1 := Lib.hid ((U1.out.below hb9).more hb9.size)
  replace U2 := Lib.hid ((U2.out.below hb9).more hb9.size)
  replace U3 := Lib.hid ((U3.out.below hb9).more hb9.size)
  replace Q8 := Lib.hid ((Q8.out.below hb9).more hb9.size)
  replace hb3 := hb3.trans (hb9.mono hb3.size)
  clear hb9
  go_upto_region 9 with (go_at_call 28; refine (HV1.out d1 d2 d3 B1 B2 B3 w9 U1.out U2.out U3.out).mono ?_; rintro e w10 ⟨rfl, hb10⟩)
  replace s0 := (hb10.cell (p := ⟨w.heap.size, 0, none⟩) hws).trans s0
  replace s1 := (hb10.cell (p := ⟨w.heap.size, 1, none⟩) hws).trans s1
  replace s2 := (hb10.cell (p := ⟨w.heap.size, 2, none⟩) hws).trans s2
  replace s3 := (hb10.cell (p := ⟨w.heap.size, 3, none⟩) hws).trans s3
  replace o0 := (hb10.cell (p := ⟨bo, 0, none⟩) hbo).trans o0
  replace o1 := (hb10.cell (p := ⟨bo, 1, none⟩) hbo).trans o1
  replace o2 := (hb10.cell (p := ⟨bo, 2, none⟩) hbo).trans o2
  replace o3 := (hb10.cell (p := ⟨bo, 3, none⟩) hbo).trans o3
  replace y0 := (hb10.cell (p := ⟨bc, 0, none⟩) hbc).trans y0
  replace y1 := (hb10.cell (p := ⟨bc, 1, none⟩) hbc).trans y1
  replace z0 := (hb10.cell (p := ⟨bd, 0, none⟩) hbd).trans z0
  replace z1 := (hb10.cell (p := ⟨bd, 1, none⟩) hbd).trans z1
  replace hbc := Nat.lt_of_lt_of_le hbc hb10.size
  replace hbd := Nat.lt_of_lt_of_le hbd hb10.size
  replace hbo := Nat.lt_of_lt_of_le hbo hb10.size
  replace hws := Nat.lt_of_lt_of_le hws hb10.size
  replace U := Lib.hid ((U.out.below hb10).more hb10.size)
  replace U1 := Lib.hid ((U1.out.below hb10).more hb10.size)
  replace U2 := Lib.hid ((U2.out.below hb10).more hb10.size)
  replace U3 := Lib.hid ((U3.out.below hb10).more hb10.size)
  replace Q8 := Lib.hid ((Q8.out.below hb10).more hb10.size)
  replace Q9 := Lib.hid ((Q9.out.below hb10).more hb10.size)
  replace hb3 := hb3.trans (hb10.mono hb3.size)
  clear hb10
  go_upto_region 10 with (go_at_call 29; refine (HV2.out c1 c2 c3 A1 A2 A3 w10 ((R1.out.below hb3).more hb3.size) ((R2.out.below hb3).more hb3.size) ((R3.out.below hb3).more hb3.size)).mono ?_; rintro e w11 ⟨rfl, hb11⟩)
  replace s0 := (hb11.cell (p := ⟨w.heap.size, 0, none⟩) hws).trans s0
  replace s1 := (hb11.cell (p := ⟨w.heap.size, 1, none⟩) hws).trans s1
  replace s2 := (hb11.cell (p := ⟨w.heap.size, 2, none⟩) hws).trans s2
  replace s3 := (hb11.cell (p := ⟨w.heap.size, 3, none⟩) hws).trans s3
  replace o0 := (hb11.cell (p := ⟨bo, 0, none⟩) hbo).trans o0
  replace o1 := (hb11.cell (p := ⟨bo, 1, none⟩) hbo).trans o1
  replace o2 := (hb11.cell (p := ⟨bo, 2, none⟩) hbo).trans o2
  replace o3 := (hb11.cell (p := ⟨bo, 3, none⟩) hbo).trans o3
  replace y0 := (hb11.cell (p := ⟨bc, 0, none⟩) hbc).trans y0
  replace y1 := (hb11.cell (p := ⟨bc, 1, none⟩) hbc).trans y1
  replace z0 := (hb11.cell (p := ⟨bd, 0, none⟩) hbd).trans z0
  replace z1 := (hb11.cell (p := ⟨bd, 1, none⟩) hbd).trans z1
  replace hbc := Nat.lt_of_lt_of_le hbc hb11.size
  replace hbd := Nat.lt_of_lt_of_le hbd hb11.size
  replace hbo := Nat.lt_of_lt_of_le hbo hb11.size
  replace hws := Nat.lt_of_lt_of_le hws hb11.size
  replace U := Lib.hid ((U.out.below hb11).more hb11.size)
  replace U1 := Lib.hid ((U1.out.below hb11).more hb11.size)
  replace U2 := Lib.hid ((U2.out.below hb11).more hb11.size)
  replace U3 := Lib.hid ((U3.out.below hb11).more hb11.size)
  replace Q8 := Lib.hid ((Q8.out.below hb11).more hb11.size)
  replace Q9 := Lib.hid ((Q9.out.below hb11).more hb11.size)
  replace hb3 := hb3.trans (hb11.mono hb3.size)
  clear hb11
  have T := Lib.hid ((RP.out.below hb3).more hb3.size)
  have S1 := Lib.hid ((R1.out.below hb3).more hb3.size)
  have S2 := Lib.hid ((R2.out.below hb3).more hb3.size)
  have S3 := Lib.hid ((R3.out.below hb3).more hb3.size)
  go_wp2_with (first | (go_at_call 30; refine (sameInts_selfL xs cm cp AM AP wb ((U.out.below hbab).more hbab.size) ((T.out.below hbab).more hbab.size) (by omega)).mono ?_; rintro e wy ⟨rfl, hby0⟩; have hby := hbab.trans (hby0.mono hbab.size)) | (go_at_call 23; refine (same_any s d1 d2 d3 c1 c2 c3 B1 B2 B3 A1 A2 A3 wa ((U1.out.below hba).more hba.size) ((U2.out.below hba).more hba.size) ((U3.out.below hba).more hba.size) ((S1.out.below hba).more hba.size) ((S2.out.below hba).more hba.size) ((S3.out.below hba).more hba.size) (by omega) (by omega) (by omega)).mono ?_; rintro e wb ⟨rfl, hbb⟩; have hbab := hba.trans (hbb.mono hba.size)) | (go_at_call 30; refine (sameInts_selfL L c8 c9 A8 A9 w11 Q8.out Q9.out (by omega)).mono ?_; rintro e wa ⟨rfl, hba⟩; have a0 := (hba.cell (p := ⟨w.heap.size, 0, none⟩) hws).trans s0; have a1 := (hba.cell (p := ⟨w.heap.size, 1, none⟩) hws).trans s1; have a2 := (hba.cell (p := ⟨w.heap.size, 2, none⟩) hws).trans s2; have a3 := (hba.cell (p := ⟨w.heap.size, 3, none⟩) hws).trans s3; have e0 := (hba.cell (p := ⟨bo, 0, none⟩) hbo).trans o0; have e1 := (hba.cell (p := ⟨bo, 1, none⟩) hbo).trans o1; have e2 := (hba.cell (p := ⟨bo, 2, none⟩) hbo).trans o2; have e3 := (hba.cell (p := ⟨bo, 3, none⟩) hbo).trans o3; clear s0 s1 s2 s3 o0 o1 o2 o3))
  go_ret
  exact ⟨rfl, hb3.trans (hby.mono hb3.size)⟩

theorem lawLoops_any (s : Sv) (xs : List Int) (cp c1 c2 c3 : Nat) (AP A1 A2 A3 : Option Addr) (w : World) (r1 : Rd w w.heap.size A1 shV 4 s.shots) (r2 : Rd w w.heap.size A2 mkV 3 s.marks) (r3 : Rd w w.heap.size A3 shV 4 s.threads) (rp : Rd w w.heap.size AP inV 1 xs) :
    Calls Try.prog 4 #[.agg #[.int .i64 s.n, .slice A1 s.shots.length c1, .slice A2 s.marks.length c2, .slice A3 s.threads.length c3], .slice AP xs.length cp] w fun e w' => e = .returned (.bool true) ∧ Below w.heap.size w w' := by
  cases hgr : (decide (90 < s.shots.length) || decide (30 < s.marks.length) || decide (50 < s.threads.length))
  · by_cases hl : 40 < xs.length
    · exact lawLoops_many s xs cp c1 c2 c3 AP A1 A2 A3 w hgr hl
    · exact lawLoops_small s xs cp c1 c2 c3 AP A1 A2 A3 w r1 r2 r3 rp hgr (by omega)
  · exact lawLoops_great s xs cp c1 c2 c3 AP A1 A2 A3 w hgr

end Go.Proofs.Ytbolfjlfpkgfiaa
