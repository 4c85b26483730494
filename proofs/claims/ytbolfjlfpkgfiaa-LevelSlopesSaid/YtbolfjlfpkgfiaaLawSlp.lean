/- The law LevelSlopes answers true of every survey that reads as plain data, of every number, and of every list of numbers. Condition: the slices read below the heap's end. -/
import Derived.Test.YtbolfjlfpkgfiaaRefSlopeB
import Derived.Test.YtbolfjlfpkgfiaaRefRunsB
import Derived.Test.YtbolfjlfpkgfiaaLevRuns
import Derived.Test.YtbolfjlfpkgfiaaLevSlopeA
import Derived.Test.YtbolfjlfpkgfiaaRefSame
import Derived.Laws.BytesArg
set_option linter.unusedVariables false
set_option linter.unusedSimpArgs false
namespace Go.Proofs.Ytbolfjlfpkgfiaa
open Go.RowKit
attribute [local go_sem] wx_cell wx_frozen

theorem inV_len (x : Int) : (inV x).length = 1 := rfl
theorem inV_one (x : Int) : ∀ u ∈ inV x, u.oneCell' = true := by intro u hu; unfold inV at hu; simp at hu; subst hu; rfl
set_option maxRecDepth 100000 in
/-- string(b) of bytes that read as a list. -/
theorem run_convert_u8 (w : World) (B : Nat) (A : Option Addr) (l : List Int) (c : Nat) (r : Rd w B A u8V 1 l) : (convert 61 9 (.slice A l.length c)).run Try.prog w = .ok (.string (strOfNums l)) w := by
  cases A with
  | none =>
    have hl : l = [] := by
      rcases Nat.eq_zero_or_pos l.length with h0 | h0
      · exact List.eq_nil_of_length_eq_zero h0
      · obtain ⟨b, o, h, _⟩ := r h0
        cases h
    subst hl
    exact run_convert_bytes_nil w 61 5 Try.underlying61 Try.underlying5 _ _ _ Try.underlying9
  | some a =>
    rcases Nat.eq_zero_or_pos l.length with h0 | h0
    · obtain rfl := List.eq_nil_of_length_eq_zero h0
      rw [run_convert_bytes_string w _ _ 5 _ _ _ Try.underlying61 Try.underlying5 Try.underlying9]
      have hl := run_loadCells_list (P := Try.prog) w a [] (fun j v hj => by simp at hj)
      exact run_bytesToString w a _ _ [] (by simpa using hl)
    · obtain ⟨b, o, h, _, hc⟩ := r h0
      injection h with h
      subst h
      refine run_convert_bytes_arg w 61 5 Try.underlying61 Try.underlying5 b o _ c l rfl (fun i hi => ?_) _ Try.underlying9
      have h2 := hc i l[i] (List.getElem?_eq_getElem hi) 0 _ rfl
      rw [Nat.add_zero, Nat.mul_one] at h2
      rw [h2, List.getD_eq_getElem?_getD, List.getElem?_eq_getElem hi]
      rfl

theorem lvRuns_len (s : Sv) (xs : List Int) (hl : xs.length ≤ 40) : (lvRuns s xs).1.length ≤ 40 := by
  unfold lvRuns
  repeat' split
  all_goals first | (simp; done) | (dsimp only; rw [runsOf_len]; omega)

theorem lslope_as (s : Sv) (i : Int) (c1 c2 c3 : Nat) (A1 A2 A3 : Option Addr) (w : World)
    (r1 : Rd w w.heap.size A1 shV 4 s.shots) (r2 : Rd w w.heap.size A2 mkV 3 s.marks) (r3 : Rd w w.heap.size A3 shV 4 s.threads) {F1 F2 F3 : Int} (h : lvSlope s i = ((F1, F2), F3)) :
    Calls Try.prog 31 #[.agg #[.int .i64 s.n, .slice A1 s.shots.length c1, .slice A2 s.marks.length c2, .slice A3 s.threads.length c3], .int .i64 i] w fun e w' =>
      e = .returned (.tuple #[.agg #[.int .i64 F1, .int .i64 F2], .int .i64 F3]) ∧ Below w.heap.size w w' := by
  have h1 := lslope_any s i c1 c2 c3 A1 A2 A3 w r1 r2 r3
  rw [h] at h1
  exact h1
theorem rSlope_as (s : Sv) (i : Int) (c1 c2 c3 : Nat) (A1 A2 A3 : Option Addr) (w : World)
    (r1 : Rd w w.heap.size A1 shV 4 s.shots) (r2 : Rd w w.heap.size A2 mkV 3 s.marks) (r3 : Rd w w.heap.size A3 shV 4 s.threads) {F1 F2 F3 : Int} (h : lvSlope s i = ((F1, F2), F3)) :
    Calls Try.prog 32 #[.agg #[.int .i64 s.n, .slice A1 s.shots.length c1, .slice A2 s.marks.length c2, .slice A3 s.threads.length c3], .int .i64 i] w fun e w' =>
      e = .returned (.tuple #[.agg #[.int .i64 F1, .int .i64 F2], .int .i64 F3]) ∧ Below w.heap.size w w' := by
  have h1 := rSlope_any s i c1 c2 c3 A1 A2 A3 w r1 r2 r3
  rw [h] at h1
  exact h1
theorem lruns_as (s : Sv) (xs : List Int) (cp c1 c2 c3 : Nat) (AP A1 A2 A3 : Option Addr) (w : World)
    (r1 : Rd w w.heap.size A1 shV 4 s.shots) (r2 : Rd w w.heap.size A2 mkV 3 s.marks) (r3 : Rd w w.heap.size A3 shV 4 s.threads) (rp : Rd w w.heap.size AP inV 1 xs) {L : List Int} {E : Int} (h : lvRuns s xs = (L, E)) :
    Calls Try.prog 33 #[.agg #[.int .i64 s.n, .slice A1 s.shots.length c1, .slice A2 s.marks.length c2, .slice A3 s.threads.length c3], .slice AP xs.length cp] w fun e w' =>
      (∃ A c, e = .returned (.tuple #[.slice A L.length c, .int .i64 E]) ∧ Rd w' w'.heap.size A u8V 1 L) ∧ Below w.heap.size w w' := by
  have h1 := lruns_any s xs cp c1 c2 c3 AP A1 A2 A3 w r1 r2 r3 rp
  rw [h] at h1
  exact h1
theorem rruns_as (s : Sv) (xs : List Int) (cp c1 c2 c3 : Nat) (AP A1 A2 A3 : Option Addr) (w : World)
    (r1 : Rd w w.heap.size A1 shV 4 s.shots) (r2 : Rd w w.heap.size A2 mkV 3 s.marks) (r3 : Rd w w.heap.size A3 shV 4 s.threads) (rp : Rd w w.heap.size AP inV 1 xs) {L : List Int} {E : Int} (h : lvRuns s xs = (L, E)) :
    Calls Try.prog 34 #[.agg #[.int .i64 s.n, .slice A1 s.shots.length c1, .slice A2 s.marks.length c2, .slice A3 s.threads.length c3], .slice AP xs.length cp] w fun e w' =>
      (∃ A c, e = .returned (.tuple #[.slice A L.length c, .int .i64 E]) ∧ Rd w' w'.heap.size A u8V 1 L) ∧ Below w.heap.size w w' := by
  have h1 := rruns_any s xs cp c1 c2 c3 AP A1 A2 A3 w r1 r2 r3 rp
  rw [h] at h1
  exact h1
theorem sameInts_self (xs : List Int) (c1 c2 : Nat) (A1 A2 : Option Addr) (w : World) (r1 : Rd w w.heap.size A1 inV 1 xs) (r2 : Rd w w.heap.size A2 inV 1 xs) (hl : xs.length ≤ 1000000000) :
    Calls Try.prog 30 #[.slice A1 xs.length c1, .slice A2 xs.length c2] w fun e w' => e = .returned (.bool true) ∧ Below w.heap.size w w' := by
  have h := sameInts_any xs xs c1 c2 A1 A2 w r1 r2 hl hl
  rw [decide_eq_true rfl] at h
  exact h

set_option maxRecDepth 100000 in
set_option maxHeartbeats 8000000 in
theorem lawSlopes_great (s : Sv) (th : Int) (xs : List Int) (cp c1 c2 c3 : Nat) (AP A1 A2 A3 : Option Addr) (w : World) (hgr : (decide (90 < s.shots.length) || decide (30 < s.marks.length) || decide (50 < s.threads.length)) = true) :
    Calls Try.prog 5 #[.agg #[.int .i64 s.n, .slice A1 s.shots.length c1, .slice A2 s.marks.length c2, .slice A3 s.threads.length c3], .int .i64 th, .slice AP xs.length cp] w fun e w' => e = .returned (.bool true) ∧ Below w.heap.size w w' := by
  have hG := Lib.hid (fun W => (great_any s.n s.shots.length s.marks.length s.threads.length c1 c2 c3 A1 A2 A3 W))
  rw [hgr] at hG
  clear hgr
  go_enter Try.func5, Try.ntmps5
  go_wp2_with (go_at_call 14; refine (hG.out _).mono ?_; rintro e w1 ⟨rfl, hb1⟩)
  go_ret
  exact ⟨rfl, by (repeat' (first | (with_reducible exact Below.refl _ _) | (with_reducible refine Below.alloc ?_ ?_ _) | (with_reducible refine Below.drew ?_) | (with_reducible refine Below.drewN_ ?_ _) | (with_reducible refine Below.setCell ?_ ?_ _) | (with_reducible refine Below.setRow ?_ ?_ _) | (with_reducible refine Below.via ?_ (by with_reducible assumption) ?_) | go_size))⟩

set_option maxRecDepth 100000 in
set_option maxHeartbeats 8000000 in
theorem lawSlopes_many (s : Sv) (th : Int) (xs : List Int) (cp c1 c2 c3 : Nat) (AP A1 A2 A3 : Option Addr) (w : World) (hgr : (decide (90 < s.shots.length) || decide (30 < s.marks.length) || decide (50 < s.threads.length)) = false) (hl : 40 < xs.length) :
    Calls Try.prog 5 #[.agg #[.int .i64 s.n, .slice A1 s.shots.length c1, .slice A2 s.marks.length c2, .slice A3 s.threads.length c3], .int .i64 th, .slice AP xs.length cp] w fun e w' => e = .returned (.bool true) ∧ Below w.heap.size w w' := by
  have hG := Lib.hid (fun W => (great_any s.n s.shots.length s.marks.length s.threads.length c1 c2 c3 A1 A2 A3 W))
  rw [hgr] at hG
  clear hgr
  have hl2 : (40 : Int) < (xs.length : Int) := by omega
  go_enter Try.func5, Try.ntmps5
  go_wp2_with (go_at_call 14; refine (hG.out _).mono ?_; rintro e w1 ⟨rfl, hb1⟩)
  go_ret
  exact ⟨rfl, by (repeat' (first | (with_reducible exact Below.refl _ _) | (with_reducible refine Below.alloc ?_ ?_ _) | (with_reducible refine Below.drew ?_) | (with_reducible refine Below.drewN_ ?_ _) | (with_reducible refine Below.setCell ?_ ?_ _) | (with_reducible refine Below.setRow ?_ ?_ _) | (with_reducible refine Below.via ?_ (by with_reducible assumption) ?_) | go_size))⟩

set_option maxRecDepth 100000 in
set_option maxHeartbeats 8000000 in
theorem lawSlopes_small (s : Sv) (th : Int) (xs : List Int) (cp c1 c2 c3 : Nat) (AP A1 A2 A3 : Option Addr) (w : World) (r1 : Rd w w.heap.size A1 shV 4 s.shots) (r2 : Rd w w.heap.size A2 mkV 3 s.marks) (r3 : Rd w w.heap.size A3 shV 4 s.threads) (rp : Rd w w.heap.size AP inV 1 xs) (hgr : (decide (90 < s.shots.length) || decide (30 < s.marks.length) || decide (50 < s.threads.length)) = false) (hl : xs.length ≤ 40) :
    Calls Try.prog 5 #[.agg #[.int .i64 s.n, .slice A1 s.shots.length c1, .slice A2 s.marks.length c2, .slice A3 s.threads.length c3], .int .i64 th, .slice AP xs.length cp] w fun e w' => e = .returned (.bool true) ∧ Below w.heap.size w w' := by
  have R1 := Lib.hid r1
  have R2 := Lib.hid r2
  have R3 := Lib.hid r3
  have RP := Lib.hid rp
  have hG := Lib.hid (fun W => (great_any s.n s.shots.length s.marks.length s.threads.length c1 c2 c3 A1 A2 A3 W))
  rw [hgr] at hG
  have hl2 : ¬ (40 : Int) < (xs.length : Int) := by omega
  have hLL := lvRuns_len s xs hl
  obtain ⟨L, E, hLE⟩ : ∃ L E, lvRuns s xs = (L, E) := ⟨_, _, rfl⟩
  obtain ⟨F1, F2, F3, hFF⟩ : ∃ F1 F2 F3, lvSlope s th = ((F1, F2), F3) := ⟨_, _, _, rfl⟩
  rw [hLE] at hLL
  dsimp only at hLL
  have HLE := Lib.hid hLE
  have HFF := Lib.hid hFF
  clear r1 r2 r3 rp hgr hLE hFF
  obtain ⟨i0, hi0, hz0, hz1, hz2⟩ := info_parts infoInt
  have I0 := Lib.hid (And.intro hi0 (And.intro hz0 (And.intro hz1 hz2)))
  clear hi0 hz0 hz1 hz2
  go_enter Try.func5, Try.ntmps5
  go_upto_region 3 with (go_at_call 14; refine (hG.out _).mono ?_; rintro e w1 ⟨rfl, hb1⟩; obtain ⟨hc1, hf1⟩ := bcell hb1)
  have hz1 := hb1.size
  simp at hz1
  have hws : w.heap.size < w1.heap.size := by omega
  have hb3 : Below w.heap.size w w1 := by (repeat' (first | (with_reducible exact Below.refl _ _) | (with_reducible refine Below.alloc ?_ ?_ _) | (with_reducible refine Below.drew ?_) | (with_reducible refine Below.drewN_ ?_ _) | (with_reducible refine Below.setCell ?_ ?_ _) | (with_reducible refine Below.setRow ?_ ?_ _) | (with_reducible refine Below.via ?_ (by with_reducible assumption) ?_) | go_size))
  have s0 : w1.cell? ⟨w.heap.size, 0, none⟩ = some (.int .i64 s.n) := by rw [hc1 _ _ (by simp)]; simp
  have s1 : w1.cell? ⟨w.heap.size, 1, none⟩ = some (.slice A1 s.shots.length c1) := by rw [hc1 _ _ (by simp)]; simp
  have s2 : w1.cell? ⟨w.heap.size, 2, none⟩ = some (.slice A2 s.marks.length c2) := by rw [hc1 _ _ (by simp)]; simp
  have s3 : w1.cell? ⟨w.heap.size, 3, none⟩ = some (.slice A3 s.threads.length c3) := by rw [hc1 _ _ (by simp)]; simp
  clear hc1 hf1 hb1 hz1 hG
  go_upto_region 4 with (at_builtin; refine wpList_append_rd rfl (.tmp 23) (.tmp 24) 46 rfl i0 _ 8 Try.underlying46 I0.out.1 I0.out.2.1 I0.out.2.2.1 I0.out.2.2.2 rfl (by omega) inV_len inV_one rfl (Own.empty w1 w1.heap.size 3 inV 1 (Nat.le_refl _)) rfl rfl (RP.out.below (hb3.alloc hb3.size _)) (by simp; omega) (by omega) (by simp) ?_; intro v1 w2 ho hg hat; have hbA := below_new_append hg; rw [List.nil_append] at ho; obtain ⟨AM, cm, rfl⟩ := ho.form; have U := Lib.hid (ho.rd inV_len); clear ho hg hat)
  replace s0 := (hbA.cell (p := ⟨w.heap.size, 0, none⟩) hws).trans s0
  replace s1 := (hbA.cell (p := ⟨w.heap.size, 1, none⟩) hws).trans s1
  replace s2 := (hbA.cell (p := ⟨w.heap.size, 2, none⟩) hws).trans s2
  replace s3 := (hbA.cell (p := ⟨w.heap.size, 3, none⟩) hws).trans s3
  replace hws := Nat.lt_of_lt_of_le hws hbA.size
  replace hb3 := hb3.trans (hbA.mono hb3.size)
  clear hbA
  go_upto_region 5 with (go_at_call 31; refine (lslope_as s th c1 c2 c3 A1 A2 A3 w2 ((R1.out.below hb3).more hb3.size) ((R2.out.below hb3).more hb3.size) ((R3.out.below hb3).more hb3.size) HFF.out).mono ?_; rintro e w4 ⟨rfl, hb6⟩)
  obtain ⟨w5, hw7⟩ : ∃ w5, w4.alloc (.cells #[.int .i64 F1, .int .i64 F2] 36) = w5 := ⟨_, rfl⟩
  obtain ⟨bc, hbc'⟩ : ∃ bc, w4.heap.size = bc := ⟨_, rfl⟩
  rw [hw7, hbc']
  have hb67 : Below w4.heap.size w4 w5 := by rw [← hw7]; exact (Below.refl _ _).alloc (Nat.le_refl _) _
  have hb7 : Below w2.heap.size w2 w5 := hb6.trans (hb67.mono hb6.size)
  replace s0 := (hb7.cell (p := ⟨w.heap.size, 0, none⟩) hws).trans s0
  replace s1 := (hb7.cell (p := ⟨w.heap.size, 1, none⟩) hws).trans s1
  replace s2 := (hb7.cell (p := ⟨w.heap.size, 2, none⟩) hws).trans s2
  replace s3 := (hb7.cell (p := ⟨w.heap.size, 3, none⟩) hws).trans s3
  replace hws := Nat.lt_of_lt_of_le hws hb7.size
  replace U := Lib.hid ((U.out.below hb7).more hb7.size)
  replace hb3 := hb3.trans (hb7.mono hb3.size)
  have y0 : w5.cell? ⟨bc, 0, none⟩ = some (.int .i64 F1) := by rw [← hw7, ← hbc']; simp
  have y1 : w5.cell? ⟨bc, 1, none⟩ = some (.int .i64 F2) := by rw [← hw7, ← hbc']; simp
  have hbc : bc < w5.heap.size := by rw [← hw7, ← hbc']; simp
  clear hb6 hb7 hb67 hw7 hbc'
  go_upto_region 6 with (go_at_call 32; refine (rSlope_as s th c1 c2 c3 A1 A2 A3 w5 ((R1.out.below hb3).more hb3.size) ((R2.out.below hb3).more hb3.size) ((R3.out.below hb3).more hb3.size) HFF.out).mono ?_; rintro e w6 ⟨rfl, hb6⟩)
  obtain ⟨w7, hw7⟩ : ∃ w7, w6.alloc (.cells #[.int .i64 F1, .int .i64 F2] 36) = w7 := ⟨_, rfl⟩
  obtain ⟨bd, hbc'⟩ : ∃ bd, w6.heap.size = bd := ⟨_, rfl⟩
  rw [hw7, hbc']
  have hb67 : Below w6.heap.size w6 w7 := by rw [← hw7]; exact (Below.refl _ _).alloc (Nat.le_refl _) _
  have hb7 : Below w5.heap.size w5 w7 := hb6.trans (hb67.mono hb6.size)
  replace s0 := (hb7.cell (p := ⟨w.heap.size, 0, none⟩) hws).trans s0
  replace s1 := (hb7.cell (p := ⟨w.heap.size, 1, none⟩) hws).trans s1
  replace s2 := (hb7.cell (p := ⟨w.heap.size, 2, none⟩) hws).trans s2
  replace s3 := (hb7.cell (p := ⟨w.heap.size, 3, none⟩) hws).trans s3
  replace y0 := (hb7.cell (p := ⟨bc, 0, none⟩) hbc).trans y0
  replace y1 := (hb7.cell (p := ⟨bc, 1, none⟩) hbc).trans y1
  replace hbc := Nat.lt_of_lt_of_le hbc hb7.size
  replace hws := Nat.lt_of_lt_of_le hws hb7.size
  replace U := Lib.hid ((U.out.below hb7).more hb7.size)
  replace hb3 := hb3.trans (hb7.mono hb3.size)
  have z0 : w7.cell? ⟨bd, 0, none⟩ = some (.int .i64 F1) := by rw [← hw7, ← hbc']; simp
  have z1 : w7.cell? ⟨bd, 1, none⟩ = some (.int .i64 F2) := by rw [← hw7, ← hbc']; simp
  have hbd : bd < w7.heap.size := by rw [← hw7, ← hbc']; simp
  clear hb6 hb7 hb67 hw7 hbc'
  go_upto_region 7 with (go_at_call 33; refine (lruns_as s xs cm c1 c2 c3 AM A1 A2 A3 w7 ((R1.out.below hb3).more hb3.size) ((R2.out.below hb3).more hb3.size) ((R3.out.below hb3).more hb3.size) U.out HLE.out).mono ?_; rintro e w8 ⟨⟨A8, c8, rfl, q8⟩, hb8⟩; have Q8 := Lib.hid q8; clear q8)
  replace s0 := (hb8.cell (p := ⟨w.heap.size, 0, none⟩) hws).trans s0
  replace s1 := (hb8.cell (p := ⟨w.heap.size, 1, none⟩) hws).trans s1
  replace s2 := (hb8.cell (p := ⟨w.heap.size, 2, none⟩) hws).trans s2
  replace s3 := (hb8.cell (p := ⟨w.heap.size, 3, none⟩) hws).trans s3
  replace y0 := (hb8.cell (p := ⟨bc, 0, none⟩) hbc).trans y0
  replace y1 := (hb8.cell (p := ⟨bc, 1, none⟩) hbc).trans y1
  replace z0 := (hb8.cell (p := ⟨bd, 0, none⟩) hbd).trans z0
  replace z1 := (hb8.cell (p := ⟨bd, 1, none⟩) hbd).trans z1
  replace hbc := Nat.lt_of_lt_of_le hbc hb8.size
  replace hbd := Nat.lt_of_lt_of_le hbd hb8.size
  replace hws := Nat.lt_of_lt_of_le hws hb8.size
  replace U := Lib.hid ((U.out.below hb8).more hb8.size)
  replace hb3 := hb3.trans (hb8.mono hb3.size)
  clear hb8
  go_upto_region 8 with (go_at_call 34; refine (rruns_as s xs cp c1 c2 c3 AP A1 A2 A3 w8 ((R1.out.below hb3).more hb3.size) ((R2.out.below hb3).more hb3.size) ((R3.out.below hb3).more hb3.size) ((RP.out.below hb3).more hb3.size) HLE.out).mono ?_; rintro e w9 ⟨⟨A9, c9, rfl, q9⟩, hb9⟩; have Q9 := Lib.hid q9; clear q9)
  replace s0 := (hb9.cell (p := ⟨w.heap.size, 0, none⟩) hws).trans s0
  replace s1 := (hb9.cell (p := ⟨w.heap.size, 1, none⟩) hws).trans s1
  replace s2 := (hb9.cell (p := ⟨w.heap.size, 2, none⟩) hws).trans s2
  replace s3 := (hb9.cell (p := ⟨w.heap.size, 3, none⟩) hws).trans s3
  replace y0 := (hb9.cell (p := ⟨bc, 0, none⟩) hbc).trans y0
  replace y1 := (hb9.cell (p := ⟨bc, 1, none⟩) hbc).trans y1
  replace z0 := (hb9.cell (p := ⟨bd, 0, none⟩) hbd).trans z0
  replace z1 := (hb9.cell (p := ⟨bd, 1, none⟩) hbd).trans z1
  replace hbc := Nat.lt_of_lt_of_le hbc hb9.size
  replace hbd := Nat.lt_of_lt_of_le hbd hb9.size
  replace hws := Nat.lt_of_lt_of_le hws hb9.size
  replace U := Lib.hid ((U.out.below hb9).more hb9.size)
  replace Q8 := Lib.hid ((Q8.out.below hb9).more hb9.size)
  replace hb3 := hb3.trans (hb9.mono hb3.size)
  clear hb9
  have T := Lib.hid ((RP.out.below hb3).more hb3.size)
  have hv8 : (convert 61 9 (.slice A8 L.length c8)).run Try.prog w9 = .ok (.string (strOfNums L)) w9 := run_convert_u8 _ _ A8 L c8 Q8.out
  have hv9 : (convert 61 9 (.slice A9 L.length c9)).run Try.prog w9 = .ok (.string (strOfNums L)) w9 := run_convert_u8 _ _ A9 L c9 Q9.out
  go_wp2_with (go_at_call 30; refine (sameInts_self xs cm cp AM AP w9 U.out T.out (by omega)).mono ?_; rintro e wy ⟨rfl, hby⟩)
  go_ret
  exact ⟨rfl, hb3.trans (hby.mono hb3.size)⟩

theorem lawSlopes_any (s : Sv) (th : Int) (xs : List Int) (cp c1 c2 c3 : Nat) (AP A1 A2 A3 : Option Addr) (w : World) (r1 : Rd w w.heap.size A1 shV 4 s.shots) (r2 : Rd w w.heap.size A2 mkV 3 s.marks) (r3 : Rd w w.heap.size A3 shV 4 s.threads) (rp : Rd w w.heap.size AP inV 1 xs) :
    Calls Try.prog 5 #[.agg #[.int .i64 s.n, .slice A1 s.shots.length c1, .slice A2 s.marks.length c2, .slice A3 s.threads.length c3], .int .i64 th, .slice AP xs.length cp] w fun e w' => e = .returned (.bool true) ∧ Below w.heap.size w w' := by
  cases hgr : (decide (90 < s.shots.length) || decide (30 < s.marks.length) || decide (50 < s.threads.length))
  · by_cases hl : 40 < xs.length
    · exact lawSlopes_many s th xs cp c1 c2 c3 AP A1 A2 A3 w hgr hl
    · exact lawSlopes_small s th xs cp c1 c2 c3 AP A1 A2 A3 w r1 r2 r3 rp hgr (by omega)
  · exact lawSlopes_great s th xs cp c1 c2 c3 AP A1 A2 A3 w hgr

end Go.Proofs.Ytbolfjlfpkgfiaa
