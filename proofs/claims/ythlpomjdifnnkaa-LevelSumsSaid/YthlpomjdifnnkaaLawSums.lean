/- The law LevelSums answers true of every survey that reads as plain data, and of any three bytes. Condition: the slices read below the heap's end. -/
import Derived.Test.YthlpomjdifnnkaaAlive
import Derived.Test.YthlpomjdifnnkaaOutM
import Derived.Test.YthlpomjdifnnkaaCalm
import Derived.BigRegion
set_option linter.unusedVariables false
set_option linter.unusedSimpArgs false
namespace Go.Proofs.Ythlpomjdifnnkaa
open Go.RowKit
attribute [local go_sem] wx_cell wx_frozen

/-- What LevelSums' calls answer where heights fit. -/
theorem sums_vals {s : Sv} (hok : svOk s = true) (hf : (svD s).2 = true) {i j k : Nat} (hi : i < s.n.toNat) (hj : j < s.n.toNat) (hk : k < s.n.toNat) :
    ∃ x1 x2 y1 y2 z1 z2 p1 p2 q1 q2 : Int, lvFall s i j = ((x1, x2), 0) ∧ lvFall s j k = ((y1, y2), 0) ∧ lvFall s i k = ((z1, z2), 0) ∧ lvFall s j i = ((-x2, -x1), 0) ∧
      (htsList s)[i]? = some (p1, p2) ∧ (htsList s)[j]? = some (q1, q2) ∧ (x1 + y1 ≤ z1 ∧ z2 ≤ x2 + y2 ∧ p1 - q2 ≤ x1 ∧ x2 ≤ p2 - q1) ∧
      ((-20000000 ≤ x1 ∧ x1 ≤ 20000000) ∧ (-20000000 ≤ x2 ∧ x2 ≤ 20000000) ∧ (-20000000 ≤ y1 ∧ y1 ≤ 20000000) ∧ (-20000000 ≤ y2 ∧ y2 ≤ 20000000) ∧ (-20000000 ≤ p1 ∧ p1 ≤ 20000000) ∧ (-20000000 ≤ p2 ∧ p2 ≤ 20000000) ∧ (-20000000 ≤ q1 ∧ q1 ≤ 20000000) ∧ (-20000000 ≤ q2 ∧ q2 ≤ 20000000)) := by
  have b1 := svD_bd hok hf (i := i) (j := j) (by omega) (by omega)
  have b2 := svD_bd hok hf (i := j) (j := i) (by omega) (by omega)
  have b3 := svD_bd hok hf (i := j) (j := k) (by omega) (by omega)
  have b4 := svD_bd hok hf (i := k) (j := j) (by omega) (by omega)
  have b5 := svD_bd hok hf (i := i) (j := s.n.toNat) (by omega) (by omega)
  have b6 := svD_bd hok hf (i := s.n.toNat) (j := i) (by omega) (by omega)
  have b7 := svD_bd hok hf (i := j) (j := s.n.toNat) (by omega) (by omega)
  have b8 := svD_bd hok hf (i := s.n.toNat) (j := j) (by omega) (by omega)
  have t1 := svD_tri hok hf (i := i) (j := j) (k := k) (by omega) (by omega) (by omega)
  have t2 := svD_tri hok hf (i := k) (j := j) (k := i) (by omega) (by omega) (by omega)
  have t3 := svD_tri hok hf (i := i) (j := s.n.toNat) (k := j) (by omega) (by omega) (by omega)
  have t4 := svD_tri hok hf (i := j) (j := s.n.toNat) (k := i) (by omega) (by omega) (by omega)
  refine ⟨_, _, _, _, _, _, _, _, _, _, lvFall_fit hok hf hi hj, lvFall_fit hok hf hj hk, lvFall_fit hok hf hi hk, ?_, hts_at s hi, hts_at s hj, ?_, ?_⟩
  · rw [lvFall_fit hok hf hj hi, Int.neg_neg]
  · omega
  · omega

set_option maxRecDepth 100000 in
set_option maxHeartbeats 8000000 in
theorem lawSums_bad (s : Sv) (a b c : Int) (c1 c2 c3 : Nat) (A1 A2 A3 : Option Addr) (w : World)
    (r1 : Rd w w.heap.size A1 shV 4 s.shots) (r2 : Rd w w.heap.size A2 mkV 3 s.marks) (r3 : Rd w w.heap.size A3 shV 4 s.threads) (hok : svOk s = false) :
    Calls Try.prog 12 #[.agg #[.int .i64 s.n, .slice A1 s.shots.length c1, .slice A2 s.marks.length c2, .slice A3 s.threads.length c3], .int .u8 a, .int .u8 b, .int .u8 c] w fun e w' => e = .returned (.bool true) ∧ Below w.heap.size w w' := by
  have R1 := Lib.hid r1
  have R2 := Lib.hid r2
  have R3 := Lib.hid r3
  have HOK := Lib.hid hok
  clear r1 r2 r3 hok
  go_enter Try.func12, Try.ntmps12
  go_wp2_with (first | (go_at_call 35; refine (alive_any _).mono ?_; rintro e w1 ⟨rfl, hb1⟩; obtain ⟨hc1, hf1⟩ := bcell hb1; have hz1 := hb1.size; simp at hz1; have hlt : w.heap.size < w1.heap.size := by omega) | (go_at_call 36; (have hbA : Below w.heap.size w w1 := by (repeat' (first | (with_reducible exact Below.refl _ _) | (with_reducible refine Below.alloc ?_ ?_ _) | (with_reducible refine Below.drew ?_) | (with_reducible refine Below.drewN_ ?_ _) | (with_reducible refine Below.setCell ?_ ?_ _) | (with_reducible refine Below.setRow ?_ ?_ _) | (with_reducible refine Below.via ?_ (by with_reducible assumption) ?_) | go_size))); have hr := ready_any s c1 c2 c3 A1 A2 A3 w1 ((R1.out.below hbA).more hbA.size) ((R2.out.below hbA).more hbA.size) ((R3.out.below hbA).more hbA.size); rw [HOK.out] at hr; refine hr.mono ?_; rintro e w2 ⟨rfl, hb2⟩; clear hr))
  go_ret
  exact ⟨rfl, by (repeat' (first | (with_reducible exact Below.refl _ _) | (with_reducible refine Below.alloc ?_ ?_ _) | (with_reducible refine Below.drew ?_) | (with_reducible refine Below.drewN_ ?_ _) | (with_reducible refine Below.setCell ?_ ?_ _) | (with_reducible refine Below.setRow ?_ ?_ _) | (with_reducible refine Below.via ?_ (by with_reducible assumption) ?_) | go_size))⟩

set_option maxRecDepth 100000 in
set_option maxHeartbeats 8000000 in
theorem lawSums_apart (s : Sv) (a b c : Int) (c1 c2 c3 : Nat) (A1 A2 A3 : Option Addr) (w : World)
    (r1 : Rd w w.heap.size A1 shV 4 s.shots) (r2 : Rd w w.heap.size A2 mkV 3 s.marks) (r3 : Rd w w.heap.size A3 shV 4 s.threads) (hok : svOk s = true) (hf : (svD s).2 = false) (ha : 0 ≤ a ∧ a ≤ 255) (hbb : 0 ≤ b ∧ b ≤ 255) (hc : 0 ≤ c ∧ c ≤ 255) :
    Calls Try.prog 12 #[.agg #[.int .i64 s.n, .slice A1 s.shots.length c1, .slice A2 s.marks.length c2, .slice A3 s.threads.length c3], .int .u8 a, .int .u8 b, .int .u8 c] w fun e w' => e = .returned (.bool true) ∧ Below w.heap.size w w' := by
  have R1 := Lib.hid r1
  have R2 := Lib.hid r2
  have R3 := Lib.hid r3
  have HOK := Lib.hid hok
  have HF := Lib.hid hf
  obtain ⟨⟨n1, n2, _⟩, _⟩ := svOk_spec hok
  clear r1 r2 r3 hok hf
  go_enter Try.func12, Try.ntmps12
  go_upto_region 6 with (first | (go_at_call 35; refine (alive_any _).mono ?_; rintro e w1 ⟨rfl, hb1⟩; obtain ⟨hc1, hf1⟩ := bcell hb1; have hz1 := hb1.size; simp at hz1; have hlt : w.heap.size < w1.heap.size := by omega) | (go_at_call 36; (have hbA : Below w.heap.size w w1 := by (repeat' (first | (with_reducible exact Below.refl _ _) | (with_reducible refine Below.alloc ?_ ?_ _) | (with_reducible refine Below.drew ?_) | (with_reducible refine Below.drewN_ ?_ _) | (with_reducible refine Below.setCell ?_ ?_ _) | (with_reducible refine Below.setRow ?_ ?_ _) | (with_reducible refine Below.via ?_ (by with_reducible assumption) ?_) | go_size))); have hr := ready_any s c1 c2 c3 A1 A2 A3 w1 ((R1.out.below hbA).more hbA.size) ((R2.out.below hbA).more hbA.size) ((R3.out.below hbA).more hbA.size); rw [HOK.out] at hr; refine hr.mono ?_; rintro e w2 ⟨rfl, hb2⟩; clear hr))
  have hzz := hb2.size
  have hb3 : Below w.heap.size w w2 := by (repeat' (first | (with_reducible exact Below.refl _ _) | (with_reducible refine Below.alloc ?_ ?_ _) | (with_reducible refine Below.drew ?_) | (with_reducible refine Below.drewN_ ?_ _) | (with_reducible refine Below.setCell ?_ ?_ _) | (with_reducible refine Below.setRow ?_ ?_ _) | (with_reducible refine Below.via ?_ (by with_reducible assumption) ?_) | go_size))
  have hws : w.heap.size < w2.heap.size := by omega
  have S : w2.heap[w.heap.size]? = some (.cells #[.int .i64 s.n, .slice A1 s.shots.length c1, .slice A2 s.marks.length c2, .slice A3 s.threads.length c3] 26 (0, 0)) := row_keep (row_keep (heap_alloc_new _ _) hb1) hb2
  have HS := Lib.hid S
  have s0 : w2.cell? ⟨w.heap.size, 0, none⟩ = some (.int .i64 s.n) := cell_of_row w2 _ 0 _ _ _ S
  clear S hb1 hb2 hbA hc1 hf1 hz1 hlt hzz
  go_region
  obtain ⟨i, hai, hi⟩ : ∃ i : Nat, a % s.n = i ∧ i < s.n.toNat := ⟨(a % s.n).toNat, by have := Int.emod_nonneg a (show s.n ≠ 0 by omega); omega, by have := Int.emod_nonneg a (show s.n ≠ 0 by omega); have := Int.emod_lt_of_pos a (show 0 < s.n by omega); omega⟩
  obtain ⟨j, haj, hj⟩ : ∃ i : Nat, b % s.n = i ∧ i < s.n.toNat := ⟨(b % s.n).toNat, by have := Int.emod_nonneg b (show s.n ≠ 0 by omega); omega, by have := Int.emod_nonneg b (show s.n ≠ 0 by omega); have := Int.emod_lt_of_pos b (show 0 < s.n by omega); omega⟩
  obtain ⟨k, hak, hk⟩ : ∃ i : Nat, c % s.n = i ∧ i < s.n.toNat := ⟨(c % s.n).toNat, by have := Int.emod_nonneg c (show s.n ≠ 0 by omega); omega, by have := Int.emod_nonneg c (show s.n ≠ 0 by omega); have := Int.emod_lt_of_pos c (show 0 < s.n by omega); omega⟩
  rw [hai, haj, hak]
  obtain ⟨v6, hv6⟩ : ∃ v, w2.drew = v := ⟨_, rfl⟩
  rw [hv6]
  have hK : Below w2.heap.size w2 v6 := by rw [← hv6]; exact (Below.refl _ _).drew
  replace HS := Lib.hid (row_keep HS.out hK)
  replace hb3 := hb3.trans (hK.mono hb3.size)
  clear hv6 hK hws s0 hai haj hak ha hbb hc
  have H1 := Lib.hid (lvFall_apart HOK.out HF.out hi hj)
  have H2 := Lib.hid (lvFall_apart HOK.out HF.out hj hk)
  have H3 := Lib.hid (lvFall_apart HOK.out HF.out hi hk)
  have H4 := Lib.hid (lvFall_apart HOK.out HF.out hj hi)
  have H5 := Lib.hid (lvHeights_apart HOK.out HF.out)
  have s0 : v6.cell? ⟨w.heap.size, 0, none⟩ = some (.int .i64 s.n) := cell_of_row v6 _ 0 _ _ _ HS.out
  have s1 : v6.cell? ⟨w.heap.size, 1, none⟩ = some (.slice A1 s.shots.length c1) := cell_of_row v6 _ 1 _ _ _ HS.out
  have s2 : v6.cell? ⟨w.heap.size, 2, none⟩ = some (.slice A2 s.marks.length c2) := cell_of_row v6 _ 2 _ _ _ HS.out
  have s3 : v6.cell? ⟨w.heap.size, 3, none⟩ = some (.slice A3 s.threads.length c3) := cell_of_row v6 _ 3 _ _ _ HS.out
  go_upto_region 8 with (go_at_call 18; refine (fall_as s i j c1 c2 c3 A1 A2 A3 v6 ((R1.out.below hb3).more hb3.size) ((R2.out.below hb3).more hb3.size) ((R3.out.below hb3).more hb3.size) H1.out).mono ?_; rintro e wb ⟨rfl, hbb⟩)
  obtain ⟨v7, hw⟩ : ∃ v, wb.alloc (Obj.cells #[.int .i64 (0), .int .i64 (0)] 36) = v := ⟨_, rfl⟩
  obtain ⟨bx, hbk⟩ : ∃ b, wb.heap.size = b := ⟨_, rfl⟩
  rw [hw, hbk]
  have hK : Below v6.heap.size v6 v7 := by rw [← hw]; exact hbb.alloc hbb.size _
  have Ya : v7.heap[bx]? = some (.cells #[.int .i64 (0), .int .i64 (0)] 36 (0, 0)) := by rw [← hw, ← hbk]; exact heap_alloc_new _ _
  have Ybx := Lib.hid Ya
  replace HS := Lib.hid (row_keep HS.out hK)
  replace hb3 := hb3.trans (hK.mono hb3.size)
  clear hw hbk hK Ya hbb s0 s1 s2 s3
  have s0 : v7.cell? ⟨w.heap.size, 0, none⟩ = some (.int .i64 s.n) := cell_of_row v7 _ 0 _ _ _ HS.out
  have s1 : v7.cell? ⟨w.heap.size, 1, none⟩ = some (.slice A1 s.shots.length c1) := cell_of_row v7 _ 1 _ _ _ HS.out
  have s2 : v7.cell? ⟨w.heap.size, 2, none⟩ = some (.slice A2 s.marks.length c2) := cell_of_row v7 _ 2 _ _ _ HS.out
  have s3 : v7.cell? ⟨w.heap.size, 3, none⟩ = some (.slice A3 s.threads.length c3) := cell_of_row v7 _ 3 _ _ _ HS.out
  go_upto_region 9 with (go_at_call 18; refine (fall_as s j k c1 c2 c3 A1 A2 A3 v7 ((R1.out.below hb3).more hb3.size) ((R2.out.below hb3).more hb3.size) ((R3.out.below hb3).more hb3.size) H2.out).mono ?_; rintro e wb ⟨rfl, hbb⟩)
  obtain ⟨v8, hw⟩ : ∃ v, wb.alloc (Obj.cells #[.int .i64 (0), .int .i64 (0)] 36) = v := ⟨_, rfl⟩
  obtain ⟨by_, hbk⟩ : ∃ b, wb.heap.size = b := ⟨_, rfl⟩
  rw [hw, hbk]
  have hK : Below v7.heap.size v7 v8 := by rw [← hw]; exact hbb.alloc hbb.size _
  have Ya : v8.heap[by_]? = some (.cells #[.int .i64 (0), .int .i64 (0)] 36 (0, 0)) := by rw [← hw, ← hbk]; exact heap_alloc_new _ _
  replace Ybx := Lib.hid (row_keep Ybx.out hK)
  have Yby_ := Lib.hid Ya
  replace HS := Lib.hid (row_keep HS.out hK)
  replace hb3 := hb3.trans (hK.mono hb3.size)
  clear hw hbk hK Ya hbb s0 s1 s2 s3
  have s0 : v8.cell? ⟨w.heap.size, 0, none⟩ = some (.int .i64 s.n) := cell_of_row v8 _ 0 _ _ _ HS.out
  have s1 : v8.cell? ⟨w.heap.size, 1, none⟩ = some (.slice A1 s.shots.length c1) := cell_of_row v8 _ 1 _ _ _ HS.out
  have s2 : v8.cell? ⟨w.heap.size, 2, none⟩ = some (.slice A2 s.marks.length c2) := cell_of_row v8 _ 2 _ _ _ HS.out
  have s3 : v8.cell? ⟨w.heap.size, 3, none⟩ = some (.slice A3 s.threads.length c3) := cell_of_row v8 _ 3 _ _ _ HS.out
  go_upto_region 10 with (go_at_call 18; refine (fall_as s i k c1 c2 c3 A1 A2 A3 v8 ((R1.out.below hb3).more hb3.size) ((R2.out.below hb3).more hb3.size) ((R3.out.below hb3).more hb3.size) H3.out).mono ?_; rintro e wb ⟨rfl, hbb⟩)
  obtain ⟨v9, hw⟩ : ∃ v, wb.alloc (Obj.cells #[.int .i64 (0), .int .i64 (0)] 36) = v := ⟨_, rfl⟩
  obtain ⟨bz, hbk⟩ : ∃ b, wb.heap.size = b := ⟨_, rfl⟩
  rw [hw, hbk]
  have hK : Below v8.heap.size v8 v9 := by rw [← hw]; exact hbb.alloc hbb.size _
  have Ya : v9.heap[bz]? = some (.cells #[.int .i64 (0), .int .i64 (0)] 36 (0, 0)) := by rw [← hw, ← hbk]; exact heap_alloc_new _ _
  replace Ybx := Lib.hid (row_keep Ybx.out hK)
  replace Yby_ := Lib.hid (row_keep Yby_.out hK)
  have Ybz := Lib.hid Ya
  replace HS := Lib.hid (row_keep HS.out hK)
  replace hb3 := hb3.trans (hK.mono hb3.size)
  clear hw hbk hK Ya hbb s0 s1 s2 s3
  have s0 : v9.cell? ⟨w.heap.size, 0, none⟩ = some (.int .i64 s.n) := cell_of_row v9 _ 0 _ _ _ HS.out
  have s1 : v9.cell? ⟨w.heap.size, 1, none⟩ = some (.slice A1 s.shots.length c1) := cell_of_row v9 _ 1 _ _ _ HS.out
  have s2 : v9.cell? ⟨w.heap.size, 2, none⟩ = some (.slice A2 s.marks.length c2) := cell_of_row v9 _ 2 _ _ _ HS.out
  have s3 : v9.cell? ⟨w.heap.size, 3, none⟩ = some (.slice A3 s.threads.length c3) := cell_of_row v9 _ 3 _ _ _ HS.out
  go_upto_region 11 with (go_at_call 18; refine (fall_as s j i c1 c2 c3 A1 A2 A3 v9 ((R1.out.below hb3).more hb3.size) ((R2.out.below hb3).more hb3.size) ((R3.out.below hb3).more hb3.size) H4.out).mono ?_; rintro e wb ⟨rfl, hbb⟩)
  obtain ⟨v10, hw⟩ : ∃ v, wb.alloc (Obj.cells #[.int .i64 (0), .int .i64 (0)] 36) = v := ⟨_, rfl⟩
  obtain ⟨bk, hbk⟩ : ∃ b, wb.heap.size = b := ⟨_, rfl⟩
  rw [hw, hbk]
  have hK : Below v9.heap.size v9 v10 := by rw [← hw]; exact hbb.alloc hbb.size _
  have Ya : v10.heap[bk]? = some (.cells #[.int .i64 (0), .int .i64 (0)] 36 (0, 0)) := by rw [← hw, ← hbk]; exact heap_alloc_new _ _
  replace Ybx := Lib.hid (row_keep Ybx.out hK)
  replace Yby_ := Lib.hid (row_keep Yby_.out hK)
  replace Ybz := Lib.hid (row_keep Ybz.out hK)
  have Ybk := Lib.hid Ya
  replace HS := Lib.hid (row_keep HS.out hK)
  replace hb3 := hb3.trans (hK.mono hb3.size)
  clear hw hbk hK Ya hbb s0 s1 s2 s3
  have s0 : v10.cell? ⟨w.heap.size, 0, none⟩ = some (.int .i64 s.n) := cell_of_row v10 _ 0 _ _ _ HS.out
  have s1 : v10.cell? ⟨w.heap.size, 1, none⟩ = some (.slice A1 s.shots.length c1) := cell_of_row v10 _ 1 _ _ _ HS.out
  have s2 : v10.cell? ⟨w.heap.size, 2, none⟩ = some (.slice A2 s.marks.length c2) := cell_of_row v10 _ 2 _ _ _ HS.out
  have s3 : v10.cell? ⟨w.heap.size, 3, none⟩ = some (.slice A3 s.threads.length c3) := cell_of_row v10 _ 3 _ _ _ HS.out
  go_upto_region 12 with (go_at_call 16; refine (heights_as s c1 c2 c3 A1 A2 A3 v10 ((R1.out.below hb3).more hb3.size) ((R2.out.below hb3).more hb3.size) ((R3.out.below hb3).more hb3.size) H5.out).mono ?_; rintro e v11 ⟨⟨AH, cH, rfl, qh⟩, hK⟩)
  replace Ybx := Lib.hid (row_keep Ybx.out hK)
  replace Yby_ := Lib.hid (row_keep Yby_.out hK)
  replace Ybz := Lib.hid (row_keep Ybz.out hK)
  replace Ybk := Lib.hid (row_keep Ybk.out hK)
  have QH := Lib.hid qh
  replace HS := Lib.hid (row_keep HS.out hK)
  replace hb3 := hb3.trans (hK.mono hb3.size)
  clear hK qh s0 s1 s2 s3
  go_wp2
  go_ret
  exact ⟨rfl, hb3⟩

set_option maxRecDepth 100000 in
set_option maxHeartbeats 8000000 in
theorem lawSums_fit (s : Sv) (a b c : Int) (c1 c2 c3 : Nat) (A1 A2 A3 : Option Addr) (w : World)
    (r1 : Rd w w.heap.size A1 shV 4 s.shots) (r2 : Rd w w.heap.size A2 mkV 3 s.marks) (r3 : Rd w w.heap.size A3 shV 4 s.threads) (hok : svOk s = true) (hf : (svD s).2 = true) (ha : 0 ≤ a ∧ a ≤ 255) (hbb : 0 ≤ b ∧ b ≤ 255) (hc : 0 ≤ c ∧ c ≤ 255) :
    Calls Try.prog 12 #[.agg #[.int .i64 s.n, .slice A1 s.shots.length c1, .slice A2 s.marks.length c2, .slice A3 s.threads.length c3], .int .u8 a, .int .u8 b, .int .u8 c] w fun e w' => e = .returned (.bool true) ∧ Below w.heap.size w w' := by
  have R1 := Lib.hid r1
  have R2 := Lib.hid r2
  have R3 := Lib.hid r3
  have HOK := Lib.hid hok
  have HF := Lib.hid hf
  obtain ⟨⟨n1, n2, _⟩, _⟩ := svOk_spec hok
  clear r1 r2 r3 hok hf
  go_enter Try.func12, Try.ntmps12
  go_upto_region 6 with (first | (go_at_call 35; refine (alive_any _).mono ?_; rintro e w1 ⟨rfl, hb1⟩; obtain ⟨hc1, hf1⟩ := bcell hb1; have hz1 := hb1.size; simp at hz1; have hlt : w.heap.size < w1.heap.size := by omega) | (go_at_call 36; (have hbA : Below w.heap.size w w1 := by (repeat' (first | (with_reducible exact Below.refl _ _) | (with_reducible refine Below.alloc ?_ ?_ _) | (with_reducible refine Below.drew ?_) | (with_reducible refine Below.drewN_ ?_ _) | (with_reducible refine Below.setCell ?_ ?_ _) | (with_reducible refine Below.setRow ?_ ?_ _) | (with_reducible refine Below.via ?_ (by with_reducible assumption) ?_) | go_size))); have hr := ready_any s c1 c2 c3 A1 A2 A3 w1 ((R1.out.below hbA).more hbA.size) ((R2.out.below hbA).more hbA.size) ((R3.out.below hbA).more hbA.size); rw [HOK.out] at hr; refine hr.mono ?_; rintro e w2 ⟨rfl, hb2⟩; clear hr))
  have hzz := hb2.size
  have hb3 : Below w.heap.size w w2 := by (repeat' (first | (with_reducible exact Below.refl _ _) | (with_reducible refine Below.alloc ?_ ?_ _) | (with_reducible refine Below.drew ?_) | (with_reducible refine Below.drewN_ ?_ _) | (with_reducible refine Below.setCell ?_ ?_ _) | (with_reducible refine Below.setRow ?_ ?_ _) | (with_reducible refine Below.via ?_ (by with_reducible assumption) ?_) | go_size))
  have hws : w.heap.size < w2.heap.size := by omega
  have S : w2.heap[w.heap.size]? = some (.cells #[.int .i64 s.n, .slice A1 s.shots.length c1, .slice A2 s.marks.length c2, .slice A3 s.threads.length c3] 26 (0, 0)) := row_keep (row_keep (heap_alloc_new _ _) hb1) hb2
  have HS := Lib.hid S
  have s0 : w2.cell? ⟨w.heap.size, 0, none⟩ = some (.int .i64 s.n) := cell_of_row w2 _ 0 _ _ _ S
  clear S hb1 hb2 hbA hc1 hf1 hz1 hlt hzz
  go_region
  obtain ⟨i, hai, hi⟩ : ∃ i : Nat, a % s.n = i ∧ i < s.n.toNat := ⟨(a % s.n).toNat, by have := Int.emod_nonneg a (show s.n ≠ 0 by omega); omega, by have := Int.emod_nonneg a (show s.n ≠ 0 by omega); have := Int.emod_lt_of_pos a (show 0 < s.n by omega); omega⟩
  obtain ⟨j, haj, hj⟩ : ∃ i : Nat, b % s.n = i ∧ i < s.n.toNat := ⟨(b % s.n).toNat, by have := Int.emod_nonneg b (show s.n ≠ 0 by omega); omega, by have := Int.emod_nonneg b (show s.n ≠ 0 by omega); have := Int.emod_lt_of_pos b (show 0 < s.n by omega); omega⟩
  obtain ⟨k, hak, hk⟩ : ∃ i : Nat, c % s.n = i ∧ i < s.n.toNat := ⟨(c % s.n).toNat, by have := Int.emod_nonneg c (show s.n ≠ 0 by omega); omega, by have := Int.emod_nonneg c (show s.n ≠ 0 by omega); have := Int.emod_lt_of_pos c (show 0 < s.n by omega); omega⟩
  rw [hai, haj, hak]
  obtain ⟨v6, hv6⟩ : ∃ v, w2.drew = v := ⟨_, rfl⟩
  rw [hv6]
  have hK : Below w2.heap.size w2 v6 := by rw [← hv6]; exact (Below.refl _ _).drew
  replace HS := Lib.hid (row_keep HS.out hK)
  replace hb3 := hb3.trans (hK.mono hb3.size)
  clear hv6 hK hws s0 hai haj hak ha hbb hc
  obtain ⟨x1, x2, y1, y2, z1, z2, p1, p2, q1, q2, H1, H2, H3, H4, P, Q, F, B⟩ := sums_vals HOK.out HF.out hi hj hk
  replace H1 := Lib.hid H1
  replace H2 := Lib.hid H2
  replace H3 := Lib.hid H3
  replace H4 := Lib.hid H4
  have H5 := Lib.hid (lvHeights_fit HOK.out HF.out)
  have HP := Lib.hid P
  have HQ := Lib.hid Q
  clear P Q
  have s0 : v6.cell? ⟨w.heap.size, 0, none⟩ = some (.int .i64 s.n) := cell_of_row v6 _ 0 _ _ _ HS.out
  have s1 : v6.cell? ⟨w.heap.size, 1, none⟩ = some (.slice A1 s.shots.length c1) := cell_of_row v6 _ 1 _ _ _ HS.out
  have s2 : v6.cell? ⟨w.heap.size, 2, none⟩ = some (.slice A2 s.marks.length c2) := cell_of_row v6 _ 2 _ _ _ HS.out
  have s3 : v6.cell? ⟨w.heap.size, 3, none⟩ = some (.slice A3 s.threads.length c3) := cell_of_row v6 _ 3 _ _ _ HS.out
  go_upto_region 8 with (go_at_call 18; refine (fall_as s i j c1 c2 c3 A1 A2 A3 v6 ((R1.out.below hb3).more hb3.size) ((R2.out.below hb3).more hb3.size) ((R3.out.below hb3).more hb3.size) H1.out).mono ?_; rintro e wb ⟨rfl, hbb⟩)
  obtain ⟨v7, hw⟩ : ∃ v, wb.alloc (Obj.cells #[.int .i64 (x1), .int .i64 (x2)] 36) = v := ⟨_, rfl⟩
  obtain ⟨bx, hbk⟩ : ∃ b, wb.heap.size = b := ⟨_, rfl⟩
  rw [hw, hbk]
  have hK : Below v6.heap.size v6 v7 := by rw [← hw]; exact hbb.alloc hbb.size _
  have Ya : v7.heap[bx]? = some (.cells #[.int .i64 (x1), .int .i64 (x2)] 36 (0, 0)) := by rw [← hw, ← hbk]; exact heap_alloc_new _ _
  have Ybx := Lib.hid Ya
  replace HS := Lib.hid (row_keep HS.out hK)
  replace hb3 := hb3.trans (hK.mono hb3.size)
  clear hw hbk hK Ya hbb s0 s1 s2 s3
  have s0 : v7.cell? ⟨w.heap.size, 0, none⟩ = some (.int .i64 s.n) := cell_of_row v7 _ 0 _ _ _ HS.out
  have s1 : v7.cell? ⟨w.heap.size, 1, none⟩ = some (.slice A1 s.shots.length c1) := cell_of_row v7 _ 1 _ _ _ HS.out
  have s2 : v7.cell? ⟨w.heap.size, 2, none⟩ = some (.slice A2 s.marks.length c2) := cell_of_row v7 _ 2 _ _ _ HS.out
  have s3 : v7.cell? ⟨w.heap.size, 3, none⟩ = some (.slice A3 s.threads.length c3) := cell_of_row v7 _ 3 _ _ _ HS.out
  go_upto_region 9 with (go_at_call 18; refine (fall_as s j k c1 c2 c3 A1 A2 A3 v7 ((R1.out.below hb3).more hb3.size) ((R2.out.below hb3).more hb3.size) ((R3.out.below hb3).more hb3.size) H2.out).mono ?_; rintro e wb ⟨rfl, hbb⟩)
  obtain ⟨v8, hw⟩ : ∃ v, wb.alloc (Obj.cells #[.int .i64 (y1), .int .i64 (y2)] 36) = v := ⟨_, rfl⟩
  obtain ⟨by_, hbk⟩ : ∃ b, wb.heap.size = b := ⟨_, rfl⟩
  rw [hw, hbk]
  have hK : Below v7.heap.size v7 v8 := by rw [← hw]; exact hbb.alloc hbb.size _
  have Ya : v8.heap[by_]? = some (.cells #[.int .i64 (y1), .int .i64 (y2)] 36 (0, 0)) := by rw [← hw, ← hbk]; exact heap_alloc_new _ _
  replace Ybx := Lib.hid (row_keep Ybx.out hK)
  have Yby_ := Lib.hid Ya
  replace HS := Lib.hid (row_keep HS.out hK)
  replace hb3 := hb3.trans (hK.mono hb3.size)
  clear hw hbk hK Ya hbb s0 s1 s2 s3
  have s0 : v8.cell? ⟨w.heap.size, 0, none⟩ = some (.int .i64 s.n) := cell_of_row v8 _ 0 _ _ _ HS.out
  have s1 : v8.cell? ⟨w.heap.size, 1, none⟩ = some (.slice A1 s.shots.length c1) := cell_of_row v8 _ 1 _ _ _ HS.out
  have s2 : v8.cell? ⟨w.heap.size, 2, none⟩ = some (.slice A2 s.marks.length c2) := cell_of_row v8 _ 2 _ _ _ HS.out
  have s3 : v8.cell? ⟨w.heap.size, 3, none⟩ = some (.slice A3 s.threads.length c3) := cell_of_row v8 _ 3 _ _ _ HS.out
  go_upto_region 10 with (go_at_call 18; refine (fall_as s i k c1 c2 c3 A1 A2 A3 v8 ((R1.out.below hb3).more hb3.size) ((R2.out.below hb3).more hb3.size) ((R3.out.below hb3).more hb3.size) H3.out).mono ?_; rintro e wb ⟨rfl, hbb⟩)
  obtain ⟨v9, hw⟩ : ∃ v, wb.alloc (Obj.cells #[.int .i64 (z1), .int .i64 (z2)] 36) = v := ⟨_, rfl⟩
  obtain ⟨bz, hbk⟩ : ∃ b, wb.heap.size = b := ⟨_, rfl⟩
  rw [hw, hbk]
  have hK : Below v8.heap.size v8 v9 := by rw [← hw]; exact hbb.alloc hbb.size _
  have Ya : v9.heap[bz]? = some (.cells #[.int .i64 (z1), .int .i64 (z2)] 36 (0, 0)) := by rw [← hw, ← hbk]; exact heap_alloc_new _ _
  replace Ybx := Lib.hid (row_keep Ybx.out hK)
  replace Yby_ := Lib.hid (row_keep Yby_.out hK)
  have Ybz := Lib.hid Ya
  replace HS := Lib.hid (row_keep HS.out hK)
  replace hb3 := hb3.trans (hK.mono hb3.size)
  clear hw hbk hK Ya hbb s0 s1 s2 s3
  have s0 : v9.cell? ⟨w.heap.size, 0, none⟩ = some (.int .i64 s.n) := cell_of_row v9 _ 0 _ _ _ HS.out
  have s1 : v9.cell? ⟨w.heap.size, 1, none⟩ = some (.slice A1 s.shots.length c1) := cell_of_row v9 _ 1 _ _ _ HS.out
  have s2 : v9.cell? ⟨w.heap.size, 2, none⟩ = some (.slice A2 s.marks.length c2) := cell_of_row v9 _ 2 _ _ _ HS.out
  have s3 : v9.cell? ⟨w.heap.size, 3, none⟩ = some (.slice A3 s.threads.length c3) := cell_of_row v9 _ 3 _ _ _ HS.out
  go_upto_region 11 with (go_at_call 18; refine (fall_as s j i c1 c2 c3 A1 A2 A3 v9 ((R1.out.below hb3).more hb3.size) ((R2.out.below hb3).more hb3.size) ((R3.out.below hb3).more hb3.size) H4.out).mono ?_; rintro e wb ⟨rfl, hbb⟩)
  obtain ⟨v10, hw⟩ : ∃ v, wb.alloc (Obj.cells #[.int .i64 (-x2), .int .i64 (-x1)] 36) = v := ⟨_, rfl⟩
  obtain ⟨bk, hbk⟩ : ∃ b, wb.heap.size = b := ⟨_, rfl⟩
  rw [hw, hbk]
  have hK : Below v9.heap.size v9 v10 := by rw [← hw]; exact hbb.alloc hbb.size _
  have Ya : v10.heap[bk]? = some (.cells #[.int .i64 (-x2), .int .i64 (-x1)] 36 (0, 0)) := by rw [← hw, ← hbk]; exact heap_alloc_new _ _
  replace Ybx := Lib.hid (row_keep Ybx.out hK)
  replace Yby_ := Lib.hid (row_keep Yby_.out hK)
  replace Ybz := Lib.hid (row_keep Ybz.out hK)
  have Ybk := Lib.hid Ya
  replace HS := Lib.hid (row_keep HS.out hK)
  replace hb3 := hb3.trans (hK.mono hb3.size)
  clear hw hbk hK Ya hbb s0 s1 s2 s3
  have s0 : v10.cell? ⟨w.heap.size, 0, none⟩ = some (.int .i64 s.n) := cell_of_row v10 _ 0 _ _ _ HS.out
  have s1 : v10.cell? ⟨w.heap.size, 1, none⟩ = some (.slice A1 s.shots.length c1) := cell_of_row v10 _ 1 _ _ _ HS.out
  have s2 : v10.cell? ⟨w.heap.size, 2, none⟩ = some (.slice A2 s.marks.length c2) := cell_of_row v10 _ 2 _ _ _ HS.out
  have s3 : v10.cell? ⟨w.heap.size, 3, none⟩ = some (.slice A3 s.threads.length c3) := cell_of_row v10 _ 3 _ _ _ HS.out
  go_upto_region 12 with (go_at_call 16; refine (heights_as s c1 c2 c3 A1 A2 A3 v10 ((R1.out.below hb3).more hb3.size) ((R2.out.below hb3).more hb3.size) ((R3.out.below hb3).more hb3.size) H5.out).mono ?_; rintro e v11 ⟨⟨AH, cH, rfl, qh⟩, hK⟩)
  replace Ybx := Lib.hid (row_keep Ybx.out hK)
  replace Yby_ := Lib.hid (row_keep Yby_.out hK)
  replace Ybz := Lib.hid (row_keep Ybz.out hK)
  replace Ybk := Lib.hid (row_keep Ybk.out hK)
  have QH := Lib.hid qh
  replace HS := Lib.hid (row_keep HS.out hK)
  replace hb3 := hb3.trans (hK.mono hb3.size)
  clear hK qh s0 s1 s2 s3
  have hlen := hts_len s
  obtain ⟨bh, oh, rfl, hbh, hcell⟩ := QH.out (by omega)
  have ci0 := hcell i _ HP.out 0 _ rfl
  have ci1 := hcell i _ HP.out 1 _ rfl
  have cj0 := hcell j _ HQ.out 0 _ rfl
  have cj1 := hcell j _ HQ.out 1 _ rfl
  dsimp only at ci0 ci1 cj0 cj1
  rw [Nat.add_zero] at ci0 cj0
  obtain ⟨m, hm⟩ : ∃ m, (htsList s).length = m := ⟨_, rfl⟩
  rw [hm] at hlen ⊢
  have hln : ((m : Int) != s.n) = false := by rw [bne_eq_false_iff_eq]; omega
  have him : i < m := by omega
  have hjm : j < m := by omega
  have s0 : v11.cell? ⟨w.heap.size, 0, none⟩ = some (.int .i64 s.n) := cell_of_row v11 _ 0 _ _ _ HS.out
  have x0c : v11.cell? ⟨bx, 0, none⟩ = some (.int .i64 x1) := cell_of_row v11 _ 0 _ _ _ Ybx.out
  have x1c : v11.cell? ⟨bx, 1, none⟩ = some (.int .i64 x2) := cell_of_row v11 _ 1 _ _ _ Ybx.out
  have y0c : v11.cell? ⟨by_, 0, none⟩ = some (.int .i64 y1) := cell_of_row v11 _ 0 _ _ _ Yby_.out
  have y1c : v11.cell? ⟨by_, 1, none⟩ = some (.int .i64 y2) := cell_of_row v11 _ 1 _ _ _ Yby_.out
  have z0c : v11.cell? ⟨bz, 0, none⟩ = some (.int .i64 z1) := cell_of_row v11 _ 0 _ _ _ Ybz.out
  have z1c : v11.cell? ⟨bz, 1, none⟩ = some (.int .i64 z2) := cell_of_row v11 _ 1 _ _ _ Ybz.out
  have k0c : v11.cell? ⟨bk, 0, none⟩ = some (.int .i64 (-x2)) := cell_of_row v11 _ 0 _ _ _ Ybk.out
  have k1c : v11.cell? ⟨bk, 1, none⟩ = some (.int .i64 (-x1)) := cell_of_row v11 _ 1 _ _ _ Ybk.out
  have lx := (Array.getElem?_eq_some_iff.1 Ybx.out).1
  have ly := (Array.getElem?_eq_some_iff.1 Yby_.out).1
  have lz := (Array.getElem?_eq_some_iff.1 Ybz.out).1
  have lk := (Array.getElem?_eq_some_iff.1 Ybk.out).1
  clear hcell hm QH
  obtain ⟨F1, F2, F3, F4⟩ := F
  have e1 : IntKind.i64.wrap (x1 + y1) = x1 + y1 := IntWalk.i64_in _ (by omega)
  go_upto_region 16 with fail
  simp only [List.append_eq, List.cons_append, List.nil_append]
  refine wp_region_calm (by kernel_rfl) (by kernel_rfl) ?_
  repeat (go_big_quiet_step ((first | (go_at_call 39; exact calm_of (span_any _ _ _)))))
  refine wpQuiet_nil ?_; rintro _ ⟨dx, rfl⟩
  obtain ⟨wy, hwy⟩ : ∃ wy, wx _ dx = wy := ⟨_, rfl⟩; have hby := wx_below _ dx; rw [hwy] at hby ⊢
  go_wp2
  go_ret
  exact ⟨rfl, hb3.trans (hby.mono hb3.size)⟩

theorem lawSums_any (s : Sv) (a b c : Int) (c1 c2 c3 : Nat) (A1 A2 A3 : Option Addr) (w : World)
    (r1 : Rd w w.heap.size A1 shV 4 s.shots) (r2 : Rd w w.heap.size A2 mkV 3 s.marks) (r3 : Rd w w.heap.size A3 shV 4 s.threads) (ha : 0 ≤ a ∧ a ≤ 255) (hbb : 0 ≤ b ∧ b ≤ 255) (hc : 0 ≤ c ∧ c ≤ 255) :
    Calls Try.prog 12 #[.agg #[.int .i64 s.n, .slice A1 s.shots.length c1, .slice A2 s.marks.length c2, .slice A3 s.threads.length c3], .int .u8 a, .int .u8 b, .int .u8 c] w fun e w' => e = .returned (.bool true) ∧ Below w.heap.size w w' := by
  cases hok : svOk s
  · exact lawSums_bad s a b c c1 c2 c3 A1 A2 A3 w r1 r2 r3 hok
  · cases hf : (svD s).2
    · exact lawSums_apart s a b c c1 c2 c3 A1 A2 A3 w r1 r2 r3 hok hf ha hbb hc
    · exact lawSums_fit s a b c c1 c2 c3 A1 A2 A3 w r1 r2 r3 hok hf ha hbb hc

end Go.Proofs.Ythlpomjdifnnkaa
