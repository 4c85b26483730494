/- The law LevelThread answers true of every survey that reads as plain data, of any byte and any list of numbers. Condition: the slices read below the heap's end. -/
import Derived.Test.YtaoonfmcimkmhaaAlive
import Derived.Test.YtaoonfmcimkmhaaTwinIn
import Derived.Test.YtaoonfmcimkmhaaThreadM
import Derived.Test.YtaoonfmcimkmhaaCalm
import Derived.BigRegion
set_option linter.unusedVariables false
set_option linter.unusedSimpArgs false
namespace Go.Proofs.Ytaoonfmcimkmhaa
open Go.RowKit
attribute [local go_sem] wx_cell wx_frozen

theorem slope_as (s : Sv) (k : Nat) {p q e : Int} (h : lvSlope s k = ((p, q), e)) (d1 d2 d3 : Nat) (B1 B2 B3 : Option Addr) (w : World) (q1 : Rd w w.heap.size B1 shV 4 s.shots) (q2 : Rd w w.heap.size B2 mkV 3 s.marks) (q3 : Rd w w.heap.size B3 shV 4 s.threads) :
    Calls Try.prog 31 #[.agg #[.int .i64 s.n, .slice B1 s.shots.length d1, .slice B2 s.marks.length d2, .slice B3 s.threads.length d3], .int .i64 (k : Int)] w fun e' w' => e' = .returned (.tuple #[.agg #[.int .i64 p, .int .i64 q], .int .i64 e]) ∧ Below w.heap.size w w' := by
  have h1 := lslope_any s k d1 d2 d3 B1 B2 B3 w q1 q2 q3
  rw [h] at h1
  exact h1
theorem slope_set (s : Sv) (k : Nat) (y : Sh) {p q : Int} (h : lvSlope (setTh s k y) k = ((p, q), 0)) (d1 d2 d3 : Nat) (B1 B2 B3 : Option Addr) (w : World) (q1 : Rd w w.heap.size B1 shV 4 s.shots) (q2 : Rd w w.heap.size B2 mkV 3 s.marks) (q3 : Rd w w.heap.size B3 shV 4 (s.threads.set k y)) :
    Calls Try.prog 31 #[.agg #[.int .i64 s.n, .slice B1 s.shots.length d1, .slice B2 s.marks.length d2, .slice B3 s.threads.length d3], .int .i64 (k : Int)] w fun e w' => e = .returned (.tuple #[.agg #[.int .i64 p, .int .i64 q], .int .i64 0]) ∧ Below w.heap.size w w' := by
  have h1 := lslope_any (setTh s k y) k d1 d2 d3 B1 B2 B3 w q1 q2 q3
  rw [h] at h1
  rw [show (setTh s k y).threads.length = s.threads.length by simp [setTh]] at h1
  exact h1

set_option maxRecDepth 100000 in
set_option maxHeartbeats 16000000 in
theorem lawThread_bad (s : Sv) (a : Int) (l : List Int) (cl c1 c2 c3 : Nat) (AL A1 A2 A3 : Option Addr) (w : World)
    (r1 : Rd w w.heap.size A1 shV 4 s.shots) (r2 : Rd w w.heap.size A2 mkV 3 s.marks) (r3 : Rd w w.heap.size A3 shV 4 s.threads) (rl : Rd w w.heap.size AL inV 1 l) (hok : svOk s = false) :
    Calls Try.prog 13 #[.agg #[.int .i64 s.n, .slice A1 s.shots.length c1, .slice A2 s.marks.length c2, .slice A3 s.threads.length c3], .int .u8 a, .slice AL l.length cl] w fun e w' => e = .returned (.bool true) ∧ Below w.heap.size w w' := by
  have R1 := Lib.hid r1
  have R2 := Lib.hid r2
  have R3 := Lib.hid r3
  have RL := Lib.hid rl
  have HOK := Lib.hid hok
  clear r1 r2 r3 rl hok
  go_enter Try.func13, Try.ntmps13
  go_wp2_with (first | (go_at_call 35; refine (alive_any _).mono ?_; rintro e w1 ⟨rfl, hb1⟩; obtain ⟨hc1, hf1⟩ := bcell hb1; have hz1 := hb1.size; simp at hz1; have hlt : w.heap.size < w1.heap.size := by omega) | (go_at_call 36; (have hbA : Below w.heap.size w w1 := by (repeat' (first | (with_reducible exact Below.refl _ _) | (with_reducible refine Below.alloc ?_ ?_ _) | (with_reducible refine Below.drew ?_) | (with_reducible refine Below.drewN_ ?_ _) | (with_reducible refine Below.setCell ?_ ?_ _) | (with_reducible refine Below.setRow ?_ ?_ _) | (with_reducible refine Below.via ?_ (by with_reducible assumption) ?_) | go_size))); have hr := ready_any s c1 c2 c3 A1 A2 A3 w1 ((R1.out.below hbA).more hbA.size) ((R2.out.below hbA).more hbA.size) ((R3.out.below hbA).more hbA.size); rw [HOK.out] at hr; refine hr.mono ?_; rintro e w2 ⟨rfl, hb2⟩; clear hr; (have S : w2.heap[w.heap.size]? = some (.cells #[.int .i64 s.n, .slice A1 s.shots.length c1, .slice A2 s.marks.length c2, .slice A3 s.threads.length c3] 26 (0, 0)) := row_keep (row_keep (heap_alloc_new _ _) hb1) hb2); have HS := Lib.hid S; have s3 := cell_of_row w2 _ 3 _ _ _ S; simp only [List.getElem?_toArray, List.getElem?_cons_zero, List.getElem?_cons_succ] at s3; clear S))
  go_ret
  exact ⟨rfl, by (repeat' (first | (with_reducible exact Below.refl _ _) | (with_reducible refine Below.alloc ?_ ?_ _) | (with_reducible refine Below.drew ?_) | (with_reducible refine Below.drewN_ ?_ _) | (with_reducible refine Below.setCell ?_ ?_ _) | (with_reducible refine Below.setRow ?_ ?_ _) | (with_reducible refine Below.via ?_ (by with_reducible assumption) ?_) | go_size))⟩

set_option maxRecDepth 100000 in
set_option maxHeartbeats 16000000 in
theorem lawThread_none (s : Sv) (a : Int) (l : List Int) (cl c1 c2 c3 : Nat) (AL A1 A2 A3 : Option Addr) (w : World)
    (r1 : Rd w w.heap.size A1 shV 4 s.shots) (r2 : Rd w w.heap.size A2 mkV 3 s.marks) (r3 : Rd w w.heap.size A3 shV 4 s.threads) (rl : Rd w w.heap.size AL inV 1 l) (hok : svOk s = true) (hl : s.threads.length = 0) :
    Calls Try.prog 13 #[.agg #[.int .i64 s.n, .slice A1 s.shots.length c1, .slice A2 s.marks.length c2, .slice A3 s.threads.length c3], .int .u8 a, .slice AL l.length cl] w fun e w' => e = .returned (.bool true) ∧ Below w.heap.size w w' := by
  have R1 := Lib.hid r1
  have R2 := Lib.hid r2
  have R3 := Lib.hid r3
  have RL := Lib.hid rl
  have HOK := Lib.hid hok
  have hb0 : ((s.threads.length : Int) == 0) = true := by rw [hl]; rfl
  clear r1 r2 r3 rl hok hl
  go_enter Try.func13, Try.ntmps13
  go_wp2_with (first | (go_at_call 35; refine (alive_any _).mono ?_; rintro e w1 ⟨rfl, hb1⟩; obtain ⟨hc1, hf1⟩ := bcell hb1; have hz1 := hb1.size; simp at hz1; have hlt : w.heap.size < w1.heap.size := by omega) | (go_at_call 36; (have hbA : Below w.heap.size w w1 := by (repeat' (first | (with_reducible exact Below.refl _ _) | (with_reducible refine Below.alloc ?_ ?_ _) | (with_reducible refine Below.drew ?_) | (with_reducible refine Below.drewN_ ?_ _) | (with_reducible refine Below.setCell ?_ ?_ _) | (with_reducible refine Below.setRow ?_ ?_ _) | (with_reducible refine Below.via ?_ (by with_reducible assumption) ?_) | go_size))); have hr := ready_any s c1 c2 c3 A1 A2 A3 w1 ((R1.out.below hbA).more hbA.size) ((R2.out.below hbA).more hbA.size) ((R3.out.below hbA).more hbA.size); rw [HOK.out] at hr; refine hr.mono ?_; rintro e w2 ⟨rfl, hb2⟩; clear hr; (have S : w2.heap[w.heap.size]? = some (.cells #[.int .i64 s.n, .slice A1 s.shots.length c1, .slice A2 s.marks.length c2, .slice A3 s.threads.length c3] 26 (0, 0)) := row_keep (row_keep (heap_alloc_new _ _) hb1) hb2); have HS := Lib.hid S; have s3 := cell_of_row w2 _ 3 _ _ _ S; simp only [List.getElem?_toArray, List.getElem?_cons_zero, List.getElem?_cons_succ] at s3; clear S))
  go_ret
  exact ⟨rfl, by (repeat' (first | (with_reducible exact Below.refl _ _) | (with_reducible refine Below.alloc ?_ ?_ _) | (with_reducible refine Below.drew ?_) | (with_reducible refine Below.drewN_ ?_ _) | (with_reducible refine Below.setCell ?_ ?_ _) | (with_reducible refine Below.setRow ?_ ?_ _) | (with_reducible refine Below.via ?_ (by with_reducible assumption) ?_) | go_size))⟩

set_option maxRecDepth 100000 in
set_option maxHeartbeats 16000000 in
theorem lawThread_apart (s : Sv) (a : Int) (l : List Int) (cl c1 c2 c3 : Nat) (AL A1 A2 A3 : Option Addr) (w : World)
    (r1 : Rd w w.heap.size A1 shV 4 s.shots) (r2 : Rd w w.heap.size A2 mkV 3 s.marks) (r3 : Rd w w.heap.size A3 shV 4 s.threads) (rl : Rd w w.heap.size AL inV 1 l) (hok : svOk s = true) (hl : 0 < s.threads.length) (hf : (svD s).2 = false) (ha : 0 ≤ a ∧ a ≤ 255) :
    Calls Try.prog 13 #[.agg #[.int .i64 s.n, .slice A1 s.shots.length c1, .slice A2 s.marks.length c2, .slice A3 s.threads.length c3], .int .u8 a, .slice AL l.length cl] w fun e w' => e = .returned (.bool true) ∧ Below w.heap.size w w' := by
  have R1 := Lib.hid r1
  have R2 := Lib.hid r2
  have R3 := Lib.hid r3
  have RL := Lib.hid rl
  have HOK := Lib.hid hok
  have HF := Lib.hid hf
  have h0I : ((s.threads.length : Int) == 0) = false := by rw [beq_eq_false_iff_ne]; omega
  have h0J : ¬ (s.threads.length : Int) = 0 := by omega
  obtain ⟨⟨n1, n2, n3, n4, n5⟩, _⟩ := svOk_spec hok
  obtain ⟨k, hak, hk⟩ : ∃ k : Nat, a % (s.threads.length : Int) = k ∧ k < s.threads.length := ⟨(a % (s.threads.length : Int)).toNat, by have := Int.emod_nonneg a h0J; omega, by have := Int.emod_nonneg a h0J; have := Int.emod_lt_of_pos a (show 0 < (s.threads.length : Int) by omega); omega⟩
  have tk : a.tmod (s.threads.length : Int) = (k : Int) := by rw [Int.tmod_eq_emod_of_nonneg ha.1]; exact hak
  have tk2 : a % (s.threads.length : Int) = (k : Int) := hak
  have wa : IntKind.i64.wrap a = a := IntWalk.i64_in _ (by omega)
  clear r1 r2 r3 rl hok hf hak
  have H1 := Lib.hid (slope_apart HOK.out HF.out hk)
  go_enter Try.func13, Try.ntmps13
  go_upto_region 6 with (first | (go_at_call 35; refine (alive_any _).mono ?_; rintro e w1 ⟨rfl, hb1⟩; obtain ⟨hc1, hf1⟩ := bcell hb1; have hz1 := hb1.size; simp at hz1; have hlt : w.heap.size < w1.heap.size := by omega) | (go_at_call 36; (have hbA : Below w.heap.size w w1 := by (repeat' (first | (with_reducible exact Below.refl _ _) | (with_reducible refine Below.alloc ?_ ?_ _) | (with_reducible refine Below.drew ?_) | (with_reducible refine Below.drewN_ ?_ _) | (with_reducible refine Below.setCell ?_ ?_ _) | (with_reducible refine Below.setRow ?_ ?_ _) | (with_reducible refine Below.via ?_ (by with_reducible assumption) ?_) | go_size))); have hr := ready_any s c1 c2 c3 A1 A2 A3 w1 ((R1.out.below hbA).more hbA.size) ((R2.out.below hbA).more hbA.size) ((R3.out.below hbA).more hbA.size); rw [HOK.out] at hr; refine hr.mono ?_; rintro e w2 ⟨rfl, hb2⟩; clear hr; (have S : w2.heap[w.heap.size]? = some (.cells #[.int .i64 s.n, .slice A1 s.shots.length c1, .slice A2 s.marks.length c2, .slice A3 s.threads.length c3] 26 (0, 0)) := row_keep (row_keep (heap_alloc_new _ _) hb1) hb2); have HS := Lib.hid S; have s3 := cell_of_row w2 _ 3 _ _ _ S; simp only [List.getElem?_toArray, List.getElem?_cons_zero, List.getElem?_cons_succ] at s3; clear S))
  have hb3 : Below w.heap.size w w2 := by (repeat' (first | (with_reducible exact Below.refl _ _) | (with_reducible refine Below.alloc ?_ ?_ _) | (with_reducible refine Below.drew ?_) | (with_reducible refine Below.drewN_ ?_ _) | (with_reducible refine Below.setCell ?_ ?_ _) | (with_reducible refine Below.setRow ?_ ?_ _) | (with_reducible refine Below.via ?_ (by with_reducible assumption) ?_) | go_size))
  clear hb1 hb2 hbA hc1 hf1 hz1 hlt h0I s3
  have s0 : w2.cell? ⟨w.heap.size, 0, none⟩ = some (.int .i64 s.n) := cell_of_row w2 _ 0 _ _ _ HS.out
  have s1 : w2.cell? ⟨w.heap.size, 1, none⟩ = some (.slice A1 s.shots.length c1) := cell_of_row w2 _ 1 _ _ _ HS.out
  have s2 : w2.cell? ⟨w.heap.size, 2, none⟩ = some (.slice A2 s.marks.length c2) := cell_of_row w2 _ 2 _ _ _ HS.out
  have s3 : w2.cell? ⟨w.heap.size, 3, none⟩ = some (.slice A3 s.threads.length c3) := cell_of_row w2 _ 3 _ _ _ HS.out
  go_upto_region 8 with (go_at_call 31; refine (slope_as s k H1.out c1 c2 c3 A1 A2 A3 w2 ((R1.out.below hb3).more hb3.size) ((R2.out.below hb3).more hb3.size) ((R3.out.below hb3).more hb3.size)).mono ?_; rintro e wb ⟨rfl, hbb⟩)
  have hbf : Below w.heap.size w (wb.alloc (Obj.cells #[.int .i64 (0), .int .i64 (0)] 36)) := hb3.trans ((hbb.alloc hbb.size _).mono hb3.size)
  clear s0 s1 s2 s3 tk tk2 wa
  go_wp2
  go_ret
  exact ⟨rfl, hbf⟩

set_option maxRecDepth 100000 in
set_option maxHeartbeats 16000000 in
theorem lawThread_fit (s : Sv) (a : Int) (l : List Int) (cl c1 c2 c3 : Nat) (AL A1 A2 A3 : Option Addr) (w : World)
    (r1 : Rd w w.heap.size A1 shV 4 s.shots) (r2 : Rd w w.heap.size A2 mkV 3 s.marks) (r3 : Rd w w.heap.size A3 shV 4 s.threads) (rl : Rd w w.heap.size AL inV 1 l) (hok : svOk s = true) (hl : 0 < s.threads.length) (hf : (svD s).2 = true) (ha : 0 ≤ a ∧ a ≤ 255) (hll : l.length ≤ 9223372036854775807) :
    Calls Try.prog 13 #[.agg #[.int .i64 s.n, .slice A1 s.shots.length c1, .slice A2 s.marks.length c2, .slice A3 s.threads.length c3], .int .u8 a, .slice AL l.length cl] w fun e w' => e = .returned (.bool true) ∧ Below w.heap.size w w' := by
  have R1 := Lib.hid r1
  have R2 := Lib.hid r2
  have R3 := Lib.hid r3
  have RL := Lib.hid rl
  have HOK := Lib.hid hok
  have HF := Lib.hid hf
  have h0I : ((s.threads.length : Int) == 0) = false := by rw [beq_eq_false_iff_ne]; omega
  have h0J : ¬ (s.threads.length : Int) = 0 := by omega
  obtain ⟨⟨n1, n2, n3, n4, n5⟩, _⟩ := svOk_spec hok
  obtain ⟨k, hak, hk⟩ : ∃ k : Nat, a % (s.threads.length : Int) = k ∧ k < s.threads.length := ⟨(a % (s.threads.length : Int)).toNat, by have := Int.emod_nonneg a h0J; omega, by have := Int.emod_nonneg a h0J; have := Int.emod_lt_of_pos a (show 0 < (s.threads.length : Int) by omega); omega⟩
  have tk : a.tmod (s.threads.length : Int) = (k : Int) := by rw [Int.tmod_eq_emod_of_nonneg ha.1]; exact hak
  have tk2 : a % (s.threads.length : Int) = (k : Int) := hak
  have wa : IntKind.i64.wrap a = a := IntWalk.i64_in _ (by omega)
  clear r1 r2 r3 rl hok hf hak
  obtain ⟨f, t, lo, hi, hx⟩ : ∃ f t lo hi, s.threads[k]? = some ⟨f, t, lo, hi⟩ := ⟨_, _, _, _, List.getElem?_eq_getElem hk⟩
  have hxb := shOk_spec ((svOk_spec HOK.out).2.2.2 _ (List.mem_of_getElem? hx))
  dsimp only at hxb
  obtain ⟨y1, y2, y3, y4, y5, y6, y7, y8⟩ := hxb
  obtain ⟨D, hD⟩ : ∃ D : Nat, hi - lo = (D : Int) := ⟨(hi - lo).toNat, by omega⟩
  obtain ⟨pp, hpp⟩ : ∃ x, partI D l 0 = x := ⟨_, rfl⟩
  have hpb := partI_bd D l 0
  rw [hpp] at hpb
  obtain ⟨v1, v2, a1, a2, z1, z2, H1, H2, H3, H4, F, B⟩ := thread_vals HOK.out HF.out hx hpb.1 (by omega)
  replace H1 := Lib.hid H1
  replace H2 := Lib.hid H2
  replace H3 := Lib.hid H3
  replace H4 := Lib.hid H4
  have HX := Lib.hid hx
  have HD := Lib.hid hD
  have HPP := Lib.hid hpp
  clear hx hD hpp
  go_enter Try.func13, Try.ntmps13
  go_upto_region 6 with (first | (go_at_call 35; refine (alive_any _).mono ?_; rintro e w1 ⟨rfl, hb1⟩; obtain ⟨hc1, hf1⟩ := bcell hb1; have hz1 := hb1.size; simp at hz1; have hlt : w.heap.size < w1.heap.size := by omega) | (go_at_call 36; (have hbA : Below w.heap.size w w1 := by (repeat' (first | (with_reducible exact Below.refl _ _) | (with_reducible refine Below.alloc ?_ ?_ _) | (with_reducible refine Below.drew ?_) | (with_reducible refine Below.drewN_ ?_ _) | (with_reducible refine Below.setCell ?_ ?_ _) | (with_reducible refine Below.setRow ?_ ?_ _) | (with_reducible refine Below.via ?_ (by with_reducible assumption) ?_) | go_size))); have hr := ready_any s c1 c2 c3 A1 A2 A3 w1 ((R1.out.below hbA).more hbA.size) ((R2.out.below hbA).more hbA.size) ((R3.out.below hbA).more hbA.size); rw [HOK.out] at hr; refine hr.mono ?_; rintro e w2 ⟨rfl, hb2⟩; clear hr; (have S : w2.heap[w.heap.size]? = some (.cells #[.int .i64 s.n, .slice A1 s.shots.length c1, .slice A2 s.marks.length c2, .slice A3 s.threads.length c3] 26 (0, 0)) := row_keep (row_keep (heap_alloc_new _ _) hb1) hb2); have HS := Lib.hid S; have s3 := cell_of_row w2 _ 3 _ _ _ S; simp only [List.getElem?_toArray, List.getElem?_cons_zero, List.getElem?_cons_succ] at s3; clear S))
  have hb3 : Below w.heap.size w w2 := by (repeat' (first | (with_reducible exact Below.refl _ _) | (with_reducible refine Below.alloc ?_ ?_ _) | (with_reducible refine Below.drew ?_) | (with_reducible refine Below.drewN_ ?_ _) | (with_reducible refine Below.setCell ?_ ?_ _) | (with_reducible refine Below.setRow ?_ ?_ _) | (with_reducible refine Below.via ?_ (by with_reducible assumption) ?_) | go_size))
  clear hb1 hb2 hbA hc1 hf1 hz1 hlt h0I s3
  have s0 : w2.cell? ⟨w.heap.size, 0, none⟩ = some (.int .i64 s.n) := cell_of_row w2 _ 0 _ _ _ HS.out
  have s1 : w2.cell? ⟨w.heap.size, 1, none⟩ = some (.slice A1 s.shots.length c1) := cell_of_row w2 _ 1 _ _ _ HS.out
  have s2 : w2.cell? ⟨w.heap.size, 2, none⟩ = some (.slice A2 s.marks.length c2) := cell_of_row w2 _ 2 _ _ _ HS.out
  have s3 : w2.cell? ⟨w.heap.size, 3, none⟩ = some (.slice A3 s.threads.length c3) := cell_of_row w2 _ 3 _ _ _ HS.out
  go_upto_region 8 with (go_at_call 31; refine (slope_as s k H1.out c1 c2 c3 A1 A2 A3 w2 ((R1.out.below hb3).more hb3.size) ((R2.out.below hb3).more hb3.size) ((R3.out.below hb3).more hb3.size)).mono ?_; rintro e wb ⟨rfl, hbb⟩)
  obtain ⟨v7, hw⟩ : ∃ v, wb.alloc (Obj.cells #[.int .i64 v1, .int .i64 v2] 36) = v := ⟨_, rfl⟩
  obtain ⟨gv, hbk⟩ : ∃ b, wb.heap.size = b := ⟨_, rfl⟩
  rw [hw, hbk]
  have hK : Below w2.heap.size w2 v7 := by rw [← hw]; exact hbb.alloc hbb.size _
  have Ya : v7.heap[gv]? = some (.cells #[.int .i64 v1, .int .i64 v2] 36 (0, 0)) := by rw [← hw, ← hbk]; exact heap_alloc_new _ _
  have Ygv := Lib.hid Ya
  replace HS := Lib.hid (row_keep HS.out hK)
  replace hb3 := below_keep hb3 hb3.size hK
  have HWS := Lib.hid (show w.heap.size < v7.heap.size from (Array.getElem?_eq_some_iff.1 HS.out).1)
  have HGV := Lib.hid (show gv < v7.heap.size from (Array.getElem?_eq_some_iff.1 Ya).1)
  clear hw hbk hK Ya hbb s0 s1 s2 s3 tk tk2 wa h0J
  go_upto_region 10 with fail
  refine (wpIn_wide (n := 3)).1 ?_
  refine wpIn_region_mem (by kernel_rfl) 12 (by decide +kernel) (by decide +kernel) (by omega) (fun i y => if i = 0 then .agg #[.int .i64 s.n, .slice A1 s.shots.length c1, .slice A2 s.marks.length c2, .slice A3 s.threads.length c3] else if i = 1 then y.v else if i = 2 then .agg #[.int .i64 s.n, .slice A1 s.shots.length c1, .slice A2 s.marks.length c2, .slice A3 s.threads.length c3] else if i = 3 then y.v else if i = 4 then .agg #[.int .i64 s.n, .slice A1 s.shots.length c1, .slice A2 s.marks.length c2, .slice A3 s.threads.length c3] else if i = 5 then y.v else if i = 6 then .pointer (some ⟨y.lo, 0, none⟩) else if i = 7 then .pointer (some ⟨y.lo, 0, none⟩) else if i = 8 then .pointer (some ⟨y.lo, 0, none⟩) else undef)
    (fun x i W => if i = 1 then TwF s (x 1).v (x 1).lo (x 1).hi W else if i = 3 then TwF s (x 3).v (x 3).lo (x 3).hi W else if i = 5 then TwF s (x 5).v (x 5).lo (x 5).hi W else if i = 6 then (W.heap[(x 6).lo]? = some (.cells #[.int .i64 0, .slice none 0 0, .slice none 0 0, .slice none 0 0] 26 (0, 0)) ∧ (x 6).lo < (x 6).hi) else if i = 7 then (W.heap[(x 7).lo]? = some (.cells #[.int .i64 0, .slice none 0 0, .slice none 0 0, .slice none 0 0] 26 (0, 0)) ∧ (x 7).lo < (x 7).hi) else if i = 8 then (W.heap[(x 8).lo]? = some (.cells #[.int .i64 0, .slice none 0 0, .slice none 0 0, .slice none 0 0] 26 (0, 0)) ∧ (x 8).lo < (x 8).hi) else if i = 9 then (∃ cs, (x 1).v = .agg cs ∧ W.heap[(x 6).lo]? = some (.cells cs 26 (0, 0)) ∧ (x 6).lo < (x 6).hi) else if i = 10 then (∃ cs, (x 3).v = .agg cs ∧ W.heap[(x 7).lo]? = some (.cells cs 26 (0, 0)) ∧ (x 7).lo < (x 7).hi) else if i = 11 then (∃ cs, (x 5).v = .agg cs ∧ W.heap[(x 8).lo]? = some (.cells cs 26 (0, 0)) ∧ (x 8).lo < (x 8).hi) else NoF) (fun i => if i = 9 then 6 else if i = 10 then 7 else if i = 11 then 8 else i) (fun i => if i = 6 then some 9 else if i = 7 then some 10 else if i = 8 then some 11 else none) _ _ ?aF ?hA (by decide +kernel) (by decide +kernel) ?hloc ?hcon ?hstep ?htail
  case hA => intro x; simp [putTo, putIf, dstAt, Act.put, List.range_succ]; rfl
  case hloc =>
    intro i hi x W W' h1 h2 hg hp
    match i, hi with
    | 0, _ => exact hp
    | 1, _ => exact TwF.local_ hp hg
    | 2, _ => exact hp
    | 3, _ => exact TwF.local_ hp hg
    | 4, _ => exact hp
    | 5, _ => exact TwF.local_ hp hg
    | 6, _ => exact ⟨(hg _ (Nat.le_refl _) hp.2).trans hp.1, hp.2⟩
    | 7, _ => exact ⟨(hg _ (Nat.le_refl _) hp.2).trans hp.1, hp.2⟩
    | 8, _ => exact ⟨(hg _ (Nat.le_refl _) hp.2).trans hp.1, hp.2⟩
    | 9, _ => obtain ⟨cs, e1, e2, e3⟩ := hp; exact ⟨cs, e1, (hg _ (Nat.le_refl _) e3).trans e2, e3⟩
    | 10, _ => obtain ⟨cs, e1, e2, e3⟩ := hp; exact ⟨cs, e1, (hg _ (Nat.le_refl _) e3).trans e2, e3⟩
    | 11, _ => obtain ⟨cs, e1, e2, e3⟩ := hp; exact ⟨cs, e1, (hg _ (Nat.le_refl _) e3).trans e2, e3⟩
    | k + 12, hk => omega
  case hcon =>
    intro i hi L x x' W hcl hL he hp
    match i, hi with
    | 0, _ => exact hp
    | 1, _ => (show TwF s (x' 1).v (x' 1).lo (x' 1).hi W); rw [he 1 hL]; exact hp
    | 2, _ => exact hp
    | 3, _ => (show TwF s (x' 3).v (x' 3).lo (x' 3).hi W); rw [he 3 hL]; exact hp
    | 4, _ => exact hp
    | 5, _ => (show TwF s (x' 5).v (x' 5).lo (x' 5).hi W); rw [he 5 hL]; exact hp
    | 6, _ => (show W.heap[(x' 6).lo]? = _ ∧ (x' 6).lo < (x' 6).hi); rw [he 6 hL]; exact hp
    | 7, _ => (show W.heap[(x' 7).lo]? = _ ∧ (x' 7).lo < (x' 7).hi); rw [he 7 hL]; exact hp
    | 8, _ => (show W.heap[(x' 8).lo]? = _ ∧ (x' 8).lo < (x' 8).hi); rw [he 8 hL]; exact hp
    | 9, _ => (have ha := hcl 9 _ hL rfl { on := 6, ground := Ground.data } (by simp) rfl); (have hc := hcl 9 _ hL rfl { on := 1, ground := Ground.data } (by simp) rfl); (show ∃ cs, (x' 1).v = .agg cs ∧ W.heap[(x' 6).lo]? = some (.cells cs 26 (0, 0)) ∧ (x' 6).lo < (x' 6).hi); rw [he 6 ha, he 1 hc]; exact hp
    | 10, _ => (have ha := hcl 10 _ hL rfl { on := 7, ground := Ground.data } (by simp) rfl); (have hc := hcl 10 _ hL rfl { on := 3, ground := Ground.data } (by simp) rfl); (show ∃ cs, (x' 3).v = .agg cs ∧ W.heap[(x' 7).lo]? = some (.cells cs 26 (0, 0)) ∧ (x' 7).lo < (x' 7).hi); rw [he 7 ha, he 3 hc]; exact hp
    | 11, _ => (have ha := hcl 11 _ hL rfl { on := 8, ground := Ground.data } (by simp) rfl); (have hc := hcl 11 _ hL rfl { on := 5, ground := Ground.data } (by simp) rfl); (show ∃ cs, (x' 5).v = .agg cs ∧ W.heap[(x' 8).lo]? = some (.cells cs 26 (0, 0)) ∧ (x' 8).lo < (x' 8).hi); rw [he 8 ha, he 5 hc]; exact hp
    | k + 12, hk => omega
  case hstep =>
    intro i o hi ho L x W hL hcl hdep hb hf hbd
    have q0 := cell_of_row W _ 0 _ _ _ (row_keep HS.out hb)
    have q1 := cell_of_row W _ 1 _ _ _ (row_keep HS.out hb)
    have q2 := cell_of_row W _ 2 _ _ _ (row_keep HS.out hb)
    have q3 := cell_of_row W _ 3 _ _ _ (row_keep HS.out hb)
    simp only [List.getElem?_toArray, List.getElem?_cons_zero, List.getElem?_cons_succ] at q0 q1 q2 q3
    have HB := Lib.hid hb
    have HFA := Lib.hid hf
    have HBD := Lib.hid hbd
    clear hb hf hbd
    refine ⟨fun _ _ => trivial, ?_⟩
    match i, hi, ho with
    | 0, _, ho => simp only [List.getElem?_toArray, List.getElem?_cons_succ, List.getElem?_cons_zero, Option.some.injEq] at ho; subst ho; go_simp; rw [outs_value]; exact onM_same (y := ⟨undef, W.heap.size, W.heap.size⟩) rfl rfl rfl (by simp; exact noF)
    | 1, _, ho => simp only [List.getElem?_toArray, List.getElem?_cons_succ, List.getElem?_cons_zero, Option.some.injEq] at ho; subst ho; (have hB := hb3.trans (HB.out.mono hb3.size)); go_simp; refine ⟨by simp, callsIn_wide.2 ((twin_in s c1 c2 c3 A1 A2 A3 W ((R1.out.below hB).more hB.size) ((R2.out.below hB).more hB.size) ((R3.out.below hB).more hB.size) (by omega) (by omega) (by omega)).mono ?_)⟩; rintro e w' ⟨v, rfl, hv, hb⟩; exact ⟨_, rfl, onM_below (y := ⟨v, W.heap.size, w'.heap.size⟩) rfl rfl rfl hb hv⟩
    | 2, _, ho => simp only [List.getElem?_toArray, List.getElem?_cons_succ, List.getElem?_cons_zero, Option.some.injEq] at ho; subst ho; go_simp; rw [outs_value]; exact onM_same (y := ⟨undef, W.heap.size, W.heap.size⟩) rfl rfl rfl (by simp; exact noF)
    | 3, _, ho => simp only [List.getElem?_toArray, List.getElem?_cons_succ, List.getElem?_cons_zero, Option.some.injEq] at ho; subst ho; (have hB := hb3.trans (HB.out.mono hb3.size)); go_simp; refine ⟨by simp, callsIn_wide.2 ((twin_in s c1 c2 c3 A1 A2 A3 W ((R1.out.below hB).more hB.size) ((R2.out.below hB).more hB.size) ((R3.out.below hB).more hB.size) (by omega) (by omega) (by omega)).mono ?_)⟩; rintro e w' ⟨v, rfl, hv, hb⟩; exact ⟨_, rfl, onM_below (y := ⟨v, W.heap.size, w'.heap.size⟩) rfl rfl rfl hb hv⟩
    | 4, _, ho => simp only [List.getElem?_toArray, List.getElem?_cons_succ, List.getElem?_cons_zero, Option.some.injEq] at ho; subst ho; go_simp; rw [outs_value]; exact onM_same (y := ⟨undef, W.heap.size, W.heap.size⟩) rfl rfl rfl (by simp; exact noF)
    | 5, _, ho => simp only [List.getElem?_toArray, List.getElem?_cons_succ, List.getElem?_cons_zero, Option.some.injEq] at ho; subst ho; (have hB := hb3.trans (HB.out.mono hb3.size)); go_simp; refine ⟨by simp, callsIn_wide.2 ((twin_in s c1 c2 c3 A1 A2 A3 W ((R1.out.below hB).more hB.size) ((R2.out.below hB).more hB.size) ((R3.out.below hB).more hB.size) (by omega) (by omega) (by omega)).mono ?_)⟩; rintro e w' ⟨v, rfl, hv, hb⟩; exact ⟨_, rfl, onM_below (y := ⟨v, W.heap.size, w'.heap.size⟩) rfl rfl rfl hb hv⟩
    | 6, _, ho => simp only [List.getElem?_toArray, List.getElem?_cons_succ, List.getElem?_cons_zero, Option.some.injEq] at ho; subst ho; go_simp; rw [outs_value]; exact onM_below (y := ⟨undef, W.heap.size, _⟩) rfl rfl rfl ((Below.refl _ _).alloc (Nat.le_refl _) _) ⟨heap_alloc_new _ _, by simp [upM]⟩
    | 7, _, ho => simp only [List.getElem?_toArray, List.getElem?_cons_succ, List.getElem?_cons_zero, Option.some.injEq] at ho; subst ho; go_simp; rw [outs_value]; exact onM_below (y := ⟨undef, W.heap.size, _⟩) rfl rfl rfl ((Below.refl _ _).alloc (Nat.le_refl _) _) ⟨heap_alloc_new _ _, by simp [upM]⟩
    | 8, _, ho => simp only [List.getElem?_toArray, List.getElem?_cons_succ, List.getElem?_cons_zero, Option.some.injEq] at ho; subst ho; go_simp; rw [outs_value]; exact onM_below (y := ⟨undef, W.heap.size, _⟩) rfl rfl rfl ((Below.refl _ _).alloc (Nat.le_refl _) _) ⟨heap_alloc_new _ _, by simp [upM]⟩
    | 9, _, ho => simp only [List.getElem?_toArray, List.getElem?_cons_succ, List.getElem?_cons_zero, Option.some.injEq] at ho; subst ho; (have la := hdep { on := 6, ground := Ground.data } (by simp) rfl); (have lc := hdep { on := 1, ground := Ground.data } (by simp) rfl); (have fa : W.heap[(x 6).lo]? = _ ∧ (x 6).lo < (x 6).hi := HFA.out 6 (by omega) la (fun k hk => by simp at hk; rw [← hk]; exact hL)); (have fc : TwF s (x 1).v (x 1).lo (x 1).hi W := HFA.out 1 (by omega) lc (fun k hk => by simp at hk)); obtain ⟨p, hv, htw⟩ := fc; obtain ⟨ga, hga⟩ : ∃ g, (x 6).lo = g := ⟨_, rfl⟩; obtain ⟨hga1, hga2⟩ := fa; rw [hga] at hga1; (have z0 := cell_of_row W ga 0 _ _ _ hga1); (have z1 := cell_of_row W ga 1 _ _ _ hga1); (have z2 := cell_of_row W ga 2 _ _ _ hga1); (have z3 := cell_of_row W ga 3 _ _ _ hga1); (have u0 := frozen_of_row W ga 0 _ _ hga1); (have u1 := frozen_of_row W ga 1 _ _ hga1); (have u2 := frozen_of_row W ga 2 _ _ hga1); (have u3 := frozen_of_row W ga 3 _ _ hga1); simp only [List.getElem?_toArray, List.getElem?_cons_zero, List.getElem?_cons_succ] at z0 z1 z2 z3; (have HG := Lib.hid hga1); (have HGA := Lib.hid hga); (have HV := Lib.hid hv); clear hga1 hv htw; rw [hga, HV.out]; unfold twV; clear hga; go_simp; rw [outs_skip]; exact onM_write (by decide) HGA.out hga2 rfl ⟨rfl, rfl, rfl⟩ (by simp) (fun b hb => heap_set4_ne hb) ⟨_, HV.out, (show (_ : World).heap[(x 6).lo]? = _ from (by rw [HGA.out]; exact heap_set4 HG.out)), hga2⟩
    | 10, _, ho => simp only [List.getElem?_toArray, List.getElem?_cons_succ, List.getElem?_cons_zero, Option.some.injEq] at ho; subst ho; (have la := hdep { on := 7, ground := Ground.data } (by simp) rfl); (have lc := hdep { on := 3, ground := Ground.data } (by simp) rfl); (have fa : W.heap[(x 7).lo]? = _ ∧ (x 7).lo < (x 7).hi := HFA.out 7 (by omega) la (fun k hk => by simp at hk; rw [← hk]; exact hL)); (have fc : TwF s (x 3).v (x 3).lo (x 3).hi W := HFA.out 3 (by omega) lc (fun k hk => by simp at hk)); obtain ⟨p, hv, htw⟩ := fc; obtain ⟨ga, hga⟩ : ∃ g, (x 7).lo = g := ⟨_, rfl⟩; obtain ⟨hga1, hga2⟩ := fa; rw [hga] at hga1; (have z0 := cell_of_row W ga 0 _ _ _ hga1); (have z1 := cell_of_row W ga 1 _ _ _ hga1); (have z2 := cell_of_row W ga 2 _ _ _ hga1); (have z3 := cell_of_row W ga 3 _ _ _ hga1); (have u0 := frozen_of_row W ga 0 _ _ hga1); (have u1 := frozen_of_row W ga 1 _ _ hga1); (have u2 := frozen_of_row W ga 2 _ _ hga1); (have u3 := frozen_of_row W ga 3 _ _ hga1); simp only [List.getElem?_toArray, List.getElem?_cons_zero, List.getElem?_cons_succ] at z0 z1 z2 z3; (have HG := Lib.hid hga1); (have HGA := Lib.hid hga); (have HV := Lib.hid hv); clear hga1 hv htw; rw [hga, HV.out]; unfold twV; clear hga; go_simp; rw [outs_skip]; exact onM_write (by decide) HGA.out hga2 rfl ⟨rfl, rfl, rfl⟩ (by simp) (fun b hb => heap_set4_ne hb) ⟨_, HV.out, (show (_ : World).heap[(x 7).lo]? = _ from (by rw [HGA.out]; exact heap_set4 HG.out)), hga2⟩
    | 11, _, ho => simp only [List.getElem?_toArray, List.getElem?_cons_succ, List.getElem?_cons_zero, Option.some.injEq] at ho; subst ho; (have la := hdep { on := 8, ground := Ground.data } (by simp) rfl); (have lc := hdep { on := 5, ground := Ground.data } (by simp) rfl); (have fa : W.heap[(x 8).lo]? = _ ∧ (x 8).lo < (x 8).hi := HFA.out 8 (by omega) la (fun k hk => by simp at hk; rw [← hk]; exact hL)); (have fc : TwF s (x 5).v (x 5).lo (x 5).hi W := HFA.out 5 (by omega) lc (fun k hk => by simp at hk)); obtain ⟨p, hv, htw⟩ := fc; obtain ⟨ga, hga⟩ : ∃ g, (x 8).lo = g := ⟨_, rfl⟩; obtain ⟨hga1, hga2⟩ := fa; rw [hga] at hga1; (have z0 := cell_of_row W ga 0 _ _ _ hga1); (have z1 := cell_of_row W ga 1 _ _ _ hga1); (have z2 := cell_of_row W ga 2 _ _ _ hga1); (have z3 := cell_of_row W ga 3 _ _ _ hga1); (have u0 := frozen_of_row W ga 0 _ _ hga1); (have u1 := frozen_of_row W ga 1 _ _ hga1); (have u2 := frozen_of_row W ga 2 _ _ hga1); (have u3 := frozen_of_row W ga 3 _ _ hga1); simp only [List.getElem?_toArray, List.getElem?_cons_zero, List.getElem?_cons_succ] at z0 z1 z2 z3; (have HG := Lib.hid hga1); (have HGA := Lib.hid hga); (have HV := Lib.hid hv); clear hga1 hv htw; rw [hga, HV.out]; unfold twV; clear hga; go_simp; rw [outs_skip]; exact onM_write (by decide) HGA.out hga2 rfl ⟨rfl, rfl, rfl⟩ (by simp) (fun b hb => heap_set4_ne hb) ⟨_, HV.out, (show (_ : World).heap[(x 8).lo]? = _ from (by rw [HGA.out]; exact heap_set4 HG.out)), hga2⟩
    | k + 12, hk, _ => omega
  case htail =>
    intro x W hbW hfW hbd hdj
    replace HS := Lib.hid (row_keep HS.out hbW)
    replace Ygv := Lib.hid (row_keep Ygv.out hbW)
    replace hb3 := below_keep hb3 hb3.size hbW
    have hzv := (Array.getElem?_eq_some_iff.1 Ygv.out).1
    have bs := hb3.size
    obtain ⟨cs1, e1, r1, l1⟩ : ∃ cs, (x 1).v = .agg cs ∧ W.heap[(x 6).lo]? = some (.cells cs 26 (0, 0)) ∧ (x 6).lo < (x 6).hi := hfW 9 (by omega) rfl
    obtain ⟨⟨B11, B12, B13, d11, d12, d13, b12, b13⟩, hv1, T1⟩ : TwF s (x 1).v (x 1).lo (x 1).hi W := hfW 1 (by omega) rfl
    rw [hv1] at e1
    injection e1 with e1
    subst e1
    obtain ⟨cs2, e2, r2, l2⟩ : ∃ cs, (x 3).v = .agg cs ∧ W.heap[(x 7).lo]? = some (.cells cs 26 (0, 0)) ∧ (x 7).lo < (x 7).hi := hfW 10 (by omega) rfl
    obtain ⟨⟨B21, B22, B23, d21, d22, d23, b22, b23⟩, hv2, T2⟩ : TwF s (x 3).v (x 3).lo (x 3).hi W := hfW 3 (by omega) rfl
    rw [hv2] at e2
    injection e2 with e2
    subst e2
    obtain ⟨cs3, e3, r3, l3⟩ : ∃ cs, (x 5).v = .agg cs ∧ W.heap[(x 8).lo]? = some (.cells cs 26 (0, 0)) ∧ (x 8).lo < (x 8).hi := hfW 11 (by omega) rfl
    obtain ⟨⟨B31, B32, B33, d31, d32, d33, b32, b33⟩, hv3, T3⟩ : TwF s (x 5).v (x 5).lo (x 5).hi W := hfW 5 (by omega) rfl
    rw [hv3] at e3
    injection e3 with e3
    subst e3
    have hd0 := hbd
    have bd1 := hbd 1 (by omega)
    have bd3 := hbd 3 (by omega)
    have bd5 := hbd 5 (by omega)
    have bd6 := hbd 6 (by omega)
    have bd7 := hbd 7 (by omega)
    have bd8 := hbd 8 (by omega)
    have dj13 := hdj 1 3 (by omega) (by omega) (by omega)
    have dj15 := hdj 1 5 (by omega) (by omega) (by omega)
    have dj35 := hdj 3 5 (by omega) (by omega) (by omega)
    have dj16 := hdj 1 6 (by omega) (by omega) (by omega)
    have dj17 := hdj 1 7 (by omega) (by omega) (by omega)
    have dj18 := hdj 1 8 (by omega) (by omega) (by omega)
    have dj36 := hdj 3 6 (by omega) (by omega) (by omega)
    have dj37 := hdj 3 7 (by omega) (by omega) (by omega)
    have dj38 := hdj 3 8 (by omega) (by omega) (by omega)
    have dj56 := hdj 5 6 (by omega) (by omega) (by omega)
    have dj57 := hdj 5 7 (by omega) (by omega) (by omega)
    have dj58 := hdj 5 8 (by omega) (by omega) (by omega)
    have dj67 := hdj 6 7 (by omega) (by omega) (by omega)
    have dj68 := hdj 6 8 (by omega) (by omega) (by omega)
    have dj78 := hdj 7 8 (by omega) (by omega) (by omega)
    clear hfW hbd hdj hd0 hv1 hv2 hv3 hbW
    obtain ⟨q1, hq⟩ : ∃ n, (x 1).lo = n := ⟨_, rfl⟩
    rw [hq] at T1 bd1 dj13 dj15 dj16 dj17 dj18
    clear hq
    obtain ⟨h1, hq⟩ : ∃ n, (x 1).hi = n := ⟨_, rfl⟩
    rw [hq] at T1 bd1 dj13 dj15 dj16 dj17 dj18
    clear hq
    obtain ⟨q2, hq⟩ : ∃ n, (x 3).lo = n := ⟨_, rfl⟩
    rw [hq] at T2 bd3 dj13 dj35 dj36 dj37 dj38
    clear hq
    obtain ⟨h2, hq⟩ : ∃ n, (x 3).hi = n := ⟨_, rfl⟩
    rw [hq] at T2 bd3 dj13 dj35 dj36 dj37 dj38
    clear hq
    obtain ⟨q3, hq⟩ : ∃ n, (x 5).lo = n := ⟨_, rfl⟩
    rw [hq] at T3 bd5 dj15 dj35 dj56 dj57 dj58
    clear hq
    obtain ⟨h3, hq⟩ : ∃ n, (x 5).hi = n := ⟨_, rfl⟩
    rw [hq] at T3 bd5 dj15 dj35 dj56 dj57 dj58
    clear hq
    obtain ⟨ga, hqga⟩ : ∃ n, (x 6).lo = n := ⟨_, rfl⟩
    rw [hqga] at r1 l1 bd6 dj16 dj36 dj56 dj67 dj68
    obtain ⟨gb, hqgb⟩ : ∃ n, (x 7).lo = n := ⟨_, rfl⟩
    rw [hqgb] at r2 l2 bd7 dj17 dj37 dj57 dj67 dj78
    obtain ⟨gc, hqgc⟩ : ∃ n, (x 8).lo = n := ⟨_, rfl⟩
    rw [hqgc] at r3 l3 bd8 dj18 dj38 dj58 dj68 dj78
    rw [hqga, hqgb, hqgc]
    clear hqga hqgb hqgc
    have DJ := Lib.hid (show (h1 ≤ q2 ∨ h2 ≤ q1) ∧ (h1 ≤ q3 ∨ h3 ≤ q1) ∧ (h2 ≤ q3 ∨ h3 ≤ q2) ∧ (ga < q1 ∨ h1 ≤ ga) ∧ (gb < q1 ∨ h1 ≤ gb) ∧ (gc < q1 ∨ h1 ≤ gc) ∧ (ga < q2 ∨ h2 ≤ ga) ∧ (gb < q2 ∨ h2 ≤ gb) ∧ (gc < q2 ∨ h2 ≤ gc) ∧ (ga < q3 ∨ h3 ≤ ga) ∧ (gb < q3 ∨ h3 ≤ gb) ∧ (gc < q3 ∨ h3 ≤ gc) ∧
      w.heap.size < q1 ∧ gv < q1 ∧ w.heap.size < q2 ∧ gv < q2 ∧ w.heap.size < q3 ∧ gv < q3 ∧ q1 ≤ h1 ∧ q2 ≤ h2 ∧ q3 ≤ h3 from by have := HWS.out; have := HGV.out; omega)
    replace T1 : Hid (TwZ s.shots.length s.marks.length s.threads.length s.shots s.marks s.threads ⟨B11, B12, B13, d11, d12, d13, b12, b13⟩ q1 h1 W) := Lib.hid ⟨T1, by omega⟩
    replace T2 : Hid (TwZ s.shots.length s.marks.length s.threads.length s.shots s.marks s.threads ⟨B21, B22, B23, d21, d22, d23, b22, b23⟩ q2 h2 W) := Lib.hid ⟨T2, by omega⟩
    replace T3 : Hid (TwZ s.shots.length s.marks.length s.threads.length s.shots s.marks s.threads ⟨B31, B32, B33, d31, d32, d33, b32, b33⟩ q3 h3 W) := Lib.hid ⟨T3, by omega⟩
    dsimp only at r1 r2 r3
    have GA := Lib.hid r1
    have GB := Lib.hid r2
    have GC := Lib.hid r3
    clear r1 r2 r3 l1 l2 l3 bs hzv HWS HGV bd1 bd3 bd5 bd6 bd7 bd8 dj13 dj15 dj35 dj16 dj17 dj18 dj36 dj37 dj38 dj56 dj57 dj58 dj67 dj68 dj78
    simp only [List.drop_succ_cons, List.drop_zero]
    gi_wp2_with fail
    obtain ⟨bt, ot, hA3, hbt, hct⟩ := ((R3.out.below hb3).more hb3.size) (by omega)
    subst hA3
    have e0 := hct k _ HX.out 0 _ rfl
    have e1 := hct k _ HX.out 1 _ rfl
    have e2 := hct k _ HX.out 2 _ rfl
    have e3 := hct k _ HX.out 3 _ rfl
    simp only [Nat.add_zero] at e0 e1 e2 e3
    have s3 : W.cell? ⟨w.heap.size, 3, none⟩ = some (.slice (some ⟨bt, ot, none⟩) s.threads.length c3) := cell_of_row W _ 3 _ _ _ HS.out
    have hkI : (k : Int) < (s.threads.length : Int) := by omega
    clear hct hbt
    go_upto_region 12 with fail
    obtain ⟨v8, hw⟩ : ∃ v, W.alloc (Obj.cells #[.int .i64 f, .int .i64 t, .int .i64 lo, .int .i64 hi] 72) = v := ⟨_, rfl⟩
    obtain ⟨gx, hbk⟩ : ∃ b, W.heap.size = b := ⟨_, rfl⟩
    rw [hw, hbk]
    have hK : Below W.heap.size W v8 := by rw [← hw]; exact (Below.refl _ _).alloc (Nat.le_refl _) _
    have Ya : v8.heap[gx]? = some (.cells #[.int .i64 f, .int .i64 t, .int .i64 lo, .int .i64 hi] 72 (0, 0)) := by rw [← hw, ← hbk]; exact heap_alloc_new _ _
    have YX := Lib.hid Ya
    have hxo := Lib.hid (show h1 ≤ gx ∧ h2 ≤ gx ∧ h3 ≤ gx from by have := T1.out.2; have := T2.out.2; have := T3.out.2; omega)
    replace HS := Lib.hid (row_keep HS.out hK)
    replace Ygv := Lib.hid (row_keep Ygv.out hK)
    replace GA := Lib.hid (row_keep GA.out hK)
    replace GB := Lib.hid (row_keep GB.out hK)
    replace GC := Lib.hid (row_keep GC.out hK)
    replace T1 := Lib.hid (T1.out.grow hK)
    replace T2 := Lib.hid (T2.out.grow hK)
    replace T3 := Lib.hid (T3.out.grow hK)
    replace hb3 := below_keep hb3 hb3.size hK
    clear hw hbk hK Ya e0 e1 e2 e3 s3
    obtain ⟨g1, hg, lg1, ug1⟩ := T1.out.1.2.2.1.at_ (by omega)
    dsimp only at hg lg1
    subst hg
    obtain ⟨g2, hg, lg2, ug2⟩ := T2.out.1.2.2.1.at_ (by omega)
    dsimp only at hg lg2
    subst hg
    obtain ⟨g3, hg, lg3, ug3⟩ := T3.out.1.2.2.1.at_ (by omega)
    dsimp only at hg lg3
    subst hg
    have hxs := Lib.hid (show (w.heap.size ≠ g1 ∧ gv ≠ g1 ∧ ga ≠ g1 ∧ gb ≠ g1 ∧ gc ≠ g1 ∧ gx ≠ g1) ∧ (w.heap.size ≠ g2 ∧ gv ≠ g2 ∧ ga ≠ g2 ∧ gb ≠ g2 ∧ gc ≠ g2 ∧ gx ≠ g2) ∧ (w.heap.size ≠ g3 ∧ gv ≠ g3 ∧ ga ≠ g3 ∧ gb ≠ g3 ∧ gc ≠ g3 ∧ gx ≠ g3) ∧ ((g2 < q1 ∨ h1 ≤ g2) ∧ (g3 < q1 ∨ h1 ≤ g3) ∧ (g1 < q2 ∨ h2 ≤ g1) ∧ (g3 < q2 ∨ h2 ≤ g3) ∧ (g1 < q3 ∨ h3 ≤ g1) ∧ (g2 < q3 ∨ h3 ≤ g2)) ∧ (w.heap.size < g1 ∧ w.heap.size < g2 ∧ w.heap.size < g3) from by
      have t1 := T1.out.1.2.2.2
      have t2 := T2.out.1.2.2.2
      have t3 := T3.out.1.2.2.2
      dsimp only at t1 t2 t3
      have := DJ.out
      have := hxo.out
      omega)
    clear lg1 lg2 lg3 ug1 ug2 ug3 hxo
    have m3 : v8.cell? ⟨gb, 3, none⟩ = some (.slice (some ⟨g2, 0, none⟩) s.threads.length d23) := cell_of_row v8 _ 3 _ _ _ GB.out
    have x2 : v8.cell? ⟨gx, 2, none⟩ = some (.int .i64 lo) := cell_of_row v8 _ 2 _ _ _ YX.out
    have x3 : v8.cell? ⟨gx, 3, none⟩ = some (.int .i64 hi) := cell_of_row v8 _ 3 _ _ _ YX.out
    have o2 : v8.cell? ⟨g2, k * 4 + 2, none⟩ = some (.int .i64 lo) := own_cell T2.out.1.2.2.1.1 shV_len HX.out (j := 2) rfl
    obtain ⟨cur, hrow⟩ := own_row T2.out.1.2.2.1.1
    have f2 := frozen_of_row v8 g2 (k * 4 + 2) _ _ hrow
    have lb := (Array.getElem?_eq_some_iff.1 GB.out).1
    have lx := (Array.getElem?_eq_some_iff.1 YX.out).1
    have l2 := (Array.getElem?_eq_some_iff.1 hrow).1
    have whl : IntKind.i64.wrap (hi - lo) = (D : Int) := by have := HD.out; rw [IntWalk.i64_in _ (by omega)]; exact this
    have wlp : IntKind.i64.wrap (lo + pp) = lo + pp := IntWalk.i64_in _ (by have := HD.out; omega)
    have HPT : Hid (∀ W', Below v8.heap.size v8 W' → Calls Try.prog 38 #[.int .i64 (D : Int), .slice AL l.length cl, .int .i64 0] W' fun e w' => e = .returned (.int .i64 pp) ∧ W' = w') := Lib.hid (fun W' hW => by
      have hB := hb3.trans (hW.mono hb3.size)
      rw [← HPP.out]
      exact part_any D l 0 cl AL W' ((RL.out.below hB).more hB.size) hll (by omega) (by have := HD.out; omega))
    clear hrow
    go_upto_region 12 with fail
    refine wp_region_calm_tail 20 (by kernel_rfl) (by decide +kernel) (by omega) ?_
    (simp only [List.take_succ_cons, List.take_zero, List.drop_succ_cons, List.drop_zero])
    repeat (go_big_quiet_step ((go_at_call 38; exact calm_same (HPT.out _ (wx_below _ _)))))
    refine wpQuiet_nil ?_
    rintro _ ⟨dx, rfl⟩
    obtain ⟨wy, hwy⟩ : ∃ wy, wx _ dx = wy := ⟨_, rfl⟩; have hby := wx_below _ dx; rw [hwy] at hby ⊢
    have hK := hby
    replace HS := Lib.hid (row_keep HS.out hK)
    replace Ygv := Lib.hid (row_keep Ygv.out hK)
    replace GA := Lib.hid (row_keep GA.out hK)
    replace GB := Lib.hid (row_keep GB.out hK)
    replace GC := Lib.hid (row_keep GC.out hK)
    replace YX := Lib.hid (row_keep YX.out hK)
    replace T1 := Lib.hid (T1.out.grow hK)
    replace T2 := Lib.hid (T2.out.grow hK)
    replace T3 := Lib.hid (T3.out.grow hK)
    replace hb3 := below_keep hb3 hb3.size hK
    clear m3 x2 x3 o2 f2 cur lb lx l2 whl HPT hwy hby hK
    have o2 : wy.cell? ⟨g2, k * 4 + 2, none⟩ = some (.int .i64 lo) := own_cell T2.out.1.2.2.1.1 shV_len HX.out (j := 2) rfl
    obtain ⟨cur, hrow⟩ := own_row T2.out.1.2.2.1.1
    have f2 := frozen_of_row wy g2 (k * 4 + 2) _ _ hrow
    clear hrow
    gi_wp2_with fail
    obtain ⟨v9, hw⟩ : ∃ v, (wy.setCell ⟨g2, k * 4 + 2, none⟩ (.int .i64 (lo + pp))) = v := ⟨_, rfl⟩
    rw [hw]
    obtain ⟨⟨n11, n12, n13, n14, n15, n16⟩, ⟨n21, n22, n23, n24, n25, n26⟩, ⟨n31, n32, n33, n34, n35, n36⟩, ⟨u21, u31, u12, u32, u13, u23⟩, w1l, w2l, w3l⟩ := hxs.out
    have H0 := (row_other HS.out (a := ⟨g2, k * 4 + 2, none⟩) n21 (.int .i64 (lo + pp)))
    rw [hw] at H0
    replace HS := Lib.hid H0
    clear H0
    have H0 := (row_other Ygv.out (a := ⟨g2, k * 4 + 2, none⟩) n22 (.int .i64 (lo + pp)))
    rw [hw] at H0
    replace Ygv := Lib.hid H0
    clear H0
    have H0 := (row_other GA.out (a := ⟨g2, k * 4 + 2, none⟩) n23 (.int .i64 (lo + pp)))
    rw [hw] at H0
    replace GA := Lib.hid H0
    clear H0
    have H0 := (row_other GB.out (a := ⟨g2, k * 4 + 2, none⟩) n24 (.int .i64 (lo + pp)))
    rw [hw] at H0
    replace GB := Lib.hid H0
    clear H0
    have H0 := (row_other GC.out (a := ⟨g2, k * 4 + 2, none⟩) n25 (.int .i64 (lo + pp)))
    rw [hw] at H0
    replace GC := Lib.hid H0
    clear H0
    have H0 := (row_other YX.out (a := ⟨g2, k * 4 + 2, none⟩) n26 (.int .i64 (lo + pp)))
    rw [hw] at H0
    replace YX := Lib.hid H0
    clear H0
    have H0 := (TwZ.other T1.out (a := ⟨g2, k * 4 + 2, none⟩) u21 (.int .i64 (lo + pp)))
    rw [hw] at H0
    replace T1 := Lib.hid H0
    clear H0
    have H0 := (T2.out.put3 HX.out (j := 2) (by omega) (y := ⟨f, t, lo + pp, hi⟩) (u := .int .i64 (lo + pp)) rfl)
    rw [hw] at H0
    replace T2 := Lib.hid H0
    clear H0
    have H0 := (TwZ.other T3.out (a := ⟨g2, k * 4 + 2, none⟩) u23 (.int .i64 (lo + pp)))
    rw [hw] at H0
    replace T3 := Lib.hid H0
    clear H0
    have H0 := (Below.setCell hb3 (p := ⟨g2, k * 4 + 2, none⟩) (Nat.le_of_lt w2l) (.int .i64 (lo + pp)))
    rw [hw] at H0
    replace hb3 := H0
    clear H0 hw n11 n12 n13 n14 n15 n16 n21 n22 n23 n24 n25 n26 n31 n32 n33 n34 n35 n36 u21 u31 u12 u32 u13 u23 w1l w2l w3l
    clear o2 f2 cur wlp
    have m3 : v9.cell? ⟨gc, 3, none⟩ = some (.slice (some ⟨g3, 0, none⟩) s.threads.length d33) := cell_of_row v9 _ 3 _ _ _ GC.out
    have x0 : v9.cell? ⟨gx, 0, none⟩ = some (.int .i64 (f)) := cell_of_row v9 _ 0 _ _ _ YX.out
    have x1 : v9.cell? ⟨gx, 1, none⟩ = some (.int .i64 (t)) := cell_of_row v9 _ 1 _ _ _ YX.out
    have x2 : v9.cell? ⟨gx, 2, none⟩ = some (.int .i64 (lo)) := cell_of_row v9 _ 2 _ _ _ YX.out
    have x3 : v9.cell? ⟨gx, 3, none⟩ = some (.int .i64 (hi)) := cell_of_row v9 _ 3 _ _ _ YX.out
    have o0 : v9.cell? ⟨g3, k * 4, none⟩ = some (.int .i64 (f)) := own_cell T3.out.1.2.2.1.1 shV_len HX.out (j := 0) rfl
    have o1 : v9.cell? ⟨g3, k * 4 + 1, none⟩ = some (.int .i64 (t)) := own_cell T3.out.1.2.2.1.1 shV_len HX.out (j := 1) rfl
    have o2 : v9.cell? ⟨g3, k * 4 + 2, none⟩ = some (.int .i64 (lo)) := own_cell T3.out.1.2.2.1.1 shV_len HX.out (j := 2) rfl
    have o3 : v9.cell? ⟨g3, k * 4 + 3, none⟩ = some (.int .i64 (hi)) := own_cell T3.out.1.2.2.1.1 shV_len HX.out (j := 3) rfl
    obtain ⟨cur, hrow⟩ := own_row T3.out.1.2.2.1.1
    have f0 := frozen_of_row v9 g3 (k * 4) _ _ hrow
    have f1 := frozen_of_row v9 g3 (k * 4 + 1) _ _ hrow
    have f2 := frozen_of_row v9 g3 (k * 4 + 2) _ _ hrow
    have f3 := frozen_of_row v9 g3 (k * 4 + 3) _ _ hrow
    clear hrow
    go_upto_region 14 with fail
    obtain ⟨v10, hw⟩ : ∃ v, ((((v9.setCell ⟨g3, k * 4, none⟩ (.int .i64 (t))).setCell ⟨g3, k * 4 + 1, none⟩ (.int .i64 (f))).setCell ⟨g3, k * 4 + 2, none⟩ (.int .i64 (lo))).setCell ⟨g3, k * 4 + 3, none⟩ (.int .i64 (hi))) = v := ⟨_, rfl⟩
    rw [hw]
    obtain ⟨⟨n11, n12, n13, n14, n15, n16⟩, ⟨n21, n22, n23, n24, n25, n26⟩, ⟨n31, n32, n33, n34, n35, n36⟩, ⟨u21, u31, u12, u32, u13, u23⟩, w1l, w2l, w3l⟩ := hxs.out
    have H0 := (row_other (row_other (row_other (row_other HS.out (a := ⟨g3, k * 4, none⟩) n31 (.int .i64 (t))) (a := ⟨g3, k * 4 + 1, none⟩) n31 (.int .i64 (f))) (a := ⟨g3, k * 4 + 2, none⟩) n31 (.int .i64 (lo))) (a := ⟨g3, k * 4 + 3, none⟩) n31 (.int .i64 (hi)))
    rw [hw] at H0
    replace HS := Lib.hid H0
    clear H0
    have H0 := (row_other (row_other (row_other (row_other Ygv.out (a := ⟨g3, k * 4, none⟩) n32 (.int .i64 (t))) (a := ⟨g3, k * 4 + 1, none⟩) n32 (.int .i64 (f))) (a := ⟨g3, k * 4 + 2, none⟩) n32 (.int .i64 (lo))) (a := ⟨g3, k * 4 + 3, none⟩) n32 (.int .i64 (hi)))
    rw [hw] at H0
    replace Ygv := Lib.hid H0
    clear H0
    have H0 := (row_other (row_other (row_other (row_other GA.out (a := ⟨g3, k * 4, none⟩) n33 (.int .i64 (t))) (a := ⟨g3, k * 4 + 1, none⟩) n33 (.int .i64 (f))) (a := ⟨g3, k * 4 + 2, none⟩) n33 (.int .i64 (lo))) (a := ⟨g3, k * 4 + 3, none⟩) n33 (.int .i64 (hi)))
    rw [hw] at H0
    replace GA := Lib.hid H0
    clear H0
    have H0 := (row_other (row_other (row_other (row_other GB.out (a := ⟨g3, k * 4, none⟩) n34 (.int .i64 (t))) (a := ⟨g3, k * 4 + 1, none⟩) n34 (.int .i64 (f))) (a := ⟨g3, k * 4 + 2, none⟩) n34 (.int .i64 (lo))) (a := ⟨g3, k * 4 + 3, none⟩) n34 (.int .i64 (hi)))
    rw [hw] at H0
    replace GB := Lib.hid H0
    clear H0
    have H0 := (row_other (row_other (row_other (row_other GC.out (a := ⟨g3, k * 4, none⟩) n35 (.int .i64 (t))) (a := ⟨g3, k * 4 + 1, none⟩) n35 (.int .i64 (f))) (a := ⟨g3, k * 4 + 2, none⟩) n35 (.int .i64 (lo))) (a := ⟨g3, k * 4 + 3, none⟩) n35 (.int .i64 (hi)))
    rw [hw] at H0
    replace GC := Lib.hid H0
    clear H0
    have H0 := (row_other (row_other (row_other (row_other YX.out (a := ⟨g3, k * 4, none⟩) n36 (.int .i64 (t))) (a := ⟨g3, k * 4 + 1, none⟩) n36 (.int .i64 (f))) (a := ⟨g3, k * 4 + 2, none⟩) n36 (.int .i64 (lo))) (a := ⟨g3, k * 4 + 3, none⟩) n36 (.int .i64 (hi)))
    rw [hw] at H0
    replace YX := Lib.hid H0
    clear H0
    have H0 := (TwZ.other (TwZ.other (TwZ.other (TwZ.other T1.out (a := ⟨g3, k * 4, none⟩) u31 (.int .i64 (t))) (a := ⟨g3, k * 4 + 1, none⟩) u31 (.int .i64 (f))) (a := ⟨g3, k * 4 + 2, none⟩) u31 (.int .i64 (lo))) (a := ⟨g3, k * 4 + 3, none⟩) u31 (.int .i64 (hi)))
    rw [hw] at H0
    replace T1 := Lib.hid H0
    clear H0
    have H0 := (TwZ.other (TwZ.other (TwZ.other (TwZ.other T2.out (a := ⟨g3, k * 4, none⟩) u32 (.int .i64 (t))) (a := ⟨g3, k * 4 + 1, none⟩) u32 (.int .i64 (f))) (a := ⟨g3, k * 4 + 2, none⟩) u32 (.int .i64 (lo))) (a := ⟨g3, k * 4 + 3, none⟩) u32 (.int .i64 (hi)))
    rw [hw] at H0
    replace T2 := Lib.hid H0
    clear H0
    have H0 := (T3.out.put3_all HX.out t f lo hi)
    rw [hw] at H0
    replace T3 := Lib.hid H0
    clear H0
    have H0 := (Below.setCell (Below.setCell (Below.setCell (Below.setCell hb3 (p := ⟨g3, k * 4, none⟩) (Nat.le_of_lt w3l) (.int .i64 (t))) (p := ⟨g3, k * 4 + 1, none⟩) (Nat.le_of_lt w3l) (.int .i64 (f))) (p := ⟨g3, k * 4 + 2, none⟩) (Nat.le_of_lt w3l) (.int .i64 (lo))) (p := ⟨g3, k * 4 + 3, none⟩) (Nat.le_of_lt w3l) (.int .i64 (hi)))
    rw [hw] at H0
    replace hb3 := H0
    clear H0 hw n11 n12 n13 n14 n15 n16 n21 n22 n23 n24 n25 n26 n31 n32 n33 n34 n35 n36 u21 u31 u12 u32 u13 u23 w1l w2l w3l
    clear m3 x0 x1 x2 x3 o0 o1 o2 o3 f0 f1 f2 f3 cur
    have m0 : v10.cell? ⟨gb, 0, none⟩ = some (.int .i64 (s.n)) := cell_of_row v10 _ 0 _ _ _ GB.out
    have m1 : v10.cell? ⟨gb, 1, none⟩ = some (.slice B21 s.shots.length d21) := cell_of_row v10 _ 1 _ _ _ GB.out
    have m2 : v10.cell? ⟨gb, 2, none⟩ = some (.slice B22 s.marks.length d22) := cell_of_row v10 _ 2 _ _ _ GB.out
    have m3 : v10.cell? ⟨gb, 3, none⟩ = some (.slice (some ⟨g2, 0, none⟩) s.threads.length d23) := cell_of_row v10 _ 3 _ _ _ GB.out
    go_upto_region 15 with (go_at_call 31; refine (slope_set s k ⟨f, t, lo + pp, hi⟩ H2.out d21 d22 d23 B21 B22 (some ⟨g2, 0, none⟩) v10 (T2.out.1.r1 rfl) (T2.out.1.r2 rfl) (T2.out.1.r3 (by simp))).mono ?_; rintro e wb ⟨rfl, hbb⟩)
    obtain ⟨v11, hw⟩ : ∃ v, wb.alloc (Obj.cells #[.int .i64 a1, .int .i64 a2] 36) = v := ⟨_, rfl⟩
    obtain ⟨gs, hbk⟩ : ∃ b, wb.heap.size = b := ⟨_, rfl⟩
    rw [hw, hbk]
    have hK : Below v10.heap.size v10 v11 := by rw [← hw]; exact hbb.alloc hbb.size _
    have Ya : v11.heap[gs]? = some (.cells #[.int .i64 a1, .int .i64 a2] 36 (0, 0)) := by rw [← hw, ← hbk]; exact heap_alloc_new _ _
    have Ygs := Lib.hid Ya
    have YgsN := Lib.hid (show g1 < gs ∧ g2 < gs ∧ g3 < gs from by
      have a1 := (T1.out.1.2.2.1.1.lt g1 rfl).2
      have a2 := (T2.out.1.2.2.1.1.lt g2 rfl).2
      have a3 := (T3.out.1.2.2.1.1.lt g3 rfl).2
      have := hbb.size
      omega)
    replace HS := Lib.hid (row_keep HS.out hK)
    replace Ygv := Lib.hid (row_keep Ygv.out hK)
    replace GA := Lib.hid (row_keep GA.out hK)
    replace GB := Lib.hid (row_keep GB.out hK)
    replace GC := Lib.hid (row_keep GC.out hK)
    replace YX := Lib.hid (row_keep YX.out hK)
    replace T1 := Lib.hid (T1.out.grow hK)
    replace T2 := Lib.hid (T2.out.grow hK)
    replace T3 := Lib.hid (T3.out.grow hK)
    replace hb3 := below_keep hb3 hb3.size hK
    clear hw hbk hK Ya hbb m0 m1 m2 m3
    have m0 : v11.cell? ⟨gc, 0, none⟩ = some (.int .i64 (s.n)) := cell_of_row v11 _ 0 _ _ _ GC.out
    have m1 : v11.cell? ⟨gc, 1, none⟩ = some (.slice B31 s.shots.length d31) := cell_of_row v11 _ 1 _ _ _ GC.out
    have m2 : v11.cell? ⟨gc, 2, none⟩ = some (.slice B32 s.marks.length d32) := cell_of_row v11 _ 2 _ _ _ GC.out
    have m3 : v11.cell? ⟨gc, 3, none⟩ = some (.slice (some ⟨g3, 0, none⟩) s.threads.length d33) := cell_of_row v11 _ 3 _ _ _ GC.out
    go_upto_region 16 with (go_at_call 31; refine (slope_set s k ⟨t, f, lo, hi⟩ H3.out d31 d32 d33 B31 B32 (some ⟨g3, 0, none⟩) v11 (T3.out.1.r1 rfl) (T3.out.1.r2 rfl) (T3.out.1.r3 (by simp))).mono ?_; rintro e wb ⟨rfl, hbb⟩)
    obtain ⟨v12, hw⟩ : ∃ v, wb.alloc (Obj.cells #[.int .i64 (-v2), .int .i64 (-v1)] 36) = v := ⟨_, rfl⟩
    obtain ⟨gt, hbk⟩ : ∃ b, wb.heap.size = b := ⟨_, rfl⟩
    rw [hw, hbk]
    have hK : Below v11.heap.size v11 v12 := by rw [← hw]; exact hbb.alloc hbb.size _
    have Ya : v12.heap[gt]? = some (.cells #[.int .i64 (-v2), .int .i64 (-v1)] 36 (0, 0)) := by rw [← hw, ← hbk]; exact heap_alloc_new _ _
    have Ygt := Lib.hid Ya
    have YgtN := Lib.hid (show g1 < gt ∧ g2 < gt ∧ g3 < gt from by
      have a1 := (T1.out.1.2.2.1.1.lt g1 rfl).2
      have a2 := (T2.out.1.2.2.1.1.lt g2 rfl).2
      have a3 := (T3.out.1.2.2.1.1.lt g3 rfl).2
      have := hbb.size
      omega)
    replace HS := Lib.hid (row_keep HS.out hK)
    replace Ygv := Lib.hid (row_keep Ygv.out hK)
    replace GA := Lib.hid (row_keep GA.out hK)
    replace GB := Lib.hid (row_keep GB.out hK)
    replace GC := Lib.hid (row_keep GC.out hK)
    replace YX := Lib.hid (row_keep YX.out hK)
    replace Ygs := Lib.hid (row_keep Ygs.out hK)
    replace T1 := Lib.hid (T1.out.grow hK)
    replace T2 := Lib.hid (T2.out.grow hK)
    replace T3 := Lib.hid (T3.out.grow hK)
    replace hb3 := below_keep hb3 hb3.size hK
    clear hw hbk hK Ya hbb m0 m1 m2 m3
    have p0 : v12.cell? ⟨gs, 0, none⟩ = some (.int .i64 (a1)) := cell_of_row v12 _ 0 _ _ _ Ygs.out
    have p1 : v12.cell? ⟨gs, 1, none⟩ = some (.int .i64 (a2)) := cell_of_row v12 _ 1 _ _ _ Ygs.out
    have r0 : v12.cell? ⟨gv, 0, none⟩ = some (.int .i64 (v1)) := cell_of_row v12 _ 0 _ _ _ Ygv.out
    have r1 : v12.cell? ⟨gv, 1, none⟩ = some (.int .i64 (v2)) := cell_of_row v12 _ 1 _ _ _ Ygv.out
    have t0 : v12.cell? ⟨gt, 0, none⟩ = some (.int .i64 (-v2)) := cell_of_row v12 _ 0 _ _ _ Ygt.out
    have t1 : v12.cell? ⟨gt, 1, none⟩ = some (.int .i64 (-v1)) := cell_of_row v12 _ 1 _ _ _ Ygt.out
    have ls := (Array.getElem?_eq_some_iff.1 Ygs.out).1
    have lv := (Array.getElem?_eq_some_iff.1 Ygv.out).1
    have lt := (Array.getElem?_eq_some_iff.1 Ygt.out).1
    obtain ⟨F1, F2, F3, F4, F5, F6⟩ := F
    have c1' : ¬ a1 < v1 := by omega
    have c2' : ¬ v2 < a2 := by omega
    have wn1 : IntKind.i64.wrap (-v2) = -v2 := IntWalk.i64_in _ (by omega)
    have wn2 : IntKind.i64.wrap (-v1) = -v1 := IntWalk.i64_in _ (by omega)
    go_upto_region 16 with fail
    refine wp_region_calm (by kernel_rfl) (by kernel_rfl) ?_
    repeat (go_big_quiet_step ((first | (go_at_call 39; exact calm_of (span_any _ _ _)))))
    refine wpQuiet_nil ?_; rintro _ ⟨dx, rfl⟩
    obtain ⟨v13, hwy⟩ : ∃ v, wx _ dx = v := ⟨_, rfl⟩
    have hK := wx_below v12 dx
    rw [hwy] at hK ⊢
    replace HS := Lib.hid (row_keep HS.out hK)
    replace Ygv := Lib.hid (row_keep Ygv.out hK)
    replace GA := Lib.hid (row_keep GA.out hK)
    replace GB := Lib.hid (row_keep GB.out hK)
    replace GC := Lib.hid (row_keep GC.out hK)
    replace YX := Lib.hid (row_keep YX.out hK)
    replace Ygs := Lib.hid (row_keep Ygs.out hK)
    replace Ygt := Lib.hid (row_keep Ygt.out hK)
    replace T1 := Lib.hid (T1.out.grow hK)
    replace T2 := Lib.hid (T2.out.grow hK)
    replace T3 := Lib.hid (T3.out.grow hK)
    replace hb3 := below_keep hb3 hb3.size hK
    clear hwy hK p0 p1 r0 r1 t0 t1 ls lv lt c1' c2' wn1 wn2
    have x2 : v13.cell? ⟨gx, 2, none⟩ = some (.int .i64 (lo)) := cell_of_row v13 _ 2 _ _ _ YX.out
    have x3 : v13.cell? ⟨gx, 3, none⟩ = some (.int .i64 (hi)) := cell_of_row v13 _ 3 _ _ _ YX.out
    by_cases hle : 2 * hi ≤ 100000000
    · have hng : ¬ 100000000 < 2 * hi := by omega
      go_upto_region 20 with fail
      clear x2 x3 hng
      have m3 : v13.cell? ⟨ga, 3, none⟩ = some (.slice (some ⟨g1, 0, none⟩) s.threads.length d13) := cell_of_row v13 _ 3 _ _ _ GA.out
      have x2 : v13.cell? ⟨gx, 2, none⟩ = some (.int .i64 (lo)) := cell_of_row v13 _ 2 _ _ _ YX.out
      have x3 : v13.cell? ⟨gx, 3, none⟩ = some (.int .i64 (hi)) := cell_of_row v13 _ 3 _ _ _ YX.out
      have o2 : v13.cell? ⟨g1, k * 4 + 2, none⟩ = some (.int .i64 (lo)) := own_cell T1.out.1.2.2.1.1 shV_len HX.out (j := 2) rfl
      have o3 : v13.cell? ⟨g1, k * 4 + 3, none⟩ = some (.int .i64 (hi)) := own_cell T1.out.1.2.2.1.1 shV_len HX.out (j := 3) rfl
      obtain ⟨cur, hrow⟩ := own_row T1.out.1.2.2.1.1
      have f2 := frozen_of_row v13 g1 (k * 4 + 2) _ _ hrow
      have f3 := frozen_of_row v13 g1 (k * 4 + 3) _ _ hrow
      clear hrow
      have lb := (Array.getElem?_eq_some_iff.1 GA.out).1
      have lx := (Array.getElem?_eq_some_iff.1 YX.out).1
      have l1 := (T1.out.1.2.2.1.1.lt g1 rfl).2
      have wl1 : IntKind.i64.wrap (2 * lo) = 2 * lo := IntWalk.i64_in _ (by omega)
      have wl2 : IntKind.i64.wrap (2 * hi) = 2 * hi := IntWalk.i64_in _ (by omega)
      refine wp_region_calm_tail 14 (by kernel_rfl) (by decide +kernel) (by omega) ?_
      (simp only [List.take_succ_cons, List.take_zero, List.drop_succ_cons, List.drop_zero])
      repeat (go_big_quiet_step ((go_at_call 39; exact calm_of (span_any _ _ _))))
      refine wpQuiet_nil ?_
      rintro _ ⟨dx, rfl⟩
      obtain ⟨v14, hwy⟩ : ∃ v, wx _ dx = v := ⟨_, rfl⟩
      have hK := wx_below v13 dx
      rw [hwy] at hK ⊢
      replace HS := Lib.hid (row_keep HS.out hK)
      replace Ygv := Lib.hid (row_keep Ygv.out hK)
      replace GA := Lib.hid (row_keep GA.out hK)
      replace GB := Lib.hid (row_keep GB.out hK)
      replace GC := Lib.hid (row_keep GC.out hK)
      replace YX := Lib.hid (row_keep YX.out hK)
      replace Ygs := Lib.hid (row_keep Ygs.out hK)
      replace Ygt := Lib.hid (row_keep Ygt.out hK)
      replace T1 := Lib.hid (T1.out.grow hK)
      replace T2 := Lib.hid (T2.out.grow hK)
      replace T3 := Lib.hid (T3.out.grow hK)
      replace hb3 := below_keep hb3 hb3.size hK
      clear hwy hK m3 x2 x3 o2 o3 f2 f3 cur lb lx l1 wl1 wl2
      have o2 : v14.cell? ⟨g1, k * 4 + 2, none⟩ = some (.int .i64 (lo)) := own_cell T1.out.1.2.2.1.1 shV_len HX.out (j := 2) rfl
      have o3 : v14.cell? ⟨g1, k * 4 + 3, none⟩ = some (.int .i64 (hi)) := own_cell T1.out.1.2.2.1.1 shV_len HX.out (j := 3) rfl
      obtain ⟨cur, hrow⟩ := own_row T1.out.1.2.2.1.1
      have f2 := frozen_of_row v14 g1 (k * 4 + 2) _ _ hrow
      have f3 := frozen_of_row v14 g1 (k * 4 + 3) _ _ hrow
      clear hrow
      gi_wp2_with fail
      obtain ⟨v15, hw⟩ : ∃ v, ((v14.setCell ⟨g1, k * 4 + 2, none⟩ (.int .i64 (2 * lo))).setCell ⟨g1, k * 4 + 3, none⟩ (.int .i64 (2 * hi))) = v := ⟨_, rfl⟩
      rw [hw]
      obtain ⟨⟨n11, n12, n13, n14, n15, n16⟩, ⟨n21, n22, n23, n24, n25, n26⟩, ⟨n31, n32, n33, n34, n35, n36⟩, ⟨u21, u31, u12, u32, u13, u23⟩, w1l, w2l, w3l⟩ := hxs.out
      have H0 := (row_other (row_other HS.out (a := ⟨g1, k * 4 + 2, none⟩) n11 (.int .i64 (2 * lo))) (a := ⟨g1, k * 4 + 3, none⟩) n11 (.int .i64 (2 * hi)))
      rw [hw] at H0
      replace HS := Lib.hid H0
      clear H0
      have H0 := (row_other (row_other Ygv.out (a := ⟨g1, k * 4 + 2, none⟩) n12 (.int .i64 (2 * lo))) (a := ⟨g1, k * 4 + 3, none⟩) n12 (.int .i64 (2 * hi)))
      rw [hw] at H0
      replace Ygv := Lib.hid H0
      clear H0
      have H0 := (row_other (row_other GA.out (a := ⟨g1, k * 4 + 2, none⟩) n13 (.int .i64 (2 * lo))) (a := ⟨g1, k * 4 + 3, none⟩) n13 (.int .i64 (2 * hi)))
      rw [hw] at H0
      replace GA := Lib.hid H0
      clear H0
      have H0 := (row_other (row_other GB.out (a := ⟨g1, k * 4 + 2, none⟩) n14 (.int .i64 (2 * lo))) (a := ⟨g1, k * 4 + 3, none⟩) n14 (.int .i64 (2 * hi)))
      rw [hw] at H0
      replace GB := Lib.hid H0
      clear H0
      have H0 := (row_other (row_other GC.out (a := ⟨g1, k * 4 + 2, none⟩) n15 (.int .i64 (2 * lo))) (a := ⟨g1, k * 4 + 3, none⟩) n15 (.int .i64 (2 * hi)))
      rw [hw] at H0
      replace GC := Lib.hid H0
      clear H0
      have H0 := (row_other (row_other YX.out (a := ⟨g1, k * 4 + 2, none⟩) n16 (.int .i64 (2 * lo))) (a := ⟨g1, k * 4 + 3, none⟩) n16 (.int .i64 (2 * hi)))
      rw [hw] at H0
      replace YX := Lib.hid H0
      clear H0
      have H0 := (row_other (row_other Ygs.out (a := ⟨g1, k * 4 + 2, none⟩) (by have := YgsN.out; dsimp only; omega) (.int .i64 (2 * lo))) (a := ⟨g1, k * 4 + 3, none⟩) (by have := YgsN.out; dsimp only; omega) (.int .i64 (2 * hi)))
      rw [hw] at H0
      replace Ygs := Lib.hid H0
      clear H0
      have H0 := (row_other (row_other Ygt.out (a := ⟨g1, k * 4 + 2, none⟩) (by have := YgtN.out; dsimp only; omega) (.int .i64 (2 * lo))) (a := ⟨g1, k * 4 + 3, none⟩) (by have := YgtN.out; dsimp only; omega) (.int .i64 (2 * hi)))
      rw [hw] at H0
      replace Ygt := Lib.hid H0
      clear H0
      have H0 := (T1.out.put3_two HX.out (2 * lo) (2 * hi))
      rw [hw] at H0
      replace T1 := Lib.hid H0
      clear H0
      have H0 := (TwZ.other (TwZ.other T2.out (a := ⟨g1, k * 4 + 2, none⟩) u12 (.int .i64 (2 * lo))) (a := ⟨g1, k * 4 + 3, none⟩) u12 (.int .i64 (2 * hi)))
      rw [hw] at H0
      replace T2 := Lib.hid H0
      clear H0
      have H0 := (TwZ.other (TwZ.other T3.out (a := ⟨g1, k * 4 + 2, none⟩) u13 (.int .i64 (2 * lo))) (a := ⟨g1, k * 4 + 3, none⟩) u13 (.int .i64 (2 * hi)))
      rw [hw] at H0
      replace T3 := Lib.hid H0
      clear H0
      have H0 := (Below.setCell (Below.setCell hb3 (p := ⟨g1, k * 4 + 2, none⟩) (Nat.le_of_lt w1l) (.int .i64 (2 * lo))) (p := ⟨g1, k * 4 + 3, none⟩) (Nat.le_of_lt w1l) (.int .i64 (2 * hi)))
      rw [hw] at H0
      replace hb3 := H0
      clear H0 hw n11 n12 n13 n14 n15 n16 n21 n22 n23 n24 n25 n26 n31 n32 n33 n34 n35 n36 u21 u31 u12 u32 u13 u23 w1l w2l w3l
      clear o2 o3 f2 f3 cur
      have m0 : v15.cell? ⟨ga, 0, none⟩ = some (.int .i64 (s.n)) := cell_of_row v15 _ 0 _ _ _ GA.out
      have m1 : v15.cell? ⟨ga, 1, none⟩ = some (.slice B11 s.shots.length d11) := cell_of_row v15 _ 1 _ _ _ GA.out
      have m2 : v15.cell? ⟨ga, 2, none⟩ = some (.slice B12 s.marks.length d12) := cell_of_row v15 _ 2 _ _ _ GA.out
      have m3 : v15.cell? ⟨ga, 3, none⟩ = some (.slice (some ⟨g1, 0, none⟩) s.threads.length d13) := cell_of_row v15 _ 3 _ _ _ GA.out
      go_upto_region 22 with (go_at_call 31; refine (slope_set s k ⟨f, t, 2 * lo, 2 * hi⟩ (H4.out hle) d11 d12 d13 B11 B12 (some ⟨g1, 0, none⟩) v15 (T1.out.1.r1 rfl) (T1.out.1.r2 rfl) (T1.out.1.r3 (by simp))).mono ?_; rintro e wb ⟨rfl, hbb⟩)
      obtain ⟨v16, hw⟩ : ∃ v, wb.alloc (Obj.cells #[.int .i64 z1, .int .i64 z2] 36) = v := ⟨_, rfl⟩
      obtain ⟨gu, hbk⟩ : ∃ b, wb.heap.size = b := ⟨_, rfl⟩
      rw [hw, hbk]
      have hK : Below v15.heap.size v15 v16 := by rw [← hw]; exact hbb.alloc hbb.size _
      have Ya : v16.heap[gu]? = some (.cells #[.int .i64 z1, .int .i64 z2] 36 (0, 0)) := by rw [← hw, ← hbk]; exact heap_alloc_new _ _
      have Ygu := Lib.hid Ya
      have YguN := Lib.hid (show g1 < gu ∧ g2 < gu ∧ g3 < gu from by
        have a1 := (T1.out.1.2.2.1.1.lt g1 rfl).2
        have a2 := (T2.out.1.2.2.1.1.lt g2 rfl).2
        have a3 := (T3.out.1.2.2.1.1.lt g3 rfl).2
        have := hbb.size
        omega)
      replace HS := Lib.hid (row_keep HS.out hK)
      replace Ygv := Lib.hid (row_keep Ygv.out hK)
      replace GA := Lib.hid (row_keep GA.out hK)
      replace GB := Lib.hid (row_keep GB.out hK)
      replace GC := Lib.hid (row_keep GC.out hK)
      replace YX := Lib.hid (row_keep YX.out hK)
      replace Ygs := Lib.hid (row_keep Ygs.out hK)
      replace Ygt := Lib.hid (row_keep Ygt.out hK)
      replace T1 := Lib.hid (T1.out.grow hK)
      replace T2 := Lib.hid (T2.out.grow hK)
      replace T3 := Lib.hid (T3.out.grow hK)
      replace hb3 := below_keep hb3 hb3.size hK
      clear hw hbk hK Ya hbb m0 m1 m2 m3
      have p0 : v16.cell? ⟨gu, 0, none⟩ = some (.int .i64 (z1)) := cell_of_row v16 _ 0 _ _ _ Ygu.out
      have p1 : v16.cell? ⟨gu, 1, none⟩ = some (.int .i64 (z2)) := cell_of_row v16 _ 1 _ _ _ Ygu.out
      have r0 : v16.cell? ⟨gv, 0, none⟩ = some (.int .i64 (v1)) := cell_of_row v16 _ 0 _ _ _ Ygv.out
      have r1 : v16.cell? ⟨gv, 1, none⟩ = some (.int .i64 (v2)) := cell_of_row v16 _ 1 _ _ _ Ygv.out
      go_wp2
      go_ret
      exact ⟨rfl, hb3⟩
    · have hgt : 100000000 < 2 * hi := by omega
      go_wp2
      go_ret
      exact ⟨rfl, hb3⟩

/-- LevelThread answers true. -/
theorem lawThread_any (s : Sv) (a : Int) (l : List Int) (cl c1 c2 c3 : Nat) (AL A1 A2 A3 : Option Addr) (w : World)
    (r1 : Rd w w.heap.size A1 shV 4 s.shots) (r2 : Rd w w.heap.size A2 mkV 3 s.marks) (r3 : Rd w w.heap.size A3 shV 4 s.threads) (ha : 0 ≤ a ∧ a ≤ 255) (rl : Rd w w.heap.size AL inV 1 l) (hll : l.length ≤ 9223372036854775807) :
    Calls Try.prog 13 #[.agg #[.int .i64 s.n, .slice A1 s.shots.length c1, .slice A2 s.marks.length c2, .slice A3 s.threads.length c3], .int .u8 a, .slice AL l.length cl] w fun e w' => e = .returned (.bool true) ∧ Below w.heap.size w w' := by
  cases hok : svOk s
  · exact lawThread_bad s a l cl c1 c2 c3 AL A1 A2 A3 w r1 r2 r3 rl hok
  · rcases Nat.eq_zero_or_pos s.threads.length with hl | hl
    · exact lawThread_none s a l cl c1 c2 c3 AL A1 A2 A3 w r1 r2 r3 rl hok hl
    · cases hf : (svD s).2
      · exact lawThread_apart s a l cl c1 c2 c3 AL A1 A2 A3 w r1 r2 r3 rl hok hl hf ha
      · exact lawThread_fit s a l cl c1 c2 c3 AL A1 A2 A3 w r1 r2 r3 rl hok hl hf ha hll

end Go.Proofs.Ytaoonfmcimkmhaa
