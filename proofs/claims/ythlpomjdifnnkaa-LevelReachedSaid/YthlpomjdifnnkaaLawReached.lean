/- The law LevelReached answers true of every survey that reads as plain data, and of any two bytes. Condition: the slices read below the heap's end. -/
import Derived.Test.YthlpomjdifnnkaaAlive
import Derived.Test.YthlpomjdifnnkaaLReach
import Derived.Test.YthlpomjdifnnkaaCalm
set_option linter.unusedVariables false
set_option linter.unusedSimpArgs false
namespace Go.Proofs.Ythlpomjdifnnkaa
open Go.RowKit
attribute [local go_sem] wx_cell wx_frozen

theorem marked_as (s : Sv) (h : Int) (i gs ga c1 c2 c3 : Nat) (A1 A2 A3 : Option Addr) (w : World) {b : Bool} (hb : mkB s i h = b)
    (HS : w.heap[gs]? = some (.cells #[.int .i64 s.n, .slice A1 s.shots.length c1, .slice A2 s.marks.length c2, .slice A3 s.threads.length c3] 26 (0, 0))) (Ha : w.heap[ga]? = some (.cells #[.int .i64 (i : Int)] 3 (0, 0)))
    (r1 : Rd w w.heap.size A1 shV 4 s.shots) (r2 : Rd w w.heap.size A2 mkV 3 s.marks) (r3 : Rd w w.heap.size A3 shV 4 s.threads) (l1 : s.shots.length ≤ 100) (l2 : s.marks.length ≤ 100) (l3 : s.threads.length ≤ 100) :
    Calls Try.prog 40 #[.int .i64 h, .pointer (some ⟨gs, 0, none⟩), .pointer (some ⟨ga, 0, none⟩)] w fun e w' => e = .returned (.bool b) ∧ Below w.heap.size w w' := by
  have h1 := marked_any s h i gs ga c1 c2 c3 A1 A2 A3 w HS Ha r1 r2 r3 l1 l2 l3
  unfold mkB at hb
  rw [hb] at h1
  exact h1
theorem shot_as (s : Sv) (h : Int) (j i gs gb ga c1 c2 c3 : Nat) (A1 A2 A3 : Option Addr) (w : World) {b : Bool} (hb : shB2 s j i h = b)
    (HS : w.heap[gs]? = some (.cells #[.int .i64 s.n, .slice A1 s.shots.length c1, .slice A2 s.marks.length c2, .slice A3 s.threads.length c3] 26 (0, 0))) (Hb : w.heap[gb]? = some (.cells #[.int .i64 (j : Int)] 3 (0, 0))) (Ha : w.heap[ga]? = some (.cells #[.int .i64 (i : Int)] 3 (0, 0)))
    (r1 : Rd w w.heap.size A1 shV 4 s.shots) (r2 : Rd w w.heap.size A2 mkV 3 s.marks) (r3 : Rd w w.heap.size A3 shV 4 s.threads) (l1 : s.shots.length ≤ 100) (l2 : s.marks.length ≤ 100) (l3 : s.threads.length ≤ 100) :
    Calls Try.prog 41 #[.int .i64 h, .pointer (some ⟨gs, 0, none⟩), .pointer (some ⟨gb, 0, none⟩), .pointer (some ⟨ga, 0, none⟩)] w fun e w' => e = .returned (.bool b) ∧ Below w.heap.size w w' := by
  have h1 := shot_any s h j i gs gb ga c1 c2 c3 A1 A2 A3 w HS Hb Ha r1 r2 r3 l1 l2 l3
  unfold shB2 at hb
  rw [hb] at h1
  exact h1

set_option maxRecDepth 100000 in
set_option maxHeartbeats 8000000 in
theorem lawReached_bad (s : Sv) (a b : Int) (c1 c2 c3 : Nat) (A1 A2 A3 : Option Addr) (w : World)
    (r1 : Rd w w.heap.size A1 shV 4 s.shots) (r2 : Rd w w.heap.size A2 mkV 3 s.marks) (r3 : Rd w w.heap.size A3 shV 4 s.threads) (hok : svOk s = false) :
    Calls Try.prog 7 #[.agg #[.int .i64 s.n, .slice A1 s.shots.length c1, .slice A2 s.marks.length c2, .slice A3 s.threads.length c3], .int .u8 a, .int .u8 b] w fun e w' => e = .returned (.bool true) ∧ Below w.heap.size w w' := by
  have R1 := Lib.hid r1
  have R2 := Lib.hid r2
  have R3 := Lib.hid r3
  have HOK := Lib.hid hok
  clear r1 r2 r3 hok
  go_enter Try.func7, Try.ntmps7
  go_wp2_with (first | (go_at_call 35; refine (alive_any _).mono ?_; rintro e w1 ⟨rfl, hb1⟩; obtain ⟨hc1, hf1⟩ := bcell hb1; have hz1 := hb1.size; simp at hz1; have hlt : w.heap.size < w1.heap.size := by omega) | (go_at_call 36; (have hbA : Below w.heap.size w w1 := by (repeat' (first | (with_reducible exact Below.refl _ _) | (with_reducible refine Below.alloc ?_ ?_ _) | (with_reducible refine Below.drew ?_) | (with_reducible refine Below.drewN_ ?_ _) | (with_reducible refine Below.setCell ?_ ?_ _) | (with_reducible refine Below.setRow ?_ ?_ _) | (with_reducible refine Below.via ?_ (by with_reducible assumption) ?_) | go_size))); have hr := ready_any s c1 c2 c3 A1 A2 A3 w1 ((R1.out.below hbA).more hbA.size) ((R2.out.below hbA).more hbA.size) ((R3.out.below hbA).more hbA.size); rw [HOK.out] at hr; refine hr.mono ?_; rintro e w2 ⟨rfl, hb2⟩; clear hr; (have S : w2.heap[w.heap.size]? = some (.cells #[.int .i64 s.n, .slice A1 s.shots.length c1, .slice A2 s.marks.length c2, .slice A3 s.threads.length c3] 26 (0, 0)) := row_keep (row_keep (heap_alloc_new _ _) hb1) hb2); have HS := Lib.hid S; have s0 := cell_of_row w2 _ 0 _ _ _ S; have s1 := cell_of_row w2 _ 1 _ _ _ S; have s2 := cell_of_row w2 _ 2 _ _ _ S; simp only [List.getElem?_toArray, List.getElem?_cons_zero, List.getElem?_cons_succ] at s0 s1 s2; clear S))
  go_ret
  exact ⟨rfl, by (repeat' (first | (with_reducible exact Below.refl _ _) | (with_reducible refine Below.alloc ?_ ?_ _) | (with_reducible refine Below.drew ?_) | (with_reducible refine Below.drewN_ ?_ _) | (with_reducible refine Below.setCell ?_ ?_ _) | (with_reducible refine Below.setRow ?_ ?_ _) | (with_reducible refine Below.via ?_ (by with_reducible assumption) ?_) | go_size))⟩

set_option maxRecDepth 100000 in
set_option maxHeartbeats 8000000 in
theorem lawReached_full1 (s : Sv) (a b : Int) (c1 c2 c3 : Nat) (A1 A2 A3 : Option Addr) (w : World)
    (r1 : Rd w w.heap.size A1 shV 4 s.shots) (r2 : Rd w w.heap.size A2 mkV 3 s.marks) (r3 : Rd w w.heap.size A3 shV 4 s.threads) (hok : svOk s = true) (hl : s.shots.length = 60) :
    Calls Try.prog 7 #[.agg #[.int .i64 s.n, .slice A1 s.shots.length c1, .slice A2 s.marks.length c2, .slice A3 s.threads.length c3], .int .u8 a, .int .u8 b] w fun e w' => e = .returned (.bool true) ∧ Below w.heap.size w w' := by
  have R1 := Lib.hid r1
  have R2 := Lib.hid r2
  have R3 := Lib.hid r3
  have HOK := Lib.hid hok
  have hb1 : ((s.shots.length : Int) == 60) = true := by rw [hl]; rfl
  clear r1 r2 r3 hok hl
  go_enter Try.func7, Try.ntmps7
  go_wp2_with (first | (go_at_call 35; refine (alive_any _).mono ?_; rintro e w1 ⟨rfl, hb1⟩; obtain ⟨hc1, hf1⟩ := bcell hb1; have hz1 := hb1.size; simp at hz1; have hlt : w.heap.size < w1.heap.size := by omega) | (go_at_call 36; (have hbA : Below w.heap.size w w1 := by (repeat' (first | (with_reducible exact Below.refl _ _) | (with_reducible refine Below.alloc ?_ ?_ _) | (with_reducible refine Below.drew ?_) | (with_reducible refine Below.drewN_ ?_ _) | (with_reducible refine Below.setCell ?_ ?_ _) | (with_reducible refine Below.setRow ?_ ?_ _) | (with_reducible refine Below.via ?_ (by with_reducible assumption) ?_) | go_size))); have hr := ready_any s c1 c2 c3 A1 A2 A3 w1 ((R1.out.below hbA).more hbA.size) ((R2.out.below hbA).more hbA.size) ((R3.out.below hbA).more hbA.size); rw [HOK.out] at hr; refine hr.mono ?_; rintro e w2 ⟨rfl, hb2⟩; clear hr; (have S : w2.heap[w.heap.size]? = some (.cells #[.int .i64 s.n, .slice A1 s.shots.length c1, .slice A2 s.marks.length c2, .slice A3 s.threads.length c3] 26 (0, 0)) := row_keep (row_keep (heap_alloc_new _ _) hb1) hb2); have HS := Lib.hid S; have s0 := cell_of_row w2 _ 0 _ _ _ S; have s1 := cell_of_row w2 _ 1 _ _ _ S; have s2 := cell_of_row w2 _ 2 _ _ _ S; simp only [List.getElem?_toArray, List.getElem?_cons_zero, List.getElem?_cons_succ] at s0 s1 s2; clear S))
  go_ret
  exact ⟨rfl, by (repeat' (first | (with_reducible exact Below.refl _ _) | (with_reducible refine Below.alloc ?_ ?_ _) | (with_reducible refine Below.drew ?_) | (with_reducible refine Below.drewN_ ?_ _) | (with_reducible refine Below.setCell ?_ ?_ _) | (with_reducible refine Below.setRow ?_ ?_ _) | (with_reducible refine Below.via ?_ (by with_reducible assumption) ?_) | go_size))⟩

set_option maxRecDepth 100000 in
set_option maxHeartbeats 8000000 in
theorem lawReached_full2 (s : Sv) (a b : Int) (c1 c2 c3 : Nat) (A1 A2 A3 : Option Addr) (w : World)
    (r1 : Rd w w.heap.size A1 shV 4 s.shots) (r2 : Rd w w.heap.size A2 mkV 3 s.marks) (r3 : Rd w w.heap.size A3 shV 4 s.threads) (hok : svOk s = true) (hl1 : s.shots.length < 60) (hl : s.marks.length = 20) :
    Calls Try.prog 7 #[.agg #[.int .i64 s.n, .slice A1 s.shots.length c1, .slice A2 s.marks.length c2, .slice A3 s.threads.length c3], .int .u8 a, .int .u8 b] w fun e w' => e = .returned (.bool true) ∧ Below w.heap.size w w' := by
  have R1 := Lib.hid r1
  have R2 := Lib.hid r2
  have R3 := Lib.hid r3
  have HOK := Lib.hid hok
  have hb1 : ((s.shots.length : Int) == 60) = false := by rw [beq_eq_false_iff_ne]; omega
  have hb2 : ((s.marks.length : Int) == 20) = true := by rw [hl]; rfl
  clear r1 r2 r3 hok hl hl1
  go_enter Try.func7, Try.ntmps7
  go_wp2_with (first | (go_at_call 35; refine (alive_any _).mono ?_; rintro e w1 ⟨rfl, hb1⟩; obtain ⟨hc1, hf1⟩ := bcell hb1; have hz1 := hb1.size; simp at hz1; have hlt : w.heap.size < w1.heap.size := by omega) | (go_at_call 36; (have hbA : Below w.heap.size w w1 := by (repeat' (first | (with_reducible exact Below.refl _ _) | (with_reducible refine Below.alloc ?_ ?_ _) | (with_reducible refine Below.drew ?_) | (with_reducible refine Below.drewN_ ?_ _) | (with_reducible refine Below.setCell ?_ ?_ _) | (with_reducible refine Below.setRow ?_ ?_ _) | (with_reducible refine Below.via ?_ (by with_reducible assumption) ?_) | go_size))); have hr := ready_any s c1 c2 c3 A1 A2 A3 w1 ((R1.out.below hbA).more hbA.size) ((R2.out.below hbA).more hbA.size) ((R3.out.below hbA).more hbA.size); rw [HOK.out] at hr; refine hr.mono ?_; rintro e w2 ⟨rfl, hb2⟩; clear hr; (have S : w2.heap[w.heap.size]? = some (.cells #[.int .i64 s.n, .slice A1 s.shots.length c1, .slice A2 s.marks.length c2, .slice A3 s.threads.length c3] 26 (0, 0)) := row_keep (row_keep (heap_alloc_new _ _) hb1) hb2); have HS := Lib.hid S; have s0 := cell_of_row w2 _ 0 _ _ _ S; have s1 := cell_of_row w2 _ 1 _ _ _ S; have s2 := cell_of_row w2 _ 2 _ _ _ S; simp only [List.getElem?_toArray, List.getElem?_cons_zero, List.getElem?_cons_succ] at s0 s1 s2; clear S))
  go_ret
  exact ⟨rfl, by (repeat' (first | (with_reducible exact Below.refl _ _) | (with_reducible refine Below.alloc ?_ ?_ _) | (with_reducible refine Below.drew ?_) | (with_reducible refine Below.drewN_ ?_ _) | (with_reducible refine Below.setCell ?_ ?_ _) | (with_reducible refine Below.setRow ?_ ?_ _) | (with_reducible refine Below.via ?_ (by with_reducible assumption) ?_) | go_size))⟩

set_option maxRecDepth 100000 in
set_option maxHeartbeats 8000000 in
theorem lawReached_apart (s : Sv) (a b : Int) (c1 c2 c3 : Nat) (A1 A2 A3 : Option Addr) (w : World)
    (r1 : Rd w w.heap.size A1 shV 4 s.shots) (r2 : Rd w w.heap.size A2 mkV 3 s.marks) (r3 : Rd w w.heap.size A3 shV 4 s.threads) (hok : svOk s = true) (hl1 : s.shots.length < 60) (hl2 : s.marks.length < 20) (hf : (svD s).2 = false) (ha : 0 ≤ a ∧ a ≤ 255) (hbb : 0 ≤ b ∧ b ≤ 255) :
    Calls Try.prog 7 #[.agg #[.int .i64 s.n, .slice A1 s.shots.length c1, .slice A2 s.marks.length c2, .slice A3 s.threads.length c3], .int .u8 a, .int .u8 b] w fun e w' => e = .returned (.bool true) ∧ Below w.heap.size w w' := by
  have R1 := Lib.hid r1
  have R2 := Lib.hid r2
  have R3 := Lib.hid r3
  have HOK := Lib.hid hok
  have HF := Lib.hid hf
  have hq1 : ((s.shots.length : Int) == 60) = false := by rw [beq_eq_false_iff_ne]; omega
  have hq2 : ((s.marks.length : Int) == 20) = false := by rw [beq_eq_false_iff_ne]; omega
  obtain ⟨⟨n1, n2, n3, n4, n5⟩, _⟩ := svOk_spec hok
  clear r1 r2 r3 hok hf
  go_enter Try.func7, Try.ntmps7
  go_upto_region 6 with (first | (go_at_call 35; refine (alive_any _).mono ?_; rintro e w1 ⟨rfl, hb1⟩; obtain ⟨hc1, hf1⟩ := bcell hb1; have hz1 := hb1.size; simp at hz1; have hlt : w.heap.size < w1.heap.size := by omega) | (go_at_call 36; (have hbA : Below w.heap.size w w1 := by (repeat' (first | (with_reducible exact Below.refl _ _) | (with_reducible refine Below.alloc ?_ ?_ _) | (with_reducible refine Below.drew ?_) | (with_reducible refine Below.drewN_ ?_ _) | (with_reducible refine Below.setCell ?_ ?_ _) | (with_reducible refine Below.setRow ?_ ?_ _) | (with_reducible refine Below.via ?_ (by with_reducible assumption) ?_) | go_size))); have hr := ready_any s c1 c2 c3 A1 A2 A3 w1 ((R1.out.below hbA).more hbA.size) ((R2.out.below hbA).more hbA.size) ((R3.out.below hbA).more hbA.size); rw [HOK.out] at hr; refine hr.mono ?_; rintro e w2 ⟨rfl, hb2⟩; clear hr; (have S : w2.heap[w.heap.size]? = some (.cells #[.int .i64 s.n, .slice A1 s.shots.length c1, .slice A2 s.marks.length c2, .slice A3 s.threads.length c3] 26 (0, 0)) := row_keep (row_keep (heap_alloc_new _ _) hb1) hb2); have HS := Lib.hid S; have s0 := cell_of_row w2 _ 0 _ _ _ S; have s1 := cell_of_row w2 _ 1 _ _ _ S; have s2 := cell_of_row w2 _ 2 _ _ _ S; simp only [List.getElem?_toArray, List.getElem?_cons_zero, List.getElem?_cons_succ] at s0 s1 s2; clear S))
  have hzz := hb2.size
  have hb3 : Below w.heap.size w w2 := by (repeat' (first | (with_reducible exact Below.refl _ _) | (with_reducible refine Below.alloc ?_ ?_ _) | (with_reducible refine Below.drew ?_) | (with_reducible refine Below.drewN_ ?_ _) | (with_reducible refine Below.setCell ?_ ?_ _) | (with_reducible refine Below.setRow ?_ ?_ _) | (with_reducible refine Below.via ?_ (by with_reducible assumption) ?_) | go_size))
  have hws : w.heap.size < w2.heap.size := by omega
  clear hb1 hb2 hbA hc1 hf1 hz1 hlt hzz s1 s2 hq1 hq2
  obtain ⟨i, hai, hi⟩ : ∃ i : Nat, a % s.n = i ∧ i < s.n.toNat := ⟨(a % s.n).toNat, by have := Int.emod_nonneg a (show s.n ≠ 0 by omega); omega, by have := Int.emod_nonneg a (show s.n ≠ 0 by omega); have := Int.emod_lt_of_pos a (show 0 < s.n by omega); omega⟩
  obtain ⟨j, haj, hj⟩ : ∃ i : Nat, b % s.n = i ∧ i < s.n.toNat := ⟨(b % s.n).toNat, by have := Int.emod_nonneg b (show s.n ≠ 0 by omega); omega, by have := Int.emod_nonneg b (show s.n ≠ 0 by omega); have := Int.emod_lt_of_pos b (show 0 < s.n by omega); omega⟩
  refine (wpIn_wide (n := 3)).1 ?_
  refine wpIn_region_planYA (X := Nat × Nat) (by kernel_rfl) 14 (by decide +kernel) (by decide +kernel) (by omega)
    (fun x i' => if i' = 10 then .pointer (some ⟨x.1, 0, none⟩) else if i' = 11 then .pointer (some ⟨x.2, 0, none⟩) else (#[.int .u8 a, .int .i64 a, .pointer (some ⟨w.heap.size, 0, none⟩), .int .i64 s.n, .int .i64 (i : Int), .int .u8 b, .int .i64 b, .pointer (some ⟨w.heap.size, 0, none⟩), .int .i64 s.n, .int .i64 (j : Int)] : Array Value).getD i' undef)
    (fun L x W => Below w2.heap.size w2 W ∧ (L 10 = true → w2.heap.size ≤ x.1 ∧ W.heap[x.1]? = some (.cells #[.int .i64 (if L 12 then (i : Int) else 0)] 3 (0, 0))) ∧ (L 11 = true → w2.heap.size ≤ x.2 ∧ W.heap[x.2]? = some (.cells #[.int .i64 (if L 13 then (j : Int) else 0)] 3 (0, 0))) ∧ (L 10 = true → L 11 = true → x.1 ≠ x.2)) _ _ (0, 0) ?aF ?hA ?hS ?hstep ?htail
  case hA => intro x; simp [putTo, putIf, dstAt, Act.put, List.range_succ]; rfl
  case hS => exact fun L hL => ⟨(Below.refl _ _).drew, fun h => (by rw [hL] at h; cases h), fun h => (by rw [hL] at h; cases h), fun h => (by rw [hL] at h; cases h)⟩
  case hstep =>
    intro i' o' hi' ho L x W hL hcl hdep hW
    obtain ⟨hW, hA, hB, hN⟩ := hW
    have HA := Lib.hid hA
    have HB := Lib.hid hB
    have HN := Lib.hid hN
    clear hA hB hN
    have hzW := hW.size
    refine ⟨fun _ _ => trivial, ?_⟩
    have p0 := (hW.cell (p := ⟨w.heap.size, 0, none⟩) hws).trans s0
    have wa : IntKind.i64.wrap a = a := IntWalk.i64_in _ (by omega)
    have wb : IntKind.i64.wrap b = b := IntWalk.i64_in _ (by omega)
    have ta : a.tmod s.n = (i : Int) := by rw [Int.tmod_eq_emod_of_nonneg ha.1]; exact hai
    have tb : b.tmod s.n = (j : Int) := by rw [Int.tmod_eq_emod_of_nonneg hbb.1]; exact haj
    have nz : ¬ s.n = 0 := by omega
    have nz2 : (s.n == 0) = false := by rw [beq_eq_false_iff_ne]; exact nz
    match i', hi', ho with
    | 0, _, ho => simp only [List.getElem?_toArray, List.getElem?_cons_succ, List.getElem?_cons_zero, Option.some.injEq] at ho; subst ho; go_simp; exact ⟨x, fun _ _ => rfl, rfl, hW, fun h => by simpa using HA.out (by simpa using h), fun h => by simpa using HB.out (by simpa using h), fun h h2 => HN.out (by simpa using h) (by simpa using h2)⟩
    | 1, _, ho => simp only [List.getElem?_toArray, List.getElem?_cons_succ, List.getElem?_cons_zero, Option.some.injEq] at ho; subst ho; go_simp; exact ⟨x, fun _ _ => rfl, rfl, hW, fun h => by simpa using HA.out (by simpa using h), fun h => by simpa using HB.out (by simpa using h), fun h h2 => HN.out (by simpa using h) (by simpa using h2)⟩
    | 2, _, ho => simp only [List.getElem?_toArray, List.getElem?_cons_succ, List.getElem?_cons_zero, Option.some.injEq] at ho; subst ho; go_simp; exact ⟨x, fun _ _ => rfl, rfl, hW, fun h => by simpa using HA.out (by simpa using h), fun h => by simpa using HB.out (by simpa using h), fun h h2 => HN.out (by simpa using h) (by simpa using h2)⟩
    | 3, _, ho => simp only [List.getElem?_toArray, List.getElem?_cons_succ, List.getElem?_cons_zero, Option.some.injEq] at ho; subst ho; go_simp; exact ⟨x, fun _ _ => rfl, rfl, hW, fun h => by simpa using HA.out (by simpa using h), fun h => by simpa using HB.out (by simpa using h), fun h h2 => HN.out (by simpa using h) (by simpa using h2)⟩
    | 4, _, ho => simp only [List.getElem?_toArray, List.getElem?_cons_succ, List.getElem?_cons_zero, Option.some.injEq] at ho; subst ho; go_simp; exact ⟨x, fun _ _ => rfl, rfl, hW, fun h => by simpa using HA.out (by simpa using h), fun h => by simpa using HB.out (by simpa using h), fun h h2 => HN.out (by simpa using h) (by simpa using h2)⟩
    | 5, _, ho => simp only [List.getElem?_toArray, List.getElem?_cons_succ, List.getElem?_cons_zero, Option.some.injEq] at ho; subst ho; go_simp; exact ⟨x, fun _ _ => rfl, rfl, hW, fun h => by simpa using HA.out (by simpa using h), fun h => by simpa using HB.out (by simpa using h), fun h h2 => HN.out (by simpa using h) (by simpa using h2)⟩
    | 6, _, ho => simp only [List.getElem?_toArray, List.getElem?_cons_succ, List.getElem?_cons_zero, Option.some.injEq] at ho; subst ho; go_simp; exact ⟨x, fun _ _ => rfl, rfl, hW, fun h => by simpa using HA.out (by simpa using h), fun h => by simpa using HB.out (by simpa using h), fun h h2 => HN.out (by simpa using h) (by simpa using h2)⟩
    | 7, _, ho => simp only [List.getElem?_toArray, List.getElem?_cons_succ, List.getElem?_cons_zero, Option.some.injEq] at ho; subst ho; go_simp; exact ⟨x, fun _ _ => rfl, rfl, hW, fun h => by simpa using HA.out (by simpa using h), fun h => by simpa using HB.out (by simpa using h), fun h h2 => HN.out (by simpa using h) (by simpa using h2)⟩
    | 8, _, ho => simp only [List.getElem?_toArray, List.getElem?_cons_succ, List.getElem?_cons_zero, Option.some.injEq] at ho; subst ho; go_simp; exact ⟨x, fun _ _ => rfl, rfl, hW, fun h => by simpa using HA.out (by simpa using h), fun h => by simpa using HB.out (by simpa using h), fun h h2 => HN.out (by simpa using h) (by simpa using h2)⟩
    | 9, _, ho => simp only [List.getElem?_toArray, List.getElem?_cons_succ, List.getElem?_cons_zero, Option.some.injEq] at ho; subst ho; go_simp; exact ⟨x, fun _ _ => rfl, rfl, hW, fun h => by simpa using HA.out (by simpa using h), fun h => by simpa using HB.out (by simpa using h), fun h h2 => HN.out (by simpa using h) (by simpa using h2)⟩
    | 10, _, ho =>
      simp only [List.getElem?_toArray, List.getElem?_cons_succ, List.getElem?_cons_zero, Option.some.injEq] at ho
      subst ho
      have h12 : L 12 = false := by
        cases h : L 12
        · rfl
        · have h2 := hcl 12 _ h rfl { on := 10, ground := Ground.data } (by simp) rfl
          rw [hL] at h2
          cases h2
      go_simp
      refine ⟨(W.heap.size, x.2), fun j' hj' => ?_, rfl, hW.alloc hzW _, fun _ => ⟨hzW, ?_⟩, fun h => ?_, fun _ h2 => ?_⟩
      · by_cases e : j' = 10
        · rw [e, hL] at hj'; cases hj'
        · dsimp only; rw [if_neg e, if_neg e]
      · have e : (L 12 || (12 == 10)) = false := by rw [h12]; rfl
        dsimp only
        rw [if_neg (by rw [e]; simp)]
        exact heap_alloc_new _ _
      · have h3 := HB.out (by simpa using h)
        refine ⟨h3.1, ?_⟩
        have h4 := (Below.heap_alloc W (Obj.cells #[.int .i64 0] 3) _ (Array.getElem?_eq_some_iff.1 h3.2).1).trans h3.2
        simpa using h4
      · have h3 := (Array.getElem?_eq_some_iff.1 (HB.out (by simpa using h2)).2).1
        dsimp only
        omega
    | 11, _, ho =>
      simp only [List.getElem?_toArray, List.getElem?_cons_succ, List.getElem?_cons_zero, Option.some.injEq] at ho
      subst ho
      have h12 : L 13 = false := by
        cases h : L 13
        · rfl
        · have h2 := hcl 13 _ h rfl { on := 11, ground := Ground.data } (by simp) rfl
          rw [hL] at h2
          cases h2
      go_simp
      refine ⟨(x.1, W.heap.size), fun j' hj' => ?_, rfl, hW.alloc hzW _, fun h => ?_, fun _ => ⟨hzW, ?_⟩, fun h2 _ => ?_⟩
      · by_cases e : j' = 11
        · rw [e, hL] at hj'; cases hj'
        · dsimp only
          by_cases e0 : j' = 10
          · rw [if_pos e0, if_pos e0]
          · rw [if_neg e0, if_neg e0, if_neg e, if_neg e]
      · have h3 := HA.out (by simpa using h)
        refine ⟨h3.1, ?_⟩
        have h4 := (Below.heap_alloc W (Obj.cells #[.int .i64 0] 3) _ (Array.getElem?_eq_some_iff.1 h3.2).1).trans h3.2
        simpa using h4
      · have e : (L 13 || (13 == 11)) = false := by rw [h12]; rfl
        dsimp only
        rw [if_neg (by rw [e]; simp)]
        exact heap_alloc_new _ _
      · have h3 := (Array.getElem?_eq_some_iff.1 (HA.out (by simpa using h2)).2).1
        dsimp only
        omega
    | 12, _, ho =>
      simp only [List.getElem?_toArray, List.getElem?_cons_succ, List.getElem?_cons_zero, Option.some.injEq] at ho
      subst ho
      have hal : L 10 = true := hdep { on := 10, ground := Ground.data } (by simp) rfl
      obtain ⟨hx1, hx2⟩ := HA.out hal
      rw [hL] at hx2
      simp only [Bool.false_eq_true, if_false] at hx2
      have HX2 := Lib.hid hx2
      have y0 := cell_of_row W x.1 0 _ _ _ hx2
      have f0 := frozen_of_row W x.1 0 _ _ hx2
      simp at y0
      clear hx2
      go_simp
      refine ⟨x, fun _ _ => rfl, rfl, Below.setCell hW hx1 _, fun _ => ⟨hx1, ?_⟩, fun h => ?_, fun h h2 => HN.out (by simpa using h) (by simpa using h2)⟩
      · rw [if_pos (by simp)]
        rw [heap_setCell_same W x.1 0 _ _ _ HX2.out]
        rfl
      · have h3 := HB.out (by simpa using h)
        refine ⟨h3.1, ?_⟩
        have hne := HN.out hal (by simpa using h)
        rw [Below.heap_setCell _ _ _ _ (by dsimp only; omega)]
        simpa using h3.2
    | 13, _, ho =>
      simp only [List.getElem?_toArray, List.getElem?_cons_succ, List.getElem?_cons_zero, Option.some.injEq] at ho
      subst ho
      have hal : L 11 = true := hdep { on := 11, ground := Ground.data } (by simp) rfl
      obtain ⟨hx1, hx2⟩ := HB.out hal
      rw [hL] at hx2
      simp only [Bool.false_eq_true, if_false] at hx2
      have HX2 := Lib.hid hx2
      have y0 := cell_of_row W x.2 0 _ _ _ hx2
      have f0 := frozen_of_row W x.2 0 _ _ hx2
      simp at y0
      clear hx2
      go_simp
      refine ⟨x, fun _ _ => rfl, rfl, Below.setCell hW hx1 _, fun h => ?_, fun _ => ⟨hx1, ?_⟩, fun h h2 => HN.out (by simpa using h) (by simpa using h2)⟩
      · have h3 := HA.out (by simpa using h)
        refine ⟨h3.1, ?_⟩
        have hne := HN.out (by simpa using h) hal
        rw [Below.heap_setCell _ _ _ _ (by dsimp only; omega)]
        simpa using h3.2
      · rw [if_pos (by simp)]
        rw [heap_setCell_same W x.2 0 _ _ _ HX2.out]
        rfl
    | k + 14, hk, _ => omega
  case htail =>
    intro L x W hL hW
    obtain ⟨hbW, hA, hB, hN⟩ := hW
    have KA := Lib.hid (hA (hL 10 (by omega))).2
    have KB := Lib.hid (hB (hL 11 (by omega))).2
    rw [if_pos (hL 12 (by omega))] at KA
    rw [if_pos (hL 13 (by omega))] at KB
    obtain ⟨ga, gb⟩ := x
    dsimp only at KA KB
    replace HS := Lib.hid (row_keep HS.out hbW)
    replace hb3 := below_keep hb3 hb3.size hbW
    clear hA hB hN hL hbW hai haj hws s0
    simp only [List.drop_succ_cons, List.drop_zero]
    gi_wp2_with fail
    have H1 := Lib.hid (lvFall_apart HOK.out HF.out hi hj)
    have H5 := Lib.hid (lvHeights_apart HOK.out HF.out)
    have s0 : W.cell? ⟨w.heap.size, 0, none⟩ = some (.int .i64 s.n) := cell_of_row W _ 0 _ _ _ HS.out
    have s1 : W.cell? ⟨w.heap.size, 1, none⟩ = some (.slice A1 s.shots.length c1) := cell_of_row W _ 1 _ _ _ HS.out
    have s2 : W.cell? ⟨w.heap.size, 2, none⟩ = some (.slice A2 s.marks.length c2) := cell_of_row W _ 2 _ _ _ HS.out
    have s3 : W.cell? ⟨w.heap.size, 3, none⟩ = some (.slice A3 s.threads.length c3) := cell_of_row W _ 3 _ _ _ HS.out
    have ka : W.cell? ⟨ga, 0, none⟩ = some (.int .i64 (i : Int)) := cell_of_row W _ 0 _ _ _ KA.out
    have kb : W.cell? ⟨gb, 0, none⟩ = some (.int .i64 (j : Int)) := cell_of_row W _ 0 _ _ _ KB.out
    go_upto_region 8 with (go_at_call 16; refine (heights_as s c1 c2 c3 A1 A2 A3 W ((R1.out.below hb3).more hb3.size) ((R2.out.below hb3).more hb3.size) ((R3.out.below hb3).more hb3.size) H5.out).mono ?_; rintro e v7 ⟨⟨AH, cH, rfl, qh⟩, hK⟩)
    have QH := Lib.hid qh
    replace HS := Lib.hid (row_keep HS.out hK)
    replace KA := Lib.hid (row_keep KA.out hK)
    replace KB := Lib.hid (row_keep KB.out hK)
    replace hb3 := below_keep hb3 hb3.size hK
    clear hK qh s0 s1 s2 s3 ka kb
    have s0 : v7.cell? ⟨w.heap.size, 0, none⟩ = some (.int .i64 s.n) := cell_of_row v7 _ 0 _ _ _ HS.out
    have s1 : v7.cell? ⟨w.heap.size, 1, none⟩ = some (.slice A1 s.shots.length c1) := cell_of_row v7 _ 1 _ _ _ HS.out
    have s2 : v7.cell? ⟨w.heap.size, 2, none⟩ = some (.slice A2 s.marks.length c2) := cell_of_row v7 _ 2 _ _ _ HS.out
    have s3 : v7.cell? ⟨w.heap.size, 3, none⟩ = some (.slice A3 s.threads.length c3) := cell_of_row v7 _ 3 _ _ _ HS.out
    have ka : v7.cell? ⟨ga, 0, none⟩ = some (.int .i64 (i : Int)) := cell_of_row v7 _ 0 _ _ _ KA.out
    have kb : v7.cell? ⟨gb, 0, none⟩ = some (.int .i64 (j : Int)) := cell_of_row v7 _ 0 _ _ _ KB.out
    go_upto_region 9 with (go_at_call 18; refine (fall_as s i j c1 c2 c3 A1 A2 A3 v7 ((R1.out.below hb3).more hb3.size) ((R2.out.below hb3).more hb3.size) ((R3.out.below hb3).more hb3.size) H1.out).mono ?_; rintro e wb ⟨rfl, hbb8⟩)
    obtain ⟨v8, hw⟩ : ∃ v, wb.alloc (Obj.cells #[.int .i64 (0), .int .i64 (0)] 36) = v := ⟨_, rfl⟩
    obtain ⟨bx, hbk⟩ : ∃ b, wb.heap.size = b := ⟨_, rfl⟩
    rw [hw, hbk]
    have hK : Below v7.heap.size v7 v8 := by rw [← hw]; exact hbb8.alloc hbb8.size _
    have Ya : v8.heap[bx]? = some (.cells #[.int .i64 (0), .int .i64 (0)] 36 (0, 0)) := by rw [← hw, ← hbk]; exact heap_alloc_new _ _
    have YX := Lib.hid Ya
    replace QH := Lib.hid (rd_keep QH.out hK)
    replace HS := Lib.hid (row_keep HS.out hK)
    replace KA := Lib.hid (row_keep KA.out hK)
    replace KB := Lib.hid (row_keep KB.out hK)
    replace hb3 := below_keep hb3 hb3.size hK
    clear hw hbk hK Ya hbb8 s0 s1 s2 s3 ka kb
    go_wp2
    go_ret
    exact ⟨rfl, hb3⟩

set_option maxRecDepth 100000 in
set_option maxHeartbeats 8000000 in
theorem lawReached_same (s : Sv) (a b : Int) (c1 c2 c3 : Nat) (A1 A2 A3 : Option Addr) (w : World)
    (r1 : Rd w w.heap.size A1 shV 4 s.shots) (r2 : Rd w w.heap.size A2 mkV 3 s.marks) (r3 : Rd w w.heap.size A3 shV 4 s.threads) (hok : svOk s = true) (hl1 : s.shots.length < 60) (hl2 : s.marks.length < 20) (hf : (svD s).2 = true) (ha : 0 ≤ a ∧ a ≤ 255) (hbb : 0 ≤ b ∧ b ≤ 255) (hij : a % s.n = b % s.n) :
    Calls Try.prog 7 #[.agg #[.int .i64 s.n, .slice A1 s.shots.length c1, .slice A2 s.marks.length c2, .slice A3 s.threads.length c3], .int .u8 a, .int .u8 b] w fun e w' => e = .returned (.bool true) ∧ Below w.heap.size w w' := by
  have R1 := Lib.hid r1
  have R2 := Lib.hid r2
  have R3 := Lib.hid r3
  have HOK := Lib.hid hok
  have HF := Lib.hid hf
  have hq1 : ((s.shots.length : Int) == 60) = false := by rw [beq_eq_false_iff_ne]; omega
  have hq2 : ((s.marks.length : Int) == 20) = false := by rw [beq_eq_false_iff_ne]; omega
  obtain ⟨⟨n1, n2, n3, n4, n5⟩, _⟩ := svOk_spec hok
  have HIJ := Lib.hid hij
  clear hij r1 r2 r3 hok hf
  go_enter Try.func7, Try.ntmps7
  go_upto_region 6 with (first | (go_at_call 35; refine (alive_any _).mono ?_; rintro e w1 ⟨rfl, hb1⟩; obtain ⟨hc1, hf1⟩ := bcell hb1; have hz1 := hb1.size; simp at hz1; have hlt : w.heap.size < w1.heap.size := by omega) | (go_at_call 36; (have hbA : Below w.heap.size w w1 := by (repeat' (first | (with_reducible exact Below.refl _ _) | (with_reducible refine Below.alloc ?_ ?_ _) | (with_reducible refine Below.drew ?_) | (with_reducible refine Below.drewN_ ?_ _) | (with_reducible refine Below.setCell ?_ ?_ _) | (with_reducible refine Below.setRow ?_ ?_ _) | (with_reducible refine Below.via ?_ (by with_reducible assumption) ?_) | go_size))); have hr := ready_any s c1 c2 c3 A1 A2 A3 w1 ((R1.out.below hbA).more hbA.size) ((R2.out.below hbA).more hbA.size) ((R3.out.below hbA).more hbA.size); rw [HOK.out] at hr; refine hr.mono ?_; rintro e w2 ⟨rfl, hb2⟩; clear hr; (have S : w2.heap[w.heap.size]? = some (.cells #[.int .i64 s.n, .slice A1 s.shots.length c1, .slice A2 s.marks.length c2, .slice A3 s.threads.length c3] 26 (0, 0)) := row_keep (row_keep (heap_alloc_new _ _) hb1) hb2); have HS := Lib.hid S; have s0 := cell_of_row w2 _ 0 _ _ _ S; have s1 := cell_of_row w2 _ 1 _ _ _ S; have s2 := cell_of_row w2 _ 2 _ _ _ S; simp only [List.getElem?_toArray, List.getElem?_cons_zero, List.getElem?_cons_succ] at s0 s1 s2; clear S))
  have hzz := hb2.size
  have hb3 : Below w.heap.size w w2 := by (repeat' (first | (with_reducible exact Below.refl _ _) | (with_reducible refine Below.alloc ?_ ?_ _) | (with_reducible refine Below.drew ?_) | (with_reducible refine Below.drewN_ ?_ _) | (with_reducible refine Below.setCell ?_ ?_ _) | (with_reducible refine Below.setRow ?_ ?_ _) | (with_reducible refine Below.via ?_ (by with_reducible assumption) ?_) | go_size))
  have hws : w.heap.size < w2.heap.size := by omega
  clear hb1 hb2 hbA hc1 hf1 hz1 hlt hzz s1 s2 hq1 hq2
  obtain ⟨i, hai, hi⟩ : ∃ i : Nat, a % s.n = i ∧ i < s.n.toNat := ⟨(a % s.n).toNat, by have := Int.emod_nonneg a (show s.n ≠ 0 by omega); omega, by have := Int.emod_nonneg a (show s.n ≠ 0 by omega); have := Int.emod_lt_of_pos a (show 0 < s.n by omega); omega⟩
  obtain ⟨j, haj, hj⟩ : ∃ i : Nat, b % s.n = i ∧ i < s.n.toNat := ⟨(b % s.n).toNat, by have := Int.emod_nonneg b (show s.n ≠ 0 by omega); omega, by have := Int.emod_nonneg b (show s.n ≠ 0 by omega); have := Int.emod_lt_of_pos b (show 0 < s.n by omega); omega⟩
  refine (wpIn_wide (n := 3)).1 ?_
  refine wpIn_region_planYA (X := Nat × Nat) (by kernel_rfl) 14 (by decide +kernel) (by decide +kernel) (by omega)
    (fun x i' => if i' = 10 then .pointer (some ⟨x.1, 0, none⟩) else if i' = 11 then .pointer (some ⟨x.2, 0, none⟩) else (#[.int .u8 a, .int .i64 a, .pointer (some ⟨w.heap.size, 0, none⟩), .int .i64 s.n, .int .i64 (i : Int), .int .u8 b, .int .i64 b, .pointer (some ⟨w.heap.size, 0, none⟩), .int .i64 s.n, .int .i64 (j : Int)] : Array Value).getD i' undef)
    (fun L x W => Below w2.heap.size w2 W ∧ (L 10 = true → w2.heap.size ≤ x.1 ∧ W.heap[x.1]? = some (.cells #[.int .i64 (if L 12 then (i : Int) else 0)] 3 (0, 0))) ∧ (L 11 = true → w2.heap.size ≤ x.2 ∧ W.heap[x.2]? = some (.cells #[.int .i64 (if L 13 then (j : Int) else 0)] 3 (0, 0))) ∧ (L 10 = true → L 11 = true → x.1 ≠ x.2)) _ _ (0, 0) ?aF ?hA ?hS ?hstep ?htail
  case hA => intro x; simp [putTo, putIf, dstAt, Act.put, List.range_succ]; rfl
  case hS => exact fun L hL => ⟨(Below.refl _ _).drew, fun h => (by rw [hL] at h; cases h), fun h => (by rw [hL] at h; cases h), fun h => (by rw [hL] at h; cases h)⟩
  case hstep =>
    intro i' o' hi' ho L x W hL hcl hdep hW
    obtain ⟨hW, hA, hB, hN⟩ := hW
    have HA := Lib.hid hA
    have HB := Lib.hid hB
    have HN := Lib.hid hN
    clear hA hB hN
    have hzW := hW.size
    refine ⟨fun _ _ => trivial, ?_⟩
    have p0 := (hW.cell (p := ⟨w.heap.size, 0, none⟩) hws).trans s0
    have wa : IntKind.i64.wrap a = a := IntWalk.i64_in _ (by omega)
    have wb : IntKind.i64.wrap b = b := IntWalk.i64_in _ (by omega)
    have ta : a.tmod s.n = (i : Int) := by rw [Int.tmod_eq_emod_of_nonneg ha.1]; exact hai
    have tb : b.tmod s.n = (j : Int) := by rw [Int.tmod_eq_emod_of_nonneg hbb.1]; exact haj
    have nz : ¬ s.n = 0 := by omega
    have nz2 : (s.n == 0) = false := by rw [beq_eq_false_iff_ne]; exact nz
    match i', hi', ho with
    | 0, _, ho => simp only [List.getElem?_toArray, List.getElem?_cons_succ, List.getElem?_cons_zero, Option.some.injEq] at ho; subst ho; go_simp; exact ⟨x, fun _ _ => rfl, rfl, hW, fun h => by simpa using HA.out (by simpa using h), fun h => by simpa using HB.out (by simpa using h), fun h h2 => HN.out (by simpa using h) (by simpa using h2)⟩
    | 1, _, ho => simp only [List.getElem?_toArray, List.getElem?_cons_succ, List.getElem?_cons_zero, Option.some.injEq] at ho; subst ho; go_simp; exact ⟨x, fun _ _ => rfl, rfl, hW, fun h => by simpa using HA.out (by simpa using h), fun h => by simpa using HB.out (by simpa using h), fun h h2 => HN.out (by simpa using h) (by simpa using h2)⟩
    | 2, _, ho => simp only [List.getElem?_toArray, List.getElem?_cons_succ, List.getElem?_cons_zero, Option.some.injEq] at ho; subst ho; go_simp; exact ⟨x, fun _ _ => rfl, rfl, hW, fun h => by simpa using HA.out (by simpa using h), fun h => by simpa using HB.out (by simpa using h), fun h h2 => HN.out (by simpa using h) (by simpa using h2)⟩
    | 3, _, ho => simp only [List.getElem?_toArray, List.getElem?_cons_succ, List.getElem?_cons_zero, Option.some.injEq] at ho; subst ho; go_simp; exact ⟨x, fun _ _ => rfl, rfl, hW, fun h => by simpa using HA.out (by simpa using h), fun h => by simpa using HB.out (by simpa using h), fun h h2 => HN.out (by simpa using h) (by simpa using h2)⟩
    | 4, _, ho => simp only [List.getElem?_toArray, List.getElem?_cons_succ, List.getElem?_cons_zero, Option.some.injEq] at ho; subst ho; go_simp; exact ⟨x, fun _ _ => rfl, rfl, hW, fun h => by simpa using HA.out (by simpa using h), fun h => by simpa using HB.out (by simpa using h), fun h h2 => HN.out (by simpa using h) (by simpa using h2)⟩
    | 5, _, ho => simp only [List.getElem?_toArray, List.getElem?_cons_succ, List.getElem?_cons_zero, Option.some.injEq] at ho; subst ho; go_simp; exact ⟨x, fun _ _ => rfl, rfl, hW, fun h => by simpa using HA.out (by simpa using h), fun h => by simpa using HB.out (by simpa using h), fun h h2 => HN.out (by simpa using h) (by simpa using h2)⟩
    | 6, _, ho => simp only [List.getElem?_toArray, List.getElem?_cons_succ, List.getElem?_cons_zero, Option.some.injEq] at ho; subst ho; go_simp; exact ⟨x, fun _ _ => rfl, rfl, hW, fun h => by simpa using HA.out (by simpa using h), fun h => by simpa using HB.out (by simpa using h), fun h h2 => HN.out (by simpa using h) (by simpa using h2)⟩
    | 7, _, ho => simp only [List.getElem?_toArray, List.getElem?_cons_succ, List.getElem?_cons_zero, Option.some.injEq] at ho; subst ho; go_simp; exact ⟨x, fun _ _ => rfl, rfl, hW, fun h => by simpa using HA.out (by simpa using h), fun h => by simpa using HB.out (by simpa using h), fun h h2 => HN.out (by simpa using h) (by simpa using h2)⟩
    | 8, _, ho => simp only [List.getElem?_toArray, List.getElem?_cons_succ, List.getElem?_cons_zero, Option.some.injEq] at ho; subst ho; go_simp; exact ⟨x, fun _ _ => rfl, rfl, hW, fun h => by simpa using HA.out (by simpa using h), fun h => by simpa using HB.out (by simpa using h), fun h h2 => HN.out (by simpa using h) (by simpa using h2)⟩
    | 9, _, ho => simp only [List.getElem?_toArray, List.getElem?_cons_succ, List.getElem?_cons_zero, Option.some.injEq] at ho; subst ho; go_simp; exact ⟨x, fun _ _ => rfl, rfl, hW, fun h => by simpa using HA.out (by simpa using h), fun h => by simpa using HB.out (by simpa using h), fun h h2 => HN.out (by simpa using h) (by simpa using h2)⟩
    | 10, _, ho =>
      simp only [List.getElem?_toArray, List.getElem?_cons_succ, List.getElem?_cons_zero, Option.some.injEq] at ho
      subst ho
      have h12 : L 12 = false := by
        cases h : L 12
        · rfl
        · have h2 := hcl 12 _ h rfl { on := 10, ground := Ground.data } (by simp) rfl
          rw [hL] at h2
          cases h2
      go_simp
      refine ⟨(W.heap.size, x.2), fun j' hj' => ?_, rfl, hW.alloc hzW _, fun _ => ⟨hzW, ?_⟩, fun h => ?_, fun _ h2 => ?_⟩
      · by_cases e : j' = 10
        · rw [e, hL] at hj'; cases hj'
        · dsimp only; rw [if_neg e, if_neg e]
      · have e : (L 12 || (12 == 10)) = false := by rw [h12]; rfl
        dsimp only
        rw [if_neg (by rw [e]; simp)]
        exact heap_alloc_new _ _
      · have h3 := HB.out (by simpa using h)
        refine ⟨h3.1, ?_⟩
        have h4 := (Below.heap_alloc W (Obj.cells #[.int .i64 0] 3) _ (Array.getElem?_eq_some_iff.1 h3.2).1).trans h3.2
        simpa using h4
      · have h3 := (Array.getElem?_eq_some_iff.1 (HB.out (by simpa using h2)).2).1
        dsimp only
        omega
    | 11, _, ho =>
      simp only [List.getElem?_toArray, List.getElem?_cons_succ, List.getElem?_cons_zero, Option.some.injEq] at ho
      subst ho
      have h12 : L 13 = false := by
        cases h : L 13
        · rfl
        · have h2 := hcl 13 _ h rfl { on := 11, ground := Ground.data } (by simp) rfl
          rw [hL] at h2
          cases h2
      go_simp
      refine ⟨(x.1, W.heap.size), fun j' hj' => ?_, rfl, hW.alloc hzW _, fun h => ?_, fun _ => ⟨hzW, ?_⟩, fun h2 _ => ?_⟩
      · by_cases e : j' = 11
        · rw [e, hL] at hj'; cases hj'
        · dsimp only
          by_cases e0 : j' = 10
          · rw [if_pos e0, if_pos e0]
          · rw [if_neg e0, if_neg e0, if_neg e, if_neg e]
      · have h3 := HA.out (by simpa using h)
        refine ⟨h3.1, ?_⟩
        have h4 := (Below.heap_alloc W (Obj.cells #[.int .i64 0] 3) _ (Array.getElem?_eq_some_iff.1 h3.2).1).trans h3.2
        simpa using h4
      · have e : (L 13 || (13 == 11)) = false := by rw [h12]; rfl
        dsimp only
        rw [if_neg (by rw [e]; simp)]
        exact heap_alloc_new _ _
      · have h3 := (Array.getElem?_eq_some_iff.1 (HA.out (by simpa using h2)).2).1
        dsimp only
        omega
    | 12, _, ho =>
      simp only [List.getElem?_toArray, List.getElem?_cons_succ, List.getElem?_cons_zero, Option.some.injEq] at ho
      subst ho
      have hal : L 10 = true := hdep { on := 10, ground := Ground.data } (by simp) rfl
      obtain ⟨hx1, hx2⟩ := HA.out hal
      rw [hL] at hx2
      simp only [Bool.false_eq_true, if_false] at hx2
      have HX2 := Lib.hid hx2
      have y0 := cell_of_row W x.1 0 _ _ _ hx2
      have f0 := frozen_of_row W x.1 0 _ _ hx2
      simp at y0
      clear hx2
      go_simp
      refine ⟨x, fun _ _ => rfl, rfl, Below.setCell hW hx1 _, fun _ => ⟨hx1, ?_⟩, fun h => ?_, fun h h2 => HN.out (by simpa using h) (by simpa using h2)⟩
      · rw [if_pos (by simp)]
        rw [heap_setCell_same W x.1 0 _ _ _ HX2.out]
        rfl
      · have h3 := HB.out (by simpa using h)
        refine ⟨h3.1, ?_⟩
        have hne := HN.out hal (by simpa using h)
        rw [Below.heap_setCell _ _ _ _ (by dsimp only; omega)]
        simpa using h3.2
    | 13, _, ho =>
      simp only [List.getElem?_toArray, List.getElem?_cons_succ, List.getElem?_cons_zero, Option.some.injEq] at ho
      subst ho
      have hal : L 11 = true := hdep { on := 11, ground := Ground.data } (by simp) rfl
      obtain ⟨hx1, hx2⟩ := HB.out hal
      rw [hL] at hx2
      simp only [Bool.false_eq_true, if_false] at hx2
      have HX2 := Lib.hid hx2
      have y0 := cell_of_row W x.2 0 _ _ _ hx2
      have f0 := frozen_of_row W x.2 0 _ _ hx2
      simp at y0
      clear hx2
      go_simp
      refine ⟨x, fun _ _ => rfl, rfl, Below.setCell hW hx1 _, fun h => ?_, fun _ => ⟨hx1, ?_⟩, fun h h2 => HN.out (by simpa using h) (by simpa using h2)⟩
      · have h3 := HA.out (by simpa using h)
        refine ⟨h3.1, ?_⟩
        have hne := HN.out (by simpa using h) hal
        rw [Below.heap_setCell _ _ _ _ (by dsimp only; omega)]
        simpa using h3.2
      · rw [if_pos (by simp)]
        rw [heap_setCell_same W x.2 0 _ _ _ HX2.out]
        rfl
    | k + 14, hk, _ => omega
  case htail =>
    intro L x W hL hW
    obtain ⟨hbW, hA, hB, hN⟩ := hW
    have KA := Lib.hid (hA (hL 10 (by omega))).2
    have KB := Lib.hid (hB (hL 11 (by omega))).2
    rw [if_pos (hL 12 (by omega))] at KA
    rw [if_pos (hL 13 (by omega))] at KB
    obtain ⟨ga, gb⟩ := x
    dsimp only at KA KB
    replace HS := Lib.hid (row_keep HS.out hbW)
    replace hb3 := below_keep hb3 hb3.size hbW
    have hijn : i = j := by have := HIJ.out; omega
    clear hA hB hN hL hbW hai haj hws s0
    simp only [List.drop_succ_cons, List.drop_zero]
    gi_wp2_with fail
    obtain ⟨p1, p2, x1, x2, H1, P, Fq, HEQ, Mq, Sq⟩ := reach_vals HOK.out HF.out hl1 hl2 hi hj
    replace H1 := Lib.hid H1
    have H5 := Lib.hid (lvHeights_fit HOK.out HF.out)
    have HP := Lib.hid P
    obtain ⟨m1, m2, m3, m4⟩ := Mq
    have M1 := Lib.hid m1
    have M2 := Lib.hid m2
    have M3 := Lib.hid m3
    have M4 := Lib.hid m4
    obtain ⟨rfl, rfl⟩ := HEQ hijn
    subst hijn
    clear Sq P HEQ m1 m2 m3 m4
    have s0 : W.cell? ⟨w.heap.size, 0, none⟩ = some (.int .i64 s.n) := cell_of_row W _ 0 _ _ _ HS.out
    have s1 : W.cell? ⟨w.heap.size, 1, none⟩ = some (.slice A1 s.shots.length c1) := cell_of_row W _ 1 _ _ _ HS.out
    have s2 : W.cell? ⟨w.heap.size, 2, none⟩ = some (.slice A2 s.marks.length c2) := cell_of_row W _ 2 _ _ _ HS.out
    have s3 : W.cell? ⟨w.heap.size, 3, none⟩ = some (.slice A3 s.threads.length c3) := cell_of_row W _ 3 _ _ _ HS.out
    have ka : W.cell? ⟨ga, 0, none⟩ = some (.int .i64 (i : Int)) := cell_of_row W _ 0 _ _ _ KA.out
    have kb : W.cell? ⟨gb, 0, none⟩ = some (.int .i64 (i : Int)) := cell_of_row W _ 0 _ _ _ KB.out
    go_upto_region 8 with (go_at_call 16; refine (heights_as s c1 c2 c3 A1 A2 A3 W ((R1.out.below hb3).more hb3.size) ((R2.out.below hb3).more hb3.size) ((R3.out.below hb3).more hb3.size) H5.out).mono ?_; rintro e v7 ⟨⟨AH, cH, rfl, qh⟩, hK⟩)
    have QH := Lib.hid qh
    replace HS := Lib.hid (row_keep HS.out hK)
    replace KA := Lib.hid (row_keep KA.out hK)
    replace KB := Lib.hid (row_keep KB.out hK)
    replace hb3 := below_keep hb3 hb3.size hK
    clear hK qh s0 s1 s2 s3 ka kb
    have s0 : v7.cell? ⟨w.heap.size, 0, none⟩ = some (.int .i64 s.n) := cell_of_row v7 _ 0 _ _ _ HS.out
    have s1 : v7.cell? ⟨w.heap.size, 1, none⟩ = some (.slice A1 s.shots.length c1) := cell_of_row v7 _ 1 _ _ _ HS.out
    have s2 : v7.cell? ⟨w.heap.size, 2, none⟩ = some (.slice A2 s.marks.length c2) := cell_of_row v7 _ 2 _ _ _ HS.out
    have s3 : v7.cell? ⟨w.heap.size, 3, none⟩ = some (.slice A3 s.threads.length c3) := cell_of_row v7 _ 3 _ _ _ HS.out
    have ka : v7.cell? ⟨ga, 0, none⟩ = some (.int .i64 (i : Int)) := cell_of_row v7 _ 0 _ _ _ KA.out
    have kb : v7.cell? ⟨gb, 0, none⟩ = some (.int .i64 (i : Int)) := cell_of_row v7 _ 0 _ _ _ KB.out
    go_upto_region 9 with (go_at_call 18; refine (fall_as s i i c1 c2 c3 A1 A2 A3 v7 ((R1.out.below hb3).more hb3.size) ((R2.out.below hb3).more hb3.size) ((R3.out.below hb3).more hb3.size) H1.out).mono ?_; rintro e wb ⟨rfl, hbb8⟩)
    obtain ⟨v8, hw⟩ : ∃ v, wb.alloc (Obj.cells #[.int .i64 (0), .int .i64 (0)] 36) = v := ⟨_, rfl⟩
    obtain ⟨bx, hbk⟩ : ∃ b, wb.heap.size = b := ⟨_, rfl⟩
    rw [hw, hbk]
    have hK : Below v7.heap.size v7 v8 := by rw [← hw]; exact hbb8.alloc hbb8.size _
    have Ya : v8.heap[bx]? = some (.cells #[.int .i64 (0), .int .i64 (0)] 36 (0, 0)) := by rw [← hw, ← hbk]; exact heap_alloc_new _ _
    have YX := Lib.hid Ya
    replace QH := Lib.hid (rd_keep QH.out hK)
    replace HS := Lib.hid (row_keep HS.out hK)
    replace KA := Lib.hid (row_keep KA.out hK)
    replace KB := Lib.hid (row_keep KB.out hK)
    replace hb3 := below_keep hb3 hb3.size hK
    clear hw hbk hK Ya hbb8 s0 s1 s2 s3 ka kb
    have hlen := hts_len s
    obtain ⟨bh, oh, rfl, hbh, hcell⟩ := QH.out (by omega)
    have ci0 := hcell i _ HP.out 0 _ rfl
    have ci1 := hcell i _ HP.out 1 _ rfl
    dsimp only at ci0 ci1
    rw [Nat.add_zero] at ci0
    obtain ⟨m, hm⟩ : ∃ m, (htsList s).length = m := ⟨_, rfl⟩
    rw [hm] at hlen ⊢
    have hln : ((m : Int) != s.n) = false := by rw [bne_eq_false_iff_eq]; omega
    have him : i < m := by omega
    have s0 : v8.cell? ⟨w.heap.size, 0, none⟩ = some (.int .i64 s.n) := cell_of_row v8 _ 0 _ _ _ HS.out
    have s1 : v8.cell? ⟨w.heap.size, 1, none⟩ = some (.slice A1 s.shots.length c1) := cell_of_row v8 _ 1 _ _ _ HS.out
    have s2 : v8.cell? ⟨w.heap.size, 2, none⟩ = some (.slice A2 s.marks.length c2) := cell_of_row v8 _ 2 _ _ _ HS.out
    have s3 : v8.cell? ⟨w.heap.size, 3, none⟩ = some (.slice A3 s.threads.length c3) := cell_of_row v8 _ 3 _ _ _ HS.out
    have ka : v8.cell? ⟨ga, 0, none⟩ = some (.int .i64 (i : Int)) := cell_of_row v8 _ 0 _ _ _ KA.out
    have kb : v8.cell? ⟨gb, 0, none⟩ = some (.int .i64 (i : Int)) := cell_of_row v8 _ 0 _ _ _ KB.out
    have y0 : v8.cell? ⟨bx, 0, none⟩ = some (.int .i64 (0)) := cell_of_row v8 _ 0 _ _ _ YX.out
    have y1 : v8.cell? ⟨bx, 1, none⟩ = some (.int .i64 (0)) := cell_of_row v8 _ 1 _ _ _ YX.out
    have lS := (Array.getElem?_eq_some_iff.1 HS.out).1
    have lA := (Array.getElem?_eq_some_iff.1 KA.out).1
    have lB := (Array.getElem?_eq_some_iff.1 KB.out).1
    have lx := (Array.getElem?_eq_some_iff.1 YX.out).1
    obtain ⟨F1, F2, F3, F4, F5, F6⟩ := Fq
    have g1 : ¬ p2 < p1 := by omega
    have g2 : ¬ p1 < -10000000 := by omega
    have g3 : ¬ 10000000 < p2 := by omega
    have g4 : ¬ ((0 : Int)) < 0 := by omega
    have HC0 := Lib.hid ci0
    have HC1 := Lib.hid ci1
    clear hcell hm QH hlen
    go_upto_region 11 with fail
    refine wp_region_calm (by kernel_rfl) (by kernel_rfl) ?_
    repeat (go_big_quiet_step ((first | (go_at_call 39; exact calm_of (span_any _ _ _)))))
    refine wpQuiet_nil ?_; rintro _ ⟨dx, rfl⟩
    obtain ⟨wy, hwy⟩ : ∃ wy, wx _ dx = wy := ⟨_, rfl⟩; have hby := wx_below _ dx; rw [hwy] at hby ⊢
    replace HS := Lib.hid (row_keep HS.out hby)
    replace KA := Lib.hid (row_keep KA.out hby)
    replace KB := Lib.hid (row_keep KB.out hby)
    replace YX := Lib.hid (row_keep YX.out hby)
    replace HC0 := Lib.hid ((hby.cell (p := ⟨bh, oh + i * 2, none⟩) hbh).trans HC0.out)
    replace HC1 := Lib.hid ((hby.cell (p := ⟨bh, oh + i * 2 + 1, none⟩) hbh).trans HC1.out)
    replace hbh := Nat.lt_of_lt_of_le hbh hby.size
    replace hb3 := below_keep hb3 hb3.size hby
    clear hby hwy ci0 ci1 s0 s1 s2 s3 ka kb y0 y1 lS lA lB lx
    have ka : wy.cell? ⟨ga, 0, none⟩ = some (.int .i64 (i : Int)) := cell_of_row wy _ 0 _ _ _ KA.out
    have kb : wy.cell? ⟨gb, 0, none⟩ = some (.int .i64 (i : Int)) := cell_of_row wy _ 0 _ _ _ KB.out
    have z0 := HC0.out
    have z1 := HC1.out
    have t1 : True := trivial
    have t2 : True := trivial
    have t3 : True := trivial
    have t4 : True := trivial
    go_wp2_with (first | (go_at_call 40; first | (have _t := t1; clear t1 _t; refine (marked_as s p1 i w.heap.size ga c1 c2 c3 A1 A2 A3 wy M1.out HS.out KA.out ((R1.out.below hb3).more hb3.size) ((R2.out.below hb3).more hb3.size) ((R3.out.below hb3).more hb3.size) (by omega) (by omega) (by omega)).mono ?_; rintro e u1 ⟨rfl, hK⟩; replace HS := Lib.hid (row_keep HS.out hK); replace KA := Lib.hid (row_keep KA.out hK); replace KB := Lib.hid (row_keep KB.out hK); replace YX := Lib.hid (row_keep YX.out hK); replace HC0 := Lib.hid ((hK.cell (p := ⟨bh, oh + i * 2, none⟩) hbh).trans HC0.out); replace HC1 := Lib.hid ((hK.cell (p := ⟨bh, oh + i * 2 + 1, none⟩) hbh).trans HC1.out); replace hbh := Nat.lt_of_lt_of_le hbh hK.size; replace hb3 := below_keep hb3 hb3.size hK; clear hK; (have ka : u1.cell? ⟨ga, 0, none⟩ = some (.int .i64 (i : Int)) := cell_of_row u1 _ 0 _ _ _ KA.out); (have kb : u1.cell? ⟨gb, 0, none⟩ = some (.int .i64 (i : Int)) := cell_of_row u1 _ 0 _ _ _ KB.out); have z0 := HC0.out; have z1 := HC1.out) | (have _t := t2; clear t2 _t; refine (marked_as s p2 i w.heap.size ga c1 c2 c3 A1 A2 A3 u1 M2.out HS.out KA.out ((R1.out.below hb3).more hb3.size) ((R2.out.below hb3).more hb3.size) ((R3.out.below hb3).more hb3.size) (by omega) (by omega) (by omega)).mono ?_; rintro e u2 ⟨rfl, hK⟩; replace HS := Lib.hid (row_keep HS.out hK); replace KA := Lib.hid (row_keep KA.out hK); replace KB := Lib.hid (row_keep KB.out hK); replace YX := Lib.hid (row_keep YX.out hK); replace HC0 := Lib.hid ((hK.cell (p := ⟨bh, oh + i * 2, none⟩) hbh).trans HC0.out); replace HC1 := Lib.hid ((hK.cell (p := ⟨bh, oh + i * 2 + 1, none⟩) hbh).trans HC1.out); replace hbh := Nat.lt_of_lt_of_le hbh hK.size; replace hb3 := below_keep hb3 hb3.size hK; clear hK; (have ka : u2.cell? ⟨ga, 0, none⟩ = some (.int .i64 (i : Int)) := cell_of_row u2 _ 0 _ _ _ KA.out); (have kb : u2.cell? ⟨gb, 0, none⟩ = some (.int .i64 (i : Int)) := cell_of_row u2 _ 0 _ _ _ KB.out); have z0 := HC0.out; have z1 := HC1.out) | (have _t := t3; clear t3 _t; refine (marked_as s (p1 - 1) i w.heap.size ga c1 c2 c3 A1 A2 A3 u2 M3.out HS.out KA.out ((R1.out.below hb3).more hb3.size) ((R2.out.below hb3).more hb3.size) ((R3.out.below hb3).more hb3.size) (by omega) (by omega) (by omega)).mono ?_; rintro e u3 ⟨rfl, hK⟩; replace HS := Lib.hid (row_keep HS.out hK); replace KA := Lib.hid (row_keep KA.out hK); replace KB := Lib.hid (row_keep KB.out hK); replace YX := Lib.hid (row_keep YX.out hK); replace HC0 := Lib.hid ((hK.cell (p := ⟨bh, oh + i * 2, none⟩) hbh).trans HC0.out); replace HC1 := Lib.hid ((hK.cell (p := ⟨bh, oh + i * 2 + 1, none⟩) hbh).trans HC1.out); replace hbh := Nat.lt_of_lt_of_le hbh hK.size; replace hb3 := below_keep hb3 hb3.size hK; clear hK; (have ka : u3.cell? ⟨ga, 0, none⟩ = some (.int .i64 (i : Int)) := cell_of_row u3 _ 0 _ _ _ KA.out); (have kb : u3.cell? ⟨gb, 0, none⟩ = some (.int .i64 (i : Int)) := cell_of_row u3 _ 0 _ _ _ KB.out); have z0 := HC0.out; have z1 := HC1.out) | (have _t := t4; clear t4 _t; refine (marked_as s (p2 + 1) i w.heap.size ga c1 c2 c3 A1 A2 A3 u3 M4.out HS.out KA.out ((R1.out.below hb3).more hb3.size) ((R2.out.below hb3).more hb3.size) ((R3.out.below hb3).more hb3.size) (by omega) (by omega) (by omega)).mono ?_; rintro e u4 ⟨rfl, hK⟩; replace HS := Lib.hid (row_keep HS.out hK); replace KA := Lib.hid (row_keep KA.out hK); replace KB := Lib.hid (row_keep KB.out hK); replace YX := Lib.hid (row_keep YX.out hK); replace HC0 := Lib.hid ((hK.cell (p := ⟨bh, oh + i * 2, none⟩) hbh).trans HC0.out); replace HC1 := Lib.hid ((hK.cell (p := ⟨bh, oh + i * 2 + 1, none⟩) hbh).trans HC1.out); replace hbh := Nat.lt_of_lt_of_le hbh hK.size; replace hb3 := below_keep hb3 hb3.size hK; clear hK; (have ka : u4.cell? ⟨ga, 0, none⟩ = some (.int .i64 (i : Int)) := cell_of_row u4 _ 0 _ _ _ KA.out); (have kb : u4.cell? ⟨gb, 0, none⟩ = some (.int .i64 (i : Int)) := cell_of_row u4 _ 0 _ _ _ KB.out); have z0 := HC0.out; have z1 := HC1.out)))
    go_ret
    exact ⟨rfl, hb3⟩

set_option maxRecDepth 100000 in
set_option maxHeartbeats 8000000 in
theorem lawReached_other (s : Sv) (a b : Int) (c1 c2 c3 : Nat) (A1 A2 A3 : Option Addr) (w : World)
    (r1 : Rd w w.heap.size A1 shV 4 s.shots) (r2 : Rd w w.heap.size A2 mkV 3 s.marks) (r3 : Rd w w.heap.size A3 shV 4 s.threads) (hok : svOk s = true) (hl1 : s.shots.length < 60) (hl2 : s.marks.length < 20) (hf : (svD s).2 = true) (ha : 0 ≤ a ∧ a ≤ 255) (hbb : 0 ≤ b ∧ b ≤ 255) (hij : a % s.n ≠ b % s.n) :
    Calls Try.prog 7 #[.agg #[.int .i64 s.n, .slice A1 s.shots.length c1, .slice A2 s.marks.length c2, .slice A3 s.threads.length c3], .int .u8 a, .int .u8 b] w fun e w' => e = .returned (.bool true) ∧ Below w.heap.size w w' := by
  have R1 := Lib.hid r1
  have R2 := Lib.hid r2
  have R3 := Lib.hid r3
  have HOK := Lib.hid hok
  have HF := Lib.hid hf
  have hq1 : ((s.shots.length : Int) == 60) = false := by rw [beq_eq_false_iff_ne]; omega
  have hq2 : ((s.marks.length : Int) == 20) = false := by rw [beq_eq_false_iff_ne]; omega
  obtain ⟨⟨n1, n2, n3, n4, n5⟩, _⟩ := svOk_spec hok
  have HIJ := Lib.hid hij
  clear hij r1 r2 r3 hok hf
  go_enter Try.func7, Try.ntmps7
  go_upto_region 6 with (first | (go_at_call 35; refine (alive_any _).mono ?_; rintro e w1 ⟨rfl, hb1⟩; obtain ⟨hc1, hf1⟩ := bcell hb1; have hz1 := hb1.size; simp at hz1; have hlt : w.heap.size < w1.heap.size := by omega) | (go_at_call 36; (have hbA : Below w.heap.size w w1 := by (repeat' (first | (with_reducible exact Below.refl _ _) | (with_reducible refine Below.alloc ?_ ?_ _) | (with_reducible refine Below.drew ?_) | (with_reducible refine Below.drewN_ ?_ _) | (with_reducible refine Below.setCell ?_ ?_ _) | (with_reducible refine Below.setRow ?_ ?_ _) | (with_reducible refine Below.via ?_ (by with_reducible assumption) ?_) | go_size))); have hr := ready_any s c1 c2 c3 A1 A2 A3 w1 ((R1.out.below hbA).more hbA.size) ((R2.out.below hbA).more hbA.size) ((R3.out.below hbA).more hbA.size); rw [HOK.out] at hr; refine hr.mono ?_; rintro e w2 ⟨rfl, hb2⟩; clear hr; (have S : w2.heap[w.heap.size]? = some (.cells #[.int .i64 s.n, .slice A1 s.shots.length c1, .slice A2 s.marks.length c2, .slice A3 s.threads.length c3] 26 (0, 0)) := row_keep (row_keep (heap_alloc_new _ _) hb1) hb2); have HS := Lib.hid S; have s0 := cell_of_row w2 _ 0 _ _ _ S; have s1 := cell_of_row w2 _ 1 _ _ _ S; have s2 := cell_of_row w2 _ 2 _ _ _ S; simp only [List.getElem?_toArray, List.getElem?_cons_zero, List.getElem?_cons_succ] at s0 s1 s2; clear S))
  have hzz := hb2.size
  have hb3 : Below w.heap.size w w2 := by (repeat' (first | (with_reducible exact Below.refl _ _) | (with_reducible refine Below.alloc ?_ ?_ _) | (with_reducible refine Below.drew ?_) | (with_reducible refine Below.drewN_ ?_ _) | (with_reducible refine Below.setCell ?_ ?_ _) | (with_reducible refine Below.setRow ?_ ?_ _) | (with_reducible refine Below.via ?_ (by with_reducible assumption) ?_) | go_size))
  have hws : w.heap.size < w2.heap.size := by omega
  clear hb1 hb2 hbA hc1 hf1 hz1 hlt hzz s1 s2 hq1 hq2
  obtain ⟨i, hai, hi⟩ : ∃ i : Nat, a % s.n = i ∧ i < s.n.toNat := ⟨(a % s.n).toNat, by have := Int.emod_nonneg a (show s.n ≠ 0 by omega); omega, by have := Int.emod_nonneg a (show s.n ≠ 0 by omega); have := Int.emod_lt_of_pos a (show 0 < s.n by omega); omega⟩
  obtain ⟨j, haj, hj⟩ : ∃ i : Nat, b % s.n = i ∧ i < s.n.toNat := ⟨(b % s.n).toNat, by have := Int.emod_nonneg b (show s.n ≠ 0 by omega); omega, by have := Int.emod_nonneg b (show s.n ≠ 0 by omega); have := Int.emod_lt_of_pos b (show 0 < s.n by omega); omega⟩
  refine (wpIn_wide (n := 3)).1 ?_
  refine wpIn_region_planYA (X := Nat × Nat) (by kernel_rfl) 14 (by decide +kernel) (by decide +kernel) (by omega)
    (fun x i' => if i' = 10 then .pointer (some ⟨x.1, 0, none⟩) else if i' = 11 then .pointer (some ⟨x.2, 0, none⟩) else (#[.int .u8 a, .int .i64 a, .pointer (some ⟨w.heap.size, 0, none⟩), .int .i64 s.n, .int .i64 (i : Int), .int .u8 b, .int .i64 b, .pointer (some ⟨w.heap.size, 0, none⟩), .int .i64 s.n, .int .i64 (j : Int)] : Array Value).getD i' undef)
    (fun L x W => Below w2.heap.size w2 W ∧ (L 10 = true → w2.heap.size ≤ x.1 ∧ W.heap[x.1]? = some (.cells #[.int .i64 (if L 12 then (i : Int) else 0)] 3 (0, 0))) ∧ (L 11 = true → w2.heap.size ≤ x.2 ∧ W.heap[x.2]? = some (.cells #[.int .i64 (if L 13 then (j : Int) else 0)] 3 (0, 0))) ∧ (L 10 = true → L 11 = true → x.1 ≠ x.2)) _ _ (0, 0) ?aF ?hA ?hS ?hstep ?htail
  case hA => intro x; simp [putTo, putIf, dstAt, Act.put, List.range_succ]; rfl
  case hS => exact fun L hL => ⟨(Below.refl _ _).drew, fun h => (by rw [hL] at h; cases h), fun h => (by rw [hL] at h; cases h), fun h => (by rw [hL] at h; cases h)⟩
  case hstep =>
    intro i' o' hi' ho L x W hL hcl hdep hW
    obtain ⟨hW, hA, hB, hN⟩ := hW
    have HA := Lib.hid hA
    have HB := Lib.hid hB
    have HN := Lib.hid hN
    clear hA hB hN
    have hzW := hW.size
    refine ⟨fun _ _ => trivial, ?_⟩
    have p0 := (hW.cell (p := ⟨w.heap.size, 0, none⟩) hws).trans s0
    have wa : IntKind.i64.wrap a = a := IntWalk.i64_in _ (by omega)
    have wb : IntKind.i64.wrap b = b := IntWalk.i64_in _ (by omega)
    have ta : a.tmod s.n = (i : Int) := by rw [Int.tmod_eq_emod_of_nonneg ha.1]; exact hai
    have tb : b.tmod s.n = (j : Int) := by rw [Int.tmod_eq_emod_of_nonneg hbb.1]; exact haj
    have nz : ¬ s.n = 0 := by omega
    have nz2 : (s.n == 0) = false := by rw [beq_eq_false_iff_ne]; exact nz
    match i', hi', ho with
    | 0, _, ho => simp only [List.getElem?_toArray, List.getElem?_cons_succ, List.getElem?_cons_zero, Option.some.injEq] at ho; subst ho; go_simp; exact ⟨x, fun _ _ => rfl, rfl, hW, fun h => by simpa using HA.out (by simpa using h), fun h => by simpa using HB.out (by simpa using h), fun h h2 => HN.out (by simpa using h) (by simpa using h2)⟩
    | 1, _, ho => simp only [List.getElem?_toArray, List.getElem?_cons_succ, List.getElem?_cons_zero, Option.some.injEq] at ho; subst ho; go_simp; exact ⟨x, fun _ _ => rfl, rfl, hW, fun h => by simpa using HA.out (by simpa using h), fun h => by simpa using HB.out (by simpa using h), fun h h2 => HN.out (by simpa using h) (by simpa using h2)⟩
    | 2, _, ho => simp only [List.getElem?_toArray, List.getElem?_cons_succ, List.getElem?_cons_zero, Option.some.injEq] at ho; subst ho; go_simp; exact ⟨x, fun _ _ => rfl, rfl, hW, fun h => by simpa using HA.out (by simpa using h), fun h => by simpa using HB.out (by simpa using h), fun h h2 => HN.out (by simpa using h) (by simpa using h2)⟩
    | 3, _, ho => simp only [List.getElem?_toArray, List.getElem?_cons_succ, List.getElem?_cons_zero, Option.some.injEq] at ho; subst ho; go_simp; exact ⟨x, fun _ _ => rfl, rfl, hW, fun h => by simpa using HA.out (by simpa using h), fun h => by simpa using HB.out (by simpa using h), fun h h2 => HN.out (by simpa using h) (by simpa using h2)⟩
    | 4, _, ho => simp only [List.getElem?_toArray, List.getElem?_cons_succ, List.getElem?_cons_zero, Option.some.injEq] at ho; subst ho; go_simp; exact ⟨x, fun _ _ => rfl, rfl, hW, fun h => by simpa using HA.out (by simpa using h), fun h => by simpa using HB.out (by simpa using h), fun h h2 => HN.out (by simpa using h) (by simpa using h2)⟩
    | 5, _, ho => simp only [List.getElem?_toArray, List.getElem?_cons_succ, List.getElem?_cons_zero, Option.some.injEq] at ho; subst ho; go_simp; exact ⟨x, fun _ _ => rfl, rfl, hW, fun h => by simpa using HA.out (by simpa using h), fun h => by simpa using HB.out (by simpa using h), fun h h2 => HN.out (by simpa using h) (by simpa using h2)⟩
    | 6, _, ho => simp only [List.getElem?_toArray, List.getElem?_cons_succ, List.getElem?_cons_zero, Option.some.injEq] at ho; subst ho; go_simp; exact ⟨x, fun _ _ => rfl, rfl, hW, fun h => by simpa using HA.out (by simpa using h), fun h => by simpa using HB.out (by simpa using h), fun h h2 => HN.out (by simpa using h) (by simpa using h2)⟩
    | 7, _, ho => simp only [List.getElem?_toArray, List.getElem?_cons_succ, List.getElem?_cons_zero, Option.some.injEq] at ho; subst ho; go_simp; exact ⟨x, fun _ _ => rfl, rfl, hW, fun h => by simpa using HA.out (by simpa using h), fun h => by simpa using HB.out (by simpa using h), fun h h2 => HN.out (by simpa using h) (by simpa using h2)⟩
    | 8, _, ho => simp only [List.getElem?_toArray, List.getElem?_cons_succ, List.getElem?_cons_zero, Option.some.injEq] at ho; subst ho; go_simp; exact ⟨x, fun _ _ => rfl, rfl, hW, fun h => by simpa using HA.out (by simpa using h), fun h => by simpa using HB.out (by simpa using h), fun h h2 => HN.out (by simpa using h) (by simpa using h2)⟩
    | 9, _, ho => simp only [List.getElem?_toArray, List.getElem?_cons_succ, List.getElem?_cons_zero, Option.some.injEq] at ho; subst ho; go_simp; exact ⟨x, fun _ _ => rfl, rfl, hW, fun h => by simpa using HA.out (by simpa using h), fun h => by simpa using HB.out (by simpa using h), fun h h2 => HN.out (by simpa using h) (by simpa using h2)⟩
    | 10, _, ho =>
      simp only [List.getElem?_toArray, List.getElem?_cons_succ, List.getElem?_cons_zero, Option.some.injEq] at ho
      subst ho
      have h12 : L 12 = false := by
        cases h : L 12
        · rfl
        · have h2 := hcl 12 _ h rfl { on := 10, ground := Ground.data } (by simp) rfl
          rw [hL] at h2
          cases h2
      go_simp
      refine ⟨(W.heap.size, x.2), fun j' hj' => ?_, rfl, hW.alloc hzW _, fun _ => ⟨hzW, ?_⟩, fun h => ?_, fun _ h2 => ?_⟩
      · by_cases e : j' = 10
        · rw [e, hL] at hj'; cases hj'
        · dsimp only; rw [if_neg e, if_neg e]
      · have e : (L 12 || (12 == 10)) = false := by rw [h12]; rfl
        dsimp only
        rw [if_neg (by rw [e]; simp)]
        exact heap_alloc_new _ _
      · have h3 := HB.out (by simpa using h)
        refine ⟨h3.1, ?_⟩
        have h4 := (Below.heap_alloc W (Obj.cells #[.int .i64 0] 3) _ (Array.getElem?_eq_some_iff.1 h3.2).1).trans h3.2
        simpa using h4
      · have h3 := (Array.getElem?_eq_some_iff.1 (HB.out (by simpa using h2)).2).1
        dsimp only
        omega
    | 11, _, ho =>
      simp only [List.getElem?_toArray, List.getElem?_cons_succ, List.getElem?_cons_zero, Option.some.injEq] at ho
      subst ho
      have h12 : L 13 = false := by
        cases h : L 13
        · rfl
        · have h2 := hcl 13 _ h rfl { on := 11, ground := Ground.data } (by simp) rfl
          rw [hL] at h2
          cases h2
      go_simp
      refine ⟨(x.1, W.heap.size), fun j' hj' => ?_, rfl, hW.alloc hzW _, fun h => ?_, fun _ => ⟨hzW, ?_⟩, fun h2 _ => ?_⟩
      · by_cases e : j' = 11
        · rw [e, hL] at hj'; cases hj'
        · dsimp only
          by_cases e0 : j' = 10
          · rw [if_pos e0, if_pos e0]
          · rw [if_neg e0, if_neg e0, if_neg e, if_neg e]
      · have h3 := HA.out (by simpa using h)
        refine ⟨h3.1, ?_⟩
        have h4 := (Below.heap_alloc W (Obj.cells #[.int .i64 0] 3) _ (Array.getElem?_eq_some_iff.1 h3.2).1).trans h3.2
        simpa using h4
      · have e : (L 13 || (13 == 11)) = false := by rw [h12]; rfl
        dsimp only
        rw [if_neg (by rw [e]; simp)]
        exact heap_alloc_new _ _
      · have h3 := (Array.getElem?_eq_some_iff.1 (HA.out (by simpa using h2)).2).1
        dsimp only
        omega
    | 12, _, ho =>
      simp only [List.getElem?_toArray, List.getElem?_cons_succ, List.getElem?_cons_zero, Option.some.injEq] at ho
      subst ho
      have hal : L 10 = true := hdep { on := 10, ground := Ground.data } (by simp) rfl
      obtain ⟨hx1, hx2⟩ := HA.out hal
      rw [hL] at hx2
      simp only [Bool.false_eq_true, if_false] at hx2
      have HX2 := Lib.hid hx2
      have y0 := cell_of_row W x.1 0 _ _ _ hx2
      have f0 := frozen_of_row W x.1 0 _ _ hx2
      simp at y0
      clear hx2
      go_simp
      refine ⟨x, fun _ _ => rfl, rfl, Below.setCell hW hx1 _, fun _ => ⟨hx1, ?_⟩, fun h => ?_, fun h h2 => HN.out (by simpa using h) (by simpa using h2)⟩
      · rw [if_pos (by simp)]
        rw [heap_setCell_same W x.1 0 _ _ _ HX2.out]
        rfl
      · have h3 := HB.out (by simpa using h)
        refine ⟨h3.1, ?_⟩
        have hne := HN.out hal (by simpa using h)
        rw [Below.heap_setCell _ _ _ _ (by dsimp only; omega)]
        simpa using h3.2
    | 13, _, ho =>
      simp only [List.getElem?_toArray, List.getElem?_cons_succ, List.getElem?_cons_zero, Option.some.injEq] at ho
      subst ho
      have hal : L 11 = true := hdep { on := 11, ground := Ground.data } (by simp) rfl
      obtain ⟨hx1, hx2⟩ := HB.out hal
      rw [hL] at hx2
      simp only [Bool.false_eq_true, if_false] at hx2
      have HX2 := Lib.hid hx2
      have y0 := cell_of_row W x.2 0 _ _ _ hx2
      have f0 := frozen_of_row W x.2 0 _ _ hx2
      simp at y0
      clear hx2
      go_simp
      refine ⟨x, fun _ _ => rfl, rfl, Below.setCell hW hx1 _, fun h => ?_, fun _ => ⟨hx1, ?_⟩, fun h h2 => HN.out (by simpa using h) (by simpa using h2)⟩
      · have h3 := HA.out (by simpa using h)
        refine ⟨h3.1, ?_⟩
        have hne := HN.out (by simpa using h) hal
        rw [Below.heap_setCell _ _ _ _ (by dsimp only; omega)]
        simpa using h3.2
      · rw [if_pos (by simp)]
        rw [heap_setCell_same W x.2 0 _ _ _ HX2.out]
        rfl
    | k + 14, hk, _ => omega
  case htail =>
    intro L x W hL hW
    obtain ⟨hbW, hA, hB, hN⟩ := hW
    have KA := Lib.hid (hA (hL 10 (by omega))).2
    have KB := Lib.hid (hB (hL 11 (by omega))).2
    rw [if_pos (hL 12 (by omega))] at KA
    rw [if_pos (hL 13 (by omega))] at KB
    obtain ⟨ga, gb⟩ := x
    dsimp only at KA KB
    replace HS := Lib.hid (row_keep HS.out hbW)
    replace hb3 := below_keep hb3 hb3.size hbW
    have hijn : i ≠ j := by have := HIJ.out; omega
    clear hA hB hN hL hbW hai haj hws s0
    simp only [List.drop_succ_cons, List.drop_zero]
    gi_wp2_with fail
    obtain ⟨p1, p2, x1, x2, H1, P, Fq, HEQ, Mq, Sq⟩ := reach_vals HOK.out HF.out hl1 hl2 hi hj
    replace H1 := Lib.hid H1
    have H5 := Lib.hid (lvHeights_fit HOK.out HF.out)
    have HP := Lib.hid P
    obtain ⟨m1, m2, m3, m4⟩ := Mq
    have M1 := Lib.hid m1
    have M2 := Lib.hid m2
    have M3 := Lib.hid m3
    have M4 := Lib.hid m4
    obtain ⟨m1, m2, m3, m4⟩ := Sq hijn
    have N1 := Lib.hid m1
    have N2 := Lib.hid m2
    have N3 := Lib.hid m3
    have N4 := Lib.hid m4
    have hijb : ((i : Int) == (j : Int)) = false := by rw [beq_eq_false_iff_ne]; omega
    clear Sq P m1 m2 m3 m4 HEQ hijn
    have s0 : W.cell? ⟨w.heap.size, 0, none⟩ = some (.int .i64 s.n) := cell_of_row W _ 0 _ _ _ HS.out
    have s1 : W.cell? ⟨w.heap.size, 1, none⟩ = some (.slice A1 s.shots.length c1) := cell_of_row W _ 1 _ _ _ HS.out
    have s2 : W.cell? ⟨w.heap.size, 2, none⟩ = some (.slice A2 s.marks.length c2) := cell_of_row W _ 2 _ _ _ HS.out
    have s3 : W.cell? ⟨w.heap.size, 3, none⟩ = some (.slice A3 s.threads.length c3) := cell_of_row W _ 3 _ _ _ HS.out
    have ka : W.cell? ⟨ga, 0, none⟩ = some (.int .i64 (i : Int)) := cell_of_row W _ 0 _ _ _ KA.out
    have kb : W.cell? ⟨gb, 0, none⟩ = some (.int .i64 (j : Int)) := cell_of_row W _ 0 _ _ _ KB.out
    go_upto_region 8 with (go_at_call 16; refine (heights_as s c1 c2 c3 A1 A2 A3 W ((R1.out.below hb3).more hb3.size) ((R2.out.below hb3).more hb3.size) ((R3.out.below hb3).more hb3.size) H5.out).mono ?_; rintro e v7 ⟨⟨AH, cH, rfl, qh⟩, hK⟩)
    have QH := Lib.hid qh
    replace HS := Lib.hid (row_keep HS.out hK)
    replace KA := Lib.hid (row_keep KA.out hK)
    replace KB := Lib.hid (row_keep KB.out hK)
    replace hb3 := below_keep hb3 hb3.size hK
    clear hK qh s0 s1 s2 s3 ka kb
    have s0 : v7.cell? ⟨w.heap.size, 0, none⟩ = some (.int .i64 s.n) := cell_of_row v7 _ 0 _ _ _ HS.out
    have s1 : v7.cell? ⟨w.heap.size, 1, none⟩ = some (.slice A1 s.shots.length c1) := cell_of_row v7 _ 1 _ _ _ HS.out
    have s2 : v7.cell? ⟨w.heap.size, 2, none⟩ = some (.slice A2 s.marks.length c2) := cell_of_row v7 _ 2 _ _ _ HS.out
    have s3 : v7.cell? ⟨w.heap.size, 3, none⟩ = some (.slice A3 s.threads.length c3) := cell_of_row v7 _ 3 _ _ _ HS.out
    have ka : v7.cell? ⟨ga, 0, none⟩ = some (.int .i64 (i : Int)) := cell_of_row v7 _ 0 _ _ _ KA.out
    have kb : v7.cell? ⟨gb, 0, none⟩ = some (.int .i64 (j : Int)) := cell_of_row v7 _ 0 _ _ _ KB.out
    go_upto_region 9 with (go_at_call 18; refine (fall_as s i j c1 c2 c3 A1 A2 A3 v7 ((R1.out.below hb3).more hb3.size) ((R2.out.below hb3).more hb3.size) ((R3.out.below hb3).more hb3.size) H1.out).mono ?_; rintro e wb ⟨rfl, hbb8⟩)
    obtain ⟨v8, hw⟩ : ∃ v, wb.alloc (Obj.cells #[.int .i64 (x1), .int .i64 (x2)] 36) = v := ⟨_, rfl⟩
    obtain ⟨bx, hbk⟩ : ∃ b, wb.heap.size = b := ⟨_, rfl⟩
    rw [hw, hbk]
    have hK : Below v7.heap.size v7 v8 := by rw [← hw]; exact hbb8.alloc hbb8.size _
    have Ya : v8.heap[bx]? = some (.cells #[.int .i64 (x1), .int .i64 (x2)] 36 (0, 0)) := by rw [← hw, ← hbk]; exact heap_alloc_new _ _
    have YX := Lib.hid Ya
    replace QH := Lib.hid (rd_keep QH.out hK)
    replace HS := Lib.hid (row_keep HS.out hK)
    replace KA := Lib.hid (row_keep KA.out hK)
    replace KB := Lib.hid (row_keep KB.out hK)
    replace hb3 := below_keep hb3 hb3.size hK
    clear hw hbk hK Ya hbb8 s0 s1 s2 s3 ka kb
    have hlen := hts_len s
    obtain ⟨bh, oh, rfl, hbh, hcell⟩ := QH.out (by omega)
    have ci0 := hcell i _ HP.out 0 _ rfl
    have ci1 := hcell i _ HP.out 1 _ rfl
    dsimp only at ci0 ci1
    rw [Nat.add_zero] at ci0
    obtain ⟨m, hm⟩ : ∃ m, (htsList s).length = m := ⟨_, rfl⟩
    rw [hm] at hlen ⊢
    have hln : ((m : Int) != s.n) = false := by rw [bne_eq_false_iff_eq]; omega
    have him : i < m := by omega
    have s0 : v8.cell? ⟨w.heap.size, 0, none⟩ = some (.int .i64 s.n) := cell_of_row v8 _ 0 _ _ _ HS.out
    have s1 : v8.cell? ⟨w.heap.size, 1, none⟩ = some (.slice A1 s.shots.length c1) := cell_of_row v8 _ 1 _ _ _ HS.out
    have s2 : v8.cell? ⟨w.heap.size, 2, none⟩ = some (.slice A2 s.marks.length c2) := cell_of_row v8 _ 2 _ _ _ HS.out
    have s3 : v8.cell? ⟨w.heap.size, 3, none⟩ = some (.slice A3 s.threads.length c3) := cell_of_row v8 _ 3 _ _ _ HS.out
    have ka : v8.cell? ⟨ga, 0, none⟩ = some (.int .i64 (i : Int)) := cell_of_row v8 _ 0 _ _ _ KA.out
    have kb : v8.cell? ⟨gb, 0, none⟩ = some (.int .i64 (j : Int)) := cell_of_row v8 _ 0 _ _ _ KB.out
    have y0 : v8.cell? ⟨bx, 0, none⟩ = some (.int .i64 (x1)) := cell_of_row v8 _ 0 _ _ _ YX.out
    have y1 : v8.cell? ⟨bx, 1, none⟩ = some (.int .i64 (x2)) := cell_of_row v8 _ 1 _ _ _ YX.out
    have lS := (Array.getElem?_eq_some_iff.1 HS.out).1
    have lA := (Array.getElem?_eq_some_iff.1 KA.out).1
    have lB := (Array.getElem?_eq_some_iff.1 KB.out).1
    have lx := (Array.getElem?_eq_some_iff.1 YX.out).1
    obtain ⟨F1, F2, F3, F4, F5, F6⟩ := Fq
    have g1 : ¬ p2 < p1 := by omega
    have g2 : ¬ p1 < -10000000 := by omega
    have g3 : ¬ 10000000 < p2 := by omega
    have g4 : ¬ (x2) < x1 := by omega
    have HC0 := Lib.hid ci0
    have HC1 := Lib.hid ci1
    clear hcell hm QH hlen
    go_upto_region 11 with fail
    refine wp_region_calm (by kernel_rfl) (by kernel_rfl) ?_
    repeat (go_big_quiet_step ((first | (go_at_call 39; exact calm_of (span_any _ _ _)))))
    refine wpQuiet_nil ?_; rintro _ ⟨dx, rfl⟩
    obtain ⟨wy, hwy⟩ : ∃ wy, wx _ dx = wy := ⟨_, rfl⟩; have hby := wx_below _ dx; rw [hwy] at hby ⊢
    replace HS := Lib.hid (row_keep HS.out hby)
    replace KA := Lib.hid (row_keep KA.out hby)
    replace KB := Lib.hid (row_keep KB.out hby)
    replace YX := Lib.hid (row_keep YX.out hby)
    replace HC0 := Lib.hid ((hby.cell (p := ⟨bh, oh + i * 2, none⟩) hbh).trans HC0.out)
    replace HC1 := Lib.hid ((hby.cell (p := ⟨bh, oh + i * 2 + 1, none⟩) hbh).trans HC1.out)
    replace hbh := Nat.lt_of_lt_of_le hbh hby.size
    replace hb3 := below_keep hb3 hb3.size hby
    clear hby hwy ci0 ci1 s0 s1 s2 s3 ka kb y0 y1 lS lA lB lx
    have ka : wy.cell? ⟨ga, 0, none⟩ = some (.int .i64 (i : Int)) := cell_of_row wy _ 0 _ _ _ KA.out
    have kb : wy.cell? ⟨gb, 0, none⟩ = some (.int .i64 (j : Int)) := cell_of_row wy _ 0 _ _ _ KB.out
    have z0 := HC0.out
    have z1 := HC1.out
    have t1 : True := trivial
    have t2 : True := trivial
    have t3 : True := trivial
    have t4 : True := trivial
    have r1 : True := trivial
    have r2 : True := trivial
    have r3 : True := trivial
    have r4 : True := trivial
    go_wp2_with (first | (go_at_call 40; first | (have _t := t1; clear t1 _t; refine (marked_as s p1 i w.heap.size ga c1 c2 c3 A1 A2 A3 wy M1.out HS.out KA.out ((R1.out.below hb3).more hb3.size) ((R2.out.below hb3).more hb3.size) ((R3.out.below hb3).more hb3.size) (by omega) (by omega) (by omega)).mono ?_; rintro e u1 ⟨rfl, hK⟩; replace HS := Lib.hid (row_keep HS.out hK); replace KA := Lib.hid (row_keep KA.out hK); replace KB := Lib.hid (row_keep KB.out hK); replace YX := Lib.hid (row_keep YX.out hK); replace HC0 := Lib.hid ((hK.cell (p := ⟨bh, oh + i * 2, none⟩) hbh).trans HC0.out); replace HC1 := Lib.hid ((hK.cell (p := ⟨bh, oh + i * 2 + 1, none⟩) hbh).trans HC1.out); replace hbh := Nat.lt_of_lt_of_le hbh hK.size; replace hb3 := below_keep hb3 hb3.size hK; clear hK; (have ka : u1.cell? ⟨ga, 0, none⟩ = some (.int .i64 (i : Int)) := cell_of_row u1 _ 0 _ _ _ KA.out); (have kb : u1.cell? ⟨gb, 0, none⟩ = some (.int .i64 (j : Int)) := cell_of_row u1 _ 0 _ _ _ KB.out); have z0 := HC0.out; have z1 := HC1.out) | (have _t := t2; clear t2 _t; refine (marked_as s p2 i w.heap.size ga c1 c2 c3 A1 A2 A3 u1 M2.out HS.out KA.out ((R1.out.below hb3).more hb3.size) ((R2.out.below hb3).more hb3.size) ((R3.out.below hb3).more hb3.size) (by omega) (by omega) (by omega)).mono ?_; rintro e u2 ⟨rfl, hK⟩; replace HS := Lib.hid (row_keep HS.out hK); replace KA := Lib.hid (row_keep KA.out hK); replace KB := Lib.hid (row_keep KB.out hK); replace YX := Lib.hid (row_keep YX.out hK); replace HC0 := Lib.hid ((hK.cell (p := ⟨bh, oh + i * 2, none⟩) hbh).trans HC0.out); replace HC1 := Lib.hid ((hK.cell (p := ⟨bh, oh + i * 2 + 1, none⟩) hbh).trans HC1.out); replace hbh := Nat.lt_of_lt_of_le hbh hK.size; replace hb3 := below_keep hb3 hb3.size hK; clear hK; (have ka : u2.cell? ⟨ga, 0, none⟩ = some (.int .i64 (i : Int)) := cell_of_row u2 _ 0 _ _ _ KA.out); (have kb : u2.cell? ⟨gb, 0, none⟩ = some (.int .i64 (j : Int)) := cell_of_row u2 _ 0 _ _ _ KB.out); have z0 := HC0.out; have z1 := HC1.out) | (have _t := t3; clear t3 _t; refine (marked_as s (p1 - 1) i w.heap.size ga c1 c2 c3 A1 A2 A3 u2 M3.out HS.out KA.out ((R1.out.below hb3).more hb3.size) ((R2.out.below hb3).more hb3.size) ((R3.out.below hb3).more hb3.size) (by omega) (by omega) (by omega)).mono ?_; rintro e u3 ⟨rfl, hK⟩; replace HS := Lib.hid (row_keep HS.out hK); replace KA := Lib.hid (row_keep KA.out hK); replace KB := Lib.hid (row_keep KB.out hK); replace YX := Lib.hid (row_keep YX.out hK); replace HC0 := Lib.hid ((hK.cell (p := ⟨bh, oh + i * 2, none⟩) hbh).trans HC0.out); replace HC1 := Lib.hid ((hK.cell (p := ⟨bh, oh + i * 2 + 1, none⟩) hbh).trans HC1.out); replace hbh := Nat.lt_of_lt_of_le hbh hK.size; replace hb3 := below_keep hb3 hb3.size hK; clear hK; (have ka : u3.cell? ⟨ga, 0, none⟩ = some (.int .i64 (i : Int)) := cell_of_row u3 _ 0 _ _ _ KA.out); (have kb : u3.cell? ⟨gb, 0, none⟩ = some (.int .i64 (j : Int)) := cell_of_row u3 _ 0 _ _ _ KB.out); have z0 := HC0.out; have z1 := HC1.out) | (have _t := t4; clear t4 _t; refine (marked_as s (p2 + 1) i w.heap.size ga c1 c2 c3 A1 A2 A3 u3 M4.out HS.out KA.out ((R1.out.below hb3).more hb3.size) ((R2.out.below hb3).more hb3.size) ((R3.out.below hb3).more hb3.size) (by omega) (by omega) (by omega)).mono ?_; rintro e u4 ⟨rfl, hK⟩; replace HS := Lib.hid (row_keep HS.out hK); replace KA := Lib.hid (row_keep KA.out hK); replace KB := Lib.hid (row_keep KB.out hK); replace YX := Lib.hid (row_keep YX.out hK); replace HC0 := Lib.hid ((hK.cell (p := ⟨bh, oh + i * 2, none⟩) hbh).trans HC0.out); replace HC1 := Lib.hid ((hK.cell (p := ⟨bh, oh + i * 2 + 1, none⟩) hbh).trans HC1.out); replace hbh := Nat.lt_of_lt_of_le hbh hK.size; replace hb3 := below_keep hb3 hb3.size hK; clear hK; (have ka : u4.cell? ⟨ga, 0, none⟩ = some (.int .i64 (i : Int)) := cell_of_row u4 _ 0 _ _ _ KA.out); (have kb : u4.cell? ⟨gb, 0, none⟩ = some (.int .i64 (j : Int)) := cell_of_row u4 _ 0 _ _ _ KB.out); have z0 := HC0.out; have z1 := HC1.out; (have y0 : u4.cell? ⟨bx, 0, none⟩ = some (.int .i64 x1) := cell_of_row u4 _ 0 _ _ _ YX.out); (have y1 : u4.cell? ⟨bx, 1, none⟩ = some (.int .i64 x2) := cell_of_row u4 _ 1 _ _ _ YX.out))) | (go_at_call 41; first | (have _t := r1; clear r1 _t; refine (shot_as s x1 j i w.heap.size gb ga c1 c2 c3 A1 A2 A3 u4 N1.out HS.out KB.out KA.out ((R1.out.below hb3).more hb3.size) ((R2.out.below hb3).more hb3.size) ((R3.out.below hb3).more hb3.size) (by omega) (by omega) (by omega)).mono ?_; rintro e q1 ⟨rfl, hK⟩; replace HS := Lib.hid (row_keep HS.out hK); replace KA := Lib.hid (row_keep KA.out hK); replace KB := Lib.hid (row_keep KB.out hK); replace YX := Lib.hid (row_keep YX.out hK); replace HC0 := Lib.hid ((hK.cell (p := ⟨bh, oh + i * 2, none⟩) hbh).trans HC0.out); replace HC1 := Lib.hid ((hK.cell (p := ⟨bh, oh + i * 2 + 1, none⟩) hbh).trans HC1.out); replace hbh := Nat.lt_of_lt_of_le hbh hK.size; replace hb3 := below_keep hb3 hb3.size hK; clear hK; (have ka : q1.cell? ⟨ga, 0, none⟩ = some (.int .i64 (i : Int)) := cell_of_row q1 _ 0 _ _ _ KA.out); (have kb : q1.cell? ⟨gb, 0, none⟩ = some (.int .i64 (j : Int)) := cell_of_row q1 _ 0 _ _ _ KB.out); have z0 := HC0.out; have z1 := HC1.out; (have y0 : q1.cell? ⟨bx, 0, none⟩ = some (.int .i64 x1) := cell_of_row q1 _ 0 _ _ _ YX.out); (have y1 : q1.cell? ⟨bx, 1, none⟩ = some (.int .i64 x2) := cell_of_row q1 _ 1 _ _ _ YX.out)) | (have _t := r2; clear r2 _t; refine (shot_as s x2 j i w.heap.size gb ga c1 c2 c3 A1 A2 A3 q1 N2.out HS.out KB.out KA.out ((R1.out.below hb3).more hb3.size) ((R2.out.below hb3).more hb3.size) ((R3.out.below hb3).more hb3.size) (by omega) (by omega) (by omega)).mono ?_; rintro e q2 ⟨rfl, hK⟩; replace HS := Lib.hid (row_keep HS.out hK); replace KA := Lib.hid (row_keep KA.out hK); replace KB := Lib.hid (row_keep KB.out hK); replace YX := Lib.hid (row_keep YX.out hK); replace HC0 := Lib.hid ((hK.cell (p := ⟨bh, oh + i * 2, none⟩) hbh).trans HC0.out); replace HC1 := Lib.hid ((hK.cell (p := ⟨bh, oh + i * 2 + 1, none⟩) hbh).trans HC1.out); replace hbh := Nat.lt_of_lt_of_le hbh hK.size; replace hb3 := below_keep hb3 hb3.size hK; clear hK; (have ka : q2.cell? ⟨ga, 0, none⟩ = some (.int .i64 (i : Int)) := cell_of_row q2 _ 0 _ _ _ KA.out); (have kb : q2.cell? ⟨gb, 0, none⟩ = some (.int .i64 (j : Int)) := cell_of_row q2 _ 0 _ _ _ KB.out); have z0 := HC0.out; have z1 := HC1.out; (have y0 : q2.cell? ⟨bx, 0, none⟩ = some (.int .i64 x1) := cell_of_row q2 _ 0 _ _ _ YX.out); (have y1 : q2.cell? ⟨bx, 1, none⟩ = some (.int .i64 x2) := cell_of_row q2 _ 1 _ _ _ YX.out)) | (have _t := r3; clear r3 _t; refine (shot_as s (x1 - 1) j i w.heap.size gb ga c1 c2 c3 A1 A2 A3 q2 N3.out HS.out KB.out KA.out ((R1.out.below hb3).more hb3.size) ((R2.out.below hb3).more hb3.size) ((R3.out.below hb3).more hb3.size) (by omega) (by omega) (by omega)).mono ?_; rintro e q3 ⟨rfl, hK⟩; replace HS := Lib.hid (row_keep HS.out hK); replace KA := Lib.hid (row_keep KA.out hK); replace KB := Lib.hid (row_keep KB.out hK); replace YX := Lib.hid (row_keep YX.out hK); replace HC0 := Lib.hid ((hK.cell (p := ⟨bh, oh + i * 2, none⟩) hbh).trans HC0.out); replace HC1 := Lib.hid ((hK.cell (p := ⟨bh, oh + i * 2 + 1, none⟩) hbh).trans HC1.out); replace hbh := Nat.lt_of_lt_of_le hbh hK.size; replace hb3 := below_keep hb3 hb3.size hK; clear hK; (have ka : q3.cell? ⟨ga, 0, none⟩ = some (.int .i64 (i : Int)) := cell_of_row q3 _ 0 _ _ _ KA.out); (have kb : q3.cell? ⟨gb, 0, none⟩ = some (.int .i64 (j : Int)) := cell_of_row q3 _ 0 _ _ _ KB.out); have z0 := HC0.out; have z1 := HC1.out; (have y0 : q3.cell? ⟨bx, 0, none⟩ = some (.int .i64 x1) := cell_of_row q3 _ 0 _ _ _ YX.out); (have y1 : q3.cell? ⟨bx, 1, none⟩ = some (.int .i64 x2) := cell_of_row q3 _ 1 _ _ _ YX.out)) | (have _t := r4; clear r4 _t; refine (shot_as s (x2 + 1) j i w.heap.size gb ga c1 c2 c3 A1 A2 A3 q3 N4.out HS.out KB.out KA.out ((R1.out.below hb3).more hb3.size) ((R2.out.below hb3).more hb3.size) ((R3.out.below hb3).more hb3.size) (by omega) (by omega) (by omega)).mono ?_; rintro e q4 ⟨rfl, hK⟩; replace HS := Lib.hid (row_keep HS.out hK); replace KA := Lib.hid (row_keep KA.out hK); replace KB := Lib.hid (row_keep KB.out hK); replace YX := Lib.hid (row_keep YX.out hK); replace HC0 := Lib.hid ((hK.cell (p := ⟨bh, oh + i * 2, none⟩) hbh).trans HC0.out); replace HC1 := Lib.hid ((hK.cell (p := ⟨bh, oh + i * 2 + 1, none⟩) hbh).trans HC1.out); replace hbh := Nat.lt_of_lt_of_le hbh hK.size; replace hb3 := below_keep hb3 hb3.size hK; clear hK; (have ka : q4.cell? ⟨ga, 0, none⟩ = some (.int .i64 (i : Int)) := cell_of_row q4 _ 0 _ _ _ KA.out); (have kb : q4.cell? ⟨gb, 0, none⟩ = some (.int .i64 (j : Int)) := cell_of_row q4 _ 0 _ _ _ KB.out); have z0 := HC0.out; have z1 := HC1.out; (have y0 : q4.cell? ⟨bx, 0, none⟩ = some (.int .i64 x1) := cell_of_row q4 _ 0 _ _ _ YX.out); (have y1 : q4.cell? ⟨bx, 1, none⟩ = some (.int .i64 x2) := cell_of_row q4 _ 1 _ _ _ YX.out))))
    go_ret
    exact ⟨rfl, hb3⟩

theorem lawReached_any (s : Sv) (a b : Int) (c1 c2 c3 : Nat) (A1 A2 A3 : Option Addr) (w : World)
    (r1 : Rd w w.heap.size A1 shV 4 s.shots) (r2 : Rd w w.heap.size A2 mkV 3 s.marks) (r3 : Rd w w.heap.size A3 shV 4 s.threads) (ha : 0 ≤ a ∧ a ≤ 255) (hbb : 0 ≤ b ∧ b ≤ 255) :
    Calls Try.prog 7 #[.agg #[.int .i64 s.n, .slice A1 s.shots.length c1, .slice A2 s.marks.length c2, .slice A3 s.threads.length c3], .int .u8 a, .int .u8 b] w fun e w' => e = .returned (.bool true) ∧ Below w.heap.size w w' := by
  cases hok : svOk s
  · exact lawReached_bad s a b c1 c2 c3 A1 A2 A3 w r1 r2 r3 hok
  · obtain ⟨⟨_, _, n3, n4, _⟩, _⟩ := svOk_spec hok
    rcases Nat.eq_or_lt_of_le n3 with h1 | h1
    · exact lawReached_full1 s a b c1 c2 c3 A1 A2 A3 w r1 r2 r3 hok h1
    · rcases Nat.eq_or_lt_of_le n4 with h2 | h2
      · exact lawReached_full2 s a b c1 c2 c3 A1 A2 A3 w r1 r2 r3 hok h1 h2
      · cases hf : (svD s).2
        · exact lawReached_apart s a b c1 c2 c3 A1 A2 A3 w r1 r2 r3 hok h1 h2 hf ha hbb
        · by_cases hij : a % s.n = b % s.n
          · exact lawReached_same s a b c1 c2 c3 A1 A2 A3 w r1 r2 r3 hok h1 h2 hf ha hbb hij
          · exact lawReached_other s a b c1 c2 c3 A1 A2 A3 w r1 r2 r3 hok h1 h2 hf ha hbb hij

end Go.Proofs.Ythlpomjdifnnkaa
