/- The law LevelMore answers true of every survey that reads as plain data, of any shot and any list of numbers. Condition: the slices read below the heap's end. -/
import Derived.Test.YtaoonfmcimkmhaaAlive
import Derived.Test.YtaoonfmcimkmhaaMoreM
import Derived.Test.YtaoonfmcimkmhaaRefCheck
import Derived.Test.YtaoonfmcimkmhaaCalm
import Derived.BigRegion
set_option linter.unusedVariables false
set_option linter.unusedSimpArgs false
namespace Go.Proofs.Ytaoonfmcimkmhaa
open Go.RowKit
attribute [local go_sem] wx_cell wx_frozen

theorem slope_asm (s : Sv) (k : Nat) {p q e : Int} (h : lvSlope s k = ((p, q), e)) (d1 d2 d3 : Nat) (B1 B2 B3 : Option Addr) (w : World) (q1 : Rd w w.heap.size B1 shV 4 s.shots) (q2 : Rd w w.heap.size B2 mkV 3 s.marks) (q3 : Rd w w.heap.size B3 shV 4 s.threads) :
    Calls Try.prog 31 #[.agg #[.int .i64 s.n, .slice B1 s.shots.length d1, .slice B2 s.marks.length d2, .slice B3 s.threads.length d3], .int .i64 (k : Int)] w fun e' w' => e' = .returned (.tuple #[.agg #[.int .i64 p, .int .i64 q], .int .i64 e]) ∧ Below w.heap.size w w' := by
  have h1 := lslope_any s k d1 d2 d3 B1 B2 B3 w q1 q2 q3
  rw [h] at h1
  exact h1
theorem check_add (s : Sv) (y : Sh) {e : Int} (h : svErr (addSh s y) = e) (c1 c2 c3 : Nat) (A1 A2 A3 : Option Addr) (w : World) (r1 : Rd w w.heap.size A1 shV 4 (s.shots ++ [y])) (r2 : Rd w w.heap.size A2 mkV 3 s.marks) (r3 : Rd w w.heap.size A3 shV 4 s.threads) :
    Calls Try.prog 21 #[.agg #[.int .i64 s.n, .slice A1 (s.shots.length + 1) c1, .slice A2 s.marks.length c2, .slice A3 s.threads.length c3]] w fun e' w' => e' = .returned (.int .i64 e) ∧ Below w.heap.size w w' := by
  have h1 := rcheck_any (addSh s y) c1 c2 c3 A1 A2 A3 w r1 r2 r3
  rw [h, show (addSh s y).shots.length = s.shots.length + 1 by simp [addSh]] at h1
  exact h1

set_option maxRecDepth 100000 in
set_option maxHeartbeats 16000000 in
theorem lawMore_bad (s : Sv) (y : Sh) (l : List Int) (cl c1 c2 c3 : Nat) (AL A1 A2 A3 : Option Addr) (w : World)
    (r1 : Rd w w.heap.size A1 shV 4 s.shots) (r2 : Rd w w.heap.size A2 mkV 3 s.marks) (r3 : Rd w w.heap.size A3 shV 4 s.threads) (rl : Rd w w.heap.size AL inV 1 l) (hok : svOk s = false) :
    Calls Try.prog 11 #[.agg #[.int .i64 s.n, .slice A1 s.shots.length c1, .slice A2 s.marks.length c2, .slice A3 s.threads.length c3], .agg #[.int .i64 y.f, .int .i64 y.t, .int .i64 y.lo, .int .i64 y.hi], .slice AL l.length cl] w fun e w' => e = .returned (.bool true) ∧ Below w.heap.size w w' := by
  have R1 := Lib.hid r1
  have R2 := Lib.hid r2
  have R3 := Lib.hid r3
  have RL := Lib.hid rl
  have HOK := Lib.hid hok
  clear r1 r2 r3 rl hok
  go_enter Try.func11, Try.ntmps11
  go_wp2_with (first | (go_at_call 35; refine (alive_any _).mono ?_; rintro e w1 ⟨rfl, hb1⟩; obtain ⟨hc1, hf1⟩ := bcell hb1; have hz1 := hb1.size; simp at hz1; have hlt : w.heap.size < w1.heap.size := by omega) | (go_at_call 36; (have hbA : Below w.heap.size w w1 := by (repeat' (first | (with_reducible exact Below.refl _ _) | (with_reducible refine Below.alloc ?_ ?_ _) | (with_reducible refine Below.drew ?_) | (with_reducible refine Below.drewN_ ?_ _) | (with_reducible refine Below.setCell ?_ ?_ _) | (with_reducible refine Below.setRow ?_ ?_ _) | (with_reducible refine Below.via ?_ (by with_reducible assumption) ?_) | go_size))); have hr := ready_any s c1 c2 c3 A1 A2 A3 w1 ((R1.out.below hbA).more hbA.size) ((R2.out.below hbA).more hbA.size) ((R3.out.below hbA).more hbA.size); rw [HOK.out] at hr; refine hr.mono ?_; rintro e w2 ⟨rfl, hb2⟩; clear hr; (have S : w2.heap[w.heap.size]? = some (.cells #[.int .i64 s.n, .slice A1 s.shots.length c1, .slice A2 s.marks.length c2, .slice A3 s.threads.length c3] 26 (0, 0)) := row_keep (row_keep ((Below.heap_alloc _ _ _ (by simp)).trans (heap_alloc_new _ _)) hb1) hb2); have HS := Lib.hid S; have s1 := cell_of_row w2 _ 1 _ _ _ S; simp only [List.getElem?_toArray, List.getElem?_cons_zero, List.getElem?_cons_succ] at s1; clear S))
  go_ret
  exact ⟨rfl, by (repeat' (first | (with_reducible exact Below.refl _ _) | (with_reducible refine Below.alloc ?_ ?_ _) | (with_reducible refine Below.drew ?_) | (with_reducible refine Below.drewN_ ?_ _) | (with_reducible refine Below.setCell ?_ ?_ _) | (with_reducible refine Below.setRow ?_ ?_ _) | (with_reducible refine Below.via ?_ (by with_reducible assumption) ?_) | go_size))⟩

set_option maxRecDepth 100000 in
set_option maxHeartbeats 16000000 in
theorem lawMore_full (s : Sv) (y : Sh) (l : List Int) (cl c1 c2 c3 : Nat) (AL A1 A2 A3 : Option Addr) (w : World)
    (r1 : Rd w w.heap.size A1 shV 4 s.shots) (r2 : Rd w w.heap.size A2 mkV 3 s.marks) (r3 : Rd w w.heap.size A3 shV 4 s.threads) (rl : Rd w w.heap.size AL inV 1 l) (hok : svOk s = true) (hl : s.shots.length = 60) :
    Calls Try.prog 11 #[.agg #[.int .i64 s.n, .slice A1 s.shots.length c1, .slice A2 s.marks.length c2, .slice A3 s.threads.length c3], .agg #[.int .i64 y.f, .int .i64 y.t, .int .i64 y.lo, .int .i64 y.hi], .slice AL l.length cl] w fun e w' => e = .returned (.bool true) ∧ Below w.heap.size w w' := by
  have R1 := Lib.hid r1
  have R2 := Lib.hid r2
  have R3 := Lib.hid r3
  have RL := Lib.hid rl
  have HOK := Lib.hid hok
  have hb1 : ((s.shots.length : Int) == 60) = true := by rw [hl]; rfl
  clear r1 r2 r3 rl hok hl
  go_enter Try.func11, Try.ntmps11
  go_wp2_with (first | (go_at_call 35; refine (alive_any _).mono ?_; rintro e w1 ⟨rfl, hb1⟩; obtain ⟨hc1, hf1⟩ := bcell hb1; have hz1 := hb1.size; simp at hz1; have hlt : w.heap.size < w1.heap.size := by omega) | (go_at_call 36; (have hbA : Below w.heap.size w w1 := by (repeat' (first | (with_reducible exact Below.refl _ _) | (with_reducible refine Below.alloc ?_ ?_ _) | (with_reducible refine Below.drew ?_) | (with_reducible refine Below.drewN_ ?_ _) | (with_reducible refine Below.setCell ?_ ?_ _) | (with_reducible refine Below.setRow ?_ ?_ _) | (with_reducible refine Below.via ?_ (by with_reducible assumption) ?_) | go_size))); have hr := ready_any s c1 c2 c3 A1 A2 A3 w1 ((R1.out.below hbA).more hbA.size) ((R2.out.below hbA).more hbA.size) ((R3.out.below hbA).more hbA.size); rw [HOK.out] at hr; refine hr.mono ?_; rintro e w2 ⟨rfl, hb2⟩; clear hr; (have S : w2.heap[w.heap.size]? = some (.cells #[.int .i64 s.n, .slice A1 s.shots.length c1, .slice A2 s.marks.length c2, .slice A3 s.threads.length c3] 26 (0, 0)) := row_keep (row_keep ((Below.heap_alloc _ _ _ (by simp)).trans (heap_alloc_new _ _)) hb1) hb2); have HS := Lib.hid S; have s1 := cell_of_row w2 _ 1 _ _ _ S; simp only [List.getElem?_toArray, List.getElem?_cons_zero, List.getElem?_cons_succ] at s1; clear S))
  go_ret
  exact ⟨rfl, by (repeat' (first | (with_reducible exact Below.refl _ _) | (with_reducible refine Below.alloc ?_ ?_ _) | (with_reducible refine Below.drew ?_) | (with_reducible refine Below.drewN_ ?_ _) | (with_reducible refine Below.setCell ?_ ?_ _) | (with_reducible refine Below.setRow ?_ ?_ _) | (with_reducible refine Below.via ?_ (by with_reducible assumption) ?_) | go_size))⟩

set_option maxRecDepth 100000 in
set_option maxHeartbeats 16000000 in
theorem lawMore_some (s : Sv) (y : Sh) (l : List Int) (cl c1 c2 c3 : Nat) (AL A1 A2 A3 : Option Addr) (w : World)
    (r1 : Rd w w.heap.size A1 shV 4 s.shots) (r2 : Rd w w.heap.size A2 mkV 3 s.marks) (r3 : Rd w w.heap.size A3 shV 4 s.threads) (rl : Rd w w.heap.size AL inV 1 l) (hok : svOk s = true) (hl : s.shots.length < 60) (hll : l.length ≤ 9223372036854775807) (hn : 0 < s.shots.length) :
    Calls Try.prog 11 #[.agg #[.int .i64 s.n, .slice A1 s.shots.length c1, .slice A2 s.marks.length c2, .slice A3 s.threads.length c3], .agg #[.int .i64 y.f, .int .i64 y.t, .int .i64 y.lo, .int .i64 y.hi], .slice AL l.length cl] w fun e w' => e = .returned (.bool true) ∧ Below w.heap.size w w' := by
  have R1 := Lib.hid r1
  have R2 := Lib.hid r2
  have R3 := Lib.hid r3
  have RL := Lib.hid rl
  have HOK := Lib.hid hok
  have h0I : ((s.shots.length : Int) == 60) = false := by rw [beq_eq_false_iff_ne]; omega
  obtain ⟨⟨n1, n2, n3, n4, n5⟩, _⟩ := svOk_spec hok
  obtain ⟨L, E, hLE⟩ : ∃ L E, lvHeights s = (L, E) := ⟨_, _, rfl⟩
  have HLE := Lib.hid hLE
  clear r1 r2 r3 rl hok hLE
  go_enter Try.func11, Try.ntmps11
  go_upto_region 6 with (first | (go_at_call 35; refine (alive_any _).mono ?_; rintro e w1 ⟨rfl, hb1⟩; obtain ⟨hc1, hf1⟩ := bcell hb1; have hz1 := hb1.size; simp at hz1; have hlt : w.heap.size < w1.heap.size := by omega) | (go_at_call 36; (have hbA : Below w.heap.size w w1 := by (repeat' (first | (with_reducible exact Below.refl _ _) | (with_reducible refine Below.alloc ?_ ?_ _) | (with_reducible refine Below.drew ?_) | (with_reducible refine Below.drewN_ ?_ _) | (with_reducible refine Below.setCell ?_ ?_ _) | (with_reducible refine Below.setRow ?_ ?_ _) | (with_reducible refine Below.via ?_ (by with_reducible assumption) ?_) | go_size))); have hr := ready_any s c1 c2 c3 A1 A2 A3 w1 ((R1.out.below hbA).more hbA.size) ((R2.out.below hbA).more hbA.size) ((R3.out.below hbA).more hbA.size); rw [HOK.out] at hr; refine hr.mono ?_; rintro e w2 ⟨rfl, hb2⟩; clear hr; (have S : w2.heap[w.heap.size]? = some (.cells #[.int .i64 s.n, .slice A1 s.shots.length c1, .slice A2 s.marks.length c2, .slice A3 s.threads.length c3] 26 (0, 0)) := row_keep (row_keep ((Below.heap_alloc _ _ _ (by simp)).trans (heap_alloc_new _ _)) hb1) hb2); have HS := Lib.hid S; have s1 := cell_of_row w2 _ 1 _ _ _ S; simp only [List.getElem?_toArray, List.getElem?_cons_zero, List.getElem?_cons_succ] at s1; clear S))
  have hb3 : Below w.heap.size w w2 := by (repeat' (first | (with_reducible exact Below.refl _ _) | (with_reducible refine Below.alloc ?_ ?_ _) | (with_reducible refine Below.drew ?_) | (with_reducible refine Below.drewN_ ?_ _) | (with_reducible refine Below.setCell ?_ ?_ _) | (with_reducible refine Below.setRow ?_ ?_ _) | (with_reducible refine Below.via ?_ (by with_reducible assumption) ?_) | go_size))
  have HY : Hid (w2.heap[w.heap.size + 1]? = some (.cells #[.int .i64 y.f, .int .i64 y.t, .int .i64 y.lo, .int .i64 y.hi] 78 (0, 0))) := Lib.hid (row_keep (row_keep (by have := heap_alloc_new (w.alloc (.cells #[.int .i64 s.n, .slice A1 s.shots.length c1, .slice A2 s.marks.length c2, .slice A3 s.threads.length c3] 26)) (.cells #[.int .i64 y.f, .int .i64 y.t, .int .i64 y.lo, .int .i64 y.hi] 78); simpa using this) hb1) hb2)
  clear hb1 hb2 hbA hc1 hf1 hz1 hlt h0I s1
  have s0 : w2.cell? ⟨w.heap.size, 0, none⟩ = some (.int .i64 s.n) := cell_of_row w2 _ 0 _ _ _ HS.out
  have s1 : w2.cell? ⟨w.heap.size, 1, none⟩ = some (.slice A1 s.shots.length c1) := cell_of_row w2 _ 1 _ _ _ HS.out
  have s2 : w2.cell? ⟨w.heap.size, 2, none⟩ = some (.slice A2 s.marks.length c2) := cell_of_row w2 _ 2 _ _ _ HS.out
  have s3 : w2.cell? ⟨w.heap.size, 3, none⟩ = some (.slice A3 s.threads.length c3) := cell_of_row w2 _ 3 _ _ _ HS.out
  go_upto_region 7 with (go_at_call 16; refine (heights_as s c1 c2 c3 A1 A2 A3 w2 ((R1.out.below hb3).more hb3.size) ((R2.out.below hb3).more hb3.size) ((R3.out.below hb3).more hb3.size) HLE.out).mono ?_; rintro e v7 ⟨⟨AH, cH, rfl, qh⟩, hK⟩)
  have QH := Lib.hid (show RdZ v7.heap.size v7 AH spV 2 L from ⟨qh, Nat.le_refl _⟩)
  obtain ⟨nn, hnl⟩ : ∃ n, L.length = n := ⟨_, rfl⟩
  rw [hnl]
  have HNL := Lib.hid hnl
  clear hnl
  replace HS := Lib.hid (row_keep HS.out hK)
  replace HY := Lib.hid (row_keep HY.out hK)
  replace hb3 := below_keep hb3 hb3.size hK
  have HWS := Lib.hid (show w.heap.size + 1 < v7.heap.size from (Array.getElem?_eq_some_iff.1 HY.out).1)
  clear hK qh s0 s1 s2 s3
  refine (wpIn_wide (n := 3)).1 ?_
  refine wpIn_region_mem (by kernel_rfl) 8 (by decide +kernel) (by decide +kernel) (by omega) (fun i y => if i = 0 then .agg #[.int .i64 s.n, .slice A1 s.shots.length c1, .slice A2 s.marks.length c2, .slice A3 s.threads.length c3] else if i = 1 then y.v else if i = 2 then .agg #[.int .i64 s.n, .slice A1 s.shots.length c1, .slice A2 s.marks.length c2, .slice A3 s.threads.length c3] else if i = 3 then y.v else if i = 4 then .pointer (some ⟨y.lo, 0, none⟩) else if i = 5 then .pointer (some ⟨y.lo, 0, none⟩) else undef)
    (fun x i W => if i = 1 then TwF s (x 1).v (x 1).lo (x 1).hi W else if i = 3 then TwF s (x 3).v (x 3).lo (x 3).hi W else if i = 4 then (W.heap[(x 4).lo]? = some (.cells #[.int .i64 0, .slice none 0 0, .slice none 0 0, .slice none 0 0] 26 (0, 0)) ∧ (x 4).lo < (x 4).hi) else if i = 5 then (W.heap[(x 5).lo]? = some (.cells #[.int .i64 0, .slice none 0 0, .slice none 0 0, .slice none 0 0] 26 (0, 0)) ∧ (x 5).lo < (x 5).hi) else if i = 6 then (∃ cs, (x 1).v = .agg cs ∧ W.heap[(x 4).lo]? = some (.cells cs 26 (0, 0)) ∧ (x 4).lo < (x 4).hi) else if i = 7 then (∃ cs, (x 3).v = .agg cs ∧ W.heap[(x 5).lo]? = some (.cells cs 26 (0, 0)) ∧ (x 5).lo < (x 5).hi) else NoF) (fun i => if i = 6 then 4 else if i = 7 then 5 else i) (fun i => if i = 4 then some 6 else if i = 5 then some 7 else none) _ _ ?aF ?hA (by decide +kernel) (by decide +kernel) ?hloc ?hcon ?hstep ?htail
  case hA => intro x; simp [putTo, putIf, dstAt, Act.put, List.range_succ]; rfl
  case hloc =>
    intro i hi x W W' h1 h2 hg hp
    match i, hi with
    | 0, _ => exact hp
    | 1, _ => exact TwF.local_ hp hg
    | 2, _ => exact hp
    | 3, _ => exact TwF.local_ hp hg
    | 4, _ => exact ⟨(hg _ (Nat.le_refl _) hp.2).trans hp.1, hp.2⟩
    | 5, _ => exact ⟨(hg _ (Nat.le_refl _) hp.2).trans hp.1, hp.2⟩
    | 6, _ => obtain ⟨cs, e1, e2, e3⟩ := hp; exact ⟨cs, e1, (hg _ (Nat.le_refl _) e3).trans e2, e3⟩
    | 7, _ => obtain ⟨cs, e1, e2, e3⟩ := hp; exact ⟨cs, e1, (hg _ (Nat.le_refl _) e3).trans e2, e3⟩
    | k + 8, hk => omega
  case hcon =>
    intro i hi L x x' W hcl hL he hp
    match i, hi with
    | 0, _ => exact hp
    | 1, _ => (show TwF s (x' 1).v (x' 1).lo (x' 1).hi W); rw [he 1 hL]; exact hp
    | 2, _ => exact hp
    | 3, _ => (show TwF s (x' 3).v (x' 3).lo (x' 3).hi W); rw [he 3 hL]; exact hp
    | 4, _ => (show W.heap[(x' 4).lo]? = _ ∧ (x' 4).lo < (x' 4).hi); rw [he 4 hL]; exact hp
    | 5, _ => (show W.heap[(x' 5).lo]? = _ ∧ (x' 5).lo < (x' 5).hi); rw [he 5 hL]; exact hp
    | 6, _ => (have ha := hcl 6 _ hL rfl { on := 4, ground := Ground.data } (by simp) rfl); (have hc := hcl 6 _ hL rfl { on := 1, ground := Ground.data } (by simp) rfl); (show ∃ cs, (x' 1).v = .agg cs ∧ W.heap[(x' 4).lo]? = some (.cells cs 26 (0, 0)) ∧ (x' 4).lo < (x' 4).hi); rw [he 4 ha, he 1 hc]; exact hp
    | 7, _ => (have ha := hcl 7 _ hL rfl { on := 5, ground := Ground.data } (by simp) rfl); (have hc := hcl 7 _ hL rfl { on := 3, ground := Ground.data } (by simp) rfl); (show ∃ cs, (x' 3).v = .agg cs ∧ W.heap[(x' 5).lo]? = some (.cells cs 26 (0, 0)) ∧ (x' 5).lo < (x' 5).hi); rw [he 5 ha, he 3 hc]; exact hp
    | k + 8, hk => omega
  case hstep =>
    intro i o hi ho L x W hL hcl hdep hb hf hbd
    have q0 := cell_of_row W _ 0 _ _ _ (row_keep HS.out hb)
    have q1 := cell_of_row W _ 1 _ _ _ (row_keep HS.out hb)
    have q2 := cell_of_row W _ 2 _ _ _ (row_keep HS.out hb)
    have q3 := cell_of_row W _ 3 _ _ _ (row_keep HS.out hb)
    simp only [List.getElem?_toArray, List.getElem?_cons_zero, List.getElem?_cons_succ] at q0 q1 q2 q3
    have HB := Lib.hid hb
    have HFA := Lib.hid hf
    have HBD := Lib.hid hbd
    clear hb hf hbd
    refine ⟨fun _ _ => trivial, ?_⟩
    match i, hi, ho with
    | 0, _, ho => simp only [List.getElem?_toArray, List.getElem?_cons_succ, List.getElem?_cons_zero, Option.some.injEq] at ho; subst ho; go_simp; rw [outs_value]; exact onM_same (y := ⟨undef, W.heap.size, W.heap.size⟩) rfl rfl rfl (by simp; exact noF)
    | 1, _, ho => simp only [List.getElem?_toArray, List.getElem?_cons_succ, List.getElem?_cons_zero, Option.some.injEq] at ho; subst ho; (have hB := hb3.trans (HB.out.mono hb3.size)); go_simp; refine ⟨by simp, callsIn_wide.2 ((twin_in s c1 c2 c3 A1 A2 A3 W ((R1.out.below hB).more hB.size) ((R2.out.below hB).more hB.size) ((R3.out.below hB).more hB.size) (by omega) (by omega) (by omega)).mono ?_)⟩; rintro e w' ⟨v, rfl, hv, hb⟩; exact ⟨_, rfl, onM_below (y := ⟨v, W.heap.size, w'.heap.size⟩) rfl rfl rfl hb hv⟩
    | 2, _, ho => simp only [List.getElem?_toArray, List.getElem?_cons_succ, List.getElem?_cons_zero, Option.some.injEq] at ho; subst ho; go_simp; rw [outs_value]; exact onM_same (y := ⟨undef, W.heap.size, W.heap.size⟩) rfl rfl rfl (by simp; exact noF)
    | 3, _, ho => simp only [List.getElem?_toArray, List.getElem?_cons_succ, List.getElem?_cons_zero, Option.some.injEq] at ho; subst ho; (have hB := hb3.trans (HB.out.mono hb3.size)); go_simp; refine ⟨by simp, callsIn_wide.2 ((twin_in s c1 c2 c3 A1 A2 A3 W ((R1.out.below hB).more hB.size) ((R2.out.below hB).more hB.size) ((R3.out.below hB).more hB.size) (by omega) (by omega) (by omega)).mono ?_)⟩; rintro e w' ⟨v, rfl, hv, hb⟩; exact ⟨_, rfl, onM_below (y := ⟨v, W.heap.size, w'.heap.size⟩) rfl rfl rfl hb hv⟩
    | 4, _, ho => simp only [List.getElem?_toArray, List.getElem?_cons_succ, List.getElem?_cons_zero, Option.some.injEq] at ho; subst ho; go_simp; rw [outs_value]; exact onM_below (y := ⟨undef, W.heap.size, _⟩) rfl rfl rfl ((Below.refl _ _).alloc (Nat.le_refl _) _) ⟨heap_alloc_new _ _, by simp [upM]⟩
    | 5, _, ho => simp only [List.getElem?_toArray, List.getElem?_cons_succ, List.getElem?_cons_zero, Option.some.injEq] at ho; subst ho; go_simp; rw [outs_value]; exact onM_below (y := ⟨undef, W.heap.size, _⟩) rfl rfl rfl ((Below.refl _ _).alloc (Nat.le_refl _) _) ⟨heap_alloc_new _ _, by simp [upM]⟩
    | 6, _, ho => simp only [List.getElem?_toArray, List.getElem?_cons_succ, List.getElem?_cons_zero, Option.some.injEq] at ho; subst ho; (have la := hdep { on := 4, ground := Ground.data } (by simp) rfl); (have lc := hdep { on := 1, ground := Ground.data } (by simp) rfl); (have fa : W.heap[(x 4).lo]? = _ ∧ (x 4).lo < (x 4).hi := HFA.out 4 (by omega) la (fun k hk => by simp at hk; rw [← hk]; exact hL)); (have fc : TwF s (x 1).v (x 1).lo (x 1).hi W := HFA.out 1 (by omega) lc (fun k hk => by simp at hk)); obtain ⟨p, hv, htw⟩ := fc; obtain ⟨ga, hga⟩ : ∃ g, (x 4).lo = g := ⟨_, rfl⟩; obtain ⟨hga1, hga2⟩ := fa; rw [hga] at hga1; (have z0 := cell_of_row W ga 0 _ _ _ hga1); (have z1 := cell_of_row W ga 1 _ _ _ hga1); (have z2 := cell_of_row W ga 2 _ _ _ hga1); (have z3 := cell_of_row W ga 3 _ _ _ hga1); (have u0 := frozen_of_row W ga 0 _ _ hga1); (have u1 := frozen_of_row W ga 1 _ _ hga1); (have u2 := frozen_of_row W ga 2 _ _ hga1); (have u3 := frozen_of_row W ga 3 _ _ hga1); simp only [List.getElem?_toArray, List.getElem?_cons_zero, List.getElem?_cons_succ] at z0 z1 z2 z3; (have HG := Lib.hid hga1); (have HGA := Lib.hid hga); (have HV := Lib.hid hv); clear hga1 hv htw; rw [hga, HV.out]; unfold twV; clear hga; go_simp; rw [outs_skip]; exact onM_write (by decide) HGA.out hga2 rfl ⟨rfl, rfl, rfl⟩ (by simp) (fun b hb => heap_set4_ne hb) ⟨_, HV.out, (show (_ : World).heap[(x 4).lo]? = _ from (by rw [HGA.out]; exact heap_set4 HG.out)), hga2⟩
    | 7, _, ho => simp only [List.getElem?_toArray, List.getElem?_cons_succ, List.getElem?_cons_zero, Option.some.injEq] at ho; subst ho; (have la := hdep { on := 5, ground := Ground.data } (by simp) rfl); (have lc := hdep { on := 3, ground := Ground.data } (by simp) rfl); (have fa : W.heap[(x 5).lo]? = _ ∧ (x 5).lo < (x 5).hi := HFA.out 5 (by omega) la (fun k hk => by simp at hk; rw [← hk]; exact hL)); (have fc : TwF s (x 3).v (x 3).lo (x 3).hi W := HFA.out 3 (by omega) lc (fun k hk => by simp at hk)); obtain ⟨p, hv, htw⟩ := fc; obtain ⟨ga, hga⟩ : ∃ g, (x 5).lo = g := ⟨_, rfl⟩; obtain ⟨hga1, hga2⟩ := fa; rw [hga] at hga1; (have z0 := cell_of_row W ga 0 _ _ _ hga1); (have z1 := cell_of_row W ga 1 _ _ _ hga1); (have z2 := cell_of_row W ga 2 _ _ _ hga1); (have z3 := cell_of_row W ga 3 _ _ _ hga1); (have u0 := frozen_of_row W ga 0 _ _ hga1); (have u1 := frozen_of_row W ga 1 _ _ hga1); (have u2 := frozen_of_row W ga 2 _ _ hga1); (have u3 := frozen_of_row W ga 3 _ _ hga1); simp only [List.getElem?_toArray, List.getElem?_cons_zero, List.getElem?_cons_succ] at z0 z1 z2 z3; (have HG := Lib.hid hga1); (have HGA := Lib.hid hga); (have HV := Lib.hid hv); clear hga1 hv htw; rw [hga, HV.out]; unfold twV; clear hga; go_simp; rw [outs_skip]; exact onM_write (by decide) HGA.out hga2 rfl ⟨rfl, rfl, rfl⟩ (by simp) (fun b hb => heap_set4_ne hb) ⟨_, HV.out, (show (_ : World).heap[(x 5).lo]? = _ from (by rw [HGA.out]; exact heap_set4 HG.out)), hga2⟩
    | k + 8, hk, _ => omega
  case htail =>
    intro x W hbW hfW hbd hdj
    replace HS := Lib.hid (row_keep HS.out hbW)
    replace HY := Lib.hid (row_keep HY.out hbW)
    replace QH := Lib.hid (QH.out.grow hbW)
    replace hb3 := below_keep hb3 hb3.size hbW
    have bs := hb3.size
    obtain ⟨cs1, e1, r1, l1⟩ : ∃ cs, (x 1).v = .agg cs ∧ W.heap[(x 4).lo]? = some (.cells cs 26 (0, 0)) ∧ (x 4).lo < (x 4).hi := hfW 6 (by omega) rfl
    obtain ⟨⟨B11, B12, B13, d11, d12, d13, b12, b13⟩, hv1, T1⟩ : TwF s (x 1).v (x 1).lo (x 1).hi W := hfW 1 (by omega) rfl
    rw [hv1] at e1
    injection e1 with e1
    subst e1
    obtain ⟨cs2, e2, r2, l2⟩ : ∃ cs, (x 3).v = .agg cs ∧ W.heap[(x 5).lo]? = some (.cells cs 26 (0, 0)) ∧ (x 5).lo < (x 5).hi := hfW 7 (by omega) rfl
    obtain ⟨⟨B21, B22, B23, d21, d22, d23, b22, b23⟩, hv2, T2⟩ : TwF s (x 3).v (x 3).lo (x 3).hi W := hfW 3 (by omega) rfl
    rw [hv2] at e2
    injection e2 with e2
    subst e2
    have bd1 := hbd 1 (by omega)
    have bd3 := hbd 3 (by omega)
    have bd4 := hbd 4 (by omega)
    have bd5 := hbd 5 (by omega)
    have dj1_3 := hdj 1 3 (by omega) (by omega) (by omega)
    have dj1_4 := hdj 1 4 (by omega) (by omega) (by omega)
    have dj1_5 := hdj 1 5 (by omega) (by omega) (by omega)
    have dj3_4 := hdj 3 4 (by omega) (by omega) (by omega)
    have dj3_5 := hdj 3 5 (by omega) (by omega) (by omega)
    have dj4_5 := hdj 4 5 (by omega) (by omega) (by omega)
    clear hfW hbd hdj hv1 hv2 hbW
    obtain ⟨q1, hq⟩ : ∃ n, (x 1).lo = n := ⟨_, rfl⟩
    rw [hq] at T1 bd1 dj1_3 dj1_4 dj1_5
    clear hq
    obtain ⟨h1, hq⟩ : ∃ n, (x 1).hi = n := ⟨_, rfl⟩
    rw [hq] at T1 bd1 dj1_3 dj1_4 dj1_5
    clear hq
    obtain ⟨q2, hq⟩ : ∃ n, (x 3).lo = n := ⟨_, rfl⟩
    rw [hq] at T2 bd3 dj1_3 dj3_4 dj3_5
    clear hq
    obtain ⟨h2, hq⟩ : ∃ n, (x 3).hi = n := ⟨_, rfl⟩
    rw [hq] at T2 bd3 dj1_3 dj3_4 dj3_5
    clear hq
    obtain ⟨ga, hqga⟩ : ∃ n, (x 4).lo = n := ⟨_, rfl⟩
    rw [hqga] at r1 l1 bd4 dj1_4 dj3_4 dj4_5
    obtain ⟨gb, hqgb⟩ : ∃ n, (x 5).lo = n := ⟨_, rfl⟩
    rw [hqgb] at r2 l2 bd5 dj1_5 dj3_5 dj4_5
    rw [hqga, hqgb]
    clear hqga hqgb
    have DJ := Lib.hid (show (h1 ≤ q2 ∨ h2 ≤ q1) ∧ (ga < q1 ∨ h1 ≤ ga) ∧ (gb < q1 ∨ h1 ≤ gb) ∧ (ga < q2 ∨ h2 ≤ ga) ∧ (gb < q2 ∨ h2 ≤ gb) ∧ q1 ≤ h1 ∧ v7.heap.size ≤ q1 ∧ q2 ≤ h2 ∧ v7.heap.size ≤ q2 ∧ v7.heap.size ≤ ga ∧ v7.heap.size ≤ gb ∧ ga ≠ gb from by omega)
    replace T1 : Hid (TwZ s.shots.length s.marks.length s.threads.length s.shots s.marks s.threads ⟨B11, B12, B13, d11, d12, d13, b12, b13⟩ q1 h1 W) := Lib.hid ⟨T1, by omega⟩
    replace T2 : Hid (TwZ s.shots.length s.marks.length s.threads.length s.shots s.marks s.threads ⟨B21, B22, B23, d21, d22, d23, b22, b23⟩ q2 h2 W) := Lib.hid ⟨T2, by omega⟩
    dsimp only at r1 r2
    have GA := Lib.hid r1
    have GB := Lib.hid r2
    clear r1 l1 r2 l2 bs bd1 bd3 bd4 bd5 dj1_3 dj1_4 dj1_5 dj3_4 dj3_5 dj4_5
    simp only [List.drop_succ_cons, List.drop_zero]
    gi_wp2_with fail
    obtain ⟨i1, hi1, hz11, hz12, hz13⟩ := info_parts infoShot
    have I1 := Lib.hid (And.intro hi1 (And.intro hz11 (And.intro hz12 hz13)))
    clear hi1 hz11 hz12 hz13
    have m1 : W.cell? ⟨ga, 1, none⟩ = some (.slice B11 s.shots.length d11) := cell_of_row W _ 1 _ _ _ GA.out
    have x0 : W.cell? ⟨w.heap.size + 1, 0, none⟩ = some (.int .i64 y.f) := cell_of_row W _ 0 _ _ _ HY.out
    have x1 : W.cell? ⟨w.heap.size + 1, 1, none⟩ = some (.int .i64 y.t) := cell_of_row W _ 1 _ _ _ HY.out
    have x2 : W.cell? ⟨w.heap.size + 1, 2, none⟩ = some (.int .i64 y.lo) := cell_of_row W _ 2 _ _ _ HY.out
    have x3 : W.cell? ⟨w.heap.size + 1, 3, none⟩ = some (.int .i64 y.hi) := cell_of_row W _ 3 _ _ _ HY.out
    have hgaz := (Array.getElem?_eq_some_iff.1 GA.out).1
    have tok : True := trivial
    go_upto_region 9 with (at_builtin; have _t := tok; refine wpList_append_rd rfl (.tmp 47) (.tmp 49) 22 rfl i1 _ 32 Try.underlying22 I1.out.1 I1.out.2.1 I1.out.2.2.1 I1.out.2.2.2 rfl (by omega) shV_len shV_one rfl (T1.out.1.1.1.below ((Below.refl _ _).alloc (Nat.le_refl _) _)) rfl rfl (Rd.one _ y #[.int .i64 y.f, .int .i64 y.t, .int .i64 y.lo, .int .i64 y.hi] 78 rfl) (by simp; omega) (by omega) (by have := T1.out.2; have := T1.out.1.2.2.2; dsimp only at this; simp; omega) ?_; intro v' w5 ho5 hg5 hat5; clear tok _t; obtain ⟨AV, cV, hV⟩ := ho5.form; subst hV; rw [show (s.shots ++ [y]).length = s.shots.length + 1 by simp] at ho5 hat5 ⊢; have HO5 := Lib.hid ho5; have HG5 := Lib.hid hg5; have HAT := Lib.hid hat5; (have hg6 := (hg5.block ga (by simp; omega) (fun e => by have := T1.out.1.1.2 ga e.symm; have := (T1.out.1.1.1.lt ga e.symm).1; have := DJ.out; have := T1.out.1.2.2.2; dsimp only at *; omega)).trans ((Below.heap_alloc _ _ _ hgaz).trans GA.out)); have HGA5 := Lib.hid hg6; have z0 := cell_of_row w5 _ 1 _ _ _ hg6; have z1 := frozen_of_row w5 ga 1 _ _ hg6; simp only [List.getElem?_toArray, List.getElem?_cons_zero, List.getElem?_cons_succ] at z0; clear ho5 hg5 hat5 hg6)
    obtain ⟨v8, hw⟩ : ∃ v, w5.setCell ⟨ga, 1, none⟩ (.slice AV (s.shots.length + 1) cV) = v := ⟨_, rfl⟩
    rw [hw]
    have t1 := T1.out.1.2.2.2
    have t2 := T2.out.1.2.2.2
    dsimp only at t1 t2
    have dj := DJ.out
    have z1h := T1.out.2
    have z2h := T2.out.2
    have zws := HWS.out
    have zgb := (Array.getElem?_eq_some_iff.1 GB.out).1
    have hblk : ∀ b, b < W.heap.size → (b < q1 ∨ b12 ≤ b) → b ≠ ga → v8.heap[b]? = W.heap[b]? := fun b k1 k2 k3 => by
      rw [← hw]
      refine (Below.heap_setCell _ _ _ _ k3).trans ((HG5.out.block b (by simp; omega) (fun e => ?_)).trans (Below.heap_alloc _ _ _ k1))
      have a1 := T1.out.1.1.2 b e.symm
      have a2 := (T1.out.1.1.1.lt b e.symm).1
      dsimp only at a1
      omega
    have hsz8 : W.heap.size ≤ v8.heap.size := by rw [← hw]; have := HG5.out.size; simp at this ⊢; omega
    have HGA8 : v8.heap[ga]? = some (.cells #[.int .i64 s.n, .slice AV (s.shots.length + 1) cV, .slice B12 s.marks.length d12, .slice B13 s.threads.length d13] 26 (0, 0)) := by rw [← hw, heap_setCell_same w5 ga 1 _ _ _ HGA5.out]; rfl
    replace GA := Lib.hid HGA8
    replace HS := Lib.hid ((hblk _ (by omega) (by omega) (by omega)).trans HS.out)
    replace HY := Lib.hid ((hblk _ (by omega) (by omega) (by omega)).trans HY.out)
    replace GB := Lib.hid ((hblk _ (by omega) (by omega) (by omega)).trans GB.out)
    replace QH := Lib.hid (QH.out.local_ hsz8 fun b k1 => hblk b (by omega) (by omega) (by omega))
    have X1 : Hid (OwnN v8 q2 h2 78 (.slice AV (s.shots.length + 1) cV) shV 4 (s.shots ++ [y])) := Lib.hid (by
      refine ⟨⟨q1, ?_⟩, fun k hk => ?_⟩
      · rw [← hw]
        refine HO5.out.keep (row := some ga) (grown_set _) ?_
        cases hv : (Value.slice AV (s.shots.length + 1) cV).ownBlock with
        | none => exact .inl rfl
        | some k =>
          refine .inr fun e => ?_
          injection e with e
          subst e
          rcases HAT.out with h | h
          · rw [hv] at h
            have a1 := T1.out.1.1.2 k h.symm
            have a2 := (T1.out.1.1.1.lt k h.symm).1
            dsimp only at a1
            omega
          · rw [hv] at h
            injection h with h
            simp at h
            omega
      · rcases HAT.out with h | h
        · rw [hk] at h
          have a1 := T1.out.1.1.2 k h.symm
          have a2 := (T1.out.1.1.1.lt k h.symm).1
          dsimp only at a1
          omega
        · rw [hk] at h
          injection h with h
          simp at h
          omega)
    have X2 : Hid (OwnN v8 q2 h2 75 (.slice B12 s.marks.length d12) mkV 3 s.marks) := Lib.hid ((T1.out.1.2.1.local_ fun b k1 k2 => hblk b (by dsimp only at k1 k2; omega) (by dsimp only at k1 k2; omega) (by dsimp only at k1 k2; omega)).away (by dsimp only; omega))
    have X3 : Hid (OwnN v8 q2 h2 72 (.slice B13 s.threads.length d13) shV 4 s.threads) := Lib.hid ((T1.out.1.2.2.1.local_ fun b k1 k2 => hblk b (by dsimp only at k1 k2; omega) (by dsimp only at k1 k2; omega) (by dsimp only at k1 k2; omega)).away (by dsimp only; omega))
    replace T2 : Hid (TwZ s.shots.length s.marks.length s.threads.length s.shots s.marks s.threads ⟨B21, B22, B23, d21, d22, d23, b22, b23⟩ q2 h2 v8) := Lib.hid ⟨T2.out.1.local_ fun b k1 k2 => hblk b (by omega) (by omega) (by omega), by omega⟩
    replace hb3 : Below w.heap.size w v8 := hb3.trans ⟨by rw [← hw]; exact HG5.out.os, by rw [← hw]; exact HG5.out.tape, by rw [← hw]; exact HG5.out.output, hsz8, fun k hk => hblk k (by omega) (by omega) (by omega)⟩
    have HD2 := Lib.hid (show (ga < q2 ∨ h2 ≤ ga) ∧ (gb < q2 ∨ h2 ≤ gb) ∧ w.heap.size + 1 < q2 ∧ v7.heap.size ≤ q2 from by omega)
    clear hw t1 t2 dj z1h z2h zws zgb hblk hsz8 HGA8 HGA5 HO5 HG5 HAT T1 DJ hgaz m1 x0 x1 x2 x3 z0 z1
    have m0 : v8.cell? ⟨ga, 0, none⟩ = some (.int .i64 s.n) := cell_of_row v8 _ 0 _ _ _ GA.out
    have m1 : v8.cell? ⟨ga, 1, none⟩ = some (.slice AV (s.shots.length + 1) cV) := cell_of_row v8 _ 1 _ _ _ GA.out
    have m2 : v8.cell? ⟨ga, 2, none⟩ = some (.slice B12 s.marks.length d12) := cell_of_row v8 _ 2 _ _ _ GA.out
    have m3 : v8.cell? ⟨ga, 3, none⟩ = some (.slice B13 s.threads.length d13) := cell_of_row v8 _ 3 _ _ _ GA.out
    cases hy : svOk (addSh s y)
    · have HE := Lib.hid (show svErr (addSh s y) = 10 by unfold svErr; rw [hy]; rfl)
      clear hy
      go_upto_region 10 with (go_at_call 21; refine (check_add s y HE.out cV d12 d13 AV B12 B13 v8 (X1.out.rd (by simp) shV_len) (X2.out.rd rfl mkV_len) (X3.out.rd rfl shV_len)).mono ?_; rintro e v9 ⟨rfl, hK⟩)
      replace hb3 := below_keep hb3 hb3.size hK
      clear hK m0 m1 m2 m3
      go_wp2
      go_ret
      exact ⟨rfl, hb3⟩
    have HE := Lib.hid (show svErr (addSh s y) = 0 by unfold svErr; rw [hy]; rfl)
    have SA := Lib.hid (says_add HOK.out hy)
    clear hy
    go_upto_region 11 with (go_at_call 21; refine (check_add s y HE.out cV d12 d13 AV B12 B13 v8 (X1.out.rd (by simp) shV_len) (X2.out.rd rfl mkV_len) (X3.out.rd rfl shV_len)).mono ?_; rintro e v9 ⟨rfl, hK⟩)
    replace HS := Lib.hid (row_keep HS.out hK)
    replace HY := Lib.hid (row_keep HY.out hK)
    replace GA := Lib.hid (row_keep GA.out hK)
    replace GB := Lib.hid (row_keep GB.out hK)
    replace QH := Lib.hid (QH.out.grow hK)
    replace T2 := Lib.hid (T2.out.grow hK)
    replace X1 := Lib.hid (X1.out.grow hK)
    replace X2 := Lib.hid (X2.out.grow hK)
    replace X3 := Lib.hid (X3.out.grow hK)
    replace hb3 := below_keep hb3 hb3.size hK
    clear hK m0 m1 m2 m3 HE
    have s1 : v9.cell? ⟨w.heap.size, 1, none⟩ = some (.slice A1 s.shots.length c1) := cell_of_row v9 _ 1 _ _ _ HS.out
    have hn0 : (0 : Int) < (s.shots.length : Int) := by omega
    go_upto_region 13 with fail
    clear s1 hn0
    obtain ⟨g2, hg, lg2, ug2⟩ := T2.out.1.1.at_ (by omega)
    dsimp only at hg ug2
    subst hg
    have t2 := T2.out.1.2.2.2
    dsimp only at t2
    obtain ⟨ls, hls⟩ : ∃ n : Nat, s.shots.length = n + 1 := ⟨s.shots.length - 1, by omega⟩
    obtain ⟨jj, hj, hjn⟩ : ∃ j : Nat, partI ls l 0 = (j : Int) ∧ j < s.shots.length := ⟨(partI ls l 0).toNat, by have := partI_bd ls l 0; omega, by have := partI_bd ls l 0; omega⟩
    obtain ⟨f, t, lo, hi, hx⟩ : ∃ f t lo hi, s.shots[jj]? = some ⟨f, t, lo, hi⟩ := ⟨_, _, _, _, List.getElem?_eq_getElem hjn⟩
    have hxb := shOk_spec ((svOk_spec HOK.out).2.1 _ (List.mem_of_getElem? hx))
    dsimp only at hxb
    obtain ⟨y1, y2, y3, y4, y5, y6, y7, y8⟩ := hxb
    have HX := Lib.hid hx
    have HJ := Lib.hid hj
    have HLS := Lib.hid hls
    have hg2 := Lib.hid (show (q2 ≤ g2 ∧ g2 < h2) ∧ ga ≠ g2 ∧ gb ≠ g2 ∧ w.heap.size ≠ g2 ∧ w.heap.size + 1 ≠ g2 ∧ w.heap.size < g2 ∧ v7.heap.size ≤ g2 from by have := HD2.out; omega)
    clear hx hj hls lg2 ug2 t2
    have m1 : v9.cell? ⟨gb, 1, none⟩ = some (.slice (some ⟨g2, 0, none⟩) s.shots.length d21) := cell_of_row v9 _ 1 _ _ _ GB.out
    have lb := (Array.getElem?_eq_some_iff.1 GB.out).1
    have wn : IntKind.i64.wrap ((s.shots.length : Int) - 1) = (ls : Int) := by have := HLS.out; rw [IntWalk.i64_in _ (by omega)]; omega
    have hjI : (jj : Int) < (s.shots.length : Int) := by omega
    have HPT : Hid (∀ W', Below v9.heap.size v9 W' → Calls Try.prog 38 #[.int .i64 (ls : Int), .slice AL l.length cl, .int .i64 0] W' fun e w' => e = .returned (.int .i64 (jj : Int)) ∧ W' = w') := Lib.hid (fun W' hW => by
      have hB := hb3.trans (hW.mono hb3.size)
      rw [← HJ.out]
      exact part_any ls l 0 cl AL W' ((RL.out.below hB).more hB.size) hll (by omega) (by have := HLS.out; omega))
    go_upto_region 13 with fail
    refine wp_region_calm (by kernel_rfl) (by kernel_rfl) ?_
    repeat (go_big_quiet_step ((go_at_call 38; exact calm_same (HPT.out _ (wx_below _ _)))))
    refine wpQuiet_nil ?_; rintro _ ⟨dx, rfl⟩
    obtain ⟨v10, hwy⟩ : ∃ v, wx _ dx = v := ⟨_, rfl⟩
    have hK := wx_below v9 dx
    rw [hwy] at hK ⊢
    replace HS := Lib.hid (row_keep HS.out hK)
    replace HY := Lib.hid (row_keep HY.out hK)
    replace GA := Lib.hid (row_keep GA.out hK)
    replace GB := Lib.hid (row_keep GB.out hK)
    replace QH := Lib.hid (QH.out.grow hK)
    replace T2 := Lib.hid (T2.out.grow hK)
    replace X1 := Lib.hid (X1.out.grow hK)
    replace X2 := Lib.hid (X2.out.grow hK)
    replace X3 := Lib.hid (X3.out.grow hK)
    replace hb3 := below_keep hb3 hb3.size hK
    clear hwy hK m1 lb wn HPT
    obtain ⟨D, hD⟩ : ∃ D : Nat, hi - lo = (D : Int) := ⟨(hi - lo).toNat, by omega⟩
    obtain ⟨p1, hp1⟩ : ∃ x, partI D l 1 = x := ⟨_, rfl⟩
    have hpb1 := partI_bd D l 1
    rw [hp1] at hpb1
    obtain ⟨D2, hD2⟩ : ∃ D : Nat, hi - (lo + p1) = (D : Int) := ⟨(hi - (lo + p1)).toNat, by omega⟩
    obtain ⟨p2, hp2⟩ : ∃ x, partI D2 l 2 = x := ⟨_, rfl⟩
    have hpb2 := partI_bd D2 l 2
    rw [hp2] at hpb2
    have HD := Lib.hid hD
    have HDD := Lib.hid hD2
    have HP1 := Lib.hid hp1
    have HP2 := Lib.hid hp2
    have SB := Lib.hid (says_set HOK.out hjn HX.out (a := lo + p1) (b := hi - p2) (by omega) (by omega) (by omega))
    have hbb1 : -30000000 ≤ lo + p1 ∧ lo + p1 ≤ 30000000 ∧ -30000000 ≤ hi - p2 ∧ hi - p2 ≤ 30000000 := by omega
    clear hD hD2 hp1 hp2
    have o2 : v10.cell? ⟨g2, jj * 4 + 2, none⟩ = some (.int .i64 (lo)) := own_cell T2.out.1.1.1 shV_len HX.out (j := 2) rfl
    have o3 : v10.cell? ⟨g2, jj * 4 + 3, none⟩ = some (.int .i64 (hi)) := own_cell T2.out.1.1.1 shV_len HX.out (j := 3) rfl
    obtain ⟨cur, hrow⟩ := own_row T2.out.1.1.1
    have f2 := frozen_of_row v10 g2 (jj * 4 + 2) _ _ hrow
    have l2 := (Array.getElem?_eq_some_iff.1 hrow).1
    have whl : IntKind.i64.wrap (hi - lo) = (D : Int) := by have := HD.out; rw [IntWalk.i64_in _ (by omega)]; exact this
    have wlp : IntKind.i64.wrap (lo + p1) = lo + p1 := IntWalk.i64_in _ (by have := HD.out; omega)
    have HPT : Hid (∀ W', Below v10.heap.size v10 W' → Calls Try.prog 38 #[.int .i64 (D : Int), .slice AL l.length cl, .int .i64 1] W' fun e w' => e = .returned (.int .i64 p1) ∧ W' = w') := Lib.hid (fun W' hW => by
      have hB := hb3.trans (hW.mono hb3.size)
      rw [← HP1.out]
      exact part_any D l 1 cl AL W' ((RL.out.below hB).more hB.size) hll (by omega) (by have := HD.out; omega))
    clear hrow
    go_upto_region 14 with fail
    refine wp_region_calm_tail 18 (by kernel_rfl) (by decide +kernel) (by omega) ?_
    (simp only [List.take_succ_cons, List.take_zero, List.drop_succ_cons, List.drop_zero])
    repeat (go_big_quiet_step ((go_at_call 38; exact calm_same (HPT.out _ (wx_below _ _)))))
    refine wpQuiet_nil ?_
    rintro _ ⟨dx, rfl⟩
    obtain ⟨v11, hwy⟩ : ∃ v, wx _ dx = v := ⟨_, rfl⟩
    have hK := wx_below v10 dx
    rw [hwy] at hK ⊢
    replace HS := Lib.hid (row_keep HS.out hK)
    replace HY := Lib.hid (row_keep HY.out hK)
    replace GA := Lib.hid (row_keep GA.out hK)
    replace GB := Lib.hid (row_keep GB.out hK)
    replace QH := Lib.hid (QH.out.grow hK)
    replace T2 := Lib.hid (T2.out.grow hK)
    replace X1 := Lib.hid (X1.out.grow hK)
    replace X2 := Lib.hid (X2.out.grow hK)
    replace X3 := Lib.hid (X3.out.grow hK)
    replace hb3 := below_keep hb3 hb3.size hK
    clear hwy hK o2 o3 f2 cur l2 whl HPT
    have o2 : v11.cell? ⟨g2, jj * 4 + 2, none⟩ = some (.int .i64 (lo)) := own_cell T2.out.1.1.1 shV_len HX.out (j := 2) rfl
    obtain ⟨cur, hrow⟩ := own_row T2.out.1.1.1
    have f2 := frozen_of_row v11 g2 (jj * 4 + 2) _ _ hrow
    clear hrow
    gi_wp2_with fail
    obtain ⟨v12, hw⟩ : ∃ v, v11.setCell ⟨g2, jj * 4 + 2, none⟩ (.int .i64 (lo + p1)) = v := ⟨_, rfl⟩
    rw [hw]
    obtain ⟨⟨k1, k2⟩, k3, k4, k5, k6, k7, k8⟩ := hg2.out
    have H0 := row_other HS.out (a := ⟨g2, jj * 4 + 2, none⟩) k5 (.int .i64 (lo + p1))
    rw [hw] at H0
    replace HS := Lib.hid H0
    clear H0
    have H0 := row_other HY.out (a := ⟨g2, jj * 4 + 2, none⟩) k6 (.int .i64 (lo + p1))
    rw [hw] at H0
    replace HY := Lib.hid H0
    clear H0
    have H0 := row_other GA.out (a := ⟨g2, jj * 4 + 2, none⟩) k3 (.int .i64 (lo + p1))
    rw [hw] at H0
    replace GA := Lib.hid H0
    clear H0
    have H0 := row_other GB.out (a := ⟨g2, jj * 4 + 2, none⟩) k4 (.int .i64 (lo + p1))
    rw [hw] at H0
    replace GB := Lib.hid H0
    clear H0
    have H0 := X1.out.other (p := ⟨g2, jj * 4 + 2, none⟩) ⟨k1, k2⟩ (.int .i64 (lo + p1))
    rw [hw] at H0
    replace X1 := Lib.hid H0
    clear H0
    have H0 := X2.out.other (p := ⟨g2, jj * 4 + 2, none⟩) ⟨k1, k2⟩ (.int .i64 (lo + p1))
    rw [hw] at H0
    replace X2 := Lib.hid H0
    clear H0
    have H0 := X3.out.other (p := ⟨g2, jj * 4 + 2, none⟩) ⟨k1, k2⟩ (.int .i64 (lo + p1))
    rw [hw] at H0
    replace X3 := Lib.hid H0
    clear H0
    have H0 := QH.out.other (p := ⟨g2, jj * 4 + 2, none⟩) k8 (.int .i64 (lo + p1))
    rw [hw] at H0
    replace QH := Lib.hid H0
    clear H0
    have H0 := T2.out.put1 HX.out (j := 2) (by omega) (y := ⟨f, t, lo + p1, hi⟩) (u := .int .i64 (lo + p1)) rfl
    rw [hw] at H0
    (try rw [List.set_set] at H0)
    replace T2 := Lib.hid H0
    clear H0
    have H0 := Below.setCell hb3 (p := ⟨g2, jj * 4 + 2, none⟩) (Nat.le_of_lt k7) (.int .i64 (lo + p1))
    rw [hw] at H0
    replace hb3 := H0
    clear H0 hw k1 k2 k3 k4 k5 k6 k7 k8 o2 f2 cur wlp
    have hx2 : (s.shots.set jj ⟨f, t, lo + p1, hi⟩)[jj]? = some ⟨f, t, lo + p1, hi⟩ := List.getElem?_set_self hjn
    have HX2 := Lib.hid hx2
    clear hx2
    have o2 : v12.cell? ⟨g2, jj * 4 + 2, none⟩ = some (.int .i64 (lo + p1)) := own_cell T2.out.1.1.1 shV_len HX2.out (j := 2) rfl
    have o3 : v12.cell? ⟨g2, jj * 4 + 3, none⟩ = some (.int .i64 (hi)) := own_cell T2.out.1.1.1 shV_len HX2.out (j := 3) rfl
    obtain ⟨cur, hrow⟩ := own_row T2.out.1.1.1
    have f2 := frozen_of_row v12 g2 (jj * 4 + 3) _ _ hrow
    have l2 := (Array.getElem?_eq_some_iff.1 hrow).1
    have whl : IntKind.i64.wrap (hi - (lo + p1)) = (D2 : Int) := by have := HDD.out; rw [IntWalk.i64_in _ (by omega)]; exact this
    have wlp : IntKind.i64.wrap (hi - p2) = hi - p2 := IntWalk.i64_in _ (by have := HDD.out; omega)
    have HPT : Hid (∀ W', Below v12.heap.size v12 W' → Calls Try.prog 38 #[.int .i64 (D2 : Int), .slice AL l.length cl, .int .i64 2] W' fun e w' => e = .returned (.int .i64 p2) ∧ W' = w') := Lib.hid (fun W' hW => by
      have hB := hb3.trans (hW.mono hb3.size)
      rw [← HP2.out]
      exact part_any D2 l 2 cl AL W' ((RL.out.below hB).more hB.size) hll (by omega) (by have := HDD.out; omega))
    clear hrow
    go_upto_region 15 with fail
    refine wp_region_calm_tail 18 (by kernel_rfl) (by decide +kernel) (by omega) ?_
    (simp only [List.take_succ_cons, List.take_zero, List.drop_succ_cons, List.drop_zero])
    repeat (go_big_quiet_step ((go_at_call 38; exact calm_same (HPT.out _ (wx_below _ _)))))
    refine wpQuiet_nil ?_
    rintro _ ⟨dx, rfl⟩
    obtain ⟨v13, hwy⟩ : ∃ v, wx _ dx = v := ⟨_, rfl⟩
    have hK := wx_below v12 dx
    rw [hwy] at hK ⊢
    replace HS := Lib.hid (row_keep HS.out hK)
    replace HY := Lib.hid (row_keep HY.out hK)
    replace GA := Lib.hid (row_keep GA.out hK)
    replace GB := Lib.hid (row_keep GB.out hK)
    replace QH := Lib.hid (QH.out.grow hK)
    replace T2 := Lib.hid (T2.out.grow hK)
    replace X1 := Lib.hid (X1.out.grow hK)
    replace X2 := Lib.hid (X2.out.grow hK)
    replace X3 := Lib.hid (X3.out.grow hK)
    replace hb3 := below_keep hb3 hb3.size hK
    clear hwy hK o2 o3 f2 cur l2 whl HPT
    have o2 : v13.cell? ⟨g2, jj * 4 + 3, none⟩ = some (.int .i64 (hi)) := own_cell T2.out.1.1.1 shV_len HX2.out (j := 3) rfl
    obtain ⟨cur, hrow⟩ := own_row T2.out.1.1.1
    have f2 := frozen_of_row v13 g2 (jj * 4 + 3) _ _ hrow
    clear hrow
    gi_wp2_with fail
    obtain ⟨v14, hw⟩ : ∃ v, v13.setCell ⟨g2, jj * 4 + 3, none⟩ (.int .i64 (hi - p2)) = v := ⟨_, rfl⟩
    rw [hw]
    obtain ⟨⟨k1, k2⟩, k3, k4, k5, k6, k7, k8⟩ := hg2.out
    have H0 := row_other HS.out (a := ⟨g2, jj * 4 + 3, none⟩) k5 (.int .i64 (hi - p2))
    rw [hw] at H0
    replace HS := Lib.hid H0
    clear H0
    have H0 := row_other HY.out (a := ⟨g2, jj * 4 + 3, none⟩) k6 (.int .i64 (hi - p2))
    rw [hw] at H0
    replace HY := Lib.hid H0
    clear H0
    have H0 := row_other GA.out (a := ⟨g2, jj * 4 + 3, none⟩) k3 (.int .i64 (hi - p2))
    rw [hw] at H0
    replace GA := Lib.hid H0
    clear H0
    have H0 := row_other GB.out (a := ⟨g2, jj * 4 + 3, none⟩) k4 (.int .i64 (hi - p2))
    rw [hw] at H0
    replace GB := Lib.hid H0
    clear H0
    have H0 := X1.out.other (p := ⟨g2, jj * 4 + 3, none⟩) ⟨k1, k2⟩ (.int .i64 (hi - p2))
    rw [hw] at H0
    replace X1 := Lib.hid H0
    clear H0
    have H0 := X2.out.other (p := ⟨g2, jj * 4 + 3, none⟩) ⟨k1, k2⟩ (.int .i64 (hi - p2))
    rw [hw] at H0
    replace X2 := Lib.hid H0
    clear H0
    have H0 := X3.out.other (p := ⟨g2, jj * 4 + 3, none⟩) ⟨k1, k2⟩ (.int .i64 (hi - p2))
    rw [hw] at H0
    replace X3 := Lib.hid H0
    clear H0
    have H0 := QH.out.other (p := ⟨g2, jj * 4 + 3, none⟩) k8 (.int .i64 (hi - p2))
    rw [hw] at H0
    replace QH := Lib.hid H0
    clear H0
    have H0 := T2.out.put1 HX2.out (j := 3) (by omega) (y := ⟨f, t, lo + p1, hi - p2⟩) (u := .int .i64 (hi - p2)) rfl
    rw [hw] at H0
    (try rw [List.set_set] at H0)
    replace T2 := Lib.hid H0
    clear H0
    have H0 := Below.setCell hb3 (p := ⟨g2, jj * 4 + 3, none⟩) (Nat.le_of_lt k7) (.int .i64 (hi - p2))
    rw [hw] at H0
    replace hb3 := H0
    clear H0 hw k1 k2 k3 k4 k5 k6 k7 k8 o2 f2 cur wlp
    have m0 : v14.cell? ⟨ga, 0, none⟩ = some (.int .i64 s.n) := cell_of_row v14 _ 0 _ _ _ GA.out
    have m1 : v14.cell? ⟨ga, 1, none⟩ = some (.slice AV (s.shots.length + 1) cV) := cell_of_row v14 _ 1 _ _ _ GA.out
    have m2 : v14.cell? ⟨ga, 2, none⟩ = some (.slice B12 s.marks.length d12) := cell_of_row v14 _ 2 _ _ _ GA.out
    have m3 : v14.cell? ⟨ga, 3, none⟩ = some (.slice B13 s.threads.length d13) := cell_of_row v14 _ 3 _ _ _ GA.out
    have b0 : v14.cell? ⟨gb, 0, none⟩ = some (.int .i64 s.n) := cell_of_row v14 _ 0 _ _ _ GB.out
    have b1 : v14.cell? ⟨gb, 1, none⟩ = some (.slice (some ⟨g2, 0, none⟩) s.shots.length d21) := cell_of_row v14 _ 1 _ _ _ GB.out
    have b2 : v14.cell? ⟨gb, 2, none⟩ = some (.slice B22 s.marks.length d22) := cell_of_row v14 _ 2 _ _ _ GB.out
    have b3 : v14.cell? ⟨gb, 3, none⟩ = some (.slice B23 s.threads.length d23) := cell_of_row v14 _ 3 _ _ _ GB.out
    go_wp2
    obtain ⟨vl, hw⟩ : ∃ v, v14.alloc (.cells #[.int .i64 s.n, .slice AV (s.shots.length + 1) cV, .slice B12 s.marks.length d12, .slice B13 s.threads.length d13, .int .i64 s.n, .slice (some ⟨g2, 0, none⟩) s.shots.length d21, .slice B22 s.marks.length d22, .slice B23 s.threads.length d23] 26) = v := ⟨_, rfl⟩
    obtain ⟨gl, hbk⟩ : ∃ b, v14.heap.size = b := ⟨_, rfl⟩
    rw [hw, hbk]
    have hK : Below v14.heap.size v14 vl := by rw [← hw]; exact (Below.refl _ _).alloc (Nat.le_refl _) _
    have Ya : vl.heap[gl]? = some (.cells #[.int .i64 s.n, .slice AV (s.shots.length + 1) cV, .slice B12 s.marks.length d12, .slice B13 s.threads.length d13, .int .i64 s.n, .slice (some ⟨g2, 0, none⟩) s.shots.length d21, .slice B22 s.marks.length d22, .slice B23 s.threads.length d23] 26 (0, 0)) := by rw [← hw, ← hbk]; exact heap_alloc_new _ _
    replace HS := Lib.hid (row_keep HS.out hK)
    replace HY := Lib.hid (row_keep HY.out hK)
    replace GA := Lib.hid (row_keep GA.out hK)
    replace GB := Lib.hid (row_keep GB.out hK)
    replace QH := Lib.hid (QH.out.grow hK)
    replace T2 := Lib.hid (T2.out.grow hK)
    replace X1 := Lib.hid (X1.out.grow hK)
    replace X2 := Lib.hid (X2.out.grow hK)
    replace X3 := Lib.hid (X3.out.grow hK)
    replace hb3 := below_keep hb3 hb3.size hK
    have hgl := (Array.getElem?_eq_some_iff.1 Ya).1
    have HT : Hid (∀ k : Nat, k < 2 → ∃ (t : Sv) (C1 C2 C3 : Option Addr) (e1 e2 e3 : Nat), Says s t ∧ (vl.cell? ⟨gl, k * 4, none⟩ = some (.int .i64 t.n) ∧ vl.cell? ⟨gl, k * 4 + 1, none⟩ = some (.slice C1 t.shots.length e1) ∧ vl.cell? ⟨gl, k * 4 + 2, none⟩ = some (.slice C2 t.marks.length e2) ∧ vl.cell? ⟨gl, k * 4 + 3, none⟩ = some (.slice C3 t.threads.length e3)) ∧
        Rd vl vl.heap.size C1 shV 4 t.shots ∧ Rd vl vl.heap.size C2 mkV 3 t.marks ∧ Rd vl vl.heap.size C3 shV 4 t.threads) := Lib.hid (fun k hk => by
      have hk2 : k = 0 ∨ k = 1 := by omega
      rcases hk2 with rfl | rfl
      · refine ⟨addSh s y, AV, B12, B13, cV, d12, d13, SA.out, ⟨cell_of_row vl gl 0 _ _ _ Ya, (cell_of_row vl gl 1 _ _ _ Ya).trans (by simp [addSh]), cell_of_row vl gl 2 _ _ _ Ya, cell_of_row vl gl 3 _ _ _ Ya⟩, X1.out.rd (by simp) shV_len, X2.out.rd rfl mkV_len, X3.out.rd rfl shV_len⟩
      · refine ⟨setSh s jj ⟨f, t, lo + p1, hi - p2⟩, (some ⟨g2, 0, none⟩), B22, B23, d21, d22, d23, SB.out, ⟨cell_of_row vl gl 4 _ _ _ Ya, (cell_of_row vl gl 5 _ _ _ Ya).trans (by simp [setSh]), cell_of_row vl gl 6 _ _ _ Ya, cell_of_row vl gl 7 _ _ _ Ya⟩, T2.out.1.r1 (by simp), T2.out.1.r2 rfl, T2.out.1.r3 rfl⟩)
    clear hw hbk hK Ya m0 m1 m2 m3 b0 b1 b2 b3 X1 X2 X3 T2 GA GB SA SB HY
    go_loopw [109] (fun v W => ∃ k : Nat, k ≤ 2 ∧ v = .int .i64 k ∧ Below vl.heap.size vl W) (fun i _ => 2 - (intOf i).toNat)
    case atStart => exact ⟨0, by omega, rfl, Below.refl _ _⟩
    case round =>
      obtain ⟨k, hk, rfl, hK⟩ := hrel
      obtain ⟨va, hva⟩ : ∃ v, v = wr := ⟨_, rfl⟩
      subst hva
      replace HS := Lib.hid (row_keep HS.out hK)
      replace QH := Lib.hid (QH.out.grow hK)
      replace hb3 := below_keep hb3 hb3.size hK
      by_cases hlt : k < 2
      · obtain ⟨t, C1, C2, C3, e1, e2, e3, hsay, ⟨z0, z1, z2, z3⟩, p1, p2, p3⟩ := HT.out k hlt
        have SY := Lib.hid hsay
        have P1 := Lib.hid (rd_keep p1 hK)
        have P2 := Lib.hid (rd_keep p2 hK)
        have P3 := Lib.hid (rd_keep p3 hK)
        replace z0 := (hK.cell (p := ⟨gl, k * 4, none⟩) hgl).trans z0
        replace z1 := (hK.cell (p := ⟨gl, k * 4 + 1, none⟩) hgl).trans z1
        replace z2 := (hK.cell (p := ⟨gl, k * 4 + 2, none⟩) hgl).trans z2
        replace z3 := (hK.cell (p := ⟨gl, k * 4 + 3, none⟩) hgl).trans z3
        have hkI : (k : Int) < 2 := by omega
        have HK0 := Lib.hid hK
        clear hsay p1 p2 p3 hK HT
        go_upto_region 19 with fail
        obtain ⟨vb, hw⟩ : ∃ v, va.alloc (Obj.cells #[.int .i64 t.n, .slice C1 t.shots.length e1, .slice C2 t.marks.length e2, .slice C3 t.threads.length e3] 26) = v := ⟨_, rfl⟩
        obtain ⟨gt, hbk⟩ : ∃ b, va.heap.size = b := ⟨_, rfl⟩
        rw [hw, hbk]
        have hK : Below va.heap.size va vb := by rw [← hw]; exact (Below.refl _ _).alloc (Nat.le_refl _) _
        have Ya : vb.heap[gt]? = some (.cells #[.int .i64 t.n, .slice C1 t.shots.length e1, .slice C2 t.marks.length e2, .slice C3 t.threads.length e3] 26 (0, 0)) := by rw [← hw, ← hbk]; exact heap_alloc_new _ _
        have GT := Lib.hid Ya
        replace HS := Lib.hid (row_keep HS.out hK)
        replace QH := Lib.hid (QH.out.grow hK)
        replace P1 := Lib.hid (rd_keep P1.out hK)
        replace P2 := Lib.hid (rd_keep P2.out hK)
        replace P3 := Lib.hid (rd_keep P3.out hK)
        replace HK0 := Lib.hid (HK0.out.trans (hK.mono HK0.out.size))
        replace hb3 := below_keep hb3 hb3.size hK
        clear hw hbk hK Ya z0 z1 z2 z3
        have m0 : vb.cell? ⟨gt, 0, none⟩ = some (.int .i64 t.n) := cell_of_row vb _ 0 _ _ _ GT.out
        have m1 : vb.cell? ⟨gt, 1, none⟩ = some (.slice C1 t.shots.length e1) := cell_of_row vb _ 1 _ _ _ GT.out
        have m2 : vb.cell? ⟨gt, 2, none⟩ = some (.slice C2 t.marks.length e2) := cell_of_row vb _ 2 _ _ _ GT.out
        have m3 : vb.cell? ⟨gt, 3, none⟩ = some (.slice C3 t.threads.length e3) := cell_of_row vb _ 3 _ _ _ GT.out
        cases hf : (svD t).2
        · have HLT := Lib.hid (lvHeights_apart SY.out.okt hf)
          clear hf
          go_upto_region 20 with (go_at_call 16; refine (heights_as t e1 e2 e3 C1 C2 C3 vb P1.out P2.out P3.out HLT.out).mono ?_; rintro e vc ⟨⟨AM, cM, rfl, qm⟩, hK⟩)
          have hbf := HK0.out.trans (hK.mono HK0.out.size)
          clear m0 m1 m2 m3 hK qm
          go_wp2
          go_roundw
          case rel => exact ⟨k + 1, by omega, by go_num, hbf⟩
          case measure => (simp [intOf] <;> omega)
        · obtain ⟨g1, g2', g3, g4, g5⟩ := says_heights SY.out hf
          obtain ⟨rfl, rfl⟩ := Prod.mk.inj (HLE.out.symm.trans g2')
          have HLT := Lib.hid g1
          have HG5 := Lib.hid g5
          have HF := Lib.hid hf
          have hnn : s.n.toNat = nn := g4.symm.trans HNL.out
          rw [hnn] at g3 g4
          have hn20 : nn ≤ 20 := by omega
          have HNN := Lib.hid hnn
          have HL3 := Lib.hid g3
          have HL4 := Lib.hid g4
          clear g1 g2' g3 g4 g5 hf hnn
          go_upto_region 20 with (go_at_call 16; refine (heights_as t e1 e2 e3 C1 C2 C3 vb P1.out P2.out P3.out HLT.out).mono ?_; rintro e vc ⟨⟨AM, cM, rfl, qm⟩, hK⟩)
          have QM := Lib.hid qm
          replace HS := Lib.hid (row_keep HS.out hK)
          replace GT := Lib.hid (row_keep GT.out hK)
          replace QH := Lib.hid (QH.out.grow hK)
          replace P1 := Lib.hid (rd_keep P1.out hK)
          replace P2 := Lib.hid (rd_keep P2.out hK)
          replace P3 := Lib.hid (rd_keep P3.out hK)
          replace HK0 := Lib.hid (HK0.out.trans (hK.mono HK0.out.size))
          replace hb3 := below_keep hb3 hb3.size hK
          clear m0 m1 m2 m3 hK qm
          rw [HL3.out]
          go_wp2
          go_loopw [133] (fun v W => ∃ i : Nat, i ≤ nn ∧ v = .int .i64 i ∧ Below vc.heap.size vc W) (fun i _ => nn - (intOf i).toNat)
          case atStart => exact ⟨0, by omega, rfl, Below.refl _ _⟩
          case round =>
            obtain ⟨i, hi, rfl, hK⟩ := hrel
            by_cases hin : i < nn
            · obtain ⟨a, b, p, q, ha, hp, hpa, hbq⟩ := HG5.out i (by rw [HNN.out]; exact hin)
              obtain ⟨bm, om, hAM, hbm, hcm⟩ := (rd_keep QM.out hK) (by rw [HL3.out]; omega)
              obtain ⟨bh, oh, hAH, hbh, hch⟩ := (QH.out.grow hK).rd (by rw [HL4.out]; omega)
              subst hAM hAH
              have x0 := hcm i _ ha 0 _ rfl
              have x1 := hcm i _ ha 1 _ rfl
              have y0 := hch i _ hp 0 _ rfl
              have y1 := hch i _ hp 1 _ rfl
              simp only [Nat.add_zero] at x0 y0
              have hiI : (i : Int) < (nn : Int) := by omega
              have gg1 : ¬ a < p := by omega
              have gg2 : ¬ q < b := by omega
              have HIN := Lib.hid hin
              clear hcm hch ha hp
              go_upto_region 28 with fail
              go_region
              go_wp2
              go_roundw
              case rel => exact ⟨i + 1, (by have := HIN.out; omega), by go_num, hK.drew⟩
              case measure => (have := HIN.out; simp [intOf] <;> omega)
            · obtain rfl : i = nn := by omega
              have hii : ¬ ((i : Nat) : Int) < (i : Int) := by omega
              obtain ⟨vd, hvd⟩ : ∃ v, v = wr := ⟨_, rfl⟩
              subst hvd
              replace HS := Lib.hid (row_keep HS.out hK)
              replace GT := Lib.hid (row_keep GT.out hK)
              replace QH := Lib.hid (QH.out.grow hK)
              replace P1 := Lib.hid (rd_keep P1.out hK)
              replace P2 := Lib.hid (rd_keep P2.out hK)
              replace P3 := Lib.hid (rd_keep P3.out hK)
              replace HK0 := Lib.hid (HK0.out.trans (hK.mono HK0.out.size))
              replace hb3 := below_keep hb3 hb3.size hK
              have HSM := Lib.hid (show (1:Nat) = 1 from rfl)
              clear hK QM hin hi
              have s3 : vd.cell? ⟨w.heap.size, 3, none⟩ = some (.slice A3 s.threads.length c3) := cell_of_row vd _ 3 _ _ _ HS.out
              go_upto_region 31 with fail
              clear hii
              go_wp2
              go_loopw [164] (fun v W => ∃ i : Nat, i ≤ s.threads.length ∧ v = .int .i64 i ∧ Below vd.heap.size vd W) (fun i _ => s.threads.length - (intOf i).toNat)
              case atStart => exact ⟨0, by omega, rfl, Below.refl _ _⟩
              case round =>
                obtain ⟨i, hi, rfl, hK⟩ := hrel
                obtain ⟨ve, hve⟩ : ∃ v, v = wr := ⟨_, rfl⟩
                subst hve
                have hbx := hK
                replace HS := Lib.hid (row_keep HS.out hK)
                replace GT := Lib.hid (row_keep GT.out hK)
                replace QH := Lib.hid (QH.out.grow hK)
                replace P1 := Lib.hid (rd_keep P1.out hK)
                replace P2 := Lib.hid (rd_keep P2.out hK)
                replace P3 := Lib.hid (rd_keep P3.out hK)
                replace HK0 := Lib.hid (HK0.out.trans (hK.mono HK0.out.size))
                replace hb3 := below_keep hb3 hb3.size hK
                clear hK
                by_cases hin : i < s.threads.length
                · obtain ⟨a, b, p, q, ha, hp, hpa, hbq⟩ := says_slope SY.out HF.out hin
                  have HA := Lib.hid ha
                  have HP := Lib.hid hp
                  have hiI : (i : Int) < (s.threads.length : Int) := by omega
                  clear ha hp
                  have s0 : ve.cell? ⟨w.heap.size, 0, none⟩ = some (.int .i64 s.n) := cell_of_row ve _ 0 _ _ _ HS.out
                  have s1 : ve.cell? ⟨w.heap.size, 1, none⟩ = some (.slice A1 s.shots.length c1) := cell_of_row ve _ 1 _ _ _ HS.out
                  have s2 : ve.cell? ⟨w.heap.size, 2, none⟩ = some (.slice A2 s.marks.length c2) := cell_of_row ve _ 2 _ _ _ HS.out
                  have s3 : ve.cell? ⟨w.heap.size, 3, none⟩ = some (.slice A3 s.threads.length c3) := cell_of_row ve _ 3 _ _ _ HS.out
                  go_upto_region 35 with (go_at_call 31; refine (slope_asm s i HP.out c1 c2 c3 A1 A2 A3 ve ((R1.out.below hb3).more hb3.size) ((R2.out.below hb3).more hb3.size) ((R3.out.below hb3).more hb3.size)).mono ?_; rintro e wb ⟨rfl, hbb⟩)
                  obtain ⟨vf, hw⟩ : ∃ v, wb.alloc (Obj.cells #[.int .i64 p, .int .i64 q] 36) = v := ⟨_, rfl⟩
                  obtain ⟨gp, hbk⟩ : ∃ b, wb.heap.size = b := ⟨_, rfl⟩
                  rw [hw, hbk]
                  have hK : Below ve.heap.size ve vf := by rw [← hw]; exact hbb.alloc hbb.size _
                  have Ya : vf.heap[gp]? = some (.cells #[.int .i64 p, .int .i64 q] 36 (0, 0)) := by rw [← hw, ← hbk]; exact heap_alloc_new _ _
                  have Ygp := Lib.hid Ya
                  replace hbx := hbx.trans (hK.mono hbx.size)
                  replace HS := Lib.hid (row_keep HS.out hK)
                  replace GT := Lib.hid (row_keep GT.out hK)
                  replace QH := Lib.hid (QH.out.grow hK)
                  replace P1 := Lib.hid (rd_keep P1.out hK)
                  replace P2 := Lib.hid (rd_keep P2.out hK)
                  replace P3 := Lib.hid (rd_keep P3.out hK)
                  replace HK0 := Lib.hid (HK0.out.trans (hK.mono HK0.out.size))
                  replace hb3 := below_keep hb3 hb3.size hK
                  clear hw hbk hK Ya hbb s0 s1 s2 s3
                  have m0 : vf.cell? ⟨gt, 0, none⟩ = some (.int .i64 t.n) := cell_of_row vf _ 0 _ _ _ GT.out
                  have m1 : vf.cell? ⟨gt, 1, none⟩ = some (.slice C1 t.shots.length e1) := cell_of_row vf _ 1 _ _ _ GT.out
                  have m2 : vf.cell? ⟨gt, 2, none⟩ = some (.slice C2 t.marks.length e2) := cell_of_row vf _ 2 _ _ _ GT.out
                  have m3 : vf.cell? ⟨gt, 3, none⟩ = some (.slice C3 t.threads.length e3) := cell_of_row vf _ 3 _ _ _ GT.out
                  go_upto_region 36 with (go_at_call 31; refine (slope_asm t i HA.out e1 e2 e3 C1 C2 C3 vf P1.out P2.out P3.out).mono ?_; rintro e wb ⟨rfl, hbb⟩)
                  obtain ⟨vg, hw⟩ : ∃ v, wb.alloc (Obj.cells #[.int .i64 a, .int .i64 b] 36) = v := ⟨_, rfl⟩
                  obtain ⟨gq, hbk⟩ : ∃ b, wb.heap.size = b := ⟨_, rfl⟩
                  rw [hw, hbk]
                  have hK : Below vf.heap.size vf vg := by rw [← hw]; exact hbb.alloc hbb.size _
                  have Ya : vg.heap[gq]? = some (.cells #[.int .i64 a, .int .i64 b] 36 (0, 0)) := by rw [← hw, ← hbk]; exact heap_alloc_new _ _
                  have Ygq := Lib.hid Ya
                  replace hbx := hbx.trans (hK.mono hbx.size)
                  replace Ygp := Lib.hid (row_keep Ygp.out hK)
                  replace HS := Lib.hid (row_keep HS.out hK)
                  replace GT := Lib.hid (row_keep GT.out hK)
                  replace QH := Lib.hid (QH.out.grow hK)
                  replace P1 := Lib.hid (rd_keep P1.out hK)
                  replace P2 := Lib.hid (rd_keep P2.out hK)
                  replace P3 := Lib.hid (rd_keep P3.out hK)
                  replace HK0 := Lib.hid (HK0.out.trans (hK.mono HK0.out.size))
                  replace hb3 := below_keep hb3 hb3.size hK
                  clear hw hbk hK Ya hbb m0 m1 m2 m3
                  have x0 : vg.cell? ⟨gp, 0, none⟩ = some (.int .i64 (p)) := cell_of_row vg _ 0 _ _ _ Ygp.out
                  have x1 : vg.cell? ⟨gp, 1, none⟩ = some (.int .i64 (q)) := cell_of_row vg _ 1 _ _ _ Ygp.out
                  have y0 : vg.cell? ⟨gq, 0, none⟩ = some (.int .i64 (a)) := cell_of_row vg _ 0 _ _ _ Ygq.out
                  have y1 : vg.cell? ⟨gq, 1, none⟩ = some (.int .i64 (b)) := cell_of_row vg _ 1 _ _ _ Ygq.out
                  have gg1 : ¬ a < p := by omega
                  have gg2 : ¬ q < b := by omega
                  have HIN := Lib.hid hin
                  go_wp2
                  go_roundw
                  case rel => exact ⟨i + 1, (by have := HIN.out; omega), by go_num, hbx⟩
                  case measure => (have := HIN.out; simp [intOf] <;> omega)
                · obtain rfl : s.threads.length = i := by omega
                  have hii : ¬ ((s.threads.length : Nat) : Int) < (s.threads.length : Int) := by omega
                  go_wp2
                  go_roundw
                  case rel => exact ⟨k + 1, by omega, by go_num, HK0.out⟩
                  case measure => (simp [intOf] <;> omega)
      · obtain rfl : 2 = k := by omega
        go_wp2
        go_ret
        exact ⟨rfl, hb3⟩
set_option maxRecDepth 100000 in
set_option maxHeartbeats 16000000 in
theorem lawMore_zero (s : Sv) (y : Sh) (l : List Int) (cl c1 c2 c3 : Nat) (AL A1 A2 A3 : Option Addr) (w : World)
    (r1 : Rd w w.heap.size A1 shV 4 s.shots) (r2 : Rd w w.heap.size A2 mkV 3 s.marks) (r3 : Rd w w.heap.size A3 shV 4 s.threads) (rl : Rd w w.heap.size AL inV 1 l) (hok : svOk s = true) (hl : s.shots.length < 60) (hll : l.length ≤ 9223372036854775807) (hn : s.shots.length ≤ 0) :
    Calls Try.prog 11 #[.agg #[.int .i64 s.n, .slice A1 s.shots.length c1, .slice A2 s.marks.length c2, .slice A3 s.threads.length c3], .agg #[.int .i64 y.f, .int .i64 y.t, .int .i64 y.lo, .int .i64 y.hi], .slice AL l.length cl] w fun e w' => e = .returned (.bool true) ∧ Below w.heap.size w w' := by
  have R1 := Lib.hid r1
  have R2 := Lib.hid r2
  have R3 := Lib.hid r3
  have RL := Lib.hid rl
  have HOK := Lib.hid hok
  have h0I : ((s.shots.length : Int) == 60) = false := by rw [beq_eq_false_iff_ne]; omega
  obtain ⟨⟨n1, n2, n3, n4, n5⟩, _⟩ := svOk_spec hok
  obtain ⟨L, E, hLE⟩ : ∃ L E, lvHeights s = (L, E) := ⟨_, _, rfl⟩
  have HLE := Lib.hid hLE
  clear r1 r2 r3 rl hok hLE
  have HN := Lib.hid hn
  clear hn
  go_enter Try.func11, Try.ntmps11
  go_upto_region 6 with (first | (go_at_call 35; refine (alive_any _).mono ?_; rintro e w1 ⟨rfl, hb1⟩; obtain ⟨hc1, hf1⟩ := bcell hb1; have hz1 := hb1.size; simp at hz1; have hlt : w.heap.size < w1.heap.size := by omega) | (go_at_call 36; (have hbA : Below w.heap.size w w1 := by (repeat' (first | (with_reducible exact Below.refl _ _) | (with_reducible refine Below.alloc ?_ ?_ _) | (with_reducible refine Below.drew ?_) | (with_reducible refine Below.drewN_ ?_ _) | (with_reducible refine Below.setCell ?_ ?_ _) | (with_reducible refine Below.setRow ?_ ?_ _) | (with_reducible refine Below.via ?_ (by with_reducible assumption) ?_) | go_size))); have hr := ready_any s c1 c2 c3 A1 A2 A3 w1 ((R1.out.below hbA).more hbA.size) ((R2.out.below hbA).more hbA.size) ((R3.out.below hbA).more hbA.size); rw [HOK.out] at hr; refine hr.mono ?_; rintro e w2 ⟨rfl, hb2⟩; clear hr; (have S : w2.heap[w.heap.size]? = some (.cells #[.int .i64 s.n, .slice A1 s.shots.length c1, .slice A2 s.marks.length c2, .slice A3 s.threads.length c3] 26 (0, 0)) := row_keep (row_keep ((Below.heap_alloc _ _ _ (by simp)).trans (heap_alloc_new _ _)) hb1) hb2); have HS := Lib.hid S; have s1 := cell_of_row w2 _ 1 _ _ _ S; simp only [List.getElem?_toArray, List.getElem?_cons_zero, List.getElem?_cons_succ] at s1; clear S))
  have hb3 : Below w.heap.size w w2 := by (repeat' (first | (with_reducible exact Below.refl _ _) | (with_reducible refine Below.alloc ?_ ?_ _) | (with_reducible refine Below.drew ?_) | (with_reducible refine Below.drewN_ ?_ _) | (with_reducible refine Below.setCell ?_ ?_ _) | (with_reducible refine Below.setRow ?_ ?_ _) | (with_reducible refine Below.via ?_ (by with_reducible assumption) ?_) | go_size))
  have HY : Hid (w2.heap[w.heap.size + 1]? = some (.cells #[.int .i64 y.f, .int .i64 y.t, .int .i64 y.lo, .int .i64 y.hi] 78 (0, 0))) := Lib.hid (row_keep (row_keep (by have := heap_alloc_new (w.alloc (.cells #[.int .i64 s.n, .slice A1 s.shots.length c1, .slice A2 s.marks.length c2, .slice A3 s.threads.length c3] 26)) (.cells #[.int .i64 y.f, .int .i64 y.t, .int .i64 y.lo, .int .i64 y.hi] 78); simpa using this) hb1) hb2)
  clear hb1 hb2 hbA hc1 hf1 hz1 hlt h0I s1
  have s0 : w2.cell? ⟨w.heap.size, 0, none⟩ = some (.int .i64 s.n) := cell_of_row w2 _ 0 _ _ _ HS.out
  have s1 : w2.cell? ⟨w.heap.size, 1, none⟩ = some (.slice A1 s.shots.length c1) := cell_of_row w2 _ 1 _ _ _ HS.out
  have s2 : w2.cell? ⟨w.heap.size, 2, none⟩ = some (.slice A2 s.marks.length c2) := cell_of_row w2 _ 2 _ _ _ HS.out
  have s3 : w2.cell? ⟨w.heap.size, 3, none⟩ = some (.slice A3 s.threads.length c3) := cell_of_row w2 _ 3 _ _ _ HS.out
  go_upto_region 7 with (go_at_call 16; refine (heights_as s c1 c2 c3 A1 A2 A3 w2 ((R1.out.below hb3).more hb3.size) ((R2.out.below hb3).more hb3.size) ((R3.out.below hb3).more hb3.size) HLE.out).mono ?_; rintro e v7 ⟨⟨AH, cH, rfl, qh⟩, hK⟩)
  have QH := Lib.hid (show RdZ v7.heap.size v7 AH spV 2 L from ⟨qh, Nat.le_refl _⟩)
  obtain ⟨nn, hnl⟩ : ∃ n, L.length = n := ⟨_, rfl⟩
  rw [hnl]
  have HNL := Lib.hid hnl
  clear hnl
  replace HS := Lib.hid (row_keep HS.out hK)
  replace HY := Lib.hid (row_keep HY.out hK)
  replace hb3 := below_keep hb3 hb3.size hK
  have HWS := Lib.hid (show w.heap.size + 1 < v7.heap.size from (Array.getElem?_eq_some_iff.1 HY.out).1)
  clear hK qh s0 s1 s2 s3
  refine (wpIn_wide (n := 3)).1 ?_
  refine wpIn_region_mem (by kernel_rfl) 8 (by decide +kernel) (by decide +kernel) (by omega) (fun i y => if i = 0 then .agg #[.int .i64 s.n, .slice A1 s.shots.length c1, .slice A2 s.marks.length c2, .slice A3 s.threads.length c3] else if i = 1 then y.v else if i = 2 then .agg #[.int .i64 s.n, .slice A1 s.shots.length c1, .slice A2 s.marks.length c2, .slice A3 s.threads.length c3] else if i = 3 then y.v else if i = 4 then .pointer (some ⟨y.lo, 0, none⟩) else if i = 5 then .pointer (some ⟨y.lo, 0, none⟩) else undef)
    (fun x i W => if i = 1 then TwF s (x 1).v (x 1).lo (x 1).hi W else if i = 3 then TwF s (x 3).v (x 3).lo (x 3).hi W else if i = 4 then (W.heap[(x 4).lo]? = some (.cells #[.int .i64 0, .slice none 0 0, .slice none 0 0, .slice none 0 0] 26 (0, 0)) ∧ (x 4).lo < (x 4).hi) else if i = 5 then (W.heap[(x 5).lo]? = some (.cells #[.int .i64 0, .slice none 0 0, .slice none 0 0, .slice none 0 0] 26 (0, 0)) ∧ (x 5).lo < (x 5).hi) else if i = 6 then (∃ cs, (x 1).v = .agg cs ∧ W.heap[(x 4).lo]? = some (.cells cs 26 (0, 0)) ∧ (x 4).lo < (x 4).hi) else if i = 7 then (∃ cs, (x 3).v = .agg cs ∧ W.heap[(x 5).lo]? = some (.cells cs 26 (0, 0)) ∧ (x 5).lo < (x 5).hi) else NoF) (fun i => if i = 6 then 4 else if i = 7 then 5 else i) (fun i => if i = 4 then some 6 else if i = 5 then some 7 else none) _ _ ?aF ?hA (by decide +kernel) (by decide +kernel) ?hloc ?hcon ?hstep ?htail
  case hA => intro x; simp [putTo, putIf, dstAt, Act.put, List.range_succ]; rfl
  case hloc =>
    intro i hi x W W' h1 h2 hg hp
    match i, hi with
    | 0, _ => exact hp
    | 1, _ => exact TwF.local_ hp hg
    | 2, _ => exact hp
    | 3, _ => exact TwF.local_ hp hg
    | 4, _ => exact ⟨(hg _ (Nat.le_refl _) hp.2).trans hp.1, hp.2⟩
    | 5, _ => exact ⟨(hg _ (Nat.le_refl _) hp.2).trans hp.1, hp.2⟩
    | 6, _ => obtain ⟨cs, e1, e2, e3⟩ := hp; exact ⟨cs, e1, (hg _ (Nat.le_refl _) e3).trans e2, e3⟩
    | 7, _ => obtain ⟨cs, e1, e2, e3⟩ := hp; exact ⟨cs, e1, (hg _ (Nat.le_refl _) e3).trans e2, e3⟩
    | k + 8, hk => omega
  case hcon =>
    intro i hi L x x' W hcl hL he hp
    match i, hi with
    | 0, _ => exact hp
    | 1, _ => (show TwF s (x' 1).v (x' 1).lo (x' 1).hi W); rw [he 1 hL]; exact hp
    | 2, _ => exact hp
    | 3, _ => (show TwF s (x' 3).v (x' 3).lo (x' 3).hi W); rw [he 3 hL]; exact hp
    | 4, _ => (show W.heap[(x' 4).lo]? = _ ∧ (x' 4).lo < (x' 4).hi); rw [he 4 hL]; exact hp
    | 5, _ => (show W.heap[(x' 5).lo]? = _ ∧ (x' 5).lo < (x' 5).hi); rw [he 5 hL]; exact hp
    | 6, _ => (have ha := hcl 6 _ hL rfl { on := 4, ground := Ground.data } (by simp) rfl); (have hc := hcl 6 _ hL rfl { on := 1, ground := Ground.data } (by simp) rfl); (show ∃ cs, (x' 1).v = .agg cs ∧ W.heap[(x' 4).lo]? = some (.cells cs 26 (0, 0)) ∧ (x' 4).lo < (x' 4).hi); rw [he 4 ha, he 1 hc]; exact hp
    | 7, _ => (have ha := hcl 7 _ hL rfl { on := 5, ground := Ground.data } (by simp) rfl); (have hc := hcl 7 _ hL rfl { on := 3, ground := Ground.data } (by simp) rfl); (show ∃ cs, (x' 3).v = .agg cs ∧ W.heap[(x' 5).lo]? = some (.cells cs 26 (0, 0)) ∧ (x' 5).lo < (x' 5).hi); rw [he 5 ha, he 3 hc]; exact hp
    | k + 8, hk => omega
  case hstep =>
    intro i o hi ho L x W hL hcl hdep hb hf hbd
    have q0 := cell_of_row W _ 0 _ _ _ (row_keep HS.out hb)
    have q1 := cell_of_row W _ 1 _ _ _ (row_keep HS.out hb)
    have q2 := cell_of_row W _ 2 _ _ _ (row_keep HS.out hb)
    have q3 := cell_of_row W _ 3 _ _ _ (row_keep HS.out hb)
    simp only [List.getElem?_toArray, List.getElem?_cons_zero, List.getElem?_cons_succ] at q0 q1 q2 q3
    have HB := Lib.hid hb
    have HFA := Lib.hid hf
    have HBD := Lib.hid hbd
    clear hb hf hbd
    refine ⟨fun _ _ => trivial, ?_⟩
    match i, hi, ho with
    | 0, _, ho => simp only [List.getElem?_toArray, List.getElem?_cons_succ, List.getElem?_cons_zero, Option.some.injEq] at ho; subst ho; go_simp; rw [outs_value]; exact onM_same (y := ⟨undef, W.heap.size, W.heap.size⟩) rfl rfl rfl (by simp; exact noF)
    | 1, _, ho => simp only [List.getElem?_toArray, List.getElem?_cons_succ, List.getElem?_cons_zero, Option.some.injEq] at ho; subst ho; (have hB := hb3.trans (HB.out.mono hb3.size)); go_simp; refine ⟨by simp, callsIn_wide.2 ((twin_in s c1 c2 c3 A1 A2 A3 W ((R1.out.below hB).more hB.size) ((R2.out.below hB).more hB.size) ((R3.out.below hB).more hB.size) (by omega) (by omega) (by omega)).mono ?_)⟩; rintro e w' ⟨v, rfl, hv, hb⟩; exact ⟨_, rfl, onM_below (y := ⟨v, W.heap.size, w'.heap.size⟩) rfl rfl rfl hb hv⟩
    | 2, _, ho => simp only [List.getElem?_toArray, List.getElem?_cons_succ, List.getElem?_cons_zero, Option.some.injEq] at ho; subst ho; go_simp; rw [outs_value]; exact onM_same (y := ⟨undef, W.heap.size, W.heap.size⟩) rfl rfl rfl (by simp; exact noF)
    | 3, _, ho => simp only [List.getElem?_toArray, List.getElem?_cons_succ, List.getElem?_cons_zero, Option.some.injEq] at ho; subst ho; (have hB := hb3.trans (HB.out.mono hb3.size)); go_simp; refine ⟨by simp, callsIn_wide.2 ((twin_in s c1 c2 c3 A1 A2 A3 W ((R1.out.below hB).more hB.size) ((R2.out.below hB).more hB.size) ((R3.out.below hB).more hB.size) (by omega) (by omega) (by omega)).mono ?_)⟩; rintro e w' ⟨v, rfl, hv, hb⟩; exact ⟨_, rfl, onM_below (y := ⟨v, W.heap.size, w'.heap.size⟩) rfl rfl rfl hb hv⟩
    | 4, _, ho => simp only [List.getElem?_toArray, List.getElem?_cons_succ, List.getElem?_cons_zero, Option.some.injEq] at ho; subst ho; go_simp; rw [outs_value]; exact onM_below (y := ⟨undef, W.heap.size, _⟩) rfl rfl rfl ((Below.refl _ _).alloc (Nat.le_refl _) _) ⟨heap_alloc_new _ _, by simp [upM]⟩
    | 5, _, ho => simp only [List.getElem?_toArray, List.getElem?_cons_succ, List.getElem?_cons_zero, Option.some.injEq] at ho; subst ho; go_simp; rw [outs_value]; exact onM_below (y := ⟨undef, W.heap.size, _⟩) rfl rfl rfl ((Below.refl _ _).alloc (Nat.le_refl _) _) ⟨heap_alloc_new _ _, by simp [upM]⟩
    | 6, _, ho => simp only [List.getElem?_toArray, List.getElem?_cons_succ, List.getElem?_cons_zero, Option.some.injEq] at ho; subst ho; (have la := hdep { on := 4, ground := Ground.data } (by simp) rfl); (have lc := hdep { on := 1, ground := Ground.data } (by simp) rfl); (have fa : W.heap[(x 4).lo]? = _ ∧ (x 4).lo < (x 4).hi := HFA.out 4 (by omega) la (fun k hk => by simp at hk; rw [← hk]; exact hL)); (have fc : TwF s (x 1).v (x 1).lo (x 1).hi W := HFA.out 1 (by omega) lc (fun k hk => by simp at hk)); obtain ⟨p, hv, htw⟩ := fc; obtain ⟨ga, hga⟩ : ∃ g, (x 4).lo = g := ⟨_, rfl⟩; obtain ⟨hga1, hga2⟩ := fa; rw [hga] at hga1; (have z0 := cell_of_row W ga 0 _ _ _ hga1); (have z1 := cell_of_row W ga 1 _ _ _ hga1); (have z2 := cell_of_row W ga 2 _ _ _ hga1); (have z3 := cell_of_row W ga 3 _ _ _ hga1); (have u0 := frozen_of_row W ga 0 _ _ hga1); (have u1 := frozen_of_row W ga 1 _ _ hga1); (have u2 := frozen_of_row W ga 2 _ _ hga1); (have u3 := frozen_of_row W ga 3 _ _ hga1); simp only [List.getElem?_toArray, List.getElem?_cons_zero, List.getElem?_cons_succ] at z0 z1 z2 z3; (have HG := Lib.hid hga1); (have HGA := Lib.hid hga); (have HV := Lib.hid hv); clear hga1 hv htw; rw [hga, HV.out]; unfold twV; clear hga; go_simp; rw [outs_skip]; exact onM_write (by decide) HGA.out hga2 rfl ⟨rfl, rfl, rfl⟩ (by simp) (fun b hb => heap_set4_ne hb) ⟨_, HV.out, (show (_ : World).heap[(x 4).lo]? = _ from (by rw [HGA.out]; exact heap_set4 HG.out)), hga2⟩
    | 7, _, ho => simp only [List.getElem?_toArray, List.getElem?_cons_succ, List.getElem?_cons_zero, Option.some.injEq] at ho; subst ho; (have la := hdep { on := 5, ground := Ground.data } (by simp) rfl); (have lc := hdep { on := 3, ground := Ground.data } (by simp) rfl); (have fa : W.heap[(x 5).lo]? = _ ∧ (x 5).lo < (x 5).hi := HFA.out 5 (by omega) la (fun k hk => by simp at hk; rw [← hk]; exact hL)); (have fc : TwF s (x 3).v (x 3).lo (x 3).hi W := HFA.out 3 (by omega) lc (fun k hk => by simp at hk)); obtain ⟨p, hv, htw⟩ := fc; obtain ⟨ga, hga⟩ : ∃ g, (x 5).lo = g := ⟨_, rfl⟩; obtain ⟨hga1, hga2⟩ := fa; rw [hga] at hga1; (have z0 := cell_of_row W ga 0 _ _ _ hga1); (have z1 := cell_of_row W ga 1 _ _ _ hga1); (have z2 := cell_of_row W ga 2 _ _ _ hga1); (have z3 := cell_of_row W ga 3 _ _ _ hga1); (have u0 := frozen_of_row W ga 0 _ _ hga1); (have u1 := frozen_of_row W ga 1 _ _ hga1); (have u2 := frozen_of_row W ga 2 _ _ hga1); (have u3 := frozen_of_row W ga 3 _ _ hga1); simp only [List.getElem?_toArray, List.getElem?_cons_zero, List.getElem?_cons_succ] at z0 z1 z2 z3; (have HG := Lib.hid hga1); (have HGA := Lib.hid hga); (have HV := Lib.hid hv); clear hga1 hv htw; rw [hga, HV.out]; unfold twV; clear hga; go_simp; rw [outs_skip]; exact onM_write (by decide) HGA.out hga2 rfl ⟨rfl, rfl, rfl⟩ (by simp) (fun b hb => heap_set4_ne hb) ⟨_, HV.out, (show (_ : World).heap[(x 5).lo]? = _ from (by rw [HGA.out]; exact heap_set4 HG.out)), hga2⟩
    | k + 8, hk, _ => omega
  case htail =>
    intro x W hbW hfW hbd hdj
    replace HS := Lib.hid (row_keep HS.out hbW)
    replace HY := Lib.hid (row_keep HY.out hbW)
    replace QH := Lib.hid (QH.out.grow hbW)
    replace hb3 := below_keep hb3 hb3.size hbW
    have bs := hb3.size
    obtain ⟨cs1, e1, r1, l1⟩ : ∃ cs, (x 1).v = .agg cs ∧ W.heap[(x 4).lo]? = some (.cells cs 26 (0, 0)) ∧ (x 4).lo < (x 4).hi := hfW 6 (by omega) rfl
    obtain ⟨⟨B11, B12, B13, d11, d12, d13, b12, b13⟩, hv1, T1⟩ : TwF s (x 1).v (x 1).lo (x 1).hi W := hfW 1 (by omega) rfl
    rw [hv1] at e1
    injection e1 with e1
    subst e1
    obtain ⟨cs2, e2, r2, l2⟩ : ∃ cs, (x 3).v = .agg cs ∧ W.heap[(x 5).lo]? = some (.cells cs 26 (0, 0)) ∧ (x 5).lo < (x 5).hi := hfW 7 (by omega) rfl
    obtain ⟨⟨B21, B22, B23, d21, d22, d23, b22, b23⟩, hv2, T2⟩ : TwF s (x 3).v (x 3).lo (x 3).hi W := hfW 3 (by omega) rfl
    rw [hv2] at e2
    injection e2 with e2
    subst e2
    have bd1 := hbd 1 (by omega)
    have bd3 := hbd 3 (by omega)
    have bd4 := hbd 4 (by omega)
    have bd5 := hbd 5 (by omega)
    have dj1_3 := hdj 1 3 (by omega) (by omega) (by omega)
    have dj1_4 := hdj 1 4 (by omega) (by omega) (by omega)
    have dj1_5 := hdj 1 5 (by omega) (by omega) (by omega)
    have dj3_4 := hdj 3 4 (by omega) (by omega) (by omega)
    have dj3_5 := hdj 3 5 (by omega) (by omega) (by omega)
    have dj4_5 := hdj 4 5 (by omega) (by omega) (by omega)
    clear hfW hbd hdj hv1 hv2 hbW
    obtain ⟨q1, hq⟩ : ∃ n, (x 1).lo = n := ⟨_, rfl⟩
    rw [hq] at T1 bd1 dj1_3 dj1_4 dj1_5
    clear hq
    obtain ⟨h1, hq⟩ : ∃ n, (x 1).hi = n := ⟨_, rfl⟩
    rw [hq] at T1 bd1 dj1_3 dj1_4 dj1_5
    clear hq
    obtain ⟨q2, hq⟩ : ∃ n, (x 3).lo = n := ⟨_, rfl⟩
    rw [hq] at T2 bd3 dj1_3 dj3_4 dj3_5
    clear hq
    obtain ⟨h2, hq⟩ : ∃ n, (x 3).hi = n := ⟨_, rfl⟩
    rw [hq] at T2 bd3 dj1_3 dj3_4 dj3_5
    clear hq
    obtain ⟨ga, hqga⟩ : ∃ n, (x 4).lo = n := ⟨_, rfl⟩
    rw [hqga] at r1 l1 bd4 dj1_4 dj3_4 dj4_5
    obtain ⟨gb, hqgb⟩ : ∃ n, (x 5).lo = n := ⟨_, rfl⟩
    rw [hqgb] at r2 l2 bd5 dj1_5 dj3_5 dj4_5
    rw [hqga, hqgb]
    clear hqga hqgb
    have DJ := Lib.hid (show (h1 ≤ q2 ∨ h2 ≤ q1) ∧ (ga < q1 ∨ h1 ≤ ga) ∧ (gb < q1 ∨ h1 ≤ gb) ∧ (ga < q2 ∨ h2 ≤ ga) ∧ (gb < q2 ∨ h2 ≤ gb) ∧ q1 ≤ h1 ∧ v7.heap.size ≤ q1 ∧ q2 ≤ h2 ∧ v7.heap.size ≤ q2 ∧ v7.heap.size ≤ ga ∧ v7.heap.size ≤ gb ∧ ga ≠ gb from by omega)
    replace T1 : Hid (TwZ s.shots.length s.marks.length s.threads.length s.shots s.marks s.threads ⟨B11, B12, B13, d11, d12, d13, b12, b13⟩ q1 h1 W) := Lib.hid ⟨T1, by omega⟩
    replace T2 : Hid (TwZ s.shots.length s.marks.length s.threads.length s.shots s.marks s.threads ⟨B21, B22, B23, d21, d22, d23, b22, b23⟩ q2 h2 W) := Lib.hid ⟨T2, by omega⟩
    dsimp only at r1 r2
    have GA := Lib.hid r1
    have GB := Lib.hid r2
    clear r1 l1 r2 l2 bs bd1 bd3 bd4 bd5 dj1_3 dj1_4 dj1_5 dj3_4 dj3_5 dj4_5
    simp only [List.drop_succ_cons, List.drop_zero]
    gi_wp2_with fail
    obtain ⟨i1, hi1, hz11, hz12, hz13⟩ := info_parts infoShot
    have I1 := Lib.hid (And.intro hi1 (And.intro hz11 (And.intro hz12 hz13)))
    clear hi1 hz11 hz12 hz13
    have m1 : W.cell? ⟨ga, 1, none⟩ = some (.slice B11 s.shots.length d11) := cell_of_row W _ 1 _ _ _ GA.out
    have x0 : W.cell? ⟨w.heap.size + 1, 0, none⟩ = some (.int .i64 y.f) := cell_of_row W _ 0 _ _ _ HY.out
    have x1 : W.cell? ⟨w.heap.size + 1, 1, none⟩ = some (.int .i64 y.t) := cell_of_row W _ 1 _ _ _ HY.out
    have x2 : W.cell? ⟨w.heap.size + 1, 2, none⟩ = some (.int .i64 y.lo) := cell_of_row W _ 2 _ _ _ HY.out
    have x3 : W.cell? ⟨w.heap.size + 1, 3, none⟩ = some (.int .i64 y.hi) := cell_of_row W _ 3 _ _ _ HY.out
    have hgaz := (Array.getElem?_eq_some_iff.1 GA.out).1
    have tok : True := trivial
    go_upto_region 9 with (at_builtin; have _t := tok; refine wpList_append_rd rfl (.tmp 47) (.tmp 49) 22 rfl i1 _ 32 Try.underlying22 I1.out.1 I1.out.2.1 I1.out.2.2.1 I1.out.2.2.2 rfl (by omega) shV_len shV_one rfl (T1.out.1.1.1.below ((Below.refl _ _).alloc (Nat.le_refl _) _)) rfl rfl (Rd.one _ y #[.int .i64 y.f, .int .i64 y.t, .int .i64 y.lo, .int .i64 y.hi] 78 rfl) (by simp; omega) (by omega) (by have := T1.out.2; have := T1.out.1.2.2.2; dsimp only at this; simp; omega) ?_; intro v' w5 ho5 hg5 hat5; clear tok _t; obtain ⟨AV, cV, hV⟩ := ho5.form; subst hV; rw [show (s.shots ++ [y]).length = s.shots.length + 1 by simp] at ho5 hat5 ⊢; have HO5 := Lib.hid ho5; have HG5 := Lib.hid hg5; have HAT := Lib.hid hat5; (have hg6 := (hg5.block ga (by simp; omega) (fun e => by have := T1.out.1.1.2 ga e.symm; have := (T1.out.1.1.1.lt ga e.symm).1; have := DJ.out; have := T1.out.1.2.2.2; dsimp only at *; omega)).trans ((Below.heap_alloc _ _ _ hgaz).trans GA.out)); have HGA5 := Lib.hid hg6; have z0 := cell_of_row w5 _ 1 _ _ _ hg6; have z1 := frozen_of_row w5 ga 1 _ _ hg6; simp only [List.getElem?_toArray, List.getElem?_cons_zero, List.getElem?_cons_succ] at z0; clear ho5 hg5 hat5 hg6)
    obtain ⟨v8, hw⟩ : ∃ v, w5.setCell ⟨ga, 1, none⟩ (.slice AV (s.shots.length + 1) cV) = v := ⟨_, rfl⟩
    rw [hw]
    have t1 := T1.out.1.2.2.2
    have t2 := T2.out.1.2.2.2
    dsimp only at t1 t2
    have dj := DJ.out
    have z1h := T1.out.2
    have z2h := T2.out.2
    have zws := HWS.out
    have zgb := (Array.getElem?_eq_some_iff.1 GB.out).1
    have hblk : ∀ b, b < W.heap.size → (b < q1 ∨ b12 ≤ b) → b ≠ ga → v8.heap[b]? = W.heap[b]? := fun b k1 k2 k3 => by
      rw [← hw]
      refine (Below.heap_setCell _ _ _ _ k3).trans ((HG5.out.block b (by simp; omega) (fun e => ?_)).trans (Below.heap_alloc _ _ _ k1))
      have a1 := T1.out.1.1.2 b e.symm
      have a2 := (T1.out.1.1.1.lt b e.symm).1
      dsimp only at a1
      omega
    have hsz8 : W.heap.size ≤ v8.heap.size := by rw [← hw]; have := HG5.out.size; simp at this ⊢; omega
    have HGA8 : v8.heap[ga]? = some (.cells #[.int .i64 s.n, .slice AV (s.shots.length + 1) cV, .slice B12 s.marks.length d12, .slice B13 s.threads.length d13] 26 (0, 0)) := by rw [← hw, heap_setCell_same w5 ga 1 _ _ _ HGA5.out]; rfl
    replace GA := Lib.hid HGA8
    replace HS := Lib.hid ((hblk _ (by omega) (by omega) (by omega)).trans HS.out)
    replace HY := Lib.hid ((hblk _ (by omega) (by omega) (by omega)).trans HY.out)
    replace GB := Lib.hid ((hblk _ (by omega) (by omega) (by omega)).trans GB.out)
    replace QH := Lib.hid (QH.out.local_ hsz8 fun b k1 => hblk b (by omega) (by omega) (by omega))
    have X1 : Hid (OwnN v8 q2 h2 78 (.slice AV (s.shots.length + 1) cV) shV 4 (s.shots ++ [y])) := Lib.hid (by
      refine ⟨⟨q1, ?_⟩, fun k hk => ?_⟩
      · rw [← hw]
        refine HO5.out.keep (row := some ga) (grown_set _) ?_
        cases hv : (Value.slice AV (s.shots.length + 1) cV).ownBlock with
        | none => exact .inl rfl
        | some k =>
          refine .inr fun e => ?_
          injection e with e
          subst e
          rcases HAT.out with h | h
          · rw [hv] at h
            have a1 := T1.out.1.1.2 k h.symm
            have a2 := (T1.out.1.1.1.lt k h.symm).1
            dsimp only at a1
            omega
          · rw [hv] at h
            injection h with h
            simp at h
            omega
      · rcases HAT.out with h | h
        · rw [hk] at h
          have a1 := T1.out.1.1.2 k h.symm
          have a2 := (T1.out.1.1.1.lt k h.symm).1
          dsimp only at a1
          omega
        · rw [hk] at h
          injection h with h
          simp at h
          omega)
    have X2 : Hid (OwnN v8 q2 h2 75 (.slice B12 s.marks.length d12) mkV 3 s.marks) := Lib.hid ((T1.out.1.2.1.local_ fun b k1 k2 => hblk b (by dsimp only at k1 k2; omega) (by dsimp only at k1 k2; omega) (by dsimp only at k1 k2; omega)).away (by dsimp only; omega))
    have X3 : Hid (OwnN v8 q2 h2 72 (.slice B13 s.threads.length d13) shV 4 s.threads) := Lib.hid ((T1.out.1.2.2.1.local_ fun b k1 k2 => hblk b (by dsimp only at k1 k2; omega) (by dsimp only at k1 k2; omega) (by dsimp only at k1 k2; omega)).away (by dsimp only; omega))
    replace T2 : Hid (TwZ s.shots.length s.marks.length s.threads.length s.shots s.marks s.threads ⟨B21, B22, B23, d21, d22, d23, b22, b23⟩ q2 h2 v8) := Lib.hid ⟨T2.out.1.local_ fun b k1 k2 => hblk b (by omega) (by omega) (by omega), by omega⟩
    replace hb3 : Below w.heap.size w v8 := hb3.trans ⟨by rw [← hw]; exact HG5.out.os, by rw [← hw]; exact HG5.out.tape, by rw [← hw]; exact HG5.out.output, hsz8, fun k hk => hblk k (by omega) (by omega) (by omega)⟩
    have HD2 := Lib.hid (show (ga < q2 ∨ h2 ≤ ga) ∧ (gb < q2 ∨ h2 ≤ gb) ∧ w.heap.size + 1 < q2 ∧ v7.heap.size ≤ q2 from by omega)
    clear hw t1 t2 dj z1h z2h zws zgb hblk hsz8 HGA8 HGA5 HO5 HG5 HAT T1 DJ hgaz m1 x0 x1 x2 x3 z0 z1
    have m0 : v8.cell? ⟨ga, 0, none⟩ = some (.int .i64 s.n) := cell_of_row v8 _ 0 _ _ _ GA.out
    have m1 : v8.cell? ⟨ga, 1, none⟩ = some (.slice AV (s.shots.length + 1) cV) := cell_of_row v8 _ 1 _ _ _ GA.out
    have m2 : v8.cell? ⟨ga, 2, none⟩ = some (.slice B12 s.marks.length d12) := cell_of_row v8 _ 2 _ _ _ GA.out
    have m3 : v8.cell? ⟨ga, 3, none⟩ = some (.slice B13 s.threads.length d13) := cell_of_row v8 _ 3 _ _ _ GA.out
    cases hy : svOk (addSh s y)
    · have HE := Lib.hid (show svErr (addSh s y) = 10 by unfold svErr; rw [hy]; rfl)
      clear hy
      go_upto_region 10 with (go_at_call 21; refine (check_add s y HE.out cV d12 d13 AV B12 B13 v8 (X1.out.rd (by simp) shV_len) (X2.out.rd rfl mkV_len) (X3.out.rd rfl shV_len)).mono ?_; rintro e v9 ⟨rfl, hK⟩)
      replace hb3 := below_keep hb3 hb3.size hK
      clear hK m0 m1 m2 m3
      go_wp2
      go_ret
      exact ⟨rfl, hb3⟩
    have HE := Lib.hid (show svErr (addSh s y) = 0 by unfold svErr; rw [hy]; rfl)
    have SA := Lib.hid (says_add HOK.out hy)
    clear hy
    go_upto_region 11 with (go_at_call 21; refine (check_add s y HE.out cV d12 d13 AV B12 B13 v8 (X1.out.rd (by simp) shV_len) (X2.out.rd rfl mkV_len) (X3.out.rd rfl shV_len)).mono ?_; rintro e v9 ⟨rfl, hK⟩)
    replace HS := Lib.hid (row_keep HS.out hK)
    replace HY := Lib.hid (row_keep HY.out hK)
    replace GA := Lib.hid (row_keep GA.out hK)
    replace GB := Lib.hid (row_keep GB.out hK)
    replace QH := Lib.hid (QH.out.grow hK)
    replace T2 := Lib.hid (T2.out.grow hK)
    replace X1 := Lib.hid (X1.out.grow hK)
    replace X2 := Lib.hid (X2.out.grow hK)
    replace X3 := Lib.hid (X3.out.grow hK)
    replace hb3 := below_keep hb3 hb3.size hK
    clear hK m0 m1 m2 m3 HE
    have s1 : v9.cell? ⟨w.heap.size, 1, none⟩ = some (.slice A1 s.shots.length c1) := cell_of_row v9 _ 1 _ _ _ HS.out
    have hn0 : ¬ (0 : Int) < (s.shots.length : Int) := by have := HN.out; omega
    go_upto_region 16 with fail
    clear s1 hn0
    have SB := Lib.hid (says_self HOK.out)
    have m0 : v9.cell? ⟨ga, 0, none⟩ = some (.int .i64 s.n) := cell_of_row v9 _ 0 _ _ _ GA.out
    have m1 : v9.cell? ⟨ga, 1, none⟩ = some (.slice AV (s.shots.length + 1) cV) := cell_of_row v9 _ 1 _ _ _ GA.out
    have m2 : v9.cell? ⟨ga, 2, none⟩ = some (.slice B12 s.marks.length d12) := cell_of_row v9 _ 2 _ _ _ GA.out
    have m3 : v9.cell? ⟨ga, 3, none⟩ = some (.slice B13 s.threads.length d13) := cell_of_row v9 _ 3 _ _ _ GA.out
    have b0 : v9.cell? ⟨gb, 0, none⟩ = some (.int .i64 s.n) := cell_of_row v9 _ 0 _ _ _ GB.out
    have b1 : v9.cell? ⟨gb, 1, none⟩ = some (.slice B21 s.shots.length d21) := cell_of_row v9 _ 1 _ _ _ GB.out
    have b2 : v9.cell? ⟨gb, 2, none⟩ = some (.slice B22 s.marks.length d22) := cell_of_row v9 _ 2 _ _ _ GB.out
    have b3 : v9.cell? ⟨gb, 3, none⟩ = some (.slice B23 s.threads.length d23) := cell_of_row v9 _ 3 _ _ _ GB.out
    go_wp2
    obtain ⟨vl, hw⟩ : ∃ v, v9.alloc (.cells #[.int .i64 s.n, .slice AV (s.shots.length + 1) cV, .slice B12 s.marks.length d12, .slice B13 s.threads.length d13, .int .i64 s.n, .slice B21 s.shots.length d21, .slice B22 s.marks.length d22, .slice B23 s.threads.length d23] 26) = v := ⟨_, rfl⟩
    obtain ⟨gl, hbk⟩ : ∃ b, v9.heap.size = b := ⟨_, rfl⟩
    rw [hw, hbk]
    have hK : Below v9.heap.size v9 vl := by rw [← hw]; exact (Below.refl _ _).alloc (Nat.le_refl _) _
    have Ya : vl.heap[gl]? = some (.cells #[.int .i64 s.n, .slice AV (s.shots.length + 1) cV, .slice B12 s.marks.length d12, .slice B13 s.threads.length d13, .int .i64 s.n, .slice B21 s.shots.length d21, .slice B22 s.marks.length d22, .slice B23 s.threads.length d23] 26 (0, 0)) := by rw [← hw, ← hbk]; exact heap_alloc_new _ _
    replace HS := Lib.hid (row_keep HS.out hK)
    replace HY := Lib.hid (row_keep HY.out hK)
    replace GA := Lib.hid (row_keep GA.out hK)
    replace GB := Lib.hid (row_keep GB.out hK)
    replace QH := Lib.hid (QH.out.grow hK)
    replace T2 := Lib.hid (T2.out.grow hK)
    replace X1 := Lib.hid (X1.out.grow hK)
    replace X2 := Lib.hid (X2.out.grow hK)
    replace X3 := Lib.hid (X3.out.grow hK)
    replace hb3 := below_keep hb3 hb3.size hK
    have hgl := (Array.getElem?_eq_some_iff.1 Ya).1
    have HT : Hid (∀ k : Nat, k < 2 → ∃ (t : Sv) (C1 C2 C3 : Option Addr) (e1 e2 e3 : Nat), Says s t ∧ (vl.cell? ⟨gl, k * 4, none⟩ = some (.int .i64 t.n) ∧ vl.cell? ⟨gl, k * 4 + 1, none⟩ = some (.slice C1 t.shots.length e1) ∧ vl.cell? ⟨gl, k * 4 + 2, none⟩ = some (.slice C2 t.marks.length e2) ∧ vl.cell? ⟨gl, k * 4 + 3, none⟩ = some (.slice C3 t.threads.length e3)) ∧
        Rd vl vl.heap.size C1 shV 4 t.shots ∧ Rd vl vl.heap.size C2 mkV 3 t.marks ∧ Rd vl vl.heap.size C3 shV 4 t.threads) := Lib.hid (fun k hk => by
      have hk2 : k = 0 ∨ k = 1 := by omega
      rcases hk2 with rfl | rfl
      · refine ⟨addSh s y, AV, B12, B13, cV, d12, d13, SA.out, ⟨cell_of_row vl gl 0 _ _ _ Ya, (cell_of_row vl gl 1 _ _ _ Ya).trans (by simp [addSh]), cell_of_row vl gl 2 _ _ _ Ya, cell_of_row vl gl 3 _ _ _ Ya⟩, X1.out.rd (by simp) shV_len, X2.out.rd rfl mkV_len, X3.out.rd rfl shV_len⟩
      · refine ⟨s, B21, B22, B23, d21, d22, d23, SB.out, ⟨cell_of_row vl gl 4 _ _ _ Ya, (cell_of_row vl gl 5 _ _ _ Ya).trans (by simp [setSh]), cell_of_row vl gl 6 _ _ _ Ya, cell_of_row vl gl 7 _ _ _ Ya⟩, T2.out.1.r1 (by simp), T2.out.1.r2 rfl, T2.out.1.r3 rfl⟩)
    clear hw hbk hK Ya m0 m1 m2 m3 b0 b1 b2 b3 X1 X2 X3 T2 GA GB SA SB HY
    obtain ⟨bz, hbz⟩ : ∃ b, decide (0 < s.shots.length) = b := ⟨_, rfl⟩
    rw [hbz]
    clear hbz
    go_loopw [109] (fun v W => ∃ k : Nat, k ≤ 2 ∧ v = .int .i64 k ∧ Below vl.heap.size vl W) (fun i _ => 2 - (intOf i).toNat)
    case atStart => exact ⟨0, by omega, rfl, Below.refl _ _⟩
    case round =>
      obtain ⟨k, hk, rfl, hK⟩ := hrel
      obtain ⟨va, hva⟩ : ∃ v, v = wr := ⟨_, rfl⟩
      subst hva
      replace HS := Lib.hid (row_keep HS.out hK)
      replace QH := Lib.hid (QH.out.grow hK)
      replace hb3 := below_keep hb3 hb3.size hK
      by_cases hlt : k < 2
      · obtain ⟨t, C1, C2, C3, e1, e2, e3, hsay, ⟨z0, z1, z2, z3⟩, p1, p2, p3⟩ := HT.out k hlt
        have SY := Lib.hid hsay
        have P1 := Lib.hid (rd_keep p1 hK)
        have P2 := Lib.hid (rd_keep p2 hK)
        have P3 := Lib.hid (rd_keep p3 hK)
        replace z0 := (hK.cell (p := ⟨gl, k * 4, none⟩) hgl).trans z0
        replace z1 := (hK.cell (p := ⟨gl, k * 4 + 1, none⟩) hgl).trans z1
        replace z2 := (hK.cell (p := ⟨gl, k * 4 + 2, none⟩) hgl).trans z2
        replace z3 := (hK.cell (p := ⟨gl, k * 4 + 3, none⟩) hgl).trans z3
        have hkI : (k : Int) < 2 := by omega
        have HK0 := Lib.hid hK
        clear hsay p1 p2 p3 hK HT
        go_upto_region 19 with fail
        obtain ⟨vb, hw⟩ : ∃ v, va.alloc (Obj.cells #[.int .i64 t.n, .slice C1 t.shots.length e1, .slice C2 t.marks.length e2, .slice C3 t.threads.length e3] 26) = v := ⟨_, rfl⟩
        obtain ⟨gt, hbk⟩ : ∃ b, va.heap.size = b := ⟨_, rfl⟩
        rw [hw, hbk]
        have hK : Below va.heap.size va vb := by rw [← hw]; exact (Below.refl _ _).alloc (Nat.le_refl _) _
        have Ya : vb.heap[gt]? = some (.cells #[.int .i64 t.n, .slice C1 t.shots.length e1, .slice C2 t.marks.length e2, .slice C3 t.threads.length e3] 26 (0, 0)) := by rw [← hw, ← hbk]; exact heap_alloc_new _ _
        have GT := Lib.hid Ya
        replace HS := Lib.hid (row_keep HS.out hK)
        replace QH := Lib.hid (QH.out.grow hK)
        replace P1 := Lib.hid (rd_keep P1.out hK)
        replace P2 := Lib.hid (rd_keep P2.out hK)
        replace P3 := Lib.hid (rd_keep P3.out hK)
        replace HK0 := Lib.hid (HK0.out.trans (hK.mono HK0.out.size))
        replace hb3 := below_keep hb3 hb3.size hK
        clear hw hbk hK Ya z0 z1 z2 z3
        have m0 : vb.cell? ⟨gt, 0, none⟩ = some (.int .i64 t.n) := cell_of_row vb _ 0 _ _ _ GT.out
        have m1 : vb.cell? ⟨gt, 1, none⟩ = some (.slice C1 t.shots.length e1) := cell_of_row vb _ 1 _ _ _ GT.out
        have m2 : vb.cell? ⟨gt, 2, none⟩ = some (.slice C2 t.marks.length e2) := cell_of_row vb _ 2 _ _ _ GT.out
        have m3 : vb.cell? ⟨gt, 3, none⟩ = some (.slice C3 t.threads.length e3) := cell_of_row vb _ 3 _ _ _ GT.out
        cases hf : (svD t).2
        · have HLT := Lib.hid (lvHeights_apart SY.out.okt hf)
          clear hf
          go_upto_region 20 with (go_at_call 16; refine (heights_as t e1 e2 e3 C1 C2 C3 vb P1.out P2.out P3.out HLT.out).mono ?_; rintro e vc ⟨⟨AM, cM, rfl, qm⟩, hK⟩)
          have hbf := HK0.out.trans (hK.mono HK0.out.size)
          clear m0 m1 m2 m3 hK qm
          go_wp2
          go_roundw
          case rel => exact ⟨k + 1, by omega, by go_num, hbf⟩
          case measure => (simp [intOf] <;> omega)
        · obtain ⟨g1, g2', g3, g4, g5⟩ := says_heights SY.out hf
          obtain ⟨rfl, rfl⟩ := Prod.mk.inj (HLE.out.symm.trans g2')
          have HLT := Lib.hid g1
          have HG5 := Lib.hid g5
          have HF := Lib.hid hf
          have hnn : s.n.toNat = nn := g4.symm.trans HNL.out
          rw [hnn] at g3 g4
          have hn20 : nn ≤ 20 := by omega
          have HNN := Lib.hid hnn
          have HL3 := Lib.hid g3
          have HL4 := Lib.hid g4
          clear g1 g2' g3 g4 g5 hf hnn
          go_upto_region 20 with (go_at_call 16; refine (heights_as t e1 e2 e3 C1 C2 C3 vb P1.out P2.out P3.out HLT.out).mono ?_; rintro e vc ⟨⟨AM, cM, rfl, qm⟩, hK⟩)
          have QM := Lib.hid qm
          replace HS := Lib.hid (row_keep HS.out hK)
          replace GT := Lib.hid (row_keep GT.out hK)
          replace QH := Lib.hid (QH.out.grow hK)
          replace P1 := Lib.hid (rd_keep P1.out hK)
          replace P2 := Lib.hid (rd_keep P2.out hK)
          replace P3 := Lib.hid (rd_keep P3.out hK)
          replace HK0 := Lib.hid (HK0.out.trans (hK.mono HK0.out.size))
          replace hb3 := below_keep hb3 hb3.size hK
          clear m0 m1 m2 m3 hK qm
          rw [HL3.out]
          go_wp2
          go_loopw [133] (fun v W => ∃ i : Nat, i ≤ nn ∧ v = .int .i64 i ∧ Below vc.heap.size vc W) (fun i _ => nn - (intOf i).toNat)
          case atStart => exact ⟨0, by omega, rfl, Below.refl _ _⟩
          case round =>
            obtain ⟨i, hi, rfl, hK⟩ := hrel
            by_cases hin : i < nn
            · obtain ⟨a, b, p, q, ha, hp, hpa, hbq⟩ := HG5.out i (by rw [HNN.out]; exact hin)
              obtain ⟨bm, om, hAM, hbm, hcm⟩ := (rd_keep QM.out hK) (by rw [HL3.out]; omega)
              obtain ⟨bh, oh, hAH, hbh, hch⟩ := (QH.out.grow hK).rd (by rw [HL4.out]; omega)
              subst hAM hAH
              have x0 := hcm i _ ha 0 _ rfl
              have x1 := hcm i _ ha 1 _ rfl
              have y0 := hch i _ hp 0 _ rfl
              have y1 := hch i _ hp 1 _ rfl
              simp only [Nat.add_zero] at x0 y0
              have hiI : (i : Int) < (nn : Int) := by omega
              have gg1 : ¬ a < p := by omega
              have gg2 : ¬ q < b := by omega
              have HIN := Lib.hid hin
              clear hcm hch ha hp
              go_upto_region 28 with fail
              go_region
              go_wp2
              go_roundw
              case rel => exact ⟨i + 1, (by have := HIN.out; omega), by go_num, hK.drew⟩
              case measure => (have := HIN.out; simp [intOf] <;> omega)
            · obtain rfl : i = nn := by omega
              have hii : ¬ ((i : Nat) : Int) < (i : Int) := by omega
              obtain ⟨vd, hvd⟩ : ∃ v, v = wr := ⟨_, rfl⟩
              subst hvd
              replace HS := Lib.hid (row_keep HS.out hK)
              replace GT := Lib.hid (row_keep GT.out hK)
              replace QH := Lib.hid (QH.out.grow hK)
              replace P1 := Lib.hid (rd_keep P1.out hK)
              replace P2 := Lib.hid (rd_keep P2.out hK)
              replace P3 := Lib.hid (rd_keep P3.out hK)
              replace HK0 := Lib.hid (HK0.out.trans (hK.mono HK0.out.size))
              replace hb3 := below_keep hb3 hb3.size hK
              have HSM := Lib.hid (show (1:Nat) = 1 from rfl)
              clear hK QM hin hi
              have s3 : vd.cell? ⟨w.heap.size, 3, none⟩ = some (.slice A3 s.threads.length c3) := cell_of_row vd _ 3 _ _ _ HS.out
              go_upto_region 31 with fail
              clear hii
              go_wp2
              go_loopw [164] (fun v W => ∃ i : Nat, i ≤ s.threads.length ∧ v = .int .i64 i ∧ Below vd.heap.size vd W) (fun i _ => s.threads.length - (intOf i).toNat)
              case atStart => exact ⟨0, by omega, rfl, Below.refl _ _⟩
              case round =>
                obtain ⟨i, hi, rfl, hK⟩ := hrel
                obtain ⟨ve, hve⟩ : ∃ v, v = wr := ⟨_, rfl⟩
                subst hve
                have hbx := hK
                replace HS := Lib.hid (row_keep HS.out hK)
                replace GT := Lib.hid (row_keep GT.out hK)
                replace QH := Lib.hid (QH.out.grow hK)
                replace P1 := Lib.hid (rd_keep P1.out hK)
                replace P2 := Lib.hid (rd_keep P2.out hK)
                replace P3 := Lib.hid (rd_keep P3.out hK)
                replace HK0 := Lib.hid (HK0.out.trans (hK.mono HK0.out.size))
                replace hb3 := below_keep hb3 hb3.size hK
                clear hK
                by_cases hin : i < s.threads.length
                · obtain ⟨a, b, p, q, ha, hp, hpa, hbq⟩ := says_slope SY.out HF.out hin
                  have HA := Lib.hid ha
                  have HP := Lib.hid hp
                  have hiI : (i : Int) < (s.threads.length : Int) := by omega
                  clear ha hp
                  have s0 : ve.cell? ⟨w.heap.size, 0, none⟩ = some (.int .i64 s.n) := cell_of_row ve _ 0 _ _ _ HS.out
                  have s1 : ve.cell? ⟨w.heap.size, 1, none⟩ = some (.slice A1 s.shots.length c1) := cell_of_row ve _ 1 _ _ _ HS.out
                  have s2 : ve.cell? ⟨w.heap.size, 2, none⟩ = some (.slice A2 s.marks.length c2) := cell_of_row ve _ 2 _ _ _ HS.out
                  have s3 : ve.cell? ⟨w.heap.size, 3, none⟩ = some (.slice A3 s.threads.length c3) := cell_of_row ve _ 3 _ _ _ HS.out
                  go_upto_region 35 with (go_at_call 31; refine (slope_asm s i HP.out c1 c2 c3 A1 A2 A3 ve ((R1.out.below hb3).more hb3.size) ((R2.out.below hb3).more hb3.size) ((R3.out.below hb3).more hb3.size)).mono ?_; rintro e wb ⟨rfl, hbb⟩)
                  obtain ⟨vf, hw⟩ : ∃ v, wb.alloc (Obj.cells #[.int .i64 p, .int .i64 q] 36) = v := ⟨_, rfl⟩
                  obtain ⟨gp, hbk⟩ : ∃ b, wb.heap.size = b := ⟨_, rfl⟩
                  rw [hw, hbk]
                  have hK : Below ve.heap.size ve vf := by rw [← hw]; exact hbb.alloc hbb.size _
                  have Ya : vf.heap[gp]? = some (.cells #[.int .i64 p, .int .i64 q] 36 (0, 0)) := by rw [← hw, ← hbk]; exact heap_alloc_new _ _
                  have Ygp := Lib.hid Ya
                  replace hbx := hbx.trans (hK.mono hbx.size)
                  replace HS := Lib.hid (row_keep HS.out hK)
                  replace GT := Lib.hid (row_keep GT.out hK)
                  replace QH := Lib.hid (QH.out.grow hK)
                  replace P1 := Lib.hid (rd_keep P1.out hK)
                  replace P2 := Lib.hid (rd_keep P2.out hK)
                  replace P3 := Lib.hid (rd_keep P3.out hK)
                  replace HK0 := Lib.hid (HK0.out.trans (hK.mono HK0.out.size))
                  replace hb3 := below_keep hb3 hb3.size hK
                  clear hw hbk hK Ya hbb s0 s1 s2 s3
                  have m0 : vf.cell? ⟨gt, 0, none⟩ = some (.int .i64 t.n) := cell_of_row vf _ 0 _ _ _ GT.out
                  have m1 : vf.cell? ⟨gt, 1, none⟩ = some (.slice C1 t.shots.length e1) := cell_of_row vf _ 1 _ _ _ GT.out
                  have m2 : vf.cell? ⟨gt, 2, none⟩ = some (.slice C2 t.marks.length e2) := cell_of_row vf _ 2 _ _ _ GT.out
                  have m3 : vf.cell? ⟨gt, 3, none⟩ = some (.slice C3 t.threads.length e3) := cell_of_row vf _ 3 _ _ _ GT.out
                  go_upto_region 36 with (go_at_call 31; refine (slope_asm t i HA.out e1 e2 e3 C1 C2 C3 vf P1.out P2.out P3.out).mono ?_; rintro e wb ⟨rfl, hbb⟩)
                  obtain ⟨vg, hw⟩ : ∃ v, wb.alloc (Obj.cells #[.int .i64 a, .int .i64 b] 36) = v := ⟨_, rfl⟩
                  obtain ⟨gq, hbk⟩ : ∃ b, wb.heap.size = b := ⟨_, rfl⟩
                  rw [hw, hbk]
                  have hK : Below vf.heap.size vf vg := by rw [← hw]; exact hbb.alloc hbb.size _
                  have Ya : vg.heap[gq]? = some (.cells #[.int .i64 a, .int .i64 b] 36 (0, 0)) := by rw [← hw, ← hbk]; exact heap_alloc_new _ _
                  have Ygq := Lib.hid Ya
                  replace hbx := hbx.trans (hK.mono hbx.size)
                  replace Ygp := Lib.hid (row_keep Ygp.out hK)
                  replace HS := Lib.hid (row_keep HS.out hK)
                  replace GT := Lib.hid (row_keep GT.out hK)
                  replace QH := Lib.hid (QH.out.grow hK)
                  replace P1 := Lib.hid (rd_keep P1.out hK)
                  replace P2 := Lib.hid (rd_keep P2.out hK)
                  replace P3 := Lib.hid (rd_keep P3.out hK)
                  replace HK0 := Lib.hid (HK0.out.trans (hK.mono HK0.out.size))
                  replace hb3 := below_keep hb3 hb3.size hK
                  clear hw hbk hK Ya hbb m0 m1 m2 m3
                  have x0 : vg.cell? ⟨gp, 0, none⟩ = some (.int .i64 (p)) := cell_of_row vg _ 0 _ _ _ Ygp.out
                  have x1 : vg.cell? ⟨gp, 1, none⟩ = some (.int .i64 (q)) := cell_of_row vg _ 1 _ _ _ Ygp.out
                  have y0 : vg.cell? ⟨gq, 0, none⟩ = some (.int .i64 (a)) := cell_of_row vg _ 0 _ _ _ Ygq.out
                  have y1 : vg.cell? ⟨gq, 1, none⟩ = some (.int .i64 (b)) := cell_of_row vg _ 1 _ _ _ Ygq.out
                  have gg1 : ¬ a < p := by omega
                  have gg2 : ¬ q < b := by omega
                  have HIN := Lib.hid hin
                  go_wp2
                  go_roundw
                  case rel => exact ⟨i + 1, (by have := HIN.out; omega), by go_num, hbx⟩
                  case measure => (have := HIN.out; simp [intOf] <;> omega)
                · obtain rfl : s.threads.length = i := by omega
                  have hii : ¬ ((s.threads.length : Nat) : Int) < (s.threads.length : Int) := by omega
                  go_wp2
                  go_roundw
                  case rel => exact ⟨k + 1, by omega, by go_num, HK0.out⟩
                  case measure => (simp [intOf] <;> omega)
      · obtain rfl : 2 = k := by omega
        go_wp2
        go_ret
        exact ⟨rfl, hb3⟩

/-- LevelMore answers true. -/
theorem lawMore_any (s : Sv) (y : Sh) (l : List Int) (cl c1 c2 c3 : Nat) (AL A1 A2 A3 : Option Addr) (w : World)
    (r1 : Rd w w.heap.size A1 shV 4 s.shots) (r2 : Rd w w.heap.size A2 mkV 3 s.marks) (r3 : Rd w w.heap.size A3 shV 4 s.threads) (rl : Rd w w.heap.size AL inV 1 l) (hll : l.length ≤ 9223372036854775807) :
    Calls Try.prog 11 #[.agg #[.int .i64 s.n, .slice A1 s.shots.length c1, .slice A2 s.marks.length c2, .slice A3 s.threads.length c3], .agg #[.int .i64 y.f, .int .i64 y.t, .int .i64 y.lo, .int .i64 y.hi], .slice AL l.length cl] w fun e w' => e = .returned (.bool true) ∧ Below w.heap.size w w' := by
  cases hok : svOk s
  · exact lawMore_bad s y l cl c1 c2 c3 AL A1 A2 A3 w r1 r2 r3 rl hok
  · obtain ⟨⟨_, _, n3, _⟩, _⟩ := svOk_spec hok
    rcases Nat.lt_or_ge s.shots.length 60 with hl | hl
    · rcases Nat.eq_zero_or_pos s.shots.length with hn | hn
      · exact lawMore_zero s y l cl c1 c2 c3 AL A1 A2 A3 w r1 r2 r3 rl hok hl hll (by omega)
      · exact lawMore_some s y l cl c1 c2 c3 AL A1 A2 A3 w r1 r2 r3 rl hok hl hll hn
    · exact lawMore_full s y l cl c1 c2 c3 AL A1 A2 A3 w r1 r2 r3 rl hok (by omega)

end Go.Proofs.Ytaoonfmcimkmhaa
