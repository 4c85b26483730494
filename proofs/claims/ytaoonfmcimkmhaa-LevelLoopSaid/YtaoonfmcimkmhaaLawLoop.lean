/- The law LevelLoop answers true of every survey that reads as plain data, and of every list of numbers. Condition: the slices read below the heap's end. -/
import Derived.Test.YtaoonfmcimkmhaaAlive
import Derived.Test.YtaoonfmcimkmhaaLOnly
import Derived.Test.YtaoonfmcimkmhaaLoopM
import Derived.Test.YtaoonfmcimkmhaaCalm
import Derived.BigRegion
set_option linter.unusedVariables false
set_option linter.unusedSimpArgs false
namespace Go.Proofs.Ytaoonfmcimkmhaa
open Go.RowKit

theorem loop_as (s : Sv) (xs : List Int) {p q e : Int} (h : lvLoop s xs = ((p, q), e)) (cp c1 c2 c3 : Nat) (AP A1 A2 A3 : Option Addr) (w : World)
    (r1 : Rd w w.heap.size A1 shV 4 s.shots) (r2 : Rd w w.heap.size A2 mkV 3 s.marks) (r3 : Rd w w.heap.size A3 shV 4 s.threads) (rp : Rd w w.heap.size AP inV 1 xs) (hl9 : xs.length ≤ 1000000000) :
    Calls Try.prog 24 #[.agg #[.int .i64 s.n, .slice A1 s.shots.length c1, .slice A2 s.marks.length c2, .slice A3 s.threads.length c3], .slice AP xs.length cp] w fun e' w' => e' = .returned (.tuple #[.agg #[.int .i64 p, .int .i64 q], .int .i64 e]) ∧ Below w.heap.size w w' := by
  have h1 := lloop_any s xs cp c1 c2 c3 AP A1 A2 A3 w r1 r2 r3 rp hl9
  rw [h] at h1
  exact h1
theorem clash_on (t : Sv) {CL : List Int} (h : lvClash t = (CL, 0)) (c1 c2 c3 : Nat) (A1 A2 A3 : Option Addr) (w : World)
    (r1 : Rd w w.heap.size A1 shV 4 t.shots) (r2 : Rd w w.heap.size A2 mkV 3 t.marks) (r3 : Rd w w.heap.size A3 shV 4 t.threads) :
    Calls Try.prog 26 #[.agg #[.int .i64 t.n, .slice A1 t.shots.length c1, .slice A2 t.marks.length c2, .slice A3 t.threads.length c3]] w fun e w' =>
      (∃ A c, e = .returned (.tuple #[.slice A CL.length c, .int .i64 0])) ∧ Below w.heap.size w w' := by
  have h1 := lclash_any t c1 c2 c3 A1 A2 A3 w r1 r2 r3
  rw [h] at h1
  exact h1.mono fun e w' ⟨⟨A, c, h, _⟩, hb⟩ => ⟨⟨A, c, h⟩, hb⟩

theorem heights_on (t : Sv) {L : List (Int × Int)} {E : Int} (h : lvHeights t = (L, E)) {m : Nat} (hm : t.shots.length = m) {n : Int} (hn : t.n = n) (h2 : t.marks = []) (h3 : t.threads = []) (c1 : Nat) (A1 : Option Addr) (w : World) (r1 : Rd w w.heap.size A1 shV 4 t.shots) :
    Calls Try.prog 16 #[.agg #[.int .i64 n, .slice A1 m c1, .slice none 0 0, .slice none 0 0]] w fun e w' => (∃ A c, e = .returned (.tuple #[.slice A L.length c, .int .i64 E])) ∧ Below w.heap.size w w' := by
  have h1 := heights_as t c1 0 0 A1 none none w r1 (fun h => by rw [h2] at h; simp at h) (fun h => by rw [h3] at h; simp at h) h
  rw [hm, hn, h2, h3] at h1
  exact h1.mono fun e w' ⟨⟨A, c, h, _⟩, hb⟩ => ⟨⟨A, c, h⟩, hb⟩
theorem clash_onn (t : Sv) {CL : List Int} (h : lvClash t = (CL, 0)) {m : Nat} (hm : t.shots.length = m) {n : Int} (hn : t.n = n) (h2 : t.marks = []) (h3 : t.threads = []) (c1 : Nat) (A1 : Option Addr) (w : World) (r1 : Rd w w.heap.size A1 shV 4 t.shots) :
    Calls Try.prog 26 #[.agg #[.int .i64 n, .slice A1 m c1, .slice none 0 0, .slice none 0 0]] w fun e w' => (∃ A c, e = .returned (.tuple #[.slice A CL.length c, .int .i64 0])) ∧ Below w.heap.size w w' := by
  have h1 := clash_on t h c1 0 0 A1 none none w r1 (fun h => by rw [h2] at h; simp at h) (fun h => by rw [h3] at h; simp at h)
  rw [hm, hn, h2, h3] at h1
  exact h1
theorem slice_len_eq {A A' : Option Addr} {m n c c' : Nat} (h : Value.slice A m c = .slice A' n c') : m = n := by
  injection h
theorem below_row {w w' : World} {B g : Nat} (hg : w.grownBy w' (some g)) (hB : B ≤ w.heap.size) (h : B ≤ g) : Below B w w' :=
  ⟨hg.os, hg.tape, hg.output, hg.size, fun k hk => hg.block k (by omega) (fun e => by injection e with e; omega)⟩
theorem inP_two (xs : List Int) (k : Nat) {a b : Int} (ha : xs.getD k 0 = a) (hb : nxI xs k = b) : (fun x y => (inP xs k x y || (a == x && b == y)) || (b == x && a == y)) = inP xs (k + 1) := by
  funext x y
  rw [inP_succ, ha, hb, Bool.or_assoc]
  congr 2
  exact Bool.and_comm _ _

set_option maxRecDepth 100000 in
set_option maxHeartbeats 16000000 in
theorem lawLoop_bad (s : Sv) (xs : List Int) (cp c1 c2 c3 : Nat) (AP A1 A2 A3 : Option Addr) (w : World)
    (r1 : Rd w w.heap.size A1 shV 4 s.shots) (r2 : Rd w w.heap.size A2 mkV 3 s.marks) (r3 : Rd w w.heap.size A3 shV 4 s.threads) (rp : Rd w w.heap.size AP inV 1 xs) (hok : svOk s = false) :
    Calls Try.prog 9 #[.agg #[.int .i64 s.n, .slice A1 s.shots.length c1, .slice A2 s.marks.length c2, .slice A3 s.threads.length c3], .slice AP xs.length cp] w fun e w' => e = .returned (.bool true) ∧ Below w.heap.size w w' := by
  have R1 := Lib.hid r1
  have R2 := Lib.hid r2
  have R3 := Lib.hid r3
  have RP := Lib.hid rp
  have HOK := Lib.hid hok
  clear r1 r2 r3 rp hok
  go_enter Try.func9, Try.ntmps9
  go_wp2_with (first | (go_at_call 35; refine (alive_any _).mono ?_; rintro e w1 ⟨rfl, hb1⟩; obtain ⟨hc1, hf1⟩ := bcell hb1; have hz1 := hb1.size; simp at hz1; have hlt : w.heap.size < w1.heap.size := by omega) | (go_at_call 36; (have hbA : Below w.heap.size w w1 := by (repeat' (first | (with_reducible exact Below.refl _ _) | (with_reducible refine Below.alloc ?_ ?_ _) | (with_reducible refine Below.drew ?_) | (with_reducible refine Below.drewN_ ?_ _) | (with_reducible refine Below.setCell ?_ ?_ _) | (with_reducible refine Below.setRow ?_ ?_ _) | (with_reducible refine Below.via ?_ (by with_reducible assumption) ?_) | go_size))); have hr := ready_any s c1 c2 c3 A1 A2 A3 w1 ((R1.out.below hbA).more hbA.size) ((R2.out.below hbA).more hbA.size) ((R3.out.below hbA).more hbA.size); rw [HOK.out] at hr; refine hr.mono ?_; rintro e w2 ⟨rfl, hb2⟩; clear hr; (have S : w2.heap[w.heap.size]? = some (.cells #[.int .i64 s.n, .slice A1 s.shots.length c1, .slice A2 s.marks.length c2, .slice A3 s.threads.length c3] 26 (0, 0)) := row_keep (row_keep (heap_alloc_new _ _) hb1) hb2); have HS := Lib.hid S; clear S))
  go_ret
  exact ⟨rfl, by (repeat' (first | (with_reducible exact Below.refl _ _) | (with_reducible refine Below.alloc ?_ ?_ _) | (with_reducible refine Below.drew ?_) | (with_reducible refine Below.drewN_ ?_ _) | (with_reducible refine Below.setCell ?_ ?_ _) | (with_reducible refine Below.setRow ?_ ?_ _) | (with_reducible refine Below.via ?_ (by with_reducible assumption) ?_) | go_size))⟩

set_option maxRecDepth 100000 in
set_option maxHeartbeats 16000000 in
theorem lawLoop_long (s : Sv) (xs : List Int) (cp c1 c2 c3 : Nat) (AP A1 A2 A3 : Option Addr) (w : World)
    (r1 : Rd w w.heap.size A1 shV 4 s.shots) (r2 : Rd w w.heap.size A2 mkV 3 s.marks) (r3 : Rd w w.heap.size A3 shV 4 s.threads) (rp : Rd w w.heap.size AP inV 1 xs) (hok : svOk s = true) (hl : 40 < xs.length) :
    Calls Try.prog 9 #[.agg #[.int .i64 s.n, .slice A1 s.shots.length c1, .slice A2 s.marks.length c2, .slice A3 s.threads.length c3], .slice AP xs.length cp] w fun e w' => e = .returned (.bool true) ∧ Below w.heap.size w w' := by
  have R1 := Lib.hid r1
  have R2 := Lib.hid r2
  have R3 := Lib.hid r3
  have RP := Lib.hid rp
  have HOK := Lib.hid hok
  have hlI : (40 : Int) < (xs.length : Int) := by omega
  clear r1 r2 r3 rp hok hl
  go_enter Try.func9, Try.ntmps9
  go_wp2_with (first | (go_at_call 35; refine (alive_any _).mono ?_; rintro e w1 ⟨rfl, hb1⟩; obtain ⟨hc1, hf1⟩ := bcell hb1; have hz1 := hb1.size; simp at hz1; have hlt : w.heap.size < w1.heap.size := by omega) | (go_at_call 36; (have hbA : Below w.heap.size w w1 := by (repeat' (first | (with_reducible exact Below.refl _ _) | (with_reducible refine Below.alloc ?_ ?_ _) | (with_reducible refine Below.drew ?_) | (with_reducible refine Below.drewN_ ?_ _) | (with_reducible refine Below.setCell ?_ ?_ _) | (with_reducible refine Below.setRow ?_ ?_ _) | (with_reducible refine Below.via ?_ (by with_reducible assumption) ?_) | go_size))); have hr := ready_any s c1 c2 c3 A1 A2 A3 w1 ((R1.out.below hbA).more hbA.size) ((R2.out.below hbA).more hbA.size) ((R3.out.below hbA).more hbA.size); rw [HOK.out] at hr; refine hr.mono ?_; rintro e w2 ⟨rfl, hb2⟩; clear hr; (have S : w2.heap[w.heap.size]? = some (.cells #[.int .i64 s.n, .slice A1 s.shots.length c1, .slice A2 s.marks.length c2, .slice A3 s.threads.length c3] 26 (0, 0)) := row_keep (row_keep (heap_alloc_new _ _) hb1) hb2); have HS := Lib.hid S; clear S))
  go_ret
  exact ⟨rfl, by (repeat' (first | (with_reducible exact Below.refl _ _) | (with_reducible refine Below.alloc ?_ ?_ _) | (with_reducible refine Below.drew ?_) | (with_reducible refine Below.drewN_ ?_ _) | (with_reducible refine Below.setCell ?_ ?_ _) | (with_reducible refine Below.setRow ?_ ?_ _) | (with_reducible refine Below.via ?_ (by with_reducible assumption) ?_) | go_size))⟩

set_option maxRecDepth 100000 in
set_option maxHeartbeats 16000000 in
theorem lawLoop_err (s : Sv) (xs : List Int) (cp c1 c2 c3 : Nat) (AP A1 A2 A3 : Option Addr) (w : World)
    (r1 : Rd w w.heap.size A1 shV 4 s.shots) (r2 : Rd w w.heap.size A2 mkV 3 s.marks) (r3 : Rd w w.heap.size A3 shV 4 s.threads) (rp : Rd w w.heap.size AP inV 1 xs) (hok : svOk s = true) (hl : xs.length ≤ 40) {p q EE : Int} (hv : lvLoop s xs = ((p, q), EE)) (he0 : EE ≠ 0) (he1 : EE ≠ 11) :
    Calls Try.prog 9 #[.agg #[.int .i64 s.n, .slice A1 s.shots.length c1, .slice A2 s.marks.length c2, .slice A3 s.threads.length c3], .slice AP xs.length cp] w fun e w' => e = .returned (.bool true) ∧ Below w.heap.size w w' := by
  have R1 := Lib.hid r1
  have R2 := Lib.hid r2
  have R3 := Lib.hid r3
  have RP := Lib.hid rp
  have HOK := Lib.hid hok
  have HV := Lib.hid hv
  obtain ⟨⟨n1, n2, n3, n4, n5⟩, _⟩ := svOk_spec hok
  have hlI : ¬ (40 : Int) < (xs.length : Int) := by omega
  clear r1 r2 r3 rp hok hv
  have hf0 : (EE != 0) = true := by rw [bne_iff_ne]; exact he0
  have hf1' : (EE != 11) = true := by rw [bne_iff_ne]; exact he1
  clear he0 he1
  go_enter Try.func9, Try.ntmps9
  go_upto_region 6 with (first | (go_at_call 35; refine (alive_any _).mono ?_; rintro e w1 ⟨rfl, hb1⟩; obtain ⟨hc1, hf1⟩ := bcell hb1; have hz1 := hb1.size; simp at hz1; have hlt : w.heap.size < w1.heap.size := by omega) | (go_at_call 36; (have hbA : Below w.heap.size w w1 := by (repeat' (first | (with_reducible exact Below.refl _ _) | (with_reducible refine Below.alloc ?_ ?_ _) | (with_reducible refine Below.drew ?_) | (with_reducible refine Below.drewN_ ?_ _) | (with_reducible refine Below.setCell ?_ ?_ _) | (with_reducible refine Below.setRow ?_ ?_ _) | (with_reducible refine Below.via ?_ (by with_reducible assumption) ?_) | go_size))); have hr := ready_any s c1 c2 c3 A1 A2 A3 w1 ((R1.out.below hbA).more hbA.size) ((R2.out.below hbA).more hbA.size) ((R3.out.below hbA).more hbA.size); rw [HOK.out] at hr; refine hr.mono ?_; rintro e w2 ⟨rfl, hb2⟩; clear hr; (have S : w2.heap[w.heap.size]? = some (.cells #[.int .i64 s.n, .slice A1 s.shots.length c1, .slice A2 s.marks.length c2, .slice A3 s.threads.length c3] 26 (0, 0)) := row_keep (row_keep (heap_alloc_new _ _) hb1) hb2); have HS := Lib.hid S; clear S))
  have hb3 : Below w.heap.size w w2 := by (repeat' (first | (with_reducible exact Below.refl _ _) | (with_reducible refine Below.alloc ?_ ?_ _) | (with_reducible refine Below.drew ?_) | (with_reducible refine Below.drewN_ ?_ _) | (with_reducible refine Below.setCell ?_ ?_ _) | (with_reducible refine Below.setRow ?_ ?_ _) | (with_reducible refine Below.via ?_ (by with_reducible assumption) ?_) | go_size))
  clear hb1 hb2 hbA hc1 hf1 hz1 hlt hlI
  obtain ⟨bz, hbz⟩ : ∃ b, decide ((40 : Int) < (xs.length : Int)) = b := ⟨_, rfl⟩
  rw [hbz]
  clear hbz
  have s0 : w2.cell? ⟨w.heap.size, 0, none⟩ = some (.int .i64 s.n) := cell_of_row w2 _ 0 _ _ _ HS.out
  have s1 : w2.cell? ⟨w.heap.size, 1, none⟩ = some (.slice A1 s.shots.length c1) := cell_of_row w2 _ 1 _ _ _ HS.out
  have s2 : w2.cell? ⟨w.heap.size, 2, none⟩ = some (.slice A2 s.marks.length c2) := cell_of_row w2 _ 2 _ _ _ HS.out
  have s3 : w2.cell? ⟨w.heap.size, 3, none⟩ = some (.slice A3 s.threads.length c3) := cell_of_row w2 _ 3 _ _ _ HS.out
  go_upto_region 7 with (go_at_call 24; refine (loop_as s xs HV.out cp c1 c2 c3 AP A1 A2 A3 w2 ((R1.out.below hb3).more hb3.size) ((R2.out.below hb3).more hb3.size) ((R3.out.below hb3).more hb3.size) ((RP.out.below hb3).more hb3.size) (by omega)).mono ?_; rintro e' wb ⟨rfl, hbb⟩)
  obtain ⟨v7, hw⟩ : ∃ v, wb.alloc (Obj.cells #[.int .i64 p, .int .i64 q] 36) = v := ⟨_, rfl⟩
  obtain ⟨gs, hbk⟩ : ∃ b, wb.heap.size = b := ⟨_, rfl⟩
  rw [hw, hbk]
  have hK : Below w2.heap.size w2 v7 := by rw [← hw]; exact hbb.alloc hbb.size _
  have Ya : v7.heap[gs]? = some (.cells #[.int .i64 p, .int .i64 q] 36 (0, 0)) := by rw [← hw, ← hbk]; exact heap_alloc_new _ _
  have Ygs := Lib.hid Ya
  replace HS := Lib.hid (row_keep HS.out hK)
  replace hb3 := below_keep hb3 hb3.size hK
  clear hw hbk hK Ya hbb s0 s1 s2 s3
  have p0 : v7.cell? ⟨gs, 0, none⟩ = some (.int .i64 p) := cell_of_row v7 _ 0 _ _ _ Ygs.out
  have p1 : v7.cell? ⟨gs, 1, none⟩ = some (.int .i64 q) := cell_of_row v7 _ 1 _ _ _ Ygs.out
  go_wp2
  go_ret
  exact ⟨rfl, hb3⟩

set_option maxRecDepth 100000 in
set_option maxHeartbeats 16000000 in
theorem lawLoop_closed (s : Sv) (xs : List Int) (cp c1 c2 c3 : Nat) (AP A1 A2 A3 : Option Addr) (w : World)
    (r1 : Rd w w.heap.size A1 shV 4 s.shots) (r2 : Rd w w.heap.size A2 mkV 3 s.marks) (r3 : Rd w w.heap.size A3 shV 4 s.threads) (rp : Rd w w.heap.size AP inV 1 xs) (hok : svOk s = true) (hl : xs.length ≤ 40) {p q : Int} (hv : lvLoop s xs = ((p, q), 0)) (hp : p ≤ 0) (hq : 0 ≤ q) :
    Calls Try.prog 9 #[.agg #[.int .i64 s.n, .slice A1 s.shots.length c1, .slice A2 s.marks.length c2, .slice A3 s.threads.length c3], .slice AP xs.length cp] w fun e w' => e = .returned (.bool true) ∧ Below w.heap.size w w' := by
  have R1 := Lib.hid r1
  have R2 := Lib.hid r2
  have R3 := Lib.hid r3
  have RP := Lib.hid rp
  have HOK := Lib.hid hok
  have HV := Lib.hid hv
  obtain ⟨⟨n1, n2, n3, n4, n5⟩, _⟩ := svOk_spec hok
  have hlI : ¬ (40 : Int) < (xs.length : Int) := by omega
  clear r1 r2 r3 rp hok hv
  go_enter Try.func9, Try.ntmps9
  go_upto_region 6 with (first | (go_at_call 35; refine (alive_any _).mono ?_; rintro e w1 ⟨rfl, hb1⟩; obtain ⟨hc1, hf1⟩ := bcell hb1; have hz1 := hb1.size; simp at hz1; have hlt : w.heap.size < w1.heap.size := by omega) | (go_at_call 36; (have hbA : Below w.heap.size w w1 := by (repeat' (first | (with_reducible exact Below.refl _ _) | (with_reducible refine Below.alloc ?_ ?_ _) | (with_reducible refine Below.drew ?_) | (with_reducible refine Below.drewN_ ?_ _) | (with_reducible refine Below.setCell ?_ ?_ _) | (with_reducible refine Below.setRow ?_ ?_ _) | (with_reducible refine Below.via ?_ (by with_reducible assumption) ?_) | go_size))); have hr := ready_any s c1 c2 c3 A1 A2 A3 w1 ((R1.out.below hbA).more hbA.size) ((R2.out.below hbA).more hbA.size) ((R3.out.below hbA).more hbA.size); rw [HOK.out] at hr; refine hr.mono ?_; rintro e w2 ⟨rfl, hb2⟩; clear hr; (have S : w2.heap[w.heap.size]? = some (.cells #[.int .i64 s.n, .slice A1 s.shots.length c1, .slice A2 s.marks.length c2, .slice A3 s.threads.length c3] 26 (0, 0)) := row_keep (row_keep (heap_alloc_new _ _) hb1) hb2); have HS := Lib.hid S; clear S))
  have hb3 : Below w.heap.size w w2 := by (repeat' (first | (with_reducible exact Below.refl _ _) | (with_reducible refine Below.alloc ?_ ?_ _) | (with_reducible refine Below.drew ?_) | (with_reducible refine Below.drewN_ ?_ _) | (with_reducible refine Below.setCell ?_ ?_ _) | (with_reducible refine Below.setRow ?_ ?_ _) | (with_reducible refine Below.via ?_ (by with_reducible assumption) ?_) | go_size))
  clear hb1 hb2 hbA hc1 hf1 hz1 hlt hlI
  obtain ⟨bz, hbz⟩ : ∃ b, decide ((40 : Int) < (xs.length : Int)) = b := ⟨_, rfl⟩
  rw [hbz]
  clear hbz
  have s0 : w2.cell? ⟨w.heap.size, 0, none⟩ = some (.int .i64 s.n) := cell_of_row w2 _ 0 _ _ _ HS.out
  have s1 : w2.cell? ⟨w.heap.size, 1, none⟩ = some (.slice A1 s.shots.length c1) := cell_of_row w2 _ 1 _ _ _ HS.out
  have s2 : w2.cell? ⟨w.heap.size, 2, none⟩ = some (.slice A2 s.marks.length c2) := cell_of_row w2 _ 2 _ _ _ HS.out
  have s3 : w2.cell? ⟨w.heap.size, 3, none⟩ = some (.slice A3 s.threads.length c3) := cell_of_row w2 _ 3 _ _ _ HS.out
  go_upto_region 7 with (go_at_call 24; refine (loop_as s xs HV.out cp c1 c2 c3 AP A1 A2 A3 w2 ((R1.out.below hb3).more hb3.size) ((R2.out.below hb3).more hb3.size) ((R3.out.below hb3).more hb3.size) ((RP.out.below hb3).more hb3.size) (by omega)).mono ?_; rintro e' wb ⟨rfl, hbb⟩)
  obtain ⟨v7, hw⟩ : ∃ v, wb.alloc (Obj.cells #[.int .i64 p, .int .i64 q] 36) = v := ⟨_, rfl⟩
  obtain ⟨gs, hbk⟩ : ∃ b, wb.heap.size = b := ⟨_, rfl⟩
  rw [hw, hbk]
  have hK : Below w2.heap.size w2 v7 := by rw [← hw]; exact hbb.alloc hbb.size _
  have Ya : v7.heap[gs]? = some (.cells #[.int .i64 p, .int .i64 q] 36 (0, 0)) := by rw [← hw, ← hbk]; exact heap_alloc_new _ _
  have Ygs := Lib.hid Ya
  replace HS := Lib.hid (row_keep HS.out hK)
  replace hb3 := below_keep hb3 hb3.size hK
  clear hw hbk hK Ya hbb s0 s1 s2 s3
  have p0 : v7.cell? ⟨gs, 0, none⟩ = some (.int .i64 p) := cell_of_row v7 _ 0 _ _ _ Ygs.out
  have p1 : v7.cell? ⟨gs, 1, none⟩ = some (.int .i64 q) := cell_of_row v7 _ 1 _ _ _ Ygs.out
  go_wp2
  go_ret
  exact ⟨rfl, hb3⟩

set_option maxRecDepth 100000 in
set_option maxHeartbeats 16000000 in
theorem lawLoop_open11 (s : Sv) (xs : List Int) (cp c1 c2 c3 : Nat) (AP A1 A2 A3 : Option Addr) (w : World)
    (r1 : Rd w w.heap.size A1 shV 4 s.shots) (r2 : Rd w w.heap.size A2 mkV 3 s.marks) (r3 : Rd w w.heap.size A3 shV 4 s.threads) (rp : Rd w w.heap.size AP inV 1 xs) (hok : svOk s = true) (hl : xs.length ≤ 40) {p q : Int} (hv : lvLoop s xs = ((p, q), 11)) :
    Calls Try.prog 9 #[.agg #[.int .i64 s.n, .slice A1 s.shots.length c1, .slice A2 s.marks.length c2, .slice A3 s.threads.length c3], .slice AP xs.length cp] w fun e w' => e = .returned (.bool true) ∧ Below w.heap.size w w' := by
  have R1 := Lib.hid r1
  have R2 := Lib.hid r2
  have R3 := Lib.hid r3
  have RP := Lib.hid rp
  have HOK := Lib.hid hok
  have HV := Lib.hid hv
  obtain ⟨⟨n1, n2, n3, n4, n5⟩, _⟩ := svOk_spec hok
  have hlI : ¬ (40 : Int) < (xs.length : Int) := by omega
  obtain ⟨hlb, hD, hDo⟩ := loop_apart hok hv (.inl rfl)
  have HLB := Lib.hid hlb
  have HD := Lib.hid hD
  have HDO := Lib.hid hDo
  clear hlb hD hDo
  clear r1 r2 r3 rp hok hv
  go_enter Try.func9, Try.ntmps9
  go_upto_region 6 with (first | (go_at_call 35; refine (alive_any _).mono ?_; rintro e w1 ⟨rfl, hb1⟩; obtain ⟨hc1, hf1⟩ := bcell hb1; have hz1 := hb1.size; simp at hz1; have hlt : w.heap.size < w1.heap.size := by omega) | (go_at_call 36; (have hbA : Below w.heap.size w w1 := by (repeat' (first | (with_reducible exact Below.refl _ _) | (with_reducible refine Below.alloc ?_ ?_ _) | (with_reducible refine Below.drew ?_) | (with_reducible refine Below.drewN_ ?_ _) | (with_reducible refine Below.setCell ?_ ?_ _) | (with_reducible refine Below.setRow ?_ ?_ _) | (with_reducible refine Below.via ?_ (by with_reducible assumption) ?_) | go_size))); have hr := ready_any s c1 c2 c3 A1 A2 A3 w1 ((R1.out.below hbA).more hbA.size) ((R2.out.below hbA).more hbA.size) ((R3.out.below hbA).more hbA.size); rw [HOK.out] at hr; refine hr.mono ?_; rintro e w2 ⟨rfl, hb2⟩; clear hr; (have S : w2.heap[w.heap.size]? = some (.cells #[.int .i64 s.n, .slice A1 s.shots.length c1, .slice A2 s.marks.length c2, .slice A3 s.threads.length c3] 26 (0, 0)) := row_keep (row_keep (heap_alloc_new _ _) hb1) hb2); have HS := Lib.hid S; clear S))
  have hb3 : Below w.heap.size w w2 := by (repeat' (first | (with_reducible exact Below.refl _ _) | (with_reducible refine Below.alloc ?_ ?_ _) | (with_reducible refine Below.drew ?_) | (with_reducible refine Below.drewN_ ?_ _) | (with_reducible refine Below.setCell ?_ ?_ _) | (with_reducible refine Below.setRow ?_ ?_ _) | (with_reducible refine Below.via ?_ (by with_reducible assumption) ?_) | go_size))
  clear hb1 hb2 hbA hc1 hf1 hz1 hlt hlI
  obtain ⟨bz, hbz⟩ : ∃ b, decide ((40 : Int) < (xs.length : Int)) = b := ⟨_, rfl⟩
  rw [hbz]
  clear hbz
  have s0 : w2.cell? ⟨w.heap.size, 0, none⟩ = some (.int .i64 s.n) := cell_of_row w2 _ 0 _ _ _ HS.out
  have s1 : w2.cell? ⟨w.heap.size, 1, none⟩ = some (.slice A1 s.shots.length c1) := cell_of_row w2 _ 1 _ _ _ HS.out
  have s2 : w2.cell? ⟨w.heap.size, 2, none⟩ = some (.slice A2 s.marks.length c2) := cell_of_row w2 _ 2 _ _ _ HS.out
  have s3 : w2.cell? ⟨w.heap.size, 3, none⟩ = some (.slice A3 s.threads.length c3) := cell_of_row w2 _ 3 _ _ _ HS.out
  go_upto_region 7 with (go_at_call 24; refine (loop_as s xs HV.out cp c1 c2 c3 AP A1 A2 A3 w2 ((R1.out.below hb3).more hb3.size) ((R2.out.below hb3).more hb3.size) ((R3.out.below hb3).more hb3.size) ((RP.out.below hb3).more hb3.size) (by omega)).mono ?_; rintro e' wb ⟨rfl, hbb⟩)
  obtain ⟨v7, hw⟩ : ∃ v, wb.alloc (Obj.cells #[.int .i64 p, .int .i64 q] 36) = v := ⟨_, rfl⟩
  obtain ⟨gs, hbk⟩ : ∃ b, wb.heap.size = b := ⟨_, rfl⟩
  rw [hw, hbk]
  have hK : Below w2.heap.size w2 v7 := by rw [← hw]; exact hbb.alloc hbb.size _
  have Ya : v7.heap[gs]? = some (.cells #[.int .i64 p, .int .i64 q] 36 (0, 0)) := by rw [← hw, ← hbk]; exact heap_alloc_new _ _
  have Ygs := Lib.hid Ya
  replace HS := Lib.hid (row_keep HS.out hK)
  replace hb3 := below_keep hb3 hb3.size hK
  clear hw hbk hK Ya hbb s0 s1 s2 s3
  have p0 : v7.cell? ⟨gs, 0, none⟩ = some (.int .i64 p) := cell_of_row v7 _ 0 _ _ _ Ygs.out
  have p1 : v7.cell? ⟨gs, 1, none⟩ = some (.int .i64 q) := cell_of_row v7 _ 1 _ _ _ Ygs.out
  go_upto_region 9 with fail
  clear p0 p1
  obtain ⟨hlen, hpts⟩ := loopB_in HLB.out
  have HPT := Lib.hid hpts
  clear hpts
  have hw7 := (Array.getElem?_eq_some_iff.1 HS.out).1
  have hmm := @run_makeMap Try.prog
  go_upto_region 10 with fail
  clear hmm
  obtain ⟨v8, hw⟩ : ∃ v, v7.alloc (.map #[] 0) = v := ⟨_, rfl⟩
  obtain ⟨bm, hbk⟩ : ∃ b, v7.heap.size = b := ⟨_, rfl⟩
  rw [hw, hbk]
  have hK : Below v7.heap.size v7 v8 := by rw [← hw]; exact (Below.refl _ _).alloc (Nat.le_refl _) _
  have PM0 := Lib.hid (show PM v8 bm 0 (inP xs 0) by rw [← hw, ← hbk]; exact PM_made v7)
  have hwb : w.heap.size < bm := by rw [← hbk]; exact hw7
  replace HS := Lib.hid (row_keep HS.out hK)
  replace hb3 := below_keep hb3 hb3.size hK
  clear hw hbk hK Ygs hw7
  go_wp2
  go_loopw [63] (fun v63 W => ∃ k : Nat, k ≤ xs.length ∧ v63 = .int .i64 k ∧ Below w.heap.size w W ∧ W.heap[w.heap.size]? = some (.cells #[.int .i64 s.n, .slice A1 s.shots.length c1, .slice A2 s.marks.length c2, .slice A3 s.threads.length c3] 26 (0, 0)) ∧ PM W bm (2 * k) (inP xs k)) (fun i _ => xs.length - (intOf i).toNat)
  case atStart => exact ⟨0, by omega, rfl, hb3, HS.out, PM0.out⟩
  case round =>
    obtain ⟨k, hk, rfl, hb4, hs4, hpm⟩ := hrel
    have HS4 := Lib.hid hs4
    have PM4 := Lib.hid hpm
    clear hs4 hpm HS PM0 hb3
    by_cases hlt : k < xs.length
    · obtain ⟨⟨a1, a2⟩, b1, b2⟩ := HPT.out k hlt
      obtain ⟨bp, op, hAP, hbp, hcp⟩ := ((RP.out.below hb4).more hb4.size) (by omega)
      subst hAP
      have ha : xs[k]? = some (xs.getD k 0) := by rw [List.getD_eq_getElem?_getD, List.getElem?_eq_getElem hlt]; rfl
      have hm := Nat.mod_lt (k + 1) (show 0 < xs.length by omega)
      have hb : xs[(k + 1) % xs.length]? = some (nxI xs k) := by unfold nxI; rw [List.getD_eq_getElem?_getD, List.getElem?_eq_getElem hm]; rfl
      have e0 := hcp k _ ha 0 _ rfl
      have e1 := hcp _ _ hb 0 _ rfl
      simp only [Nat.add_zero, Nat.mul_one] at e0 e1
      obtain ⟨a, hea⟩ : ∃ a, xs.getD k 0 = a := ⟨_, rfl⟩
      obtain ⟨b, heb⟩ : ∃ b, nxI xs k = b := ⟨_, rfl⟩
      obtain ⟨j, hj⟩ : ∃ j, (k + 1) % xs.length = j := ⟨_, rfl⟩
      rw [hea] at e0 a1 a2
      rw [heb, hj] at e1
      rw [heb] at b1 b2
      rw [hj] at hm
      have hkI : (k : Int) < (xs.length : Int) := by omega
      have hjI : (j : Int) < (xs.length : Int) := by omega
      have hnz : ¬ (xs.length : Int) = 0 := by omega
      have wk1 : IntKind.i64.wrap ((k : Int) + 1) = (k : Int) + 1 := IntWalk.i64_in _ (by omega)
      have tj : ((k : Int) + 1).tmod (xs.length : Int) = (j : Int) := by rw [Int.tmod_eq_emod_of_nonneg (by omega), ← hj]; rfl
      have tj2 : ((k : Int) + 1) % (xs.length : Int) = (j : Int) := by rw [← hj]; rfl
      have HEA := Lib.hid hea
      have HEB := Lib.hid heb
      have aW := Lib.hid (wfI_of a1 a2 n2)
      have bW := Lib.hid (wfI_of b1 b2 n2)
      have HLT := Lib.hid hlt
      clear ha hb hcp hea heb hj a1 a2 b1 b2
      go_upto_region 14 with fail
      clear tj tj2 wk1 e0 e1 hkI hjI hnz
      obtain ⟨D, hD, hat⟩ := PM4.out
      have HDD := Lib.hid hD
      have HAT := Lib.hid hat
      clear hD hat
      have HT4 := Lib.hid (show 2 * k < maxLen by unfold maxLen; omega)
      have HT1 := Lib.hid (kP_of aW.out bW.out)
      have HT2 := Lib.hid (show plainElem (H := Unit) Try.prog 4 (.bool true) = some (.lit (.bool true), []) from plainElem_bool Try.underlying4 true)
      go_upto_region 15 with (at_mapUpdate; refine wpList_mapUpdate_own _ rfl _ _ _ 82 rfl 83 4 arrKd Try.underlying82 _ bm (2 * k) D rfl HDD.out HT4.out _ _ (kP a b) rfl rfl HT1.out (.lit (.bool true)) [] HT2.out ?_; intro w5 own5 g5; have own5H := Lib.hid own5; have g5H := Lib.hid g5; clear own5 g5)
      have P5 : Hid (PM w5 bm (2 * k + 1) (fun x y => inP xs k x y || (a == x && b == y))) := Lib.hid (PM.put (w := w) HAT.out HDD.out.isMap aW.out bW.out own5H.out)
      clear own5H
      clear HT4 HT1 HT2
      obtain ⟨D2, hD2, hat2⟩ := P5.out
      have HDD2 := Lib.hid hD2
      have HAT2 := Lib.hid hat2
      clear hD2 hat2
      have HT4 := Lib.hid (show 2 * k + 1 < maxLen by unfold maxLen; omega)
      have HT1 := Lib.hid (kP_of bW.out aW.out)
      have HT2 := Lib.hid (show plainElem (H := Unit) Try.prog 4 (.bool true) = some (.lit (.bool true), []) from plainElem_bool Try.underlying4 true)
      go_upto_region 16 with (at_mapUpdate; refine wpList_mapUpdate_own _ rfl _ _ _ 82 rfl 83 4 arrKd Try.underlying82 _ bm (2 * k + 1) D2 rfl HDD2.out HT4.out _ _ (kP b a) rfl rfl HT1.out (.lit (.bool true)) [] HT2.out ?_; intro w6 own6 g6; have own6H := Lib.hid own6; have g6H := Lib.hid g6; clear own6 g6)
      have P6 : Hid (PM w6 bm (2 * k + 1 + 1) (fun x y => (inP xs k x y || (a == x && b == y)) || (b == x && a == y))) := Lib.hid (PM.put (w := w) HAT2.out HDD2.out.isMap bW.out aW.out own6H.out)
      clear own6H
      clear HT4 HT1 HT2
      have hz5 := g5H.out.size
      have hz6 := g6H.out.size
      have hzb := PM4.out |> fun h => h.lt
      have hbw := hb4.size
      have X3 : Below w.heap.size w w6 := hb4.trans ((below_row g5H.out (by omega) (by omega)).trans (below_row g6H.out (by omega) (by omega)))
      have hws := (Array.getElem?_eq_some_iff.1 HS4.out).1
      have X2 : w6.heap[w.heap.size]? = some (.cells #[.int .i64 s.n, .slice A1 s.shots.length c1, .slice A2 s.marks.length c2, .slice A3 s.threads.length c3] 26 (0, 0)) := (g6H.out.block _ (by omega) (fun e => by injection e with e; omega)).trans ((g5H.out.block _ (by omega) (fun e => by injection e with e; omega)).trans HS4.out)
      have X1 : PM w6 bm (2 * (k + 1)) (inP xs (k + 1)) := by
        have h := P6.out
        rw [inP_two xs k HEA.out HEB.out] at h
        exact h
      have Z1 := Lib.hid X1
      have Z2 := Lib.hid X2
      have Z3 := Lib.hid X3
      clear X1 X2 X3 hz5 hz6 hzb hbw hws g5H g6H P5 P6 HDD HAT HDD2 HAT2
      go_wp2
      go_roundw
      case rel => exact ⟨k + 1, (by have := HLT.out; omega), by go_num, Z3.out, Z2.out, Z1.out⟩
      case measure => (have := HLT.out; simp [intOf] <;> omega)
    · obtain rfl : k = xs.length := by omega
      have hkk : ¬ ((xs.length : Nat) : Int) < (xs.length : Int) := by omega
      obtain ⟨v9, hv9⟩ : ∃ v, v = wr := ⟨_, rfl⟩
      subst hv9
      have s0 : v9.cell? ⟨w.heap.size, 0, none⟩ = some (.int .i64 s.n) := cell_of_row v9 _ 0 _ _ _ HS4.out
      go_upto_region 18 with fail
      obtain ⟨v10, hw⟩ : ∃ v, v9.alloc (.cells #[.int .i64 s.n, .slice none 0 0, .slice none 0 0, .slice none 0 0] 26) = v := ⟨_, rfl⟩
      obtain ⟨go, hbk⟩ : ∃ b, v9.heap.size = b := ⟨_, rfl⟩
      rw [hw, hbk]
      have hK : Below v9.heap.size v9 v10 := by rw [← hw]; exact (Below.refl _ _).alloc (Nat.le_refl _) _
      have Ya : v10.heap[go]? = some (.cells #[.int .i64 s.n, .slice none 0 0, .slice none 0 0, .slice none 0 0] 26 (0, 0)) := by rw [← hw, ← hbk]; exact heap_alloc_new _ _
      have HGO := Lib.hid Ya
      have hbg : bm < go := by rw [← hbk]; exact PM4.out.lt
      have hzg : go + 1 ≤ v10.heap.size := (Array.getElem?_eq_some_iff.1 Ya).1
      have HS5 := Lib.hid (row_keep HS4.out hK)
      have PM5 := Lib.hid (PM4.out.below hK)
      replace hb4 := below_keep hb4 hb4.size hK
      clear hw hbk hK Ya HS4 PM4 s0
      have s1 : v10.cell? ⟨w.heap.size, 1, none⟩ = some (.slice A1 s.shots.length c1) := cell_of_row v10 _ 1 _ _ _ HS5.out
      obtain ⟨i1, hi1, hz11, hz12, hz13⟩ := info_parts infoShot
      have I1 := Lib.hid (And.intro hi1 (And.intro hz11 (And.intro hz12 hz13)))
      clear hi1 hz11 hz12 hz13 hkk
      go_upto_region 18 with fail
      go_wp2
      go_loopw [91] (fun v91 W => ∃ k : Nat, k ≤ s.shots.length ∧ v91 = .int .i64 k ∧ Below w.heap.size w W ∧ W.heap[w.heap.size]? = some (.cells #[.int .i64 s.n, .slice A1 s.shots.length c1, .slice A2 s.marks.length c2, .slice A3 s.threads.length c3] 26 (0, 0)) ∧ PM W bm (2 * xs.length) (inP xs xs.length) ∧ ∃ A m c, W.heap[go]? = some (.cells #[.int .i64 s.n, .slice A m c, .slice none 0 0, .slice none 0 0] 26 (0, 0)) ∧ Own W (go + 1) 78 (.slice A m c) shV 4 ((s.shots.take k).filter fun x => inP xs xs.length x.f x.t)) (fun i _ => s.shots.length - (intOf i).toNat)
      case atStart => exact ⟨0, by omega, rfl, hb4, HS5.out, PM5.out, none, 0, 0, HGO.out, by rw [List.take_zero]; exact Own.nil_ _ _ _ _ _⟩
      case round =>
        obtain ⟨k, hk, rfl, hb5, hs5, hpm5, A, m, c, hgo5, how5⟩ := hrel
        have HS6 := Lib.hid hs5
        have PM6 := Lib.hid hpm5
        have HG6 := Lib.hid hgo5
        have OW6 := Lib.hid how5
        clear hs5 hpm5 hgo5 how5 HS5 PM5 HGO hb4 s1
        by_cases hlt : k < s.shots.length
        · have hxk := (svOk_spec HOK.out).2.1 _ (List.getElem_mem hlt)
          obtain ⟨b1, o1, hA1, hb1, hc1⟩ := ((R1.out.below hb5).more hb5.size) (by omega)
          subst hA1
          have hget : s.shots[k]? = some s.shots[k] := List.getElem?_eq_getElem hlt
          obtain ⟨x, hx⟩ : ∃ x, s.shots[k] = x := ⟨_, rfl⟩
          rw [hx] at hget hxk
          have hxb := shOk_spec hxk
          have e0 := hc1 k _ hget 0 _ rfl
          have e1 := hc1 k _ hget 1 _ rfl
          have e2 := hc1 k _ hget 2 _ rfl
          have e3 := hc1 k _ hget 3 _ rfl
          simp only [Nat.add_zero] at e0
          have hkI : (k : Int) < (s.shots.length : Int) := by omega
          have fW := Lib.hid (wfI_of hxb.1 hxb.2.1 n2)
          have tW := Lib.hid (wfI_of hxb.2.2.1 hxb.2.2.2.1 n2)
          have HFK : Hid (((s.shots.take (k + 1)).filter fun x => inP xs xs.length x.f x.t) = if inP xs xs.length x.f x.t = true then ((s.shots.take k).filter fun x => inP xs xs.length x.f x.t) ++ [x] else ((s.shots.take k).filter fun x => inP xs xs.length x.f x.t)) := Lib.hid (by
            rw [List.take_add_one, List.filter_append, hget]
            simp only [Option.toList_some, List.filter_cons, List.filter_nil]
            cases inP xs xs.length x.f x.t <;> simp)
          have hml : ((s.shots.take k).filter fun x => inP xs xs.length x.f x.t).length ≤ 60 := Nat.le_trans (List.length_filter_le _ _) (Nat.le_trans (List.length_take_le _ _) (by omega))
          have HLT := Lib.hid hlt
          clear hc1 hget hx hxk hxb
          go_upto_region 21 with fail
          obtain ⟨w5, hw⟩ : ∃ v, wr.alloc (.cells #[.int .i64 x.f, .int .i64 x.t, .int .i64 x.lo, .int .i64 x.hi] 78) = v := ⟨_, rfl⟩
          obtain ⟨gx, hbk⟩ : ∃ b, wr.heap.size = b := ⟨_, rfl⟩
          rw [hw, hbk]
          have hK : Below wr.heap.size wr w5 := by rw [← hw]; exact (Below.refl _ _).alloc (Nat.le_refl _) _
          have Ya : w5.heap[gx]? = some (.cells #[.int .i64 x.f, .int .i64 x.t, .int .i64 x.lo, .int .i64 x.hi] 78 (0, 0)) := by rw [← hw, ← hbk]; exact heap_alloc_new _ _
          have YX := Lib.hid Ya
          have HS7 := Lib.hid (row_keep HS6.out hK)
          have PM7 := Lib.hid (PM6.out.below hK)
          have HG7 := Lib.hid (row_keep HG6.out hK)
          have OW7 := Lib.hid (OW6.out.below hK)
          have hb6 := below_keep hb5 hb5.size hK
          clear hw hbk hK Ya e0 e1 e2 e3 HS6 PM6 HG6 OW6 hb5 hkI
          have x0 : w5.cell? ⟨gx, 0, none⟩ = some (.int .i64 x.f) := cell_of_row w5 _ 0 _ _ _ YX.out
          have x1 : w5.cell? ⟨gx, 1, none⟩ = some (.int .i64 x.t) := cell_of_row w5 _ 1 _ _ _ YX.out
          have x2 : w5.cell? ⟨gx, 2, none⟩ = some (.int .i64 x.lo) := cell_of_row w5 _ 2 _ _ _ YX.out
          have x3 : w5.cell? ⟨gx, 3, none⟩ = some (.int .i64 x.hi) := cell_of_row w5 _ 3 _ _ _ YX.out
          have hlook := PM7.out.look fW.out tW.out
          have m1 : w5.cell? ⟨go, 1, none⟩ = some (.slice A m c) := cell_of_row w5 _ 1 _ _ _ HG7.out
          cases hib : inP xs xs.length x.f x.t
          · rw [hib] at hlook
            have HFN : Hid (((s.shots.take (k + 1)).filter fun x => inP xs xs.length x.f x.t) = ((s.shots.take k).filter fun x => inP xs xs.length x.f x.t)) := Lib.hid (by rw [HFK.out, hib]; rfl)
            clear hib HFK
            go_wp2
            go_roundw
            case rel => exact ⟨k + 1, (by have := HLT.out; omega), by go_num, hb6, HS7.out, PM7.out, A, m, c, HG7.out, by rw [HFN.out]; exact OW7.out⟩
            case measure => (have := HLT.out; simp [intOf] <;> omega)
          · rw [hib] at hlook
            have HFN : Hid (((s.shots.take (k + 1)).filter fun x => inP xs xs.length x.f x.t) = ((s.shots.take k).filter fun x => inP xs xs.length x.f x.t) ++ [x]) := Lib.hid (by rw [HFK.out, hib]; rfl)
            clear hib HFK
            obtain ⟨F, hF⟩ : ∃ F, ((s.shots.take k).filter fun x => inP xs xs.length x.f x.t) = F := ⟨_, rfl⟩
            rw [hF] at hml OW7 HFN
            clear hF
            obtain ⟨A', c', hfm⟩ := OW7.out.form
            have hmF := slice_len_eq hfm
            clear hfm A' c'
            have HMF := Lib.hid hmF
            clear hmF
            have hgz : go < w5.heap.size := (Array.getElem?_eq_some_iff.1 HG7.out).1
            have tok : True := trivial
            go_upto_region 23 with (at_builtin; have _t := tok; refine wpList_append_rd rfl (.tmp 103) (.tmp 105) 22 rfl i1 _ 32 Try.underlying22 I1.out.1 I1.out.2.1 I1.out.2.2.1 I1.out.2.2.2 rfl (by omega) shV_len shV_one rfl (OW7.out.below ((Below.refl _ _).alloc (Nat.le_refl _) _)) rfl rfl (Rd.one _ x #[.int .i64 x.f, .int .i64 x.t, .int .i64 x.lo, .int .i64 x.hi] 78 rfl) (by simp; omega) (by omega) (by simp; omega) ?_; intro v' w6 ho6 hg6 hat6; clear tok _t; obtain ⟨AV, cV, hV⟩ := ho6.form; subst hV; rw [show (F ++ [x]).length = m + 1 by rw [HMF.out]; simp] at ho6 ⊢; (have hn6 : ∀ b, b < w5.heap.size → b ≤ go → w6.heap[b]? = w5.heap[b]? := fun b h1 h2 => (hg6.block b (by simp; omega) (fun e => by have := (OW7.out.lt b e.symm).1; omega)).trans (Below.heap_alloc _ _ _ h1)); (have z0 := frozen_of_row w6 go 1 _ _ ((hn6 go hgz (Nat.le_refl _)).trans HG7.out)); (have z1 := cell_of_row w6 go 1 _ _ _ ((hn6 go hgz (Nat.le_refl _)).trans HG7.out)); simp only [List.getElem?_toArray, List.getElem?_cons_zero, List.getElem?_cons_succ] at z1; have HO6 := Lib.hid ho6; have HGW6 := Lib.hid hg6; have HN6 := Lib.hid hn6; clear ho6 hg6 hat6 hn6)
            obtain ⟨w7, hw⟩ : ∃ v, w6.setCell ⟨go, 1, none⟩ (.slice AV (m + 1) cV) = v := ⟨_, rfl⟩
            rw [hw]
            have hnn : ∀ b, b < w5.heap.size → b < go → w7.heap[b]? = w5.heap[b]? := fun b h1 h2 => by
              rw [← hw]
              exact (Below.heap_setCell _ _ _ _ (by dsimp only; omega)).trans (HN6.out b h1 (by omega))
            have hz7 : w5.heap.size ≤ w7.heap.size := by rw [← hw]; have := HGW6.out.size; simp at this ⊢; omega
            have hw5 := hb6.size
            have hws := (Array.getElem?_eq_some_iff.1 HS7.out).1
            have X0 : w7.heap[go]? = some (.cells #[.int .i64 s.n, .slice AV (m + 1) cV, .slice none 0 0, .slice none 0 0] 26 (0, 0)) := by
              rw [← hw, heap_setCell_same w6 go 1 _ _ _ ((HN6.out go hgz (Nat.le_refl _)).trans HG7.out)]
              rfl
            have X1 := (hnn _ hws (by omega)).trans HS7.out
            have X2 := PM7.out.local_ (hnn bm PM7.out.lt hbg)
            have X3 : Own w7 (go + 1) 78 (.slice AV (m + 1) cV) shV 4 (F ++ [x]) := by rw [← hw]; exact HO6.out.set_ (by dsimp only; omega) _
            have X4 : Below w.heap.size w w7 := hb6.trans ⟨by rw [← hw]; exact HGW6.out.os, by rw [← hw]; exact HGW6.out.tape, by rw [← hw]; exact HGW6.out.output, hz7, fun b hb => hnn b (by omega) (by omega)⟩
            have Z0 := Lib.hid X0
            have Z1 := Lib.hid X1
            have Z2 := Lib.hid X2
            have Z3 := Lib.hid X3
            have Z4 := Lib.hid X4
            clear hw hnn hz7 hw5 hws X0 X1 X2 X3 X4 HN6 HO6 HGW6 hlook x0 x1 x2 x3 m1 z0 z1
            go_wp2
            go_roundw
            case rel => exact ⟨k + 1, (by have := HLT.out; omega), by go_num, Z4.out, Z1.out, Z2.out, AV, m + 1, cV, Z0.out, by rw [HFN.out]; exact Z3.out⟩
            case measure => (have := HLT.out; simp [intOf] <;> omega)
        · obtain rfl : k = s.shots.length := by omega
          rw [List.take_length] at OW6
          have hkk : ¬ ((s.shots.length : Nat) : Int) < (s.shots.length : Int) := by omega
          obtain ⟨w8, hw8⟩ : ∃ v, v = wr := ⟨_, rfl⟩
          subst hw8
          obtain ⟨A', c', hfm⟩ := OW6.out.form
          have hmF := slice_len_eq hfm
          clear hfm A' c'
          have HMF := Lib.hid (show (onS s xs).shots.length = m from hmF.symm)
          have HNN : Hid ((onS s xs).n = s.n) := Lib.hid rfl
          have OWS := Lib.hid (show Own w8 (go + 1) 78 (.slice A m c) shV 4 (onS s xs).shots from OW6.out)
          clear hmF OW6
          obtain ⟨CL, hcl, hclp, _⟩ := named_vals (onS_ok HOK.out xs) HDO.out
          have HCL := Lib.hid hcl
          have HH := Lib.hid (lvHeights_apart HOK.out HD.out)
          have HHO := Lib.hid (lvHeights_apart (onS_ok HOK.out xs) HDO.out)
          clear hcl
          replace hb3 := hb5
          have s0 : w8.cell? ⟨w.heap.size, 0, none⟩ = some (.int .i64 s.n) := cell_of_row w8 _ 0 _ _ _ HS6.out
          have s1 : w8.cell? ⟨w.heap.size, 1, none⟩ = some (.slice A1 s.shots.length c1) := cell_of_row w8 _ 1 _ _ _ HS6.out
          have s2 : w8.cell? ⟨w.heap.size, 2, none⟩ = some (.slice A2 s.marks.length c2) := cell_of_row w8 _ 2 _ _ _ HS6.out
          have s3 : w8.cell? ⟨w.heap.size, 3, none⟩ = some (.slice A3 s.threads.length c3) := cell_of_row w8 _ 3 _ _ _ HS6.out
          go_upto_region 25 with (go_at_call 16; refine (heights_as s c1 c2 c3 A1 A2 A3 w8 ((R1.out.below hb3).more hb3.size) ((R2.out.below hb3).more hb3.size) ((R3.out.below hb3).more hb3.size) HH.out).mono ?_; rintro e v11 ⟨⟨AH, cH, rfl, qh⟩, hK⟩)
          replace HG6 := Lib.hid (row_keep HG6.out hK)
          replace OWS := Lib.hid (OWS.out.below hK)
          replace hb3 := below_keep hb3 hb3.size hK
          clear hK qh s0 s1 s2 s3 hkk
          have g0 : v11.cell? ⟨go, 0, none⟩ = some (.int .i64 s.n) := cell_of_row v11 _ 0 _ _ _ HG6.out
          have g1 : v11.cell? ⟨go, 1, none⟩ = some (.slice A m c) := cell_of_row v11 _ 1 _ _ _ HG6.out
          have g2 : v11.cell? ⟨go, 2, none⟩ = some (.slice none 0 0) := cell_of_row v11 _ 2 _ _ _ HG6.out
          have g3 : v11.cell? ⟨go, 3, none⟩ = some (.slice none 0 0) := cell_of_row v11 _ 3 _ _ _ HG6.out
          go_upto_region 26 with (go_at_call 16; refine (heights_on (onS s xs) HHO.out HMF.out HNN.out rfl rfl c A v11 (OWS.out.rd' HMF.out.symm shV_len)).mono ?_; rintro e v12 ⟨⟨AM, cM, rfl⟩, hK⟩)
          replace HG6 := Lib.hid (row_keep HG6.out hK)
          replace OWS := Lib.hid (OWS.out.below hK)
          replace hb3 := below_keep hb3 hb3.size hK
          clear hK g0 g1 g2 g3
          have g0 : v12.cell? ⟨go, 0, none⟩ = some (.int .i64 s.n) := cell_of_row v12 _ 0 _ _ _ HG6.out
          have g1 : v12.cell? ⟨go, 1, none⟩ = some (.slice A m c) := cell_of_row v12 _ 1 _ _ _ HG6.out
          have g2 : v12.cell? ⟨go, 2, none⟩ = some (.slice none 0 0) := cell_of_row v12 _ 2 _ _ _ HG6.out
          have g3 : v12.cell? ⟨go, 3, none⟩ = some (.slice none 0 0) := cell_of_row v12 _ 3 _ _ _ HG6.out
          have hclI : (0 : Int) < (CL.length : Int) := by omega
          go_wp2_with (go_at_call 26; refine (clash_onn (onS s xs) HCL.out HMF.out HNN.out rfl rfl c A v12 (OWS.out.rd' HMF.out.symm shV_len)).mono ?_; rintro e v13 ⟨⟨AC, cC, rfl⟩, hK⟩)
          go_ret
          exact ⟨rfl, below_keep hb3 hb3.size hK⟩

set_option maxRecDepth 100000 in
set_option maxHeartbeats 16000000 in
theorem lawLoop_openp (s : Sv) (xs : List Int) (cp c1 c2 c3 : Nat) (AP A1 A2 A3 : Option Addr) (w : World)
    (r1 : Rd w w.heap.size A1 shV 4 s.shots) (r2 : Rd w w.heap.size A2 mkV 3 s.marks) (r3 : Rd w w.heap.size A3 shV 4 s.threads) (rp : Rd w w.heap.size AP inV 1 xs) (hok : svOk s = true) (hl : xs.length ≤ 40) {p q : Int} (hv : lvLoop s xs = ((p, q), 0)) (hp : ¬ p ≤ 0) :
    Calls Try.prog 9 #[.agg #[.int .i64 s.n, .slice A1 s.shots.length c1, .slice A2 s.marks.length c2, .slice A3 s.threads.length c3], .slice AP xs.length cp] w fun e w' => e = .returned (.bool true) ∧ Below w.heap.size w w' := by
  have R1 := Lib.hid r1
  have R2 := Lib.hid r2
  have R3 := Lib.hid r3
  have RP := Lib.hid rp
  have HOK := Lib.hid hok
  have HV := Lib.hid hv
  obtain ⟨⟨n1, n2, n3, n4, n5⟩, _⟩ := svOk_spec hok
  have hlI : ¬ (40 : Int) < (xs.length : Int) := by omega
  obtain ⟨hlb, hD, hDo⟩ := loop_apart hok hv (.inr ⟨rfl, .inl (by omega)⟩)
  have HLB := Lib.hid hlb
  have HD := Lib.hid hD
  have HDO := Lib.hid hDo
  clear hlb hD hDo
  clear r1 r2 r3 rp hok hv
  go_enter Try.func9, Try.ntmps9
  go_upto_region 6 with (first | (go_at_call 35; refine (alive_any _).mono ?_; rintro e w1 ⟨rfl, hb1⟩; obtain ⟨hc1, hf1⟩ := bcell hb1; have hz1 := hb1.size; simp at hz1; have hlt : w.heap.size < w1.heap.size := by omega) | (go_at_call 36; (have hbA : Below w.heap.size w w1 := by (repeat' (first | (with_reducible exact Below.refl _ _) | (with_reducible refine Below.alloc ?_ ?_ _) | (with_reducible refine Below.drew ?_) | (with_reducible refine Below.drewN_ ?_ _) | (with_reducible refine Below.setCell ?_ ?_ _) | (with_reducible refine Below.setRow ?_ ?_ _) | (with_reducible refine Below.via ?_ (by with_reducible assumption) ?_) | go_size))); have hr := ready_any s c1 c2 c3 A1 A2 A3 w1 ((R1.out.below hbA).more hbA.size) ((R2.out.below hbA).more hbA.size) ((R3.out.below hbA).more hbA.size); rw [HOK.out] at hr; refine hr.mono ?_; rintro e w2 ⟨rfl, hb2⟩; clear hr; (have S : w2.heap[w.heap.size]? = some (.cells #[.int .i64 s.n, .slice A1 s.shots.length c1, .slice A2 s.marks.length c2, .slice A3 s.threads.length c3] 26 (0, 0)) := row_keep (row_keep (heap_alloc_new _ _) hb1) hb2); have HS := Lib.hid S; clear S))
  have hb3 : Below w.heap.size w w2 := by (repeat' (first | (with_reducible exact Below.refl _ _) | (with_reducible refine Below.alloc ?_ ?_ _) | (with_reducible refine Below.drew ?_) | (with_reducible refine Below.drewN_ ?_ _) | (with_reducible refine Below.setCell ?_ ?_ _) | (with_reducible refine Below.setRow ?_ ?_ _) | (with_reducible refine Below.via ?_ (by with_reducible assumption) ?_) | go_size))
  clear hb1 hb2 hbA hc1 hf1 hz1 hlt hlI
  obtain ⟨bz, hbz⟩ : ∃ b, decide ((40 : Int) < (xs.length : Int)) = b := ⟨_, rfl⟩
  rw [hbz]
  clear hbz
  have s0 : w2.cell? ⟨w.heap.size, 0, none⟩ = some (.int .i64 s.n) := cell_of_row w2 _ 0 _ _ _ HS.out
  have s1 : w2.cell? ⟨w.heap.size, 1, none⟩ = some (.slice A1 s.shots.length c1) := cell_of_row w2 _ 1 _ _ _ HS.out
  have s2 : w2.cell? ⟨w.heap.size, 2, none⟩ = some (.slice A2 s.marks.length c2) := cell_of_row w2 _ 2 _ _ _ HS.out
  have s3 : w2.cell? ⟨w.heap.size, 3, none⟩ = some (.slice A3 s.threads.length c3) := cell_of_row w2 _ 3 _ _ _ HS.out
  go_upto_region 7 with (go_at_call 24; refine (loop_as s xs HV.out cp c1 c2 c3 AP A1 A2 A3 w2 ((R1.out.below hb3).more hb3.size) ((R2.out.below hb3).more hb3.size) ((R3.out.below hb3).more hb3.size) ((RP.out.below hb3).more hb3.size) (by omega)).mono ?_; rintro e' wb ⟨rfl, hbb⟩)
  obtain ⟨v7, hw⟩ : ∃ v, wb.alloc (Obj.cells #[.int .i64 p, .int .i64 q] 36) = v := ⟨_, rfl⟩
  obtain ⟨gs, hbk⟩ : ∃ b, wb.heap.size = b := ⟨_, rfl⟩
  rw [hw, hbk]
  have hK : Below w2.heap.size w2 v7 := by rw [← hw]; exact hbb.alloc hbb.size _
  have Ya : v7.heap[gs]? = some (.cells #[.int .i64 p, .int .i64 q] 36 (0, 0)) := by rw [← hw, ← hbk]; exact heap_alloc_new _ _
  have Ygs := Lib.hid Ya
  replace HS := Lib.hid (row_keep HS.out hK)
  replace hb3 := below_keep hb3 hb3.size hK
  clear hw hbk hK Ya hbb s0 s1 s2 s3
  have p0 : v7.cell? ⟨gs, 0, none⟩ = some (.int .i64 p) := cell_of_row v7 _ 0 _ _ _ Ygs.out
  have p1 : v7.cell? ⟨gs, 1, none⟩ = some (.int .i64 q) := cell_of_row v7 _ 1 _ _ _ Ygs.out
  go_upto_region 9 with fail
  clear p0 p1
  obtain ⟨hlen, hpts⟩ := loopB_in HLB.out
  have HPT := Lib.hid hpts
  clear hpts
  have hw7 := (Array.getElem?_eq_some_iff.1 HS.out).1
  have hmm := @run_makeMap Try.prog
  go_upto_region 10 with fail
  clear hmm
  obtain ⟨v8, hw⟩ : ∃ v, v7.alloc (.map #[] 0) = v := ⟨_, rfl⟩
  obtain ⟨bm, hbk⟩ : ∃ b, v7.heap.size = b := ⟨_, rfl⟩
  rw [hw, hbk]
  have hK : Below v7.heap.size v7 v8 := by rw [← hw]; exact (Below.refl _ _).alloc (Nat.le_refl _) _
  have PM0 := Lib.hid (show PM v8 bm 0 (inP xs 0) by rw [← hw, ← hbk]; exact PM_made v7)
  have hwb : w.heap.size < bm := by rw [← hbk]; exact hw7
  replace HS := Lib.hid (row_keep HS.out hK)
  replace hb3 := below_keep hb3 hb3.size hK
  clear hw hbk hK Ygs hw7
  go_wp2
  go_loopw [63] (fun v63 W => ∃ k : Nat, k ≤ xs.length ∧ v63 = .int .i64 k ∧ Below w.heap.size w W ∧ W.heap[w.heap.size]? = some (.cells #[.int .i64 s.n, .slice A1 s.shots.length c1, .slice A2 s.marks.length c2, .slice A3 s.threads.length c3] 26 (0, 0)) ∧ PM W bm (2 * k) (inP xs k)) (fun i _ => xs.length - (intOf i).toNat)
  case atStart => exact ⟨0, by omega, rfl, hb3, HS.out, PM0.out⟩
  case round =>
    obtain ⟨k, hk, rfl, hb4, hs4, hpm⟩ := hrel
    have HS4 := Lib.hid hs4
    have PM4 := Lib.hid hpm
    clear hs4 hpm HS PM0 hb3
    by_cases hlt : k < xs.length
    · obtain ⟨⟨a1, a2⟩, b1, b2⟩ := HPT.out k hlt
      obtain ⟨bp, op, hAP, hbp, hcp⟩ := ((RP.out.below hb4).more hb4.size) (by omega)
      subst hAP
      have ha : xs[k]? = some (xs.getD k 0) := by rw [List.getD_eq_getElem?_getD, List.getElem?_eq_getElem hlt]; rfl
      have hm := Nat.mod_lt (k + 1) (show 0 < xs.length by omega)
      have hb : xs[(k + 1) % xs.length]? = some (nxI xs k) := by unfold nxI; rw [List.getD_eq_getElem?_getD, List.getElem?_eq_getElem hm]; rfl
      have e0 := hcp k _ ha 0 _ rfl
      have e1 := hcp _ _ hb 0 _ rfl
      simp only [Nat.add_zero, Nat.mul_one] at e0 e1
      obtain ⟨a, hea⟩ : ∃ a, xs.getD k 0 = a := ⟨_, rfl⟩
      obtain ⟨b, heb⟩ : ∃ b, nxI xs k = b := ⟨_, rfl⟩
      obtain ⟨j, hj⟩ : ∃ j, (k + 1) % xs.length = j := ⟨_, rfl⟩
      rw [hea] at e0 a1 a2
      rw [heb, hj] at e1
      rw [heb] at b1 b2
      rw [hj] at hm
      have hkI : (k : Int) < (xs.length : Int) := by omega
      have hjI : (j : Int) < (xs.length : Int) := by omega
      have hnz : ¬ (xs.length : Int) = 0 := by omega
      have wk1 : IntKind.i64.wrap ((k : Int) + 1) = (k : Int) + 1 := IntWalk.i64_in _ (by omega)
      have tj : ((k : Int) + 1).tmod (xs.length : Int) = (j : Int) := by rw [Int.tmod_eq_emod_of_nonneg (by omega), ← hj]; rfl
      have tj2 : ((k : Int) + 1) % (xs.length : Int) = (j : Int) := by rw [← hj]; rfl
      have HEA := Lib.hid hea
      have HEB := Lib.hid heb
      have aW := Lib.hid (wfI_of a1 a2 n2)
      have bW := Lib.hid (wfI_of b1 b2 n2)
      have HLT := Lib.hid hlt
      clear ha hb hcp hea heb hj a1 a2 b1 b2
      go_upto_region 14 with fail
      clear tj tj2 wk1 e0 e1 hkI hjI hnz
      obtain ⟨D, hD, hat⟩ := PM4.out
      have HDD := Lib.hid hD
      have HAT := Lib.hid hat
      clear hD hat
      have HT4 := Lib.hid (show 2 * k < maxLen by unfold maxLen; omega)
      have HT1 := Lib.hid (kP_of aW.out bW.out)
      have HT2 := Lib.hid (show plainElem (H := Unit) Try.prog 4 (.bool true) = some (.lit (.bool true), []) from plainElem_bool Try.underlying4 true)
      go_upto_region 15 with (at_mapUpdate; refine wpList_mapUpdate_own _ rfl _ _ _ 82 rfl 83 4 arrKd Try.underlying82 _ bm (2 * k) D rfl HDD.out HT4.out _ _ (kP a b) rfl rfl HT1.out (.lit (.bool true)) [] HT2.out ?_; intro w5 own5 g5; have own5H := Lib.hid own5; have g5H := Lib.hid g5; clear own5 g5)
      have P5 : Hid (PM w5 bm (2 * k + 1) (fun x y => inP xs k x y || (a == x && b == y))) := Lib.hid (PM.put (w := w) HAT.out HDD.out.isMap aW.out bW.out own5H.out)
      clear own5H
      clear HT4 HT1 HT2
      obtain ⟨D2, hD2, hat2⟩ := P5.out
      have HDD2 := Lib.hid hD2
      have HAT2 := Lib.hid hat2
      clear hD2 hat2
      have HT4 := Lib.hid (show 2 * k + 1 < maxLen by unfold maxLen; omega)
      have HT1 := Lib.hid (kP_of bW.out aW.out)
      have HT2 := Lib.hid (show plainElem (H := Unit) Try.prog 4 (.bool true) = some (.lit (.bool true), []) from plainElem_bool Try.underlying4 true)
      go_upto_region 16 with (at_mapUpdate; refine wpList_mapUpdate_own _ rfl _ _ _ 82 rfl 83 4 arrKd Try.underlying82 _ bm (2 * k + 1) D2 rfl HDD2.out HT4.out _ _ (kP b a) rfl rfl HT1.out (.lit (.bool true)) [] HT2.out ?_; intro w6 own6 g6; have own6H := Lib.hid own6; have g6H := Lib.hid g6; clear own6 g6)
      have P6 : Hid (PM w6 bm (2 * k + 1 + 1) (fun x y => (inP xs k x y || (a == x && b == y)) || (b == x && a == y))) := Lib.hid (PM.put (w := w) HAT2.out HDD2.out.isMap bW.out aW.out own6H.out)
      clear own6H
      clear HT4 HT1 HT2
      have hz5 := g5H.out.size
      have hz6 := g6H.out.size
      have hzb := PM4.out |> fun h => h.lt
      have hbw := hb4.size
      have X3 : Below w.heap.size w w6 := hb4.trans ((below_row g5H.out (by omega) (by omega)).trans (below_row g6H.out (by omega) (by omega)))
      have hws := (Array.getElem?_eq_some_iff.1 HS4.out).1
      have X2 : w6.heap[w.heap.size]? = some (.cells #[.int .i64 s.n, .slice A1 s.shots.length c1, .slice A2 s.marks.length c2, .slice A3 s.threads.length c3] 26 (0, 0)) := (g6H.out.block _ (by omega) (fun e => by injection e with e; omega)).trans ((g5H.out.block _ (by omega) (fun e => by injection e with e; omega)).trans HS4.out)
      have X1 : PM w6 bm (2 * (k + 1)) (inP xs (k + 1)) := by
        have h := P6.out
        rw [inP_two xs k HEA.out HEB.out] at h
        exact h
      have Z1 := Lib.hid X1
      have Z2 := Lib.hid X2
      have Z3 := Lib.hid X3
      clear X1 X2 X3 hz5 hz6 hzb hbw hws g5H g6H P5 P6 HDD HAT HDD2 HAT2
      go_wp2
      go_roundw
      case rel => exact ⟨k + 1, (by have := HLT.out; omega), by go_num, Z3.out, Z2.out, Z1.out⟩
      case measure => (have := HLT.out; simp [intOf] <;> omega)
    · obtain rfl : k = xs.length := by omega
      have hkk : ¬ ((xs.length : Nat) : Int) < (xs.length : Int) := by omega
      obtain ⟨v9, hv9⟩ : ∃ v, v = wr := ⟨_, rfl⟩
      subst hv9
      have s0 : v9.cell? ⟨w.heap.size, 0, none⟩ = some (.int .i64 s.n) := cell_of_row v9 _ 0 _ _ _ HS4.out
      go_upto_region 18 with fail
      obtain ⟨v10, hw⟩ : ∃ v, v9.alloc (.cells #[.int .i64 s.n, .slice none 0 0, .slice none 0 0, .slice none 0 0] 26) = v := ⟨_, rfl⟩
      obtain ⟨go, hbk⟩ : ∃ b, v9.heap.size = b := ⟨_, rfl⟩
      rw [hw, hbk]
      have hK : Below v9.heap.size v9 v10 := by rw [← hw]; exact (Below.refl _ _).alloc (Nat.le_refl _) _
      have Ya : v10.heap[go]? = some (.cells #[.int .i64 s.n, .slice none 0 0, .slice none 0 0, .slice none 0 0] 26 (0, 0)) := by rw [← hw, ← hbk]; exact heap_alloc_new _ _
      have HGO := Lib.hid Ya
      have hbg : bm < go := by rw [← hbk]; exact PM4.out.lt
      have hzg : go + 1 ≤ v10.heap.size := (Array.getElem?_eq_some_iff.1 Ya).1
      have HS5 := Lib.hid (row_keep HS4.out hK)
      have PM5 := Lib.hid (PM4.out.below hK)
      replace hb4 := below_keep hb4 hb4.size hK
      clear hw hbk hK Ya HS4 PM4 s0
      have s1 : v10.cell? ⟨w.heap.size, 1, none⟩ = some (.slice A1 s.shots.length c1) := cell_of_row v10 _ 1 _ _ _ HS5.out
      obtain ⟨i1, hi1, hz11, hz12, hz13⟩ := info_parts infoShot
      have I1 := Lib.hid (And.intro hi1 (And.intro hz11 (And.intro hz12 hz13)))
      clear hi1 hz11 hz12 hz13 hkk
      go_upto_region 18 with fail
      go_wp2
      go_loopw [91] (fun v91 W => ∃ k : Nat, k ≤ s.shots.length ∧ v91 = .int .i64 k ∧ Below w.heap.size w W ∧ W.heap[w.heap.size]? = some (.cells #[.int .i64 s.n, .slice A1 s.shots.length c1, .slice A2 s.marks.length c2, .slice A3 s.threads.length c3] 26 (0, 0)) ∧ PM W bm (2 * xs.length) (inP xs xs.length) ∧ ∃ A m c, W.heap[go]? = some (.cells #[.int .i64 s.n, .slice A m c, .slice none 0 0, .slice none 0 0] 26 (0, 0)) ∧ Own W (go + 1) 78 (.slice A m c) shV 4 ((s.shots.take k).filter fun x => inP xs xs.length x.f x.t)) (fun i _ => s.shots.length - (intOf i).toNat)
      case atStart => exact ⟨0, by omega, rfl, hb4, HS5.out, PM5.out, none, 0, 0, HGO.out, by rw [List.take_zero]; exact Own.nil_ _ _ _ _ _⟩
      case round =>
        obtain ⟨k, hk, rfl, hb5, hs5, hpm5, A, m, c, hgo5, how5⟩ := hrel
        have HS6 := Lib.hid hs5
        have PM6 := Lib.hid hpm5
        have HG6 := Lib.hid hgo5
        have OW6 := Lib.hid how5
        clear hs5 hpm5 hgo5 how5 HS5 PM5 HGO hb4 s1
        by_cases hlt : k < s.shots.length
        · have hxk := (svOk_spec HOK.out).2.1 _ (List.getElem_mem hlt)
          obtain ⟨b1, o1, hA1, hb1, hc1⟩ := ((R1.out.below hb5).more hb5.size) (by omega)
          subst hA1
          have hget : s.shots[k]? = some s.shots[k] := List.getElem?_eq_getElem hlt
          obtain ⟨x, hx⟩ : ∃ x, s.shots[k] = x := ⟨_, rfl⟩
          rw [hx] at hget hxk
          have hxb := shOk_spec hxk
          have e0 := hc1 k _ hget 0 _ rfl
          have e1 := hc1 k _ hget 1 _ rfl
          have e2 := hc1 k _ hget 2 _ rfl
          have e3 := hc1 k _ hget 3 _ rfl
          simp only [Nat.add_zero] at e0
          have hkI : (k : Int) < (s.shots.length : Int) := by omega
          have fW := Lib.hid (wfI_of hxb.1 hxb.2.1 n2)
          have tW := Lib.hid (wfI_of hxb.2.2.1 hxb.2.2.2.1 n2)
          have HFK : Hid (((s.shots.take (k + 1)).filter fun x => inP xs xs.length x.f x.t) = if inP xs xs.length x.f x.t = true then ((s.shots.take k).filter fun x => inP xs xs.length x.f x.t) ++ [x] else ((s.shots.take k).filter fun x => inP xs xs.length x.f x.t)) := Lib.hid (by
            rw [List.take_add_one, List.filter_append, hget]
            simp only [Option.toList_some, List.filter_cons, List.filter_nil]
            cases inP xs xs.length x.f x.t <;> simp)
          have hml : ((s.shots.take k).filter fun x => inP xs xs.length x.f x.t).length ≤ 60 := Nat.le_trans (List.length_filter_le _ _) (Nat.le_trans (List.length_take_le _ _) (by omega))
          have HLT := Lib.hid hlt
          clear hc1 hget hx hxk hxb
          go_upto_region 21 with fail
          obtain ⟨w5, hw⟩ : ∃ v, wr.alloc (.cells #[.int .i64 x.f, .int .i64 x.t, .int .i64 x.lo, .int .i64 x.hi] 78) = v := ⟨_, rfl⟩
          obtain ⟨gx, hbk⟩ : ∃ b, wr.heap.size = b := ⟨_, rfl⟩
          rw [hw, hbk]
          have hK : Below wr.heap.size wr w5 := by rw [← hw]; exact (Below.refl _ _).alloc (Nat.le_refl _) _
          have Ya : w5.heap[gx]? = some (.cells #[.int .i64 x.f, .int .i64 x.t, .int .i64 x.lo, .int .i64 x.hi] 78 (0, 0)) := by rw [← hw, ← hbk]; exact heap_alloc_new _ _
          have YX := Lib.hid Ya
          have HS7 := Lib.hid (row_keep HS6.out hK)
          have PM7 := Lib.hid (PM6.out.below hK)
          have HG7 := Lib.hid (row_keep HG6.out hK)
          have OW7 := Lib.hid (OW6.out.below hK)
          have hb6 := below_keep hb5 hb5.size hK
          clear hw hbk hK Ya e0 e1 e2 e3 HS6 PM6 HG6 OW6 hb5 hkI
          have x0 : w5.cell? ⟨gx, 0, none⟩ = some (.int .i64 x.f) := cell_of_row w5 _ 0 _ _ _ YX.out
          have x1 : w5.cell? ⟨gx, 1, none⟩ = some (.int .i64 x.t) := cell_of_row w5 _ 1 _ _ _ YX.out
          have x2 : w5.cell? ⟨gx, 2, none⟩ = some (.int .i64 x.lo) := cell_of_row w5 _ 2 _ _ _ YX.out
          have x3 : w5.cell? ⟨gx, 3, none⟩ = some (.int .i64 x.hi) := cell_of_row w5 _ 3 _ _ _ YX.out
          have hlook := PM7.out.look fW.out tW.out
          have m1 : w5.cell? ⟨go, 1, none⟩ = some (.slice A m c) := cell_of_row w5 _ 1 _ _ _ HG7.out
          cases hib : inP xs xs.length x.f x.t
          · rw [hib] at hlook
            have HFN : Hid (((s.shots.take (k + 1)).filter fun x => inP xs xs.length x.f x.t) = ((s.shots.take k).filter fun x => inP xs xs.length x.f x.t)) := Lib.hid (by rw [HFK.out, hib]; rfl)
            clear hib HFK
            go_wp2
            go_roundw
            case rel => exact ⟨k + 1, (by have := HLT.out; omega), by go_num, hb6, HS7.out, PM7.out, A, m, c, HG7.out, by rw [HFN.out]; exact OW7.out⟩
            case measure => (have := HLT.out; simp [intOf] <;> omega)
          · rw [hib] at hlook
            have HFN : Hid (((s.shots.take (k + 1)).filter fun x => inP xs xs.length x.f x.t) = ((s.shots.take k).filter fun x => inP xs xs.length x.f x.t) ++ [x]) := Lib.hid (by rw [HFK.out, hib]; rfl)
            clear hib HFK
            obtain ⟨F, hF⟩ : ∃ F, ((s.shots.take k).filter fun x => inP xs xs.length x.f x.t) = F := ⟨_, rfl⟩
            rw [hF] at hml OW7 HFN
            clear hF
            obtain ⟨A', c', hfm⟩ := OW7.out.form
            have hmF := slice_len_eq hfm
            clear hfm A' c'
            have HMF := Lib.hid hmF
            clear hmF
            have hgz : go < w5.heap.size := (Array.getElem?_eq_some_iff.1 HG7.out).1
            have tok : True := trivial
            go_upto_region 23 with (at_builtin; have _t := tok; refine wpList_append_rd rfl (.tmp 103) (.tmp 105) 22 rfl i1 _ 32 Try.underlying22 I1.out.1 I1.out.2.1 I1.out.2.2.1 I1.out.2.2.2 rfl (by omega) shV_len shV_one rfl (OW7.out.below ((Below.refl _ _).alloc (Nat.le_refl _) _)) rfl rfl (Rd.one _ x #[.int .i64 x.f, .int .i64 x.t, .int .i64 x.lo, .int .i64 x.hi] 78 rfl) (by simp; omega) (by omega) (by simp; omega) ?_; intro v' w6 ho6 hg6 hat6; clear tok _t; obtain ⟨AV, cV, hV⟩ := ho6.form; subst hV; rw [show (F ++ [x]).length = m + 1 by rw [HMF.out]; simp] at ho6 ⊢; (have hn6 : ∀ b, b < w5.heap.size → b ≤ go → w6.heap[b]? = w5.heap[b]? := fun b h1 h2 => (hg6.block b (by simp; omega) (fun e => by have := (OW7.out.lt b e.symm).1; omega)).trans (Below.heap_alloc _ _ _ h1)); (have z0 := frozen_of_row w6 go 1 _ _ ((hn6 go hgz (Nat.le_refl _)).trans HG7.out)); (have z1 := cell_of_row w6 go 1 _ _ _ ((hn6 go hgz (Nat.le_refl _)).trans HG7.out)); simp only [List.getElem?_toArray, List.getElem?_cons_zero, List.getElem?_cons_succ] at z1; have HO6 := Lib.hid ho6; have HGW6 := Lib.hid hg6; have HN6 := Lib.hid hn6; clear ho6 hg6 hat6 hn6)
            obtain ⟨w7, hw⟩ : ∃ v, w6.setCell ⟨go, 1, none⟩ (.slice AV (m + 1) cV) = v := ⟨_, rfl⟩
            rw [hw]
            have hnn : ∀ b, b < w5.heap.size → b < go → w7.heap[b]? = w5.heap[b]? := fun b h1 h2 => by
              rw [← hw]
              exact (Below.heap_setCell _ _ _ _ (by dsimp only; omega)).trans (HN6.out b h1 (by omega))
            have hz7 : w5.heap.size ≤ w7.heap.size := by rw [← hw]; have := HGW6.out.size; simp at this ⊢; omega
            have hw5 := hb6.size
            have hws := (Array.getElem?_eq_some_iff.1 HS7.out).1
            have X0 : w7.heap[go]? = some (.cells #[.int .i64 s.n, .slice AV (m + 1) cV, .slice none 0 0, .slice none 0 0] 26 (0, 0)) := by
              rw [← hw, heap_setCell_same w6 go 1 _ _ _ ((HN6.out go hgz (Nat.le_refl _)).trans HG7.out)]
              rfl
            have X1 := (hnn _ hws (by omega)).trans HS7.out
            have X2 := PM7.out.local_ (hnn bm PM7.out.lt hbg)
            have X3 : Own w7 (go + 1) 78 (.slice AV (m + 1) cV) shV 4 (F ++ [x]) := by rw [← hw]; exact HO6.out.set_ (by dsimp only; omega) _
            have X4 : Below w.heap.size w w7 := hb6.trans ⟨by rw [← hw]; exact HGW6.out.os, by rw [← hw]; exact HGW6.out.tape, by rw [← hw]; exact HGW6.out.output, hz7, fun b hb => hnn b (by omega) (by omega)⟩
            have Z0 := Lib.hid X0
            have Z1 := Lib.hid X1
            have Z2 := Lib.hid X2
            have Z3 := Lib.hid X3
            have Z4 := Lib.hid X4
            clear hw hnn hz7 hw5 hws X0 X1 X2 X3 X4 HN6 HO6 HGW6 hlook x0 x1 x2 x3 m1 z0 z1
            go_wp2
            go_roundw
            case rel => exact ⟨k + 1, (by have := HLT.out; omega), by go_num, Z4.out, Z1.out, Z2.out, AV, m + 1, cV, Z0.out, by rw [HFN.out]; exact Z3.out⟩
            case measure => (have := HLT.out; simp [intOf] <;> omega)
        · obtain rfl : k = s.shots.length := by omega
          rw [List.take_length] at OW6
          have hkk : ¬ ((s.shots.length : Nat) : Int) < (s.shots.length : Int) := by omega
          obtain ⟨w8, hw8⟩ : ∃ v, v = wr := ⟨_, rfl⟩
          subst hw8
          obtain ⟨A', c', hfm⟩ := OW6.out.form
          have hmF := slice_len_eq hfm
          clear hfm A' c'
          have HMF := Lib.hid (show (onS s xs).shots.length = m from hmF.symm)
          have HNN : Hid ((onS s xs).n = s.n) := Lib.hid rfl
          have OWS := Lib.hid (show Own w8 (go + 1) 78 (.slice A m c) shV 4 (onS s xs).shots from OW6.out)
          clear hmF OW6
          obtain ⟨CL, hcl, hclp, _⟩ := named_vals (onS_ok HOK.out xs) HDO.out
          have HCL := Lib.hid hcl
          have HH := Lib.hid (lvHeights_apart HOK.out HD.out)
          have HHO := Lib.hid (lvHeights_apart (onS_ok HOK.out xs) HDO.out)
          clear hcl
          replace hb3 := hb5
          have s0 : w8.cell? ⟨w.heap.size, 0, none⟩ = some (.int .i64 s.n) := cell_of_row w8 _ 0 _ _ _ HS6.out
          have s1 : w8.cell? ⟨w.heap.size, 1, none⟩ = some (.slice A1 s.shots.length c1) := cell_of_row w8 _ 1 _ _ _ HS6.out
          have s2 : w8.cell? ⟨w.heap.size, 2, none⟩ = some (.slice A2 s.marks.length c2) := cell_of_row w8 _ 2 _ _ _ HS6.out
          have s3 : w8.cell? ⟨w.heap.size, 3, none⟩ = some (.slice A3 s.threads.length c3) := cell_of_row w8 _ 3 _ _ _ HS6.out
          go_upto_region 25 with (go_at_call 16; refine (heights_as s c1 c2 c3 A1 A2 A3 w8 ((R1.out.below hb3).more hb3.size) ((R2.out.below hb3).more hb3.size) ((R3.out.below hb3).more hb3.size) HH.out).mono ?_; rintro e v11 ⟨⟨AH, cH, rfl, qh⟩, hK⟩)
          replace HG6 := Lib.hid (row_keep HG6.out hK)
          replace OWS := Lib.hid (OWS.out.below hK)
          replace hb3 := below_keep hb3 hb3.size hK
          clear hK qh s0 s1 s2 s3 hkk
          have g0 : v11.cell? ⟨go, 0, none⟩ = some (.int .i64 s.n) := cell_of_row v11 _ 0 _ _ _ HG6.out
          have g1 : v11.cell? ⟨go, 1, none⟩ = some (.slice A m c) := cell_of_row v11 _ 1 _ _ _ HG6.out
          have g2 : v11.cell? ⟨go, 2, none⟩ = some (.slice none 0 0) := cell_of_row v11 _ 2 _ _ _ HG6.out
          have g3 : v11.cell? ⟨go, 3, none⟩ = some (.slice none 0 0) := cell_of_row v11 _ 3 _ _ _ HG6.out
          go_upto_region 26 with (go_at_call 16; refine (heights_on (onS s xs) HHO.out HMF.out HNN.out rfl rfl c A v11 (OWS.out.rd' HMF.out.symm shV_len)).mono ?_; rintro e v12 ⟨⟨AM, cM, rfl⟩, hK⟩)
          replace HG6 := Lib.hid (row_keep HG6.out hK)
          replace OWS := Lib.hid (OWS.out.below hK)
          replace hb3 := below_keep hb3 hb3.size hK
          clear hK g0 g1 g2 g3
          have g0 : v12.cell? ⟨go, 0, none⟩ = some (.int .i64 s.n) := cell_of_row v12 _ 0 _ _ _ HG6.out
          have g1 : v12.cell? ⟨go, 1, none⟩ = some (.slice A m c) := cell_of_row v12 _ 1 _ _ _ HG6.out
          have g2 : v12.cell? ⟨go, 2, none⟩ = some (.slice none 0 0) := cell_of_row v12 _ 2 _ _ _ HG6.out
          have g3 : v12.cell? ⟨go, 3, none⟩ = some (.slice none 0 0) := cell_of_row v12 _ 3 _ _ _ HG6.out
          have hclI : (0 : Int) < (CL.length : Int) := by omega
          go_wp2_with (go_at_call 26; refine (clash_onn (onS s xs) HCL.out HMF.out HNN.out rfl rfl c A v12 (OWS.out.rd' HMF.out.symm shV_len)).mono ?_; rintro e v13 ⟨⟨AC, cC, rfl⟩, hK⟩)
          go_ret
          exact ⟨rfl, below_keep hb3 hb3.size hK⟩

set_option maxRecDepth 100000 in
set_option maxHeartbeats 16000000 in
theorem lawLoop_openq (s : Sv) (xs : List Int) (cp c1 c2 c3 : Nat) (AP A1 A2 A3 : Option Addr) (w : World)
    (r1 : Rd w w.heap.size A1 shV 4 s.shots) (r2 : Rd w w.heap.size A2 mkV 3 s.marks) (r3 : Rd w w.heap.size A3 shV 4 s.threads) (rp : Rd w w.heap.size AP inV 1 xs) (hok : svOk s = true) (hl : xs.length ≤ 40) {p q : Int} (hv : lvLoop s xs = ((p, q), 0)) (hp : p ≤ 0) (hq : ¬ 0 ≤ q) :
    Calls Try.prog 9 #[.agg #[.int .i64 s.n, .slice A1 s.shots.length c1, .slice A2 s.marks.length c2, .slice A3 s.threads.length c3], .slice AP xs.length cp] w fun e w' => e = .returned (.bool true) ∧ Below w.heap.size w w' := by
  have R1 := Lib.hid r1
  have R2 := Lib.hid r2
  have R3 := Lib.hid r3
  have RP := Lib.hid rp
  have HOK := Lib.hid hok
  have HV := Lib.hid hv
  obtain ⟨⟨n1, n2, n3, n4, n5⟩, _⟩ := svOk_spec hok
  have hlI : ¬ (40 : Int) < (xs.length : Int) := by omega
  obtain ⟨hlb, hD, hDo⟩ := loop_apart hok hv (.inr ⟨rfl, .inr (by omega)⟩)
  have HLB := Lib.hid hlb
  have HD := Lib.hid hD
  have HDO := Lib.hid hDo
  clear hlb hD hDo
  clear r1 r2 r3 rp hok hv
  go_enter Try.func9, Try.ntmps9
  go_upto_region 6 with (first | (go_at_call 35; refine (alive_any _).mono ?_; rintro e w1 ⟨rfl, hb1⟩; obtain ⟨hc1, hf1⟩ := bcell hb1; have hz1 := hb1.size; simp at hz1; have hlt : w.heap.size < w1.heap.size := by omega) | (go_at_call 36; (have hbA : Below w.heap.size w w1 := by (repeat' (first | (with_reducible exact Below.refl _ _) | (with_reducible refine Below.alloc ?_ ?_ _) | (with_reducible refine Below.drew ?_) | (with_reducible refine Below.drewN_ ?_ _) | (with_reducible refine Below.setCell ?_ ?_ _) | (with_reducible refine Below.setRow ?_ ?_ _) | (with_reducible refine Below.via ?_ (by with_reducible assumption) ?_) | go_size))); have hr := ready_any s c1 c2 c3 A1 A2 A3 w1 ((R1.out.below hbA).more hbA.size) ((R2.out.below hbA).more hbA.size) ((R3.out.below hbA).more hbA.size); rw [HOK.out] at hr; refine hr.mono ?_; rintro e w2 ⟨rfl, hb2⟩; clear hr; (have S : w2.heap[w.heap.size]? = some (.cells #[.int .i64 s.n, .slice A1 s.shots.length c1, .slice A2 s.marks.length c2, .slice A3 s.threads.length c3] 26 (0, 0)) := row_keep (row_keep (heap_alloc_new _ _) hb1) hb2); have HS := Lib.hid S; clear S))
  have hb3 : Below w.heap.size w w2 := by (repeat' (first | (with_reducible exact Below.refl _ _) | (with_reducible refine Below.alloc ?_ ?_ _) | (with_reducible refine Below.drew ?_) | (with_reducible refine Below.drewN_ ?_ _) | (with_reducible refine Below.setCell ?_ ?_ _) | (with_reducible refine Below.setRow ?_ ?_ _) | (with_reducible refine Below.via ?_ (by with_reducible assumption) ?_) | go_size))
  clear hb1 hb2 hbA hc1 hf1 hz1 hlt hlI
  obtain ⟨bz, hbz⟩ : ∃ b, decide ((40 : Int) < (xs.length : Int)) = b := ⟨_, rfl⟩
  rw [hbz]
  clear hbz
  have s0 : w2.cell? ⟨w.heap.size, 0, none⟩ = some (.int .i64 s.n) := cell_of_row w2 _ 0 _ _ _ HS.out
  have s1 : w2.cell? ⟨w.heap.size, 1, none⟩ = some (.slice A1 s.shots.length c1) := cell_of_row w2 _ 1 _ _ _ HS.out
  have s2 : w2.cell? ⟨w.heap.size, 2, none⟩ = some (.slice A2 s.marks.length c2) := cell_of_row w2 _ 2 _ _ _ HS.out
  have s3 : w2.cell? ⟨w.heap.size, 3, none⟩ = some (.slice A3 s.threads.length c3) := cell_of_row w2 _ 3 _ _ _ HS.out
  go_upto_region 7 with (go_at_call 24; refine (loop_as s xs HV.out cp c1 c2 c3 AP A1 A2 A3 w2 ((R1.out.below hb3).more hb3.size) ((R2.out.below hb3).more hb3.size) ((R3.out.below hb3).more hb3.size) ((RP.out.below hb3).more hb3.size) (by omega)).mono ?_; rintro e' wb ⟨rfl, hbb⟩)
  obtain ⟨v7, hw⟩ : ∃ v, wb.alloc (Obj.cells #[.int .i64 p, .int .i64 q] 36) = v := ⟨_, rfl⟩
  obtain ⟨gs, hbk⟩ : ∃ b, wb.heap.size = b := ⟨_, rfl⟩
  rw [hw, hbk]
  have hK : Below w2.heap.size w2 v7 := by rw [← hw]; exact hbb.alloc hbb.size _
  have Ya : v7.heap[gs]? = some (.cells #[.int .i64 p, .int .i64 q] 36 (0, 0)) := by rw [← hw, ← hbk]; exact heap_alloc_new _ _
  have Ygs := Lib.hid Ya
  replace HS := Lib.hid (row_keep HS.out hK)
  replace hb3 := below_keep hb3 hb3.size hK
  clear hw hbk hK Ya hbb s0 s1 s2 s3
  have p0 : v7.cell? ⟨gs, 0, none⟩ = some (.int .i64 p) := cell_of_row v7 _ 0 _ _ _ Ygs.out
  have p1 : v7.cell? ⟨gs, 1, none⟩ = some (.int .i64 q) := cell_of_row v7 _ 1 _ _ _ Ygs.out
  go_upto_region 9 with fail
  clear p0 p1
  obtain ⟨hlen, hpts⟩ := loopB_in HLB.out
  have HPT := Lib.hid hpts
  clear hpts
  have hw7 := (Array.getElem?_eq_some_iff.1 HS.out).1
  have hmm := @run_makeMap Try.prog
  go_upto_region 10 with fail
  clear hmm
  obtain ⟨v8, hw⟩ : ∃ v, v7.alloc (.map #[] 0) = v := ⟨_, rfl⟩
  obtain ⟨bm, hbk⟩ : ∃ b, v7.heap.size = b := ⟨_, rfl⟩
  rw [hw, hbk]
  have hK : Below v7.heap.size v7 v8 := by rw [← hw]; exact (Below.refl _ _).alloc (Nat.le_refl _) _
  have PM0 := Lib.hid (show PM v8 bm 0 (inP xs 0) by rw [← hw, ← hbk]; exact PM_made v7)
  have hwb : w.heap.size < bm := by rw [← hbk]; exact hw7
  replace HS := Lib.hid (row_keep HS.out hK)
  replace hb3 := below_keep hb3 hb3.size hK
  clear hw hbk hK Ygs hw7
  go_wp2
  go_loopw [63] (fun v63 W => ∃ k : Nat, k ≤ xs.length ∧ v63 = .int .i64 k ∧ Below w.heap.size w W ∧ W.heap[w.heap.size]? = some (.cells #[.int .i64 s.n, .slice A1 s.shots.length c1, .slice A2 s.marks.length c2, .slice A3 s.threads.length c3] 26 (0, 0)) ∧ PM W bm (2 * k) (inP xs k)) (fun i _ => xs.length - (intOf i).toNat)
  case atStart => exact ⟨0, by omega, rfl, hb3, HS.out, PM0.out⟩
  case round =>
    obtain ⟨k, hk, rfl, hb4, hs4, hpm⟩ := hrel
    have HS4 := Lib.hid hs4
    have PM4 := Lib.hid hpm
    clear hs4 hpm HS PM0 hb3
    by_cases hlt : k < xs.length
    · obtain ⟨⟨a1, a2⟩, b1, b2⟩ := HPT.out k hlt
      obtain ⟨bp, op, hAP, hbp, hcp⟩ := ((RP.out.below hb4).more hb4.size) (by omega)
      subst hAP
      have ha : xs[k]? = some (xs.getD k 0) := by rw [List.getD_eq_getElem?_getD, List.getElem?_eq_getElem hlt]; rfl
      have hm := Nat.mod_lt (k + 1) (show 0 < xs.length by omega)
      have hb : xs[(k + 1) % xs.length]? = some (nxI xs k) := by unfold nxI; rw [List.getD_eq_getElem?_getD, List.getElem?_eq_getElem hm]; rfl
      have e0 := hcp k _ ha 0 _ rfl
      have e1 := hcp _ _ hb 0 _ rfl
      simp only [Nat.add_zero, Nat.mul_one] at e0 e1
      obtain ⟨a, hea⟩ : ∃ a, xs.getD k 0 = a := ⟨_, rfl⟩
      obtain ⟨b, heb⟩ : ∃ b, nxI xs k = b := ⟨_, rfl⟩
      obtain ⟨j, hj⟩ : ∃ j, (k + 1) % xs.length = j := ⟨_, rfl⟩
      rw [hea] at e0 a1 a2
      rw [heb, hj] at e1
      rw [heb] at b1 b2
      rw [hj] at hm
      have hkI : (k : Int) < (xs.length : Int) := by omega
      have hjI : (j : Int) < (xs.length : Int) := by omega
      have hnz : ¬ (xs.length : Int) = 0 := by omega
      have wk1 : IntKind.i64.wrap ((k : Int) + 1) = (k : Int) + 1 := IntWalk.i64_in _ (by omega)
      have tj : ((k : Int) + 1).tmod (xs.length : Int) = (j : Int) := by rw [Int.tmod_eq_emod_of_nonneg (by omega), ← hj]; rfl
      have tj2 : ((k : Int) + 1) % (xs.length : Int) = (j : Int) := by rw [← hj]; rfl
      have HEA := Lib.hid hea
      have HEB := Lib.hid heb
      have aW := Lib.hid (wfI_of a1 a2 n2)
      have bW := Lib.hid (wfI_of b1 b2 n2)
      have HLT := Lib.hid hlt
      clear ha hb hcp hea heb hj a1 a2 b1 b2
      go_upto_region 14 with fail
      clear tj tj2 wk1 e0 e1 hkI hjI hnz
      obtain ⟨D, hD, hat⟩ := PM4.out
      have HDD := Lib.hid hD
      have HAT := Lib.hid hat
      clear hD hat
      have HT4 := Lib.hid (show 2 * k < maxLen by unfold maxLen; omega)
      have HT1 := Lib.hid (kP_of aW.out bW.out)
      have HT2 := Lib.hid (show plainElem (H := Unit) Try.prog 4 (.bool true) = some (.lit (.bool true), []) from plainElem_bool Try.underlying4 true)
      go_upto_region 15 with (at_mapUpdate; refine wpList_mapUpdate_own _ rfl _ _ _ 82 rfl 83 4 arrKd Try.underlying82 _ bm (2 * k) D rfl HDD.out HT4.out _ _ (kP a b) rfl rfl HT1.out (.lit (.bool true)) [] HT2.out ?_; intro w5 own5 g5; have own5H := Lib.hid own5; have g5H := Lib.hid g5; clear own5 g5)
      have P5 : Hid (PM w5 bm (2 * k + 1) (fun x y => inP xs k x y || (a == x && b == y))) := Lib.hid (PM.put (w := w) HAT.out HDD.out.isMap aW.out bW.out own5H.out)
      clear own5H
      clear HT4 HT1 HT2
      obtain ⟨D2, hD2, hat2⟩ := P5.out
      have HDD2 := Lib.hid hD2
      have HAT2 := Lib.hid hat2
      clear hD2 hat2
      have HT4 := Lib.hid (show 2 * k + 1 < maxLen by unfold maxLen; omega)
      have HT1 := Lib.hid (kP_of bW.out aW.out)
      have HT2 := Lib.hid (show plainElem (H := Unit) Try.prog 4 (.bool true) = some (.lit (.bool true), []) from plainElem_bool Try.underlying4 true)
      go_upto_region 16 with (at_mapUpdate; refine wpList_mapUpdate_own _ rfl _ _ _ 82 rfl 83 4 arrKd Try.underlying82 _ bm (2 * k + 1) D2 rfl HDD2.out HT4.out _ _ (kP b a) rfl rfl HT1.out (.lit (.bool true)) [] HT2.out ?_; intro w6 own6 g6; have own6H := Lib.hid own6; have g6H := Lib.hid g6; clear own6 g6)
      have P6 : Hid (PM w6 bm (2 * k + 1 + 1) (fun x y => (inP xs k x y || (a == x && b == y)) || (b == x && a == y))) := Lib.hid (PM.put (w := w) HAT2.out HDD2.out.isMap bW.out aW.out own6H.out)
      clear own6H
      clear HT4 HT1 HT2
      have hz5 := g5H.out.size
      have hz6 := g6H.out.size
      have hzb := PM4.out |> fun h => h.lt
      have hbw := hb4.size
      have X3 : Below w.heap.size w w6 := hb4.trans ((below_row g5H.out (by omega) (by omega)).trans (below_row g6H.out (by omega) (by omega)))
      have hws := (Array.getElem?_eq_some_iff.1 HS4.out).1
      have X2 : w6.heap[w.heap.size]? = some (.cells #[.int .i64 s.n, .slice A1 s.shots.length c1, .slice A2 s.marks.length c2, .slice A3 s.threads.length c3] 26 (0, 0)) := (g6H.out.block _ (by omega) (fun e => by injection e with e; omega)).trans ((g5H.out.block _ (by omega) (fun e => by injection e with e; omega)).trans HS4.out)
      have X1 : PM w6 bm (2 * (k + 1)) (inP xs (k + 1)) := by
        have h := P6.out
        rw [inP_two xs k HEA.out HEB.out] at h
        exact h
      have Z1 := Lib.hid X1
      have Z2 := Lib.hid X2
      have Z3 := Lib.hid X3
      clear X1 X2 X3 hz5 hz6 hzb hbw hws g5H g6H P5 P6 HDD HAT HDD2 HAT2
      go_wp2
      go_roundw
      case rel => exact ⟨k + 1, (by have := HLT.out; omega), by go_num, Z3.out, Z2.out, Z1.out⟩
      case measure => (have := HLT.out; simp [intOf] <;> omega)
    · obtain rfl : k = xs.length := by omega
      have hkk : ¬ ((xs.length : Nat) : Int) < (xs.length : Int) := by omega
      obtain ⟨v9, hv9⟩ : ∃ v, v = wr := ⟨_, rfl⟩
      subst hv9
      have s0 : v9.cell? ⟨w.heap.size, 0, none⟩ = some (.int .i64 s.n) := cell_of_row v9 _ 0 _ _ _ HS4.out
      go_upto_region 18 with fail
      obtain ⟨v10, hw⟩ : ∃ v, v9.alloc (.cells #[.int .i64 s.n, .slice none 0 0, .slice none 0 0, .slice none 0 0] 26) = v := ⟨_, rfl⟩
      obtain ⟨go, hbk⟩ : ∃ b, v9.heap.size = b := ⟨_, rfl⟩
      rw [hw, hbk]
      have hK : Below v9.heap.size v9 v10 := by rw [← hw]; exact (Below.refl _ _).alloc (Nat.le_refl _) _
      have Ya : v10.heap[go]? = some (.cells #[.int .i64 s.n, .slice none 0 0, .slice none 0 0, .slice none 0 0] 26 (0, 0)) := by rw [← hw, ← hbk]; exact heap_alloc_new _ _
      have HGO := Lib.hid Ya
      have hbg : bm < go := by rw [← hbk]; exact PM4.out.lt
      have hzg : go + 1 ≤ v10.heap.size := (Array.getElem?_eq_some_iff.1 Ya).1
      have HS5 := Lib.hid (row_keep HS4.out hK)
      have PM5 := Lib.hid (PM4.out.below hK)
      replace hb4 := below_keep hb4 hb4.size hK
      clear hw hbk hK Ya HS4 PM4 s0
      have s1 : v10.cell? ⟨w.heap.size, 1, none⟩ = some (.slice A1 s.shots.length c1) := cell_of_row v10 _ 1 _ _ _ HS5.out
      obtain ⟨i1, hi1, hz11, hz12, hz13⟩ := info_parts infoShot
      have I1 := Lib.hid (And.intro hi1 (And.intro hz11 (And.intro hz12 hz13)))
      clear hi1 hz11 hz12 hz13 hkk
      go_upto_region 18 with fail
      go_wp2
      go_loopw [91] (fun v91 W => ∃ k : Nat, k ≤ s.shots.length ∧ v91 = .int .i64 k ∧ Below w.heap.size w W ∧ W.heap[w.heap.size]? = some (.cells #[.int .i64 s.n, .slice A1 s.shots.length c1, .slice A2 s.marks.length c2, .slice A3 s.threads.length c3] 26 (0, 0)) ∧ PM W bm (2 * xs.length) (inP xs xs.length) ∧ ∃ A m c, W.heap[go]? = some (.cells #[.int .i64 s.n, .slice A m c, .slice none 0 0, .slice none 0 0] 26 (0, 0)) ∧ Own W (go + 1) 78 (.slice A m c) shV 4 ((s.shots.take k).filter fun x => inP xs xs.length x.f x.t)) (fun i _ => s.shots.length - (intOf i).toNat)
      case atStart => exact ⟨0, by omega, rfl, hb4, HS5.out, PM5.out, none, 0, 0, HGO.out, by rw [List.take_zero]; exact Own.nil_ _ _ _ _ _⟩
      case round =>
        obtain ⟨k, hk, rfl, hb5, hs5, hpm5, A, m, c, hgo5, how5⟩ := hrel
        have HS6 := Lib.hid hs5
        have PM6 := Lib.hid hpm5
        have HG6 := Lib.hid hgo5
        have OW6 := Lib.hid how5
        clear hs5 hpm5 hgo5 how5 HS5 PM5 HGO hb4 s1
        by_cases hlt : k < s.shots.length
        · have hxk := (svOk_spec HOK.out).2.1 _ (List.getElem_mem hlt)
          obtain ⟨b1, o1, hA1, hb1, hc1⟩ := ((R1.out.below hb5).more hb5.size) (by omega)
          subst hA1
          have hget : s.shots[k]? = some s.shots[k] := List.getElem?_eq_getElem hlt
          obtain ⟨x, hx⟩ : ∃ x, s.shots[k] = x := ⟨_, rfl⟩
          rw [hx] at hget hxk
          have hxb := shOk_spec hxk
          have e0 := hc1 k _ hget 0 _ rfl
          have e1 := hc1 k _ hget 1 _ rfl
          have e2 := hc1 k _ hget 2 _ rfl
          have e3 := hc1 k _ hget 3 _ rfl
          simp only [Nat.add_zero] at e0
          have hkI : (k : Int) < (s.shots.length : Int) := by omega
          have fW := Lib.hid (wfI_of hxb.1 hxb.2.1 n2)
          have tW := Lib.hid (wfI_of hxb.2.2.1 hxb.2.2.2.1 n2)
          have HFK : Hid (((s.shots.take (k + 1)).filter fun x => inP xs xs.length x.f x.t) = if inP xs xs.length x.f x.t = true then ((s.shots.take k).filter fun x => inP xs xs.length x.f x.t) ++ [x] else ((s.shots.take k).filter fun x => inP xs xs.length x.f x.t)) := Lib.hid (by
            rw [List.take_add_one, List.filter_append, hget]
            simp only [Option.toList_some, List.filter_cons, List.filter_nil]
            cases inP xs xs.length x.f x.t <;> simp)
          have hml : ((s.shots.take k).filter fun x => inP xs xs.length x.f x.t).length ≤ 60 := Nat.le_trans (List.length_filter_le _ _) (Nat.le_trans (List.length_take_le _ _) (by omega))
          have HLT := Lib.hid hlt
          clear hc1 hget hx hxk hxb
          go_upto_region 21 with fail
          obtain ⟨w5, hw⟩ : ∃ v, wr.alloc (.cells #[.int .i64 x.f, .int .i64 x.t, .int .i64 x.lo, .int .i64 x.hi] 78) = v := ⟨_, rfl⟩
          obtain ⟨gx, hbk⟩ : ∃ b, wr.heap.size = b := ⟨_, rfl⟩
          rw [hw, hbk]
          have hK : Below wr.heap.size wr w5 := by rw [← hw]; exact (Below.refl _ _).alloc (Nat.le_refl _) _
          have Ya : w5.heap[gx]? = some (.cells #[.int .i64 x.f, .int .i64 x.t, .int .i64 x.lo, .int .i64 x.hi] 78 (0, 0)) := by rw [← hw, ← hbk]; exact heap_alloc_new _ _
          have YX := Lib.hid Ya
          have HS7 := Lib.hid (row_keep HS6.out hK)
          have PM7 := Lib.hid (PM6.out.below hK)
          have HG7 := Lib.hid (row_keep HG6.out hK)
          have OW7 := Lib.hid (OW6.out.below hK)
          have hb6 := below_keep hb5 hb5.size hK
          clear hw hbk hK Ya e0 e1 e2 e3 HS6 PM6 HG6 OW6 hb5 hkI
          have x0 : w5.cell? ⟨gx, 0, none⟩ = some (.int .i64 x.f) := cell_of_row w5 _ 0 _ _ _ YX.out
          have x1 : w5.cell? ⟨gx, 1, none⟩ = some (.int .i64 x.t) := cell_of_row w5 _ 1 _ _ _ YX.out
          have x2 : w5.cell? ⟨gx, 2, none⟩ = some (.int .i64 x.lo) := cell_of_row w5 _ 2 _ _ _ YX.out
          have x3 : w5.cell? ⟨gx, 3, none⟩ = some (.int .i64 x.hi) := cell_of_row w5 _ 3 _ _ _ YX.out
          have hlook := PM7.out.look fW.out tW.out
          have m1 : w5.cell? ⟨go, 1, none⟩ = some (.slice A m c) := cell_of_row w5 _ 1 _ _ _ HG7.out
          cases hib : inP xs xs.length x.f x.t
          · rw [hib] at hlook
            have HFN : Hid (((s.shots.take (k + 1)).filter fun x => inP xs xs.length x.f x.t) = ((s.shots.take k).filter fun x => inP xs xs.length x.f x.t)) := Lib.hid (by rw [HFK.out, hib]; rfl)
            clear hib HFK
            go_wp2
            go_roundw
            case rel => exact ⟨k + 1, (by have := HLT.out; omega), by go_num, hb6, HS7.out, PM7.out, A, m, c, HG7.out, by rw [HFN.out]; exact OW7.out⟩
            case measure => (have := HLT.out; simp [intOf] <;> omega)
          · rw [hib] at hlook
            have HFN : Hid (((s.shots.take (k + 1)).filter fun x => inP xs xs.length x.f x.t) = ((s.shots.take k).filter fun x => inP xs xs.length x.f x.t) ++ [x]) := Lib.hid (by rw [HFK.out, hib]; rfl)
            clear hib HFK
            obtain ⟨F, hF⟩ : ∃ F, ((s.shots.take k).filter fun x => inP xs xs.length x.f x.t) = F := ⟨_, rfl⟩
            rw [hF] at hml OW7 HFN
            clear hF
            obtain ⟨A', c', hfm⟩ := OW7.out.form
            have hmF := slice_len_eq hfm
            clear hfm A' c'
            have HMF := Lib.hid hmF
            clear hmF
            have hgz : go < w5.heap.size := (Array.getElem?_eq_some_iff.1 HG7.out).1
            have tok : True := trivial
            go_upto_region 23 with (at_builtin; have _t := tok; refine wpList_append_rd rfl (.tmp 103) (.tmp 105) 22 rfl i1 _ 32 Try.underlying22 I1.out.1 I1.out.2.1 I1.out.2.2.1 I1.out.2.2.2 rfl (by omega) shV_len shV_one rfl (OW7.out.below ((Below.refl _ _).alloc (Nat.le_refl _) _)) rfl rfl (Rd.one _ x #[.int .i64 x.f, .int .i64 x.t, .int .i64 x.lo, .int .i64 x.hi] 78 rfl) (by simp; omega) (by omega) (by simp; omega) ?_; intro v' w6 ho6 hg6 hat6; clear tok _t; obtain ⟨AV, cV, hV⟩ := ho6.form; subst hV; rw [show (F ++ [x]).length = m + 1 by rw [HMF.out]; simp] at ho6 ⊢; (have hn6 : ∀ b, b < w5.heap.size → b ≤ go → w6.heap[b]? = w5.heap[b]? := fun b h1 h2 => (hg6.block b (by simp; omega) (fun e => by have := (OW7.out.lt b e.symm).1; omega)).trans (Below.heap_alloc _ _ _ h1)); (have z0 := frozen_of_row w6 go 1 _ _ ((hn6 go hgz (Nat.le_refl _)).trans HG7.out)); (have z1 := cell_of_row w6 go 1 _ _ _ ((hn6 go hgz (Nat.le_refl _)).trans HG7.out)); simp only [List.getElem?_toArray, List.getElem?_cons_zero, List.getElem?_cons_succ] at z1; have HO6 := Lib.hid ho6; have HGW6 := Lib.hid hg6; have HN6 := Lib.hid hn6; clear ho6 hg6 hat6 hn6)
            obtain ⟨w7, hw⟩ : ∃ v, w6.setCell ⟨go, 1, none⟩ (.slice AV (m + 1) cV) = v := ⟨_, rfl⟩
            rw [hw]
            have hnn : ∀ b, b < w5.heap.size → b < go → w7.heap[b]? = w5.heap[b]? := fun b h1 h2 => by
              rw [← hw]
              exact (Below.heap_setCell _ _ _ _ (by dsimp only; omega)).trans (HN6.out b h1 (by omega))
            have hz7 : w5.heap.size ≤ w7.heap.size := by rw [← hw]; have := HGW6.out.size; simp at this ⊢; omega
            have hw5 := hb6.size
            have hws := (Array.getElem?_eq_some_iff.1 HS7.out).1
            have X0 : w7.heap[go]? = some (.cells #[.int .i64 s.n, .slice AV (m + 1) cV, .slice none 0 0, .slice none 0 0] 26 (0, 0)) := by
              rw [← hw, heap_setCell_same w6 go 1 _ _ _ ((HN6.out go hgz (Nat.le_refl _)).trans HG7.out)]
              rfl
            have X1 := (hnn _ hws (by omega)).trans HS7.out
            have X2 := PM7.out.local_ (hnn bm PM7.out.lt hbg)
            have X3 : Own w7 (go + 1) 78 (.slice AV (m + 1) cV) shV 4 (F ++ [x]) := by rw [← hw]; exact HO6.out.set_ (by dsimp only; omega) _
            have X4 : Below w.heap.size w w7 := hb6.trans ⟨by rw [← hw]; exact HGW6.out.os, by rw [← hw]; exact HGW6.out.tape, by rw [← hw]; exact HGW6.out.output, hz7, fun b hb => hnn b (by omega) (by omega)⟩
            have Z0 := Lib.hid X0
            have Z1 := Lib.hid X1
            have Z2 := Lib.hid X2
            have Z3 := Lib.hid X3
            have Z4 := Lib.hid X4
            clear hw hnn hz7 hw5 hws X0 X1 X2 X3 X4 HN6 HO6 HGW6 hlook x0 x1 x2 x3 m1 z0 z1
            go_wp2
            go_roundw
            case rel => exact ⟨k + 1, (by have := HLT.out; omega), by go_num, Z4.out, Z1.out, Z2.out, AV, m + 1, cV, Z0.out, by rw [HFN.out]; exact Z3.out⟩
            case measure => (have := HLT.out; simp [intOf] <;> omega)
        · obtain rfl : k = s.shots.length := by omega
          rw [List.take_length] at OW6
          have hkk : ¬ ((s.shots.length : Nat) : Int) < (s.shots.length : Int) := by omega
          obtain ⟨w8, hw8⟩ : ∃ v, v = wr := ⟨_, rfl⟩
          subst hw8
          obtain ⟨A', c', hfm⟩ := OW6.out.form
          have hmF := slice_len_eq hfm
          clear hfm A' c'
          have HMF := Lib.hid (show (onS s xs).shots.length = m from hmF.symm)
          have HNN : Hid ((onS s xs).n = s.n) := Lib.hid rfl
          have OWS := Lib.hid (show Own w8 (go + 1) 78 (.slice A m c) shV 4 (onS s xs).shots from OW6.out)
          clear hmF OW6
          obtain ⟨CL, hcl, hclp, _⟩ := named_vals (onS_ok HOK.out xs) HDO.out
          have HCL := Lib.hid hcl
          have HH := Lib.hid (lvHeights_apart HOK.out HD.out)
          have HHO := Lib.hid (lvHeights_apart (onS_ok HOK.out xs) HDO.out)
          clear hcl
          replace hb3 := hb5
          have s0 : w8.cell? ⟨w.heap.size, 0, none⟩ = some (.int .i64 s.n) := cell_of_row w8 _ 0 _ _ _ HS6.out
          have s1 : w8.cell? ⟨w.heap.size, 1, none⟩ = some (.slice A1 s.shots.length c1) := cell_of_row w8 _ 1 _ _ _ HS6.out
          have s2 : w8.cell? ⟨w.heap.size, 2, none⟩ = some (.slice A2 s.marks.length c2) := cell_of_row w8 _ 2 _ _ _ HS6.out
          have s3 : w8.cell? ⟨w.heap.size, 3, none⟩ = some (.slice A3 s.threads.length c3) := cell_of_row w8 _ 3 _ _ _ HS6.out
          go_upto_region 25 with (go_at_call 16; refine (heights_as s c1 c2 c3 A1 A2 A3 w8 ((R1.out.below hb3).more hb3.size) ((R2.out.below hb3).more hb3.size) ((R3.out.below hb3).more hb3.size) HH.out).mono ?_; rintro e v11 ⟨⟨AH, cH, rfl, qh⟩, hK⟩)
          replace HG6 := Lib.hid (row_keep HG6.out hK)
          replace OWS := Lib.hid (OWS.out.below hK)
          replace hb3 := below_keep hb3 hb3.size hK
          clear hK qh s0 s1 s2 s3 hkk
          have g0 : v11.cell? ⟨go, 0, none⟩ = some (.int .i64 s.n) := cell_of_row v11 _ 0 _ _ _ HG6.out
          have g1 : v11.cell? ⟨go, 1, none⟩ = some (.slice A m c) := cell_of_row v11 _ 1 _ _ _ HG6.out
          have g2 : v11.cell? ⟨go, 2, none⟩ = some (.slice none 0 0) := cell_of_row v11 _ 2 _ _ _ HG6.out
          have g3 : v11.cell? ⟨go, 3, none⟩ = some (.slice none 0 0) := cell_of_row v11 _ 3 _ _ _ HG6.out
          go_upto_region 26 with (go_at_call 16; refine (heights_on (onS s xs) HHO.out HMF.out HNN.out rfl rfl c A v11 (OWS.out.rd' HMF.out.symm shV_len)).mono ?_; rintro e v12 ⟨⟨AM, cM, rfl⟩, hK⟩)
          replace HG6 := Lib.hid (row_keep HG6.out hK)
          replace OWS := Lib.hid (OWS.out.below hK)
          replace hb3 := below_keep hb3 hb3.size hK
          clear hK g0 g1 g2 g3
          have g0 : v12.cell? ⟨go, 0, none⟩ = some (.int .i64 s.n) := cell_of_row v12 _ 0 _ _ _ HG6.out
          have g1 : v12.cell? ⟨go, 1, none⟩ = some (.slice A m c) := cell_of_row v12 _ 1 _ _ _ HG6.out
          have g2 : v12.cell? ⟨go, 2, none⟩ = some (.slice none 0 0) := cell_of_row v12 _ 2 _ _ _ HG6.out
          have g3 : v12.cell? ⟨go, 3, none⟩ = some (.slice none 0 0) := cell_of_row v12 _ 3 _ _ _ HG6.out
          have hclI : (0 : Int) < (CL.length : Int) := by omega
          go_wp2_with (go_at_call 26; refine (clash_onn (onS s xs) HCL.out HMF.out HNN.out rfl rfl c A v12 (OWS.out.rd' HMF.out.symm shV_len)).mono ?_; rintro e v13 ⟨⟨AC, cC, rfl⟩, hK⟩)
          go_ret
          exact ⟨rfl, below_keep hb3 hb3.size hK⟩

theorem lawLoop_any (s : Sv) (xs : List Int) (cp c1 c2 c3 : Nat) (AP A1 A2 A3 : Option Addr) (w : World)
    (r1 : Rd w w.heap.size A1 shV 4 s.shots) (r2 : Rd w w.heap.size A2 mkV 3 s.marks) (r3 : Rd w w.heap.size A3 shV 4 s.threads) (rp : Rd w w.heap.size AP inV 1 xs) :
    Calls Try.prog 9 #[.agg #[.int .i64 s.n, .slice A1 s.shots.length c1, .slice A2 s.marks.length c2, .slice A3 s.threads.length c3], .slice AP xs.length cp] w fun e w' => e = .returned (.bool true) ∧ Below w.heap.size w w' := by
  cases hok : svOk s
  · exact lawLoop_bad s xs cp c1 c2 c3 AP A1 A2 A3 w r1 r2 r3 rp hok
  by_cases hl : 40 < xs.length
  · exact lawLoop_long s xs cp c1 c2 c3 AP A1 A2 A3 w r1 r2 r3 rp hok hl
  have hl' : xs.length ≤ 40 := by omega
  obtain ⟨⟨⟨p, q⟩, e⟩, hv⟩ : ∃ r, lvLoop s xs = r := ⟨_, rfl⟩
  by_cases h0 : e = 0
  · subst h0
    by_cases hp : p ≤ 0
    · by_cases hq : 0 ≤ q
      · exact lawLoop_closed s xs cp c1 c2 c3 AP A1 A2 A3 w r1 r2 r3 rp hok hl' hv hp hq
      · exact lawLoop_openq s xs cp c1 c2 c3 AP A1 A2 A3 w r1 r2 r3 rp hok hl' hv hp hq
    · exact lawLoop_openp s xs cp c1 c2 c3 AP A1 A2 A3 w r1 r2 r3 rp hok hl' hv hp
  · by_cases h1 : e = 11
    · subst h1
      exact lawLoop_open11 s xs cp c1 c2 c3 AP A1 A2 A3 w r1 r2 r3 rp hok hl' hv
    · exact lawLoop_err s xs cp c1 c2 c3 AP A1 A2 A3 w r1 r2 r3 rp hok hl' hv h0 h1

end Go.Proofs.Ytaoonfmcimkmhaa
