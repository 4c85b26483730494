/- The law LevelNamed answers true of every survey that reads as plain data, and of any byte. Condition: the slices read below the heap's end. -/
import Derived.Test.YthlpomjdifnnkaaAlive
import Derived.Test.YthlpomjdifnnkaaLOnly
set_option linter.unusedVariables false
set_option linter.unusedSimpArgs false
namespace Go.Proofs.Ythlpomjdifnnkaa
open Go.RowKit

theorem clash_as (s : Sv) (c1 c2 c3 : Nat) (A1 A2 A3 : Option Addr) (w : World)
    (r1 : Rd w w.heap.size A1 shV 4 s.shots) (r2 : Rd w w.heap.size A2 mkV 3 s.marks) (r3 : Rd w w.heap.size A3 shV 4 s.threads) {L : List Int} {E : Int} (h : lvClash s = (L, E)) :
    Calls Try.prog 26 #[.agg #[.int .i64 s.n, .slice A1 s.shots.length c1, .slice A2 s.marks.length c2, .slice A3 s.threads.length c3]] w fun e w' =>
      (∃ A c, e = .returned (.tuple #[.slice A L.length c, .int .i64 E]) ∧ Rd w' w'.heap.size A inV 1 L) ∧ Below w.heap.size w w' := by
  have h1 := lclash_any s c1 c2 c3 A1 A2 A3 w r1 r2 r3
  rw [h] at h1
  exact h1
theorem clash_cap (s : Sv) (c1 c2 c3 : Nat) (A1 A2 A3 : Option Addr) (w : World)
    (r1 : Rd w w.heap.size A1 shV 4 s.shots) (r2 : Rd w w.heap.size A2 mkV 3 s.marks) (r3 : Rd w w.heap.size A3 shV 4 s.threads) (hok : svOk s = true) (hf : fitB s (fun _ => false) = false) {L : List Int} {E : Int} (h : lvClash s = (L, E)) :
    Calls Try.prog 26 #[.agg #[.int .i64 s.n, .slice A1 s.shots.length c1, .slice A2 s.marks.length c2, .slice A3 s.threads.length c3]] w fun e w' =>
      (∃ A c, e = .returned (.tuple #[.slice A L.length c, .int .i64 E]) ∧ L.length ≤ c ∧ Rd w' w'.heap.size A inV 1 L) ∧ Below w.heap.size w w' := by
  have h1 := lclash_someC s c1 c2 c3 A1 A2 A3 w r1 r2 r3 hok hf
  rw [h] at h1
  exact h1
theorem rd_take {α : Type} {w : World} {B : Nat} {A : Option Addr} {enc : α → List Value} {sz : Nat} {l : List α} (h : Rd w B A enc sz l) (k : Nat) : Rd w B A enc sz (l.take k) := fun hl => by
  obtain ⟨b, o, hA, hb, hc⟩ := h (by rw [List.length_take] at hl; omega)
  exact ⟨b, o, hA, hb, fun i x hx => hc i x (by rw [List.getElem?_take] at hx; split at hx; exact hx; cases hx)⟩
theorem rd_drop {α : Type} {w : World} {B b o : Nat} {enc : α → List Value} {sz : Nat} {l : List α} (h : Rd w B (some ⟨b, o, none⟩) enc sz l) (k : Nat) : Rd w B (some ⟨b, o + k * sz, none⟩) enc sz (l.drop k) := fun hl => by
  obtain ⟨b', o', hA, hb, hc⟩ := h (by rw [List.length_drop] at hl; omega)
  injection hA with hA
  injection hA with h1 h2 h3
  subst h1 h2
  refine ⟨b, o + k * sz, rfl, hb, fun i x hx j v hv => ?_⟩
  have h4 := hc (k + i) x (by rw [List.getElem?_drop] at hx; exact hx) j v hv
  rw [show o + k * sz + i * sz + j = o + (k + i) * sz + j by rw [Nat.add_mul]; omega]
  exact h4
theorem rd_nil {α : Type} {w : World} {B : Nat} {A : Option Addr} {enc : α → List Value} {sz : Nat} {l : List α} (h : l.length = 0) : Rd w B A enc sz l := fun hl => by omega
/-- The closure, of a list whose length has a name. -/
theorem only_anyN (s : Sv) (l : List Int) {n : Nat} (hn : l.length = n) (gs cl c1 c2 c3 : Nat) (AL A1 A2 A3 : Option Addr) (w : World)
    (HS : w.heap[gs]? = some (.cells #[.int .i64 s.n, .slice A1 s.shots.length c1, .slice A2 s.marks.length c2, .slice A3 s.threads.length c3] 26 (0, 0))) (rl : Rd w w.heap.size AL inV 1 l)
    (r1 : Rd w w.heap.size A1 shV 4 s.shots) (r2 : Rd w w.heap.size A2 mkV 3 s.marks) (l1 : s.shots.length ≤ 100) (l2 : s.marks.length ≤ 100) (l3 : l.length ≤ 1000)
    (hl : ∀ k ∈ l, 0 ≤ k ∧ k < (s.shots.length : Int) + (s.marks.length : Int)) :
    Calls Try.prog 42 #[.slice AL n cl, .pointer (some ⟨gs, 0, none⟩)] w fun e w' => (∃ B1 B2 d1 d2, e = .returned (.agg #[.int .i64 s.n, .slice B1 (onSh s l).length d1, .slice B2 (onMk s l).length d2, .slice none 0 0]) ∧
      Rd w' w'.heap.size B1 shV 4 (onSh s l) ∧ Rd w' w'.heap.size B2 mkV 3 (onMk s l)) ∧ Below w.heap.size w w' := by
  rw [← hn]
  exact only_any s l gs cl c1 c2 c3 AL A1 A2 A3 w HS rl r1 r2 l1 l2 l3 hl
/-- Heights of the survey that the closure returns. -/
theorem heights_only (s : Sv) (l : List Int) (d1 d2 : Nat) (B1 B2 : Option Addr) (w : World)
    (r1 : Rd w w.heap.size B1 shV 4 (onSh s l)) (r2 : Rd w w.heap.size B2 mkV 3 (onMk s l)) {L : List (Int × Int)} {E : Int} (h : lvHeights (onlyS s l) = (L, E)) :
    Calls Try.prog 16 #[.agg #[.int .i64 s.n, .slice B1 (onSh s l).length d1, .slice B2 (onMk s l).length d2, .slice none 0 0]] w fun e w' =>
      (∃ A c, e = .returned (.tuple #[.slice A L.length c, .int .i64 E]) ∧ Rd w' w'.heap.size A spV 2 L) ∧ Below w.heap.size w w' :=
  heights_as (onlyS s l) d1 d2 0 B1 B2 none w r1 r2 (fun h => by cases h) h

set_option maxRecDepth 100000 in
set_option maxHeartbeats 8000000 in
theorem lawNamed_bad (s : Sv) (c : Int) (c1 c2 c3 : Nat) (A1 A2 A3 : Option Addr) (w : World)
    (r1 : Rd w w.heap.size A1 shV 4 s.shots) (r2 : Rd w w.heap.size A2 mkV 3 s.marks) (r3 : Rd w w.heap.size A3 shV 4 s.threads) (hok : svOk s = false) :
    Calls Try.prog 8 #[.agg #[.int .i64 s.n, .slice A1 s.shots.length c1, .slice A2 s.marks.length c2, .slice A3 s.threads.length c3], .int .u8 c] w fun e w' => e = .returned (.bool true) ∧ Below w.heap.size w w' := by
  have R1 := Lib.hid r1
  have R2 := Lib.hid r2
  have R3 := Lib.hid r3
  have HOK := Lib.hid hok
  clear r1 r2 r3 hok
  go_enter Try.func8, Try.ntmps8
  go_wp2_with (first | (go_at_call 35; refine (alive_any _).mono ?_; rintro e w1 ⟨rfl, hb1⟩; obtain ⟨hc1, hf1⟩ := bcell hb1; have hz1 := hb1.size; simp at hz1; have hlt : w.heap.size < w1.heap.size := by omega) | (go_at_call 36; (have hbA : Below w.heap.size w w1 := by (repeat' (first | (with_reducible exact Below.refl _ _) | (with_reducible refine Below.alloc ?_ ?_ _) | (with_reducible refine Below.drew ?_) | (with_reducible refine Below.drewN_ ?_ _) | (with_reducible refine Below.setCell ?_ ?_ _) | (with_reducible refine Below.setRow ?_ ?_ _) | (with_reducible refine Below.via ?_ (by with_reducible assumption) ?_) | go_size))); have hr := ready_any s c1 c2 c3 A1 A2 A3 w1 ((R1.out.below hbA).more hbA.size) ((R2.out.below hbA).more hbA.size) ((R3.out.below hbA).more hbA.size); rw [HOK.out] at hr; refine hr.mono ?_; rintro e w2 ⟨rfl, hb2⟩; clear hr))
  go_ret
  exact ⟨rfl, by (repeat' (first | (with_reducible exact Below.refl _ _) | (with_reducible refine Below.alloc ?_ ?_ _) | (with_reducible refine Below.drew ?_) | (with_reducible refine Below.drewN_ ?_ _) | (with_reducible refine Below.setCell ?_ ?_ _) | (with_reducible refine Below.setRow ?_ ?_ _) | (with_reducible refine Below.via ?_ (by with_reducible assumption) ?_) | go_size))⟩

set_option maxRecDepth 100000 in
set_option maxHeartbeats 8000000 in
theorem lawNamed_fit (s : Sv) (c : Int) (c1 c2 c3 : Nat) (A1 A2 A3 : Option Addr) (w : World)
    (r1 : Rd w w.heap.size A1 shV 4 s.shots) (r2 : Rd w w.heap.size A2 mkV 3 s.marks) (r3 : Rd w w.heap.size A3 shV 4 s.threads) (hok : svOk s = true) (hf : (svD s).2 = true) :
    Calls Try.prog 8 #[.agg #[.int .i64 s.n, .slice A1 s.shots.length c1, .slice A2 s.marks.length c2, .slice A3 s.threads.length c3], .int .u8 c] w fun e w' => e = .returned (.bool true) ∧ Below w.heap.size w w' := by
  have R1 := Lib.hid r1
  have R2 := Lib.hid r2
  have R3 := Lib.hid r3
  have HOK := Lib.hid hok
  have H5 := Lib.hid (lvHeights_fit hok hf)
  have H6 := Lib.hid (lvClash_none hok hf)
  clear r1 r2 r3 hok hf
  go_enter Try.func8, Try.ntmps8
  go_upto_region 6 with (first | (go_at_call 35; refine (alive_any _).mono ?_; rintro e w1 ⟨rfl, hb1⟩; obtain ⟨hc1, hf1⟩ := bcell hb1; have hz1 := hb1.size; simp at hz1; have hlt : w.heap.size < w1.heap.size := by omega) | (go_at_call 36; (have hbA : Below w.heap.size w w1 := by (repeat' (first | (with_reducible exact Below.refl _ _) | (with_reducible refine Below.alloc ?_ ?_ _) | (with_reducible refine Below.drew ?_) | (with_reducible refine Below.drewN_ ?_ _) | (with_reducible refine Below.setCell ?_ ?_ _) | (with_reducible refine Below.setRow ?_ ?_ _) | (with_reducible refine Below.via ?_ (by with_reducible assumption) ?_) | go_size))); have hr := ready_any s c1 c2 c3 A1 A2 A3 w1 ((R1.out.below hbA).more hbA.size) ((R2.out.below hbA).more hbA.size) ((R3.out.below hbA).more hbA.size); rw [HOK.out] at hr; refine hr.mono ?_; rintro e w2 ⟨rfl, hb2⟩; clear hr))
  have hzz := hb2.size
  have hb3 : Below w.heap.size w w2 := by (repeat' (first | (with_reducible exact Below.refl _ _) | (with_reducible refine Below.alloc ?_ ?_ _) | (with_reducible refine Below.drew ?_) | (with_reducible refine Below.drewN_ ?_ _) | (with_reducible refine Below.setCell ?_ ?_ _) | (with_reducible refine Below.setRow ?_ ?_ _) | (with_reducible refine Below.via ?_ (by with_reducible assumption) ?_) | go_size))
  have hws : w.heap.size < w2.heap.size := by omega
  have S : w2.heap[w.heap.size]? = some (.cells #[.int .i64 s.n, .slice A1 s.shots.length c1, .slice A2 s.marks.length c2, .slice A3 s.threads.length c3] 26 (0, 0)) := row_keep (row_keep (heap_alloc_new _ _) hb1) hb2
  have HS := Lib.hid S
  clear S hb1 hb2 hbA hc1 hf1 hz1 hlt hzz hws
  have s0 : w2.cell? ⟨w.heap.size, 0, none⟩ = some (.int .i64 s.n) := cell_of_row w2 _ 0 _ _ _ HS.out
  have s1 : w2.cell? ⟨w.heap.size, 1, none⟩ = some (.slice A1 s.shots.length c1) := cell_of_row w2 _ 1 _ _ _ HS.out
  have s2 : w2.cell? ⟨w.heap.size, 2, none⟩ = some (.slice A2 s.marks.length c2) := cell_of_row w2 _ 2 _ _ _ HS.out
  have s3 : w2.cell? ⟨w.heap.size, 3, none⟩ = some (.slice A3 s.threads.length c3) := cell_of_row w2 _ 3 _ _ _ HS.out
  go_upto_region 7 with (go_at_call 16; refine (heights_as s c1 c2 c3 A1 A2 A3 w2 ((R1.out.below hb3).more hb3.size) ((R2.out.below hb3).more hb3.size) ((R3.out.below hb3).more hb3.size) H5.out).mono ?_; rintro e v6 ⟨⟨AH, cH, rfl, qh⟩, hK⟩)
  replace HS := Lib.hid (row_keep HS.out hK)
  replace hb3 := below_keep hb3 hb3.size hK
  clear hK qh s0 s1 s2 s3
  have s0 : v6.cell? ⟨w.heap.size, 0, none⟩ = some (.int .i64 s.n) := cell_of_row v6 _ 0 _ _ _ HS.out
  have s1 : v6.cell? ⟨w.heap.size, 1, none⟩ = some (.slice A1 s.shots.length c1) := cell_of_row v6 _ 1 _ _ _ HS.out
  have s2 : v6.cell? ⟨w.heap.size, 2, none⟩ = some (.slice A2 s.marks.length c2) := cell_of_row v6 _ 2 _ _ _ HS.out
  have s3 : v6.cell? ⟨w.heap.size, 3, none⟩ = some (.slice A3 s.threads.length c3) := cell_of_row v6 _ 3 _ _ _ HS.out
  go_upto_region 8 with (go_at_call 26; refine (clash_as s c1 c2 c3 A1 A2 A3 v6 ((R1.out.below hb3).more hb3.size) ((R2.out.below hb3).more hb3.size) ((R3.out.below hb3).more hb3.size) H6.out).mono ?_; rintro e v7 ⟨⟨AL, cL, rfl, ql⟩, hK⟩)
  have QL := Lib.hid ql
  replace HS := Lib.hid (row_keep HS.out hK)
  replace hb3 := below_keep hb3 hb3.size hK
  clear hK ql s0 s1 s2 s3
  go_wp2
  go_ret
  exact ⟨rfl, hb3⟩

set_option maxRecDepth 100000 in
set_option maxHeartbeats 8000000 in
theorem lawNamed_apart (s : Sv) (c : Int) (c1 c2 c3 : Nat) (A1 A2 A3 : Option Addr) (w : World)
    (r1 : Rd w w.heap.size A1 shV 4 s.shots) (r2 : Rd w w.heap.size A2 mkV 3 s.marks) (r3 : Rd w w.heap.size A3 shV 4 s.threads) (hok : svOk s = true) (hf : (svD s).2 = false) (hc : 0 ≤ c ∧ c ≤ 255) :
    Calls Try.prog 8 #[.agg #[.int .i64 s.n, .slice A1 s.shots.length c1, .slice A2 s.marks.length c2, .slice A3 s.threads.length c3], .int .u8 c] w fun e w' => e = .returned (.bool true) ∧ Below w.heap.size w w' := by
  have R1 := Lib.hid r1
  have R2 := Lib.hid r2
  have R3 := Lib.hid r3
  have HOK := Lib.hid hok
  have H5 := Lib.hid (lvHeights_apart hok hf)
  obtain ⟨CL, hcl, hpos, h80, hr, hsort, hE, hFew⟩ := named_vals hok hf
  have H6 := Lib.hid hcl
  have HR := Lib.hid hr
  have HSO := Lib.hid hsort
  have HE := Lib.hid hE
  have HFew := Lib.hid hFew
  obtain ⟨⟨_, _, n3, n4, n5⟩, _⟩ := svOk_spec hok
  have HF0 := Lib.hid (show fitB s (fun _ => false) = false from hf)
  clear r1 r2 r3 hok hf hcl hr hsort hE hFew
  go_enter Try.func8, Try.ntmps8
  go_upto_region 6 with (first | (go_at_call 35; refine (alive_any _).mono ?_; rintro e w1 ⟨rfl, hb1⟩; obtain ⟨hc1, hf1⟩ := bcell hb1; have hz1 := hb1.size; simp at hz1; have hlt : w.heap.size < w1.heap.size := by omega) | (go_at_call 36; (have hbA : Below w.heap.size w w1 := by (repeat' (first | (with_reducible exact Below.refl _ _) | (with_reducible refine Below.alloc ?_ ?_ _) | (with_reducible refine Below.drew ?_) | (with_reducible refine Below.drewN_ ?_ _) | (with_reducible refine Below.setCell ?_ ?_ _) | (with_reducible refine Below.setRow ?_ ?_ _) | (with_reducible refine Below.via ?_ (by with_reducible assumption) ?_) | go_size))); have hr := ready_any s c1 c2 c3 A1 A2 A3 w1 ((R1.out.below hbA).more hbA.size) ((R2.out.below hbA).more hbA.size) ((R3.out.below hbA).more hbA.size); rw [HOK.out] at hr; refine hr.mono ?_; rintro e w2 ⟨rfl, hb2⟩; clear hr))
  have hzz := hb2.size
  have hb3 : Below w.heap.size w w2 := by (repeat' (first | (with_reducible exact Below.refl _ _) | (with_reducible refine Below.alloc ?_ ?_ _) | (with_reducible refine Below.drew ?_) | (with_reducible refine Below.drewN_ ?_ _) | (with_reducible refine Below.setCell ?_ ?_ _) | (with_reducible refine Below.setRow ?_ ?_ _) | (with_reducible refine Below.via ?_ (by with_reducible assumption) ?_) | go_size))
  have hws : w.heap.size < w2.heap.size := by omega
  have S : w2.heap[w.heap.size]? = some (.cells #[.int .i64 s.n, .slice A1 s.shots.length c1, .slice A2 s.marks.length c2, .slice A3 s.threads.length c3] 26 (0, 0)) := row_keep (row_keep (heap_alloc_new _ _) hb1) hb2
  have HS := Lib.hid S
  clear S hb1 hb2 hbA hc1 hf1 hz1 hlt hzz hws
  have s0 : w2.cell? ⟨w.heap.size, 0, none⟩ = some (.int .i64 s.n) := cell_of_row w2 _ 0 _ _ _ HS.out
  have s1 : w2.cell? ⟨w.heap.size, 1, none⟩ = some (.slice A1 s.shots.length c1) := cell_of_row w2 _ 1 _ _ _ HS.out
  have s2 : w2.cell? ⟨w.heap.size, 2, none⟩ = some (.slice A2 s.marks.length c2) := cell_of_row w2 _ 2 _ _ _ HS.out
  have s3 : w2.cell? ⟨w.heap.size, 3, none⟩ = some (.slice A3 s.threads.length c3) := cell_of_row w2 _ 3 _ _ _ HS.out
  go_upto_region 7 with (go_at_call 16; refine (heights_as s c1 c2 c3 A1 A2 A3 w2 ((R1.out.below hb3).more hb3.size) ((R2.out.below hb3).more hb3.size) ((R3.out.below hb3).more hb3.size) H5.out).mono ?_; rintro e v6 ⟨⟨AH, cH, rfl, qh⟩, hK⟩)
  replace HS := Lib.hid (row_keep HS.out hK)
  replace hb3 := below_keep hb3 hb3.size hK
  clear hK qh s0 s1 s2 s3
  have s0 : v6.cell? ⟨w.heap.size, 0, none⟩ = some (.int .i64 s.n) := cell_of_row v6 _ 0 _ _ _ HS.out
  have s1 : v6.cell? ⟨w.heap.size, 1, none⟩ = some (.slice A1 s.shots.length c1) := cell_of_row v6 _ 1 _ _ _ HS.out
  have s2 : v6.cell? ⟨w.heap.size, 2, none⟩ = some (.slice A2 s.marks.length c2) := cell_of_row v6 _ 2 _ _ _ HS.out
  have s3 : v6.cell? ⟨w.heap.size, 3, none⟩ = some (.slice A3 s.threads.length c3) := cell_of_row v6 _ 3 _ _ _ HS.out
  go_upto_region 8 with (go_at_call 26; refine (clash_cap s c1 c2 c3 A1 A2 A3 v6 ((R1.out.below hb3).more hb3.size) ((R2.out.below hb3).more hb3.size) ((R3.out.below hb3).more hb3.size) HOK.out HF0.out H6.out).mono ?_; rintro e v7 ⟨⟨AL, cL, rfl, hcap, ql⟩, hK⟩)
  have QL := Lib.hid ql
  replace HS := Lib.hid (row_keep HS.out hK)
  replace hb3 := below_keep hb3 hb3.size hK
  clear hK ql s0 s1 s2 s3
  have s0 : v7.cell? ⟨w.heap.size, 0, none⟩ = some (.int .i64 s.n) := cell_of_row v7 _ 0 _ _ _ HS.out
  have s1 : v7.cell? ⟨w.heap.size, 1, none⟩ = some (.slice A1 s.shots.length c1) := cell_of_row v7 _ 1 _ _ _ HS.out
  have s2 : v7.cell? ⟨w.heap.size, 2, none⟩ = some (.slice A2 s.marks.length c2) := cell_of_row v7 _ 2 _ _ _ HS.out
  have s3 : v7.cell? ⟨w.heap.size, 3, none⟩ = some (.slice A3 s.threads.length c3) := cell_of_row v7 _ 3 _ _ _ HS.out
  have hln : ¬ (CL.length : Int) < 1 := by omega
  go_upto_region 13 with fail
  go_wp2
  go_loopw [62] (fun v W => ∃ k : Nat, k ≤ CL.length ∧ v = .int .i64 k ∧ Below v7.heap.size v7 W) (fun i _ => CL.length - (intOf i).toNat)
  case atStart => exact ⟨0, by omega, rfl, Below.refl _ _⟩
  case round =>
    obtain ⟨k, hk, rfl, hbk⟩ := hrel
    have HSr := Lib.hid (row_keep HS.out hbk)
    have hb3r := below_keep hb3 hb3.size hbk
    have QLr := Lib.hid (rd_keep QL.out hbk)
    clear s0 s1 s2 s3
    by_cases hlt : k < CL.length
    · obtain ⟨bl, ol, rfl, hbl, hcell⟩ := QLr.out hpos
      have hxr := HR.out _ (List.getElem_mem hlt)
      have q0 := hcell k _ (List.getElem?_eq_getElem hlt) 0 _ rfl
      simp only [Nat.add_zero, Nat.mul_one] at q0
      have s1 : wr.cell? ⟨w.heap.size, 1, none⟩ = some (.slice A1 s.shots.length c1) := cell_of_row wr _ 1 _ _ _ HSr.out
      have s2 : wr.cell? ⟨w.heap.size, 2, none⟩ = some (.slice A2 s.marks.length c2) := cell_of_row wr _ 2 _ _ _ HSr.out
      have hkI : (k : Int) < (CL.length : Int) := by omega
      cases k with
      | zero =>
        obtain ⟨x, hx⟩ : ∃ x, CL[0] = x := ⟨_, rfl⟩
        rw [hx] at q0 hxr
        simp only [Nat.add_zero] at q0
        obtain ⟨hx0, hx1⟩ := hxr
        have g1 : ¬ x < 0 := by omega
        have g2 : ¬ (s.shots.length : Int) + (s.marks.length : Int) ≤ x := by omega
        clear hcell hx
        go_wp2
        go_roundw
        case rel => exact ⟨1, by omega, by go_num, hbk⟩
        case measure => (simp [intOf] <;> omega)
      | succ j =>
        have p0 := hcell j _ (List.getElem?_eq_getElem (show j < CL.length by omega)) 0 _ rfl
        simp only [Nat.add_zero, Nat.mul_one] at p0
        have hjk : CL[j] < CL[j + 1] := (List.pairwise_iff_getElem.1 HSO.out) j (j + 1) (by omega) hlt (by omega)
        obtain ⟨x, hx⟩ : ∃ x, CL[j + 1] = x := ⟨_, rfl⟩
        obtain ⟨y, hy⟩ : ∃ y, CL[j] = y := ⟨_, rfl⟩
        rw [hx] at q0 hxr
        rw [hx, hy] at hjk
        rw [hy] at p0
        obtain ⟨hx0, hx1⟩ := hxr
        have g1 : ¬ x < 0 := by omega
        have g2 : ¬ (s.shots.length : Int) + (s.marks.length : Int) ≤ x := by omega
        have g3 : ¬ x ≤ y := by omega
        have hjI : (j : Int) < (CL.length : Int) := by omega
        have hj0 : (0 : Int) < (j : Int) + 1 := by omega
        clear hcell hx hy
        go_wp2
        go_roundw
        case rel => exact ⟨j + 2, by omega, by go_num, hbk⟩
        case measure => (simp [intOf] <;> omega)
    · have hkI : ¬ (k : Int) < (CL.length : Int) := by omega
      obtain ⟨kk, hck, hkk⟩ : ∃ i : Nat, c % (CL.length : Int) = i ∧ i < CL.length := ⟨(c % (CL.length : Int)).toNat, by have := Int.emod_nonneg c (show (CL.length : Int) ≠ 0 by omega); omega, by have := Int.emod_nonneg c (show (CL.length : Int) ≠ 0 by omega); have := Int.emod_lt_of_pos c (show 0 < (CL.length : Int) by omega); omega⟩
      obtain ⟨bl, ol, rfl, hbl, hcell⟩ := QLr.out hpos
      go_upto_region 20 with fail
      rw [hck]
      have hkc : kk ≤ cL := by omega
      have hkI2 : (kk : Int) ≤ (cL : Int) := by omega
      have hkI3 : (kk : Int) + 1 ≤ (CL.length : Int) := by omega
      obtain ⟨W1, hW1⟩ : ∃ W1, wr.drew.alloc (.cells #[] 3) = W1 := ⟨_, rfl⟩
      have hb1 : Below wr.heap.size wr W1 := by rw [← hW1]; exact ((Below.refl _ _).drew).alloc (Nat.le_refl _) _
      have hO1 : Own W1 wr.heap.size 3 (.slice (some ⟨wr.heap.size, 0, none⟩) 0 0) inV 1 ([] : List Int) := by rw [← hW1]; exact Own.empty wr.drew wr.heap.size 3 inV 1 (Nat.le_refl _)
      have hz1 : wr.heap.size < W1.heap.size := by rw [← hW1]; simp
      have QL1 := rd_keep QLr.out hb1
      obtain ⟨i0, hi0, hz0, hz0b, hz0c⟩ := info_parts infoInt
      have hl1 : (CL.take kk).length = kk := by rw [List.length_take]; omega
      obtain ⟨va, W4, hrun, hO4, hg4, hat4⟩ := run_append_rd (P := Try.prog) (t := 46) (ty := 46) (e := 3) i0 _ 8 Try.underlying46 hi0 hz0 hz0b hz0c rfl (by omega) inV_len' inV_one' hO1 (c := cL) hl1 (rd_take QL1 kk) (by simp; omega) (by omega) (by omega)
      rw [List.nil_append] at hO4
      have hb4 : Below wr.heap.size wr W4 := hb1.trans ((below_grown hg4 (Nat.le_of_lt hz1) (fun b hb => (hO1.lt b hb).1)))
      obtain ⟨AV, cV, hva⟩ := hO4.form
      rw [hl1] at hva
      subst hva
      have HRUN := Lib.hid hrun
      have HO4 := Lib.hid hO4
      have HW1 := Lib.hid hW1
      clear hrun hO4 hW1 hg4 hat4 hO1 hi0 hz0 hz0b hz0c i0
      obtain ⟨A8, hA8⟩ : ∃ A8, (if cL = kk + 1 then some (⟨bl, ol, none⟩ : Addr) else some ⟨bl, ol + (kk + 1), none⟩) = A8 := ⟨_, rfl⟩
      have hl2 : (CL.drop (kk + 1)).length = CL.length - (kk + 1) := by rw [List.length_drop]
      have QL4 := rd_keep QLr.out hb4
      have RD8 : Rd W4 W4.heap.size A8 inV 1 (CL.drop (kk + 1)) := by
        by_cases hcc : cL = kk + 1
        · exact rd_nil (by rw [hl2]; omega)
        · rw [if_neg hcc] at hA8
          rw [← hA8]
          have := rd_drop QL4 (kk + 1)
          rw [Nat.mul_one] at this
          exact this
      have HRD8 := Lib.hid RD8
      clear RD8 QL4 QL1
      refine (wpIn_wide (n := 3)).1 ?_
      refine wpIn_region_planYA (X := Unit) (by kernel_rfl) 9 (by decide +kernel) (by decide +kernel) (by omega)
        (fun _ i => (#[.slice (some ⟨wr.heap.size, 0, none⟩) 0 0, .slice (some ⟨bl, ol, none⟩) CL.length cL, .int .i64 (kk : Int), .slice (some ⟨bl, ol, none⟩) kk cL, .slice AV kk cV, .slice (some ⟨bl, ol, none⟩) CL.length cL, .int .i64 (kk : Int), .int .i64 ((kk : Int) + 1), .slice A8 (CL.length - (kk + 1)) (cL - (kk + 1))] : Array Value).getD i undef)
        (fun L _ W => W = if L 4 then W4 else if L 0 then W1 else wr.drew) _ _ () ?aF ?hA ?hS ?hstep ?htail
      case hA => intro x; simp [putTo, putIf, dstAt, Act.put, List.range_succ]; rfl
      case hS => exact fun L hL => by rw [hL, hL]; rfl
      case hstep =>
        intro i o' hi ho L x W hL hcl hdep hW
        refine ⟨fun _ _ => trivial, ?_⟩
        have hwk : IntKind.i64.wrap ((kk : Int) + 1) = (kk : Int) + 1 := IntWalk.i64_in _ (by omega)
        match i, hi, ho with
        | 0, _, ho =>
          simp only [List.getElem?_toArray, List.getElem?_cons_succ, List.getElem?_cons_zero, Option.some.injEq] at ho
          subst ho
          have h4 : L 4 = false := by
            cases h : L 4
            · rfl
            · have h2 := hcl 4 _ h rfl { on := 0, ground := Ground.data } (by simp) rfl
              rw [hL] at h2
              cases h2
          rw [hL, h4] at hW
          simp only [Bool.false_eq_true, if_false] at hW
          subst hW
          go_simp
          refine ⟨(), fun _ _ => rfl, rfl, ?_⟩
          show _ = (if (L 4 || (4 == 0)) = true then W4 else if (L 0 || (0 == 0)) = true then W1 else wr.drew)
          rw [h4, if_neg (by simp), if_pos (by simp)]
          exact HW1.out
        | 1, _, ho =>
          simp only [List.getElem?_toArray, List.getElem?_cons_succ, List.getElem?_cons_zero, Option.some.injEq] at ho
          subst ho
          go_simp
          exact ⟨(), fun _ _ => rfl, rfl, by first | (simp; done) | (simpa using hW)⟩
        | 2, _, ho =>
          simp only [List.getElem?_toArray, List.getElem?_cons_succ, List.getElem?_cons_zero, Option.some.injEq] at ho
          subst ho
          go_simp
          exact ⟨(), fun _ _ => rfl, rfl, by first | (simp; done) | (simpa using hW)⟩
        | 3, _, ho =>
          simp only [List.getElem?_toArray, List.getElem?_cons_succ, List.getElem?_cons_zero, Option.some.injEq] at ho
          subst ho
          go_simp
          exact ⟨(), fun _ _ => rfl, rfl, by first | (simp; done) | (simpa using hW)⟩
        | 4, _, ho =>
          simp only [List.getElem?_toArray, List.getElem?_cons_succ, List.getElem?_cons_zero, Option.some.injEq] at ho
          subst ho
          have h0 : L 0 = true := hdep { on := 0, ground := Ground.data } (by simp) rfl
          rw [hL, h0] at hW
          simp only [Bool.false_eq_true, if_false, if_true] at hW
          subst hW
          have hrun := HRUN.out
          simp [execOp, resolve, invoke, builtin, Act.eval, hrun, Result.andThen, Outs]
          exact ⟨(), fun _ _ => rfl, rfl, by simp⟩
        | 5, _, ho =>
          simp only [List.getElem?_toArray, List.getElem?_cons_succ, List.getElem?_cons_zero, Option.some.injEq] at ho
          subst ho
          go_simp
          exact ⟨(), fun _ _ => rfl, rfl, by first | (simp; done) | (simpa using hW)⟩
        | 6, _, ho =>
          simp only [List.getElem?_toArray, List.getElem?_cons_succ, List.getElem?_cons_zero, Option.some.injEq] at ho
          subst ho
          go_simp
          exact ⟨(), fun _ _ => rfl, rfl, by first | (simp; done) | (simpa using hW)⟩
        | 7, _, ho =>
          simp only [List.getElem?_toArray, List.getElem?_cons_succ, List.getElem?_cons_zero, Option.some.injEq] at ho
          subst ho
          go_simp
          exact ⟨(), fun _ _ => rfl, rfl, by first | (simp; done) | (simpa using hW)⟩
        | 8, _, ho =>
          simp only [List.getElem?_toArray, List.getElem?_cons_succ, List.getElem?_cons_zero, Option.some.injEq] at ho
          subst ho
          by_cases hcc : cL = kk + 1
          · rw [if_pos hcc] at hA8
            go_simp
            exact ⟨(), fun _ _ => rfl, by simp [hcc, ← hA8], by first | (simp; done) | (simpa using hW)⟩
          · rw [if_neg hcc] at hA8
            go_simp
            exact ⟨(), fun _ _ => rfl, by simp [hcc, ← hA8], by first | (simp; done) | (simpa using hW)⟩
        | kz + 9, hk, _ => omega
      case htail =>
        intro L x W hL hW
        rw [if_pos (hL 4 (by omega))] at hW
        subst hW
        obtain ⟨i0, hi0, hz0, hz0b, hz0c⟩ := info_parts infoInt
        simp only [List.drop_succ_cons, List.drop_zero]
        refine wpListIn_append_rd rfl (.tmp 103) (.tmp 107) 46 rfl i0 _ 8 Try.underlying46 hi0 hz0 hz0b hz0c rfl (by omega) inV_len' inV_one' rfl (HO4.out) rfl (m := CL.length - (kk + 1)) (news := CL.drop (kk + 1)) hl2 HRD8.out (by rw [hl1]; omega) (by omega) (by have := hb4.size; omega) ?_
        intro v' W5 ho5 hg5 hat5
        have hg6 : W.grownBy W5 (Value.slice AV kk cV).ownBlock := hg5
        have hb5 : Below wr.heap.size wr W5 := hb4.trans (below_grown hg6 (by have := hb4.size; omega) (fun b hb => (HO4.out.lt b hb).1))
        obtain ⟨AF, cF, hv⟩ := ho5.form
        subst hv
        have QF := Lib.hid (ho5.rd inV_len')
        obtain ⟨FL, hFL⟩ : ∃ FL, CL.take kk ++ CL.drop (kk + 1) = FL := ⟨_, rfl⟩
        obtain ⟨L2, hL2⟩ := HFew.out kk hkk
        have hrF : ∀ k ∈ FL, 0 ≤ k ∧ k < (s.shots.length : Int) + (s.marks.length : Int) := fun k hk => by
          rw [← hFL] at hk
          rcases List.mem_append.1 hk with h | h
          · exact HR.out k (List.mem_of_mem_take h)
          · exact HR.out k (List.mem_of_mem_drop h)
        have hFl : FL.length ≤ 80 := by rw [← hFL, List.length_append, hl1, hl2]; omega
        rw [hFL] at QF hL2
        have HL2 := Lib.hid hL2
        have HRF := Lib.hid hrF
        obtain ⟨nF, hnF⟩ : ∃ n, (CL.take kk ++ CL.drop (kk + 1)).length = n := ⟨_, rfl⟩
        have HNF := Lib.hid (show FL.length = nF by rw [← hFL]; exact hnF)
        rw [hnF]
        replace HSr := Lib.hid (row_keep HSr.out hb5)
        replace hb3r := below_keep hb3r hb3r.size hb5
        replace QLr := Lib.hid (rd_keep QLr.out hb5)
        clear hg5 hg6 hat5 ho5 hFL hrF hL2 hnF hi0 hz0 hz0b hz0c i0 hb5 hl1 hl2 HRD8 HO4 HRUN hA8 hb1 hb4 hz1 HW1 hL
        gi_wp2_with fail
        have t1 : True := trivial
        have t2 : True := trivial
        have hF2 : FL.length ≤ 1000 := by omega
        go_upto_region 22 with (first
          | (go_at_call 42; refine (only_any s CL w.heap.size cL c1 c2 c3 (some ⟨bl, ol, none⟩) A1 A2 A3 W5 HSr.out QLr.out ((R1.out.below hb3r).more hb3r.size) ((R2.out.below hb3r).more hb3r.size) (by omega) (by omega) (by omega) HR.out).mono ?_; rintro e W6 ⟨⟨D1, D2, e1, e2, rfl, x1, x2⟩, hK1⟩; have X1 := Lib.hid x1; have X2 := Lib.hid x2; clear x1 x2)
          | (go_at_call 16; refine (heights_only s CL e1 e2 D1 D2 W6 X1.out X2.out HE.out).mono ?_; rintro e W7 ⟨⟨AH2, cH2, rfl, qh⟩, hK2⟩))
        have hb7 : Below W5.heap.size W5 W7 := hK1.trans (hK2.mono hK1.size)
        replace HSr := Lib.hid (row_keep HSr.out hb7)
        replace hb3r := below_keep hb3r hb3r.size hb7
        have QF7 := Lib.hid (rd_keep QF.out hb7)
        clear hK1 hK2 hb7 qh X1 X2
        go_wp2_with (first
          | (go_at_call 42; refine (only_anyN s FL HNF.out w.heap.size cF c1 c2 c3 AF A1 A2 A3 W7 HSr.out QF7.out ((R1.out.below hb3r).more hb3r.size) ((R2.out.below hb3r).more hb3r.size) (by omega) (by omega) (by omega) HRF.out).mono ?_; rintro e W8 ⟨⟨D3, D4, e3, e4, rfl, x1, x2⟩, hK1⟩; have X1 := Lib.hid x1; have X2 := Lib.hid x2; clear x1 x2)
          | (go_at_call 16; refine (heights_only s FL e3 e4 D3 D4 W8 X1.out X2.out HL2.out).mono ?_; rintro e W9 ⟨⟨AH3, cH3, rfl, qh⟩, hK2⟩))
        go_ret
        exact ⟨rfl, (hb3r.trans (hK1.mono hb3r.size)).trans (hK2.mono (Nat.le_trans hb3r.size hK1.size))⟩

theorem lawNamed_any (s : Sv) (c : Int) (c1 c2 c3 : Nat) (A1 A2 A3 : Option Addr) (w : World)
    (r1 : Rd w w.heap.size A1 shV 4 s.shots) (r2 : Rd w w.heap.size A2 mkV 3 s.marks) (r3 : Rd w w.heap.size A3 shV 4 s.threads) (hc : 0 ≤ c ∧ c ≤ 255) :
    Calls Try.prog 8 #[.agg #[.int .i64 s.n, .slice A1 s.shots.length c1, .slice A2 s.marks.length c2, .slice A3 s.threads.length c3], .int .u8 c] w fun e w' => e = .returned (.bool true) ∧ Below w.heap.size w w' := by
  cases hok : svOk s
  · exact lawNamed_bad s c c1 c2 c3 A1 A2 A3 w r1 r2 r3 hok
  · cases hf : (svD s).2
    · exact lawNamed_apart s c c1 c2 c3 A1 A2 A3 w r1 r2 r3 hok hf hc
    · exact lawNamed_fit s c c1 c2 c3 A1 A2 A3 w r1 r2 r3 hok hf

end Go.Proofs.Ythlpomjdifnnkaa
