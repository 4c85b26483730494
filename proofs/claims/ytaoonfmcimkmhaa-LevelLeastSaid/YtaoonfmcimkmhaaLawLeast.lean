/- The law LevelLeast answers true of every survey that reads as plain data, of any list of numbers and any byte. Condition: the slices read below the heap's end. -/
import Derived.Test.YtaoonfmcimkmhaaLeastC
set_option linter.unusedVariables false
set_option linter.unusedSimpArgs false
namespace Go.Proofs.Ytaoonfmcimkmhaa
open Go.RowKit
attribute [local go_sem] wx_cell wx_frozen

theorem widen_wr (s : Sv) (l : List Int) {most : Int} (hok : svOk (wrS s l most) = true) (r : Nat) (hr : r ≤ 20000000) (hP : ∀ m : Nat, m ≤ 20000000 → (wkD (wrS s l most) (fun _ => false) (m : Int)).2 = decide (r ≤ m)) (d1 d2 d3 : Nat) (B1 B2 B3 : Option Addr) (w : World)
    (q1 : Rd w w.heap.size B1 shV 4 ((truS s l).shots.mapIdx (wrSh most l))) (q2 : Rd w w.heap.size B2 mkV 3 (truS s l).marks) (q3 : Rd w w.heap.size B3 shV 4 s.threads) :
    Calls Try.prog 28 #[.agg #[.int .i64 s.n, .slice B1 s.shots.length d1, .slice B2 s.marks.length d2, .slice B3 s.threads.length d3]] w fun e w' => e = .returned (.tuple #[.int .i64 r, .int .i64 0]) ∧ Below w.heap.size w w' := by
  have h1 := lwiden_fine (wrS s l most) d1 d2 d3 B1 B2 B3 w q1 q2 q3 hok r hr hP
  rw [show (wrS s l most).shots.length = s.shots.length by simp [wrS, truS], show (wrS s l most).marks.length = s.marks.length by simp [wrS, truS]] at h1
  exact h1
theorem least_as (s : Sv) (v : Int) {b : Bool} (hb : wdB s v = b) (c1 c2 c3 : Nat) (A1 A2 A3 : Option Addr) (w : World) (r1 : Rd w w.heap.size A1 shV 4 s.shots) (r2 : Rd w w.heap.size A2 mkV 3 s.marks) (r3 : Rd w w.heap.size A3 shV 4 s.threads) (hok : svOk s = true) (hv0 : 0 ≤ v) (hv1 : v ≤ 20000000) :
    Calls Try.prog 43 #[.agg #[.int .i64 s.n, .slice A1 s.shots.length c1, .slice A2 s.marks.length c2, .slice A3 s.threads.length c3], .int .i64 v] w fun e w' => e = .returned (.bool b) ∧ Below w.heap.size w w' := by
  rw [← hb]
  exact leastC_any s v c1 c2 c3 A1 A2 A3 w r1 r2 r3 hok hv0 hv1

theorem own_lift {α : Type} {w : World} {b b' : Nat} {e : TypeId} {v : Value} {enc : α → List Value} {sz : Nat} {l : List α} (h : Own w b e v enc sz l) (hb : b' ≤ b) : Own w b' e v enc sz l := by
  obtain ⟨g1, g2⟩ := h
  refine ⟨g1, ?_⟩
  rcases g2 with g2 | ⟨g, cap, cur, hv, hb2, rest⟩
  · exact .inl g2
  · exact .inr ⟨g, cap, cur, hv, Nat.le_trans hb hb2, rest⟩
theorem twz_of {k1 k2 k3 : Nat} {L1 : List Sh} {L2 : List Mk} {L3 : List Sh} {B1 B2 B3 : Option Addr} {d1 d2 d3 b1 b2 b3 : Nat} {w : World} (o1 : Own w b1 78 (.slice B1 k1 d1) shV 4 L1) (o2 : Own w b2 75 (.slice B2 k2 d2) mkV 3 L2) (o3 : Own w b3 72 (.slice B3 k3 d3) shV 4 L3)
    (h1 : b1 ≤ b2) (h2 : b2 ≤ b3) (a1 : Apart (.slice B1 k1 d1) b2) (a2 : Apart (.slice B2 k2 d2) b3) : TwZ k1 k2 k3 L1 L2 L3 ⟨B1, B2, B3, d1, d2, d3, min b2 w.heap.size, min b3 w.heap.size⟩ (min b1 w.heap.size) w.heap.size w := by
  refine ⟨⟨⟨own_lift o1 (Nat.min_le_left _ _), fun k hk => ?_⟩, ⟨own_lift o2 (Nat.min_le_left _ _), fun k hk => ?_⟩, ⟨own_lift o3 (Nat.min_le_left _ _), fun k hk => (o3.lt k hk).2⟩, ?_⟩, Nat.le_refl _⟩
  · have := a1 k hk
    have := (o1.lt k hk).2
    dsimp only
    omega
  · have := a2 k hk
    have := (o2.lt k hk).2
    dsimp only
    omega
  · dsimp only
    omega

set_option maxRecDepth 100000 in
set_option maxHeartbeats 16000000 in
theorem lawLeast_bad (s : Sv) (l : List Int) (a : Int) (cl c1 c2 c3 : Nat) (AL A1 A2 A3 : Option Addr) (w : World)
    (r1 : Rd w w.heap.size A1 shV 4 s.shots) (r2 : Rd w w.heap.size A2 mkV 3 s.marks) (r3 : Rd w w.heap.size A3 shV 4 s.threads) (rl : Rd w w.heap.size AL inV 1 l) (hok : svOk s = false) :
    Calls Try.prog 10 #[.agg #[.int .i64 s.n, .slice A1 s.shots.length c1, .slice A2 s.marks.length c2, .slice A3 s.threads.length c3], .slice AL l.length cl, .int .u8 a] w fun e w' => e = .returned (.bool true) ∧ Below w.heap.size w w' := by
  have R1 := Lib.hid r1
  have R2 := Lib.hid r2
  have R3 := Lib.hid r3
  have RL := Lib.hid rl
  have HOK := Lib.hid hok
  clear r1 r2 r3 rl hok
  go_enter Try.func10, Try.ntmps10
  go_wp2_with (first | (go_at_call 35; refine (alive_any _).mono ?_; rintro e w1 ⟨rfl, hb1⟩; obtain ⟨hc1, hf1⟩ := bcell hb1; have hz1 := hb1.size; simp at hz1; have hlt : w.heap.size < w1.heap.size := by omega) | (go_at_call 36; (have hbA : Below w.heap.size w w1 := by (repeat' (first | (with_reducible exact Below.refl _ _) | (with_reducible refine Below.alloc ?_ ?_ _) | (with_reducible refine Below.drew ?_) | (with_reducible refine Below.drewN_ ?_ _) | (with_reducible refine Below.setCell ?_ ?_ _) | (with_reducible refine Below.setRow ?_ ?_ _) | (with_reducible refine Below.via ?_ (by with_reducible assumption) ?_) | go_size))); have hr := ready_any s c1 c2 c3 A1 A2 A3 w1 ((R1.out.below hbA).more hbA.size) ((R2.out.below hbA).more hbA.size) ((R3.out.below hbA).more hbA.size); rw [HOK.out] at hr; refine hr.mono ?_; rintro e w2 ⟨rfl, hb2⟩; clear hr; (have S : w2.heap[w.heap.size]? = some (.cells #[.int .i64 s.n, .slice A1 s.shots.length c1, .slice A2 s.marks.length c2, .slice A3 s.threads.length c3] 26 (0, 0)) := row_keep (row_keep (heap_alloc_new _ _) hb1) hb2); have HS := Lib.hid S; clear S))
  go_ret
  exact ⟨rfl, by (repeat' (first | (with_reducible exact Below.refl _ _) | (with_reducible refine Below.alloc ?_ ?_ _) | (with_reducible refine Below.drew ?_) | (with_reducible refine Below.drewN_ ?_ _) | (with_reducible refine Below.setCell ?_ ?_ _) | (with_reducible refine Below.setRow ?_ ?_ _) | (with_reducible refine Below.via ?_ (by with_reducible assumption) ?_) | go_size))⟩

set_option maxRecDepth 100000 in
set_option maxHeartbeats 16000000 in
theorem lawLeast_pos (s : Sv) (l : List Int) (a : Int) (cl c1 c2 c3 : Nat) (AL A1 A2 A3 : Option Addr) (w : World)
    (r1 : Rd w w.heap.size A1 shV 4 s.shots) (r2 : Rd w w.heap.size A2 mkV 3 s.marks) (r3 : Rd w w.heap.size A3 shV 4 s.threads) (rl : Rd w w.heap.size AL inV 1 l) (hok : svOk s = true) (ha : 0 ≤ a ∧ a ≤ 255) (hll : l.length ≤ 9223372036854775807) (r : Nat) (hr : r ≤ 20000000) (hP : ∀ m : Nat, m ≤ 20000000 → (wkD s (fun _ => false) (m : Int)).2 = decide (r ≤ m)) (hr0 : 1 ≤ r) :
    Calls Try.prog 10 #[.agg #[.int .i64 s.n, .slice A1 s.shots.length c1, .slice A2 s.marks.length c2, .slice A3 s.threads.length c3], .slice AL l.length cl, .int .u8 a] w fun e w' => e = .returned (.bool true) ∧ Below w.heap.size w w' := by
  have R1 := Lib.hid r1
  have R2 := Lib.hid r2
  have R3 := Lib.hid r3
  have RL := Lib.hid rl
  have HOK := Lib.hid hok
  have HPP := Lib.hid hP
  obtain ⟨⟨n1, n2, n3, n4, n5⟩, _⟩ := svOk_spec hok
  obtain ⟨rr, hrr, hrm, hrP⟩ := wrS_wid hok l ha.1 ha.2
  have HRP := Lib.hid hrP
  have HWK := Lib.hid (wrS_ok hok l ha.1 ha.2)
  have HSP := Lib.hid ((svOk_iff _).1 (tru_ok hok l))
  have F1 := Lib.hid (show wdB s (r : Int) = true by rw [wdB_eq hok (by omega) (by omega), hP r hr]; simp)
  have F2 := Lib.hid (show wdB s ((r : Int) - 1) = false by
    rw [show (r : Int) - 1 = ((r - 1 : Nat) : Int) by omega, wdB_eq hok (by omega) (by omega), hP (r - 1) (by omega)]
    exact decide_eq_false (by omega))
  clear r1 r2 r3 rl hok hP hrP
  go_enter Try.func10, Try.ntmps10
  go_upto_region 6 with (first | (go_at_call 35; refine (alive_any _).mono ?_; rintro e w1 ⟨rfl, hb1⟩; obtain ⟨hc1, hf1⟩ := bcell hb1; have hz1 := hb1.size; simp at hz1; have hlt : w.heap.size < w1.heap.size := by omega) | (go_at_call 36; (have hbA : Below w.heap.size w w1 := by (repeat' (first | (with_reducible exact Below.refl _ _) | (with_reducible refine Below.alloc ?_ ?_ _) | (with_reducible refine Below.drew ?_) | (with_reducible refine Below.drewN_ ?_ _) | (with_reducible refine Below.setCell ?_ ?_ _) | (with_reducible refine Below.setRow ?_ ?_ _) | (with_reducible refine Below.via ?_ (by with_reducible assumption) ?_) | go_size))); have hr := ready_any s c1 c2 c3 A1 A2 A3 w1 ((R1.out.below hbA).more hbA.size) ((R2.out.below hbA).more hbA.size) ((R3.out.below hbA).more hbA.size); rw [HOK.out] at hr; refine hr.mono ?_; rintro e w2 ⟨rfl, hb2⟩; clear hr; (have S : w2.heap[w.heap.size]? = some (.cells #[.int .i64 s.n, .slice A1 s.shots.length c1, .slice A2 s.marks.length c2, .slice A3 s.threads.length c3] 26 (0, 0)) := row_keep (row_keep (heap_alloc_new _ _) hb1) hb2); have HS := Lib.hid S; clear S))
  have hb3 : Below w.heap.size w w2 := by (repeat' (first | (with_reducible exact Below.refl _ _) | (with_reducible refine Below.alloc ?_ ?_ _) | (with_reducible refine Below.drew ?_) | (with_reducible refine Below.drewN_ ?_ _) | (with_reducible refine Below.setCell ?_ ?_ _) | (with_reducible refine Below.setRow ?_ ?_ _) | (with_reducible refine Below.via ?_ (by with_reducible assumption) ?_) | go_size))
  have hws : w.heap.size < w2.heap.size := (Array.getElem?_eq_some_iff.1 HS.out).1
  clear hb1 hb2 hbA hc1 hf1 hz1 hlt
  have s0 : w2.cell? ⟨w.heap.size, 0, none⟩ = some (.int .i64 s.n) := cell_of_row w2 _ 0 _ _ _ HS.out
  have s1 : w2.cell? ⟨w.heap.size, 1, none⟩ = some (.slice A1 s.shots.length c1) := cell_of_row w2 _ 1 _ _ _ HS.out
  have s2 : w2.cell? ⟨w.heap.size, 2, none⟩ = some (.slice A2 s.marks.length c2) := cell_of_row w2 _ 2 _ _ _ HS.out
  have s3 : w2.cell? ⟨w.heap.size, 3, none⟩ = some (.slice A3 s.threads.length c3) := cell_of_row w2 _ 3 _ _ _ HS.out
  go_upto_region 7 with (go_at_call 28; refine (lwiden_fine s c1 c2 c3 A1 A2 A3 w2 ((R1.out.below hb3).more hb3.size) ((R2.out.below hb3).more hb3.size) ((R3.out.below hb3).more hb3.size) HOK.out r hr HPP.out).mono ?_; rintro e v7 ⟨rfl, hK⟩)
  replace HS := Lib.hid (row_keep HS.out hK)
  replace hb3 := below_keep hb3 hb3.size hK
  clear hK s0 s1 s2 s3
  have s0 : v7.cell? ⟨w.heap.size, 0, none⟩ = some (.int .i64 s.n) := cell_of_row v7 _ 0 _ _ _ HS.out
  have s1 : v7.cell? ⟨w.heap.size, 1, none⟩ = some (.slice A1 s.shots.length c1) := cell_of_row v7 _ 1 _ _ _ HS.out
  have s2 : v7.cell? ⟨w.heap.size, 2, none⟩ = some (.slice A2 s.marks.length c2) := cell_of_row v7 _ 2 _ _ _ HS.out
  have s3 : v7.cell? ⟨w.heap.size, 3, none⟩ = some (.slice A3 s.threads.length c3) := cell_of_row v7 _ 3 _ _ _ HS.out
  have t1 : True := trivial
  have t2 : True := trivial
  go_upto_region 12 with (go_at_call 43; first | (have _t := t1; clear t1 _t; refine (least_as s (r : Int) F1.out c1 c2 c3 A1 A2 A3 v7 ((R1.out.below hb3).more hb3.size) ((R2.out.below hb3).more hb3.size) ((R3.out.below hb3).more hb3.size) HOK.out (by omega) (by omega)).mono ?_; rintro e v8 ⟨rfl, hK⟩; replace HS := Lib.hid (row_keep HS.out hK); replace hb3 := below_keep hb3 hb3.size hK; clear hK s0 s1 s2 s3; (have s0 := cell_of_row v8 _ 0 _ _ _ HS.out); (have s1 := cell_of_row v8 _ 1 _ _ _ HS.out); (have s2 := cell_of_row v8 _ 2 _ _ _ HS.out); (have s3 := cell_of_row v8 _ 3 _ _ _ HS.out); simp only [List.getElem?_toArray, List.getElem?_cons_zero, List.getElem?_cons_succ] at s0 s1 s2 s3) | (have _t := t2; clear t2 _t; refine (least_as s ((r : Int) - 1) F2.out c1 c2 c3 A1 A2 A3 v8 ((R1.out.below hb3).more hb3.size) ((R2.out.below hb3).more hb3.size) ((R3.out.below hb3).more hb3.size) HOK.out (by omega) (by omega)).mono ?_; rintro e v9 ⟨rfl, hK⟩; replace HS := Lib.hid (row_keep HS.out hK); replace hb3 := below_keep hb3 hb3.size hK; clear hK s0 s1 s2 s3; (have s0 := cell_of_row v9 _ 0 _ _ _ HS.out); (have s1 := cell_of_row v9 _ 1 _ _ _ HS.out); (have s2 := cell_of_row v9 _ 2 _ _ _ HS.out); (have s3 := cell_of_row v9 _ 3 _ _ _ HS.out); simp only [List.getElem?_toArray, List.getElem?_cons_zero, List.getElem?_cons_succ] at s0 s1 s2 s3))
  go_upto_region 13 with (go_at_call 37; refine (truth_own s l cl c1 c2 c3 AL A1 A2 A3 v9 HOK.out ((RL.out.below hb3).more hb3.size) hll ((R1.out.below hb3).more hb3.size) ((R2.out.below hb3).more hb3.size) ((R3.out.below hb3).more hb3.size)).mono ?_; rintro e wt ⟨⟨AH, B1, B2, B3, cH, d1, d2, d3, rfl, xh, b1, b2, b3, o1, o2, o3, k1, k2, k3, a1, a2⟩, hbt⟩; have T0 := Lib.hid (twz_of o1 o2 o3 k2 k3 a1 a2); have K1 := Lib.hid k1; clear xh o1 o2 o3 k1 k2 k3 a1 a2)
  have hzt := hbt.size
  obtain ⟨v10, hw⟩ : ∃ v, wt.alloc (.cells #[.int .i64 s.n, .slice B1 s.shots.length d1, .slice B2 s.marks.length d2, .slice B3 s.threads.length d3] 26) = v := ⟨_, rfl⟩
  obtain ⟨gt, hbk⟩ : ∃ b, wt.heap.size = b := ⟨_, rfl⟩
  rw [hw, hbk]
  have hK1 : Below wt.heap.size wt v10 := by rw [← hw]; exact (Below.refl _ _).alloc (Nat.le_refl _) _
  have Ya : v10.heap[gt]? = some (.cells #[.int .i64 s.n, .slice B1 s.shots.length d1, .slice B2 s.marks.length d2, .slice B3 s.threads.length d3] 26 (0, 0)) := by rw [← hw, ← hbk]; exact heap_alloc_new _ _
  have HT := Lib.hid Ya
  have hK : Below v9.heap.size v9 v10 := hbt.trans (hK1.mono hzt)
  have T1 := Lib.hid (T0.out.grow hK1)
  obtain ⟨q2, hq2⟩ : ∃ n, min b2 wt.heap.size = n := ⟨_, rfl⟩
  obtain ⟨q3, hq3⟩ : ∃ n, min b3 wt.heap.size = n := ⟨_, rfl⟩
  obtain ⟨lo, hlo⟩ : ∃ n, min b1 wt.heap.size = n := ⟨_, rfl⟩
  have hvlo : w.heap.size < lo := by have := K1.out; have := (Array.getElem?_eq_some_iff.1 HS.out).1; omega
  rw [hq2, hq3, hlo, hbk] at T1
  replace HS := Lib.hid (row_keep HS.out hK)
  replace hb3 := below_keep hb3 hb3.size hK
  clear hw hbk hK hK1 Ya T0 hlo hq2 hq3 hbt hzt K1 s0 s1 s2 s3 F1 HS R1 R2 R3 HPP F2
  have s1 : v10.cell? ⟨gt, 1, none⟩ = some (.slice B1 s.shots.length d1) := cell_of_row v10 _ 1 _ _ _ HT.out
  have wa : IntKind.i64.wrap a = a := IntWalk.i64_in _ (by omega)
  obtain ⟨DD, hDD⟩ : ∃ D : Nat, 2 * a = (D : Int) ∧ (2 * a).toNat = D := ⟨(2 * a).toNat, by omega, rfl⟩
  have HDD := Lib.hid hDD
  have hdd : (DD : Int) ≤ 510 := by omega
  have w2a : IntKind.i64.wrap (2 * a) = (DD : Int) := by rw [IntWalk.i64_in _ (by omega)]; exact hDD.1
  clear hDD
  go_upto_region 13 with fail
  have HWA := Lib.hid (And.intro wa w2a)
  clear wa w2a
  go_wp2
  go_loopw [65] (fun v65 W => ∃ k : Nat, k ≤ s.shots.length ∧ v65 = .int .i64 k ∧ Below w.heap.size w W ∧ W.heap[gt]? = some (.cells #[.int .i64 s.n, .slice B1 s.shots.length d1, .slice B2 s.marks.length d2, .slice B3 s.threads.length d3] 26 (0, 0)) ∧ TwZ s.shots.length s.marks.length s.threads.length (updL (wrSh a l) (truS s l).shots k) (truS s l).marks s.threads ⟨B1, B2, B3, d1, d2, d3, q2, q3⟩ lo gt W) (fun i _ => s.shots.length - (intOf i).toNat)
  case atStart => exact ⟨0, by omega, rfl, hb3, HT.out, by rw [updL_zero]; exact T1.out⟩
  case round =>
    obtain ⟨k, hk, rfl, hb4, ht4, hT4⟩ := hrel
    have HT4 := Lib.hid ht4
    have T4 := Lib.hid hT4
    clear ht4 hT4 T1 HT hb3 s1
    by_cases hlt : k < s.shots.length
    · have hlt2 : k < (truS s l).shots.length := by simp [truS]; exact hlt
      have hyl := HSP.out.2.1 _ (List.getElem_mem hlt2)
      have hyk := updL_get (wrSh a l) (truS s l).shots hlt2
      have HUS := Lib.hid (updL_succ (wrSh a l) (truS s l).shots hlt2)
      obtain ⟨⟨f, t, p, q⟩, hy⟩ : ∃ y, (truS s l).shots[k] = y := ⟨_, rfl⟩
      rw [hy] at hyl hyk HUS
      have hyb := shOk_spec hyl
      dsimp only at hyb
      obtain ⟨y1, y2, y3, y4, y5, y6, y7, y8⟩ := hyb
      have HYK := Lib.hid hyk
      obtain ⟨g, hg, lg, ug⟩ := T4.out.1.1.at_ (by rw [updL_len]; exact Nat.lt_of_le_of_lt (Nat.zero_le _) hlt2)
      dsimp only at hg ug
      subst hg
      have hgb : g < gt := by have := T4.out.1.2.2.2; dsimp only at this; omega
      have hwg : w.heap.size < g := by omega
      have s1 : wr.cell? ⟨gt, 1, none⟩ = some (.slice (some ⟨g, 0, none⟩) s.shots.length d1) := cell_of_row wr _ 1 _ _ _ HT4.out
      have hkI : (k : Int) < (s.shots.length : Int) := by omega
      obtain ⟨pp, hpp⟩ : ∃ x, partI DD l (k + 2) = x := ⟨_, rfl⟩
      have hpb := partI_bd DD l (k + 2)
      rw [hpp] at hpb
      have HPQ := Lib.hid hpp
      have hk2 : IntKind.i64.wrap ((k : Int) + 2) = (k : Int) + 2 := IntWalk.i64_in _ (by omega)
      have wpa : IntKind.i64.wrap (pp - a) = pp - a := IntWalk.i64_in _ (by omega)
      obtain ⟨wa, w2a⟩ := HWA.out
      have HPT : Hid (Calls Try.prog 38 #[.int .i64 (DD : Int), .slice AL l.length cl, .int .i64 ((k : Int) + 2)] wr fun e w' => e = .returned (.int .i64 pp) ∧ wr = w') := Lib.hid (by
        rw [← HPQ.out]
        exact part_any DD l (k + 2) cl AL wr ((RL.out.below hb4).more hb4.size) hll (by omega) (by omega))
      clear hyl hyk hy lg ug hpp hlt2
      go_upto_region 17 with (go_at_call 38; refine HPT.out.mono ?_; rintro e wp ⟨rfl, rfl⟩)
      clear HPT hk2 wpa wa w2a
      obtain ⟨d, hd⟩ : ∃ d, pp - a = d := ⟨_, rfl⟩
      rw [hd]
      have hdb : -255 ≤ d ∧ d ≤ 255 := by have := HDD.out; omega
      have HDA := Lib.hid hd
      clear hd hpb
      have o2 : wr.cell? ⟨g, k * 4 + 2, none⟩ = some (.int .i64 p) := own_cell T4.out.1.1.1 shV_len HYK.out (j := 2) rfl
      have o3 : wr.cell? ⟨g, k * 4 + 3, none⟩ = some (.int .i64 q) := own_cell T4.out.1.1.1 shV_len HYK.out (j := 3) rfl
      obtain ⟨cur, hrow⟩ := own_row T4.out.1.1.1
      have lg2 := (Array.getElem?_eq_some_iff.1 hrow).1
      have HCUR := Lib.hid hrow
      clear hrow
      have w1' : IntKind.i64.wrap (p + d) = p + d := IntWalk.i64_in _ (by omega)
      have w2' : IntKind.i64.wrap (q + d) = q + d := IntWalk.i64_in _ (by omega)
      go_upto_region 18 with fail
      refine wp_region_calm_tail 15 (by kernel_rfl) (by decide +kernel) (by omega) ?_
      (simp only [List.take_succ_cons, List.take_zero, List.drop_succ_cons, List.drop_zero])
      repeat (go_big_quiet_step ((go_at_call 39; exact calm_of (span_any _ _ _))))
      refine wpQuiet_nil ?_
      rintro _ ⟨dx, rfl⟩
      obtain ⟨w5, hwy⟩ : ∃ v, wx _ dx = v := ⟨_, rfl⟩
      have hK := wx_below wr dx
      rw [hwy] at hK ⊢
      have HT6 := Lib.hid (row_keep HT4.out hK)
      have T6 := Lib.hid (T4.out.grow hK)
      have hb6 := below_keep hb4 hb4.size hK
      have HR := Lib.hid (row_keep HCUR.out hK)
      clear hwy hK o2 o3 lg2 w1' w2' HCUR HT4 T4 hb4 s1
      have o2 : w5.cell? ⟨g, k * 4 + 2, none⟩ = some (.int .i64 p) := own_cell T6.out.1.1.1 shV_len HYK.out (j := 2) rfl
      have o3 : w5.cell? ⟨g, k * 4 + 3, none⟩ = some (.int .i64 q) := own_cell T6.out.1.1.1 shV_len HYK.out (j := 3) rfl
      have f2 := frozen_of_row w5 g (k * 4 + 2) _ _ HR.out
      have f3 := frozen_of_row w5 g (k * 4 + 3) _ _ HR.out
      gi_wp2_with fail
      obtain ⟨w6, hw⟩ : ∃ ww, (w5.setCell ⟨g, k * 4 + 2, none⟩ (.int .i64 (p + d))).setCell ⟨g, k * 4 + 3, none⟩ (.int .i64 (q + d)) = ww := ⟨_, rfl⟩
      rw [hw]
      have hc : wrSh a l k ⟨f, t, p, q⟩ = ⟨f, t, p + d, q + d⟩ := by
        have e1 := HDA.out
        have e2 := HPQ.out
        have e3 := HDD.out.2
        unfold wrSh wrI
        rw [e3, e2, e1]
      have X1 := T6.out.put1s HYK.out (p + d) (q + d)
      rw [hw] at X1
      have X2 := row_other (row_other HT6.out (a := ⟨g, k * 4 + 2, none⟩) (by dsimp only; omega) (.int .i64 (p + d))) (a := ⟨g, k * 4 + 3, none⟩) (by dsimp only; omega) (.int .i64 (q + d))
      rw [hw] at X2
      have X3 := Below.setCell (Below.setCell hb6 (p := ⟨g, k * 4 + 2, none⟩) (Nat.le_of_lt hwg) (.int .i64 (p + d))) (p := ⟨g, k * 4 + 3, none⟩) (Nat.le_of_lt hwg) (.int .i64 (q + d))
      rw [hw] at X3
      rw [← hc] at X1
      have Z1 := Lib.hid X1
      have Z2 := Lib.hid X2
      have Z3 := Lib.hid X3
      have Z0 := Lib.hid hlt
      clear hw hc X1 X2 X3 o2 o3 f2 f3 HR T6 HT6 hb6
      go_wp2
      go_roundw
      case rel => exact ⟨k + 1, (by have := Z0.out; omega), by go_num, Z3.out, Z2.out, by rw [HUS.out]; exact Z1.out⟩
      case measure => (have := Z0.out; simp [intOf] <;> omega)
    · obtain rfl : k = s.shots.length := by omega
      have hfull : updL (wrSh a l) (truS s l).shots s.shots.length = (truS s l).shots.mapIdx (wrSh a l) := by
        have h := updL_full (wrSh a l) (truS s l).shots
        rw [show (truS s l).shots.length = s.shots.length by simp [truS]] at h
        exact h
      rw [hfull] at T4
      have hkk : ¬ ((s.shots.length : Nat) : Int) < (s.shots.length : Int) := by omega
      obtain ⟨w7, hw7⟩ : ∃ v, v = wr := ⟨_, rfl⟩
      subst hw7
      have m0 : w7.cell? ⟨gt, 0, none⟩ = some (.int .i64 s.n) := cell_of_row w7 _ 0 _ _ _ HT4.out
      have m1 : w7.cell? ⟨gt, 1, none⟩ = some (.slice B1 s.shots.length d1) := cell_of_row w7 _ 1 _ _ _ HT4.out
      have m2 : w7.cell? ⟨gt, 2, none⟩ = some (.slice B2 s.marks.length d2) := cell_of_row w7 _ 2 _ _ _ HT4.out
      have m3 : w7.cell? ⟨gt, 3, none⟩ = some (.slice B3 s.threads.length d3) := cell_of_row w7 _ 3 _ _ _ HT4.out
      obtain ⟨wa, w2a⟩ := HWA.out
      clear hfull w2a
      go_wp2_with (go_at_call 28; refine (widen_wr s l HWK.out rr hrr HRP.out d1 d2 d3 B1 B2 B3 w7 (T4.out.1.r1 (by simp [truS])) (T4.out.1.r2 (by simp [truS])) (T4.out.1.r3 rfl)).mono ?_; rintro e w8 ⟨rfl, hK⟩)
      go_ret
      exact ⟨rfl, below_keep hb4 hb4.size hK⟩


set_option maxRecDepth 100000 in
set_option maxHeartbeats 16000000 in
theorem lawLeast_nil (s : Sv) (l : List Int) (a : Int) (cl c1 c2 c3 : Nat) (AL A1 A2 A3 : Option Addr) (w : World)
    (r1 : Rd w w.heap.size A1 shV 4 s.shots) (r2 : Rd w w.heap.size A2 mkV 3 s.marks) (r3 : Rd w w.heap.size A3 shV 4 s.threads) (rl : Rd w w.heap.size AL inV 1 l) (hok : svOk s = true) (ha : 0 ≤ a ∧ a ≤ 255) (hll : l.length ≤ 9223372036854775807) (hP : ∀ m : Nat, m ≤ 20000000 → (wkD s (fun _ => false) (m : Int)).2 = decide (0 ≤ m)) :
    Calls Try.prog 10 #[.agg #[.int .i64 s.n, .slice A1 s.shots.length c1, .slice A2 s.marks.length c2, .slice A3 s.threads.length c3], .slice AL l.length cl, .int .u8 a] w fun e w' => e = .returned (.bool true) ∧ Below w.heap.size w w' := by
  have R1 := Lib.hid r1
  have R2 := Lib.hid r2
  have R3 := Lib.hid r3
  have RL := Lib.hid rl
  have HOK := Lib.hid hok
  have HPP := Lib.hid hP
  obtain ⟨⟨n1, n2, n3, n4, n5⟩, _⟩ := svOk_spec hok
  obtain ⟨rr, hrr, hrm, hrP⟩ := wrS_wid hok l ha.1 ha.2
  have HRP := Lib.hid hrP
  have HWK := Lib.hid (wrS_ok hok l ha.1 ha.2)
  have HSP := Lib.hid ((svOk_iff _).1 (tru_ok hok l))
  have F1 := Lib.hid (show wdB s 0 = true by rw [wdB_eq hok (by omega) (by omega)]; exact hP 0 (by omega))
  clear r1 r2 r3 rl hok hP hrP
  go_enter Try.func10, Try.ntmps10
  go_upto_region 6 with (first | (go_at_call 35; refine (alive_any _).mono ?_; rintro e w1 ⟨rfl, hb1⟩; obtain ⟨hc1, hf1⟩ := bcell hb1; have hz1 := hb1.size; simp at hz1; have hlt : w.heap.size < w1.heap.size := by omega) | (go_at_call 36; (have hbA : Below w.heap.size w w1 := by (repeat' (first | (with_reducible exact Below.refl _ _) | (with_reducible refine Below.alloc ?_ ?_ _) | (with_reducible refine Below.drew ?_) | (with_reducible refine Below.drewN_ ?_ _) | (with_reducible refine Below.setCell ?_ ?_ _) | (with_reducible refine Below.setRow ?_ ?_ _) | (with_reducible refine Below.via ?_ (by with_reducible assumption) ?_) | go_size))); have hr := ready_any s c1 c2 c3 A1 A2 A3 w1 ((R1.out.below hbA).more hbA.size) ((R2.out.below hbA).more hbA.size) ((R3.out.below hbA).more hbA.size); rw [HOK.out] at hr; refine hr.mono ?_; rintro e w2 ⟨rfl, hb2⟩; clear hr; (have S : w2.heap[w.heap.size]? = some (.cells #[.int .i64 s.n, .slice A1 s.shots.length c1, .slice A2 s.marks.length c2, .slice A3 s.threads.length c3] 26 (0, 0)) := row_keep (row_keep (heap_alloc_new _ _) hb1) hb2); have HS := Lib.hid S; clear S))
  have hb3 : Below w.heap.size w w2 := by (repeat' (first | (with_reducible exact Below.refl _ _) | (with_reducible refine Below.alloc ?_ ?_ _) | (with_reducible refine Below.drew ?_) | (with_reducible refine Below.drewN_ ?_ _) | (with_reducible refine Below.setCell ?_ ?_ _) | (with_reducible refine Below.setRow ?_ ?_ _) | (with_reducible refine Below.via ?_ (by with_reducible assumption) ?_) | go_size))
  have hws : w.heap.size < w2.heap.size := (Array.getElem?_eq_some_iff.1 HS.out).1
  clear hb1 hb2 hbA hc1 hf1 hz1 hlt
  have s0 : w2.cell? ⟨w.heap.size, 0, none⟩ = some (.int .i64 s.n) := cell_of_row w2 _ 0 _ _ _ HS.out
  have s1 : w2.cell? ⟨w.heap.size, 1, none⟩ = some (.slice A1 s.shots.length c1) := cell_of_row w2 _ 1 _ _ _ HS.out
  have s2 : w2.cell? ⟨w.heap.size, 2, none⟩ = some (.slice A2 s.marks.length c2) := cell_of_row w2 _ 2 _ _ _ HS.out
  have s3 : w2.cell? ⟨w.heap.size, 3, none⟩ = some (.slice A3 s.threads.length c3) := cell_of_row w2 _ 3 _ _ _ HS.out
  go_upto_region 7 with (go_at_call 28; refine (lwiden_fine s c1 c2 c3 A1 A2 A3 w2 ((R1.out.below hb3).more hb3.size) ((R2.out.below hb3).more hb3.size) ((R3.out.below hb3).more hb3.size) HOK.out 0 (by omega) HPP.out).mono ?_; rintro e v7 ⟨rfl, hK⟩)
  replace HS := Lib.hid (row_keep HS.out hK)
  replace hb3 := below_keep hb3 hb3.size hK
  clear hK s0 s1 s2 s3
  have s0 : v7.cell? ⟨w.heap.size, 0, none⟩ = some (.int .i64 s.n) := cell_of_row v7 _ 0 _ _ _ HS.out
  have s1 : v7.cell? ⟨w.heap.size, 1, none⟩ = some (.slice A1 s.shots.length c1) := cell_of_row v7 _ 1 _ _ _ HS.out
  have s2 : v7.cell? ⟨w.heap.size, 2, none⟩ = some (.slice A2 s.marks.length c2) := cell_of_row v7 _ 2 _ _ _ HS.out
  have s3 : v7.cell? ⟨w.heap.size, 3, none⟩ = some (.slice A3 s.threads.length c3) := cell_of_row v7 _ 3 _ _ _ HS.out
  (try simp only [Int.natCast_zero, Int.ofNat_eq_zero, Nat.cast_ofNat_Int])
  have t1 : True := trivial
  go_upto_region 12 with (go_at_call 43; first | (have _t := t1; clear t1 _t; refine (least_as s 0 F1.out c1 c2 c3 A1 A2 A3 v7 ((R1.out.below hb3).more hb3.size) ((R2.out.below hb3).more hb3.size) ((R3.out.below hb3).more hb3.size) HOK.out (by omega) (by omega)).mono ?_; rintro e v8 ⟨rfl, hK⟩; replace HS := Lib.hid (row_keep HS.out hK); replace hb3 := below_keep hb3 hb3.size hK; clear hK s0 s1 s2 s3; (have s0 := cell_of_row v8 _ 0 _ _ _ HS.out); (have s1 := cell_of_row v8 _ 1 _ _ _ HS.out); (have s2 := cell_of_row v8 _ 2 _ _ _ HS.out); (have s3 := cell_of_row v8 _ 3 _ _ _ HS.out); simp only [List.getElem?_toArray, List.getElem?_cons_zero, List.getElem?_cons_succ] at s0 s1 s2 s3))
  go_upto_region 13 with (go_at_call 37; refine (truth_own s l cl c1 c2 c3 AL A1 A2 A3 v8 HOK.out ((RL.out.below hb3).more hb3.size) hll ((R1.out.below hb3).more hb3.size) ((R2.out.below hb3).more hb3.size) ((R3.out.below hb3).more hb3.size)).mono ?_; rintro e wt ⟨⟨AH, B1, B2, B3, cH, d1, d2, d3, rfl, xh, b1, b2, b3, o1, o2, o3, k1, k2, k3, a1, a2⟩, hbt⟩; have T0 := Lib.hid (twz_of o1 o2 o3 k2 k3 a1 a2); have K1 := Lib.hid k1; clear xh o1 o2 o3 k1 k2 k3 a1 a2)
  have hzt := hbt.size
  obtain ⟨v10, hw⟩ : ∃ v, wt.alloc (.cells #[.int .i64 s.n, .slice B1 s.shots.length d1, .slice B2 s.marks.length d2, .slice B3 s.threads.length d3] 26) = v := ⟨_, rfl⟩
  obtain ⟨gt, hbk⟩ : ∃ b, wt.heap.size = b := ⟨_, rfl⟩
  rw [hw, hbk]
  have hK1 : Below wt.heap.size wt v10 := by rw [← hw]; exact (Below.refl _ _).alloc (Nat.le_refl _) _
  have Ya : v10.heap[gt]? = some (.cells #[.int .i64 s.n, .slice B1 s.shots.length d1, .slice B2 s.marks.length d2, .slice B3 s.threads.length d3] 26 (0, 0)) := by rw [← hw, ← hbk]; exact heap_alloc_new _ _
  have HT := Lib.hid Ya
  have hK : Below v8.heap.size v8 v10 := hbt.trans (hK1.mono hzt)
  have T1 := Lib.hid (T0.out.grow hK1)
  obtain ⟨q2, hq2⟩ : ∃ n, min b2 wt.heap.size = n := ⟨_, rfl⟩
  obtain ⟨q3, hq3⟩ : ∃ n, min b3 wt.heap.size = n := ⟨_, rfl⟩
  obtain ⟨lo, hlo⟩ : ∃ n, min b1 wt.heap.size = n := ⟨_, rfl⟩
  have hvlo : w.heap.size < lo := by have := K1.out; have := (Array.getElem?_eq_some_iff.1 HS.out).1; omega
  rw [hq2, hq3, hlo, hbk] at T1
  replace HS := Lib.hid (row_keep HS.out hK)
  replace hb3 := below_keep hb3 hb3.size hK
  clear hw hbk hK hK1 Ya T0 hlo hq2 hq3 hbt hzt K1 s0 s1 s2 s3 F1 HS R1 R2 R3 HPP
  have s1 : v10.cell? ⟨gt, 1, none⟩ = some (.slice B1 s.shots.length d1) := cell_of_row v10 _ 1 _ _ _ HT.out
  have wa : IntKind.i64.wrap a = a := IntWalk.i64_in _ (by omega)
  obtain ⟨DD, hDD⟩ : ∃ D : Nat, 2 * a = (D : Int) ∧ (2 * a).toNat = D := ⟨(2 * a).toNat, by omega, rfl⟩
  have HDD := Lib.hid hDD
  have hdd : (DD : Int) ≤ 510 := by omega
  have w2a : IntKind.i64.wrap (2 * a) = (DD : Int) := by rw [IntWalk.i64_in _ (by omega)]; exact hDD.1
  clear hDD
  go_upto_region 13 with fail
  have HWA := Lib.hid (And.intro wa w2a)
  clear wa w2a
  go_wp2
  go_loopw [65] (fun v65 W => ∃ k : Nat, k ≤ s.shots.length ∧ v65 = .int .i64 k ∧ Below w.heap.size w W ∧ W.heap[gt]? = some (.cells #[.int .i64 s.n, .slice B1 s.shots.length d1, .slice B2 s.marks.length d2, .slice B3 s.threads.length d3] 26 (0, 0)) ∧ TwZ s.shots.length s.marks.length s.threads.length (updL (wrSh a l) (truS s l).shots k) (truS s l).marks s.threads ⟨B1, B2, B3, d1, d2, d3, q2, q3⟩ lo gt W) (fun i _ => s.shots.length - (intOf i).toNat)
  case atStart => exact ⟨0, by omega, rfl, hb3, HT.out, by rw [updL_zero]; exact T1.out⟩
  case round =>
    obtain ⟨k, hk, rfl, hb4, ht4, hT4⟩ := hrel
    have HT4 := Lib.hid ht4
    have T4 := Lib.hid hT4
    clear ht4 hT4 T1 HT hb3 s1
    by_cases hlt : k < s.shots.length
    · have hlt2 : k < (truS s l).shots.length := by simp [truS]; exact hlt
      have hyl := HSP.out.2.1 _ (List.getElem_mem hlt2)
      have hyk := updL_get (wrSh a l) (truS s l).shots hlt2
      have HUS := Lib.hid (updL_succ (wrSh a l) (truS s l).shots hlt2)
      obtain ⟨⟨f, t, p, q⟩, hy⟩ : ∃ y, (truS s l).shots[k] = y := ⟨_, rfl⟩
      rw [hy] at hyl hyk HUS
      have hyb := shOk_spec hyl
      dsimp only at hyb
      obtain ⟨y1, y2, y3, y4, y5, y6, y7, y8⟩ := hyb
      have HYK := Lib.hid hyk
      obtain ⟨g, hg, lg, ug⟩ := T4.out.1.1.at_ (by rw [updL_len]; exact Nat.lt_of_le_of_lt (Nat.zero_le _) hlt2)
      dsimp only at hg ug
      subst hg
      have hgb : g < gt := by have := T4.out.1.2.2.2; dsimp only at this; omega
      have hwg : w.heap.size < g := by omega
      have s1 : wr.cell? ⟨gt, 1, none⟩ = some (.slice (some ⟨g, 0, none⟩) s.shots.length d1) := cell_of_row wr _ 1 _ _ _ HT4.out
      have hkI : (k : Int) < (s.shots.length : Int) := by omega
      obtain ⟨pp, hpp⟩ : ∃ x, partI DD l (k + 2) = x := ⟨_, rfl⟩
      have hpb := partI_bd DD l (k + 2)
      rw [hpp] at hpb
      have HPQ := Lib.hid hpp
      have hk2 : IntKind.i64.wrap ((k : Int) + 2) = (k : Int) + 2 := IntWalk.i64_in _ (by omega)
      have wpa : IntKind.i64.wrap (pp - a) = pp - a := IntWalk.i64_in _ (by omega)
      obtain ⟨wa, w2a⟩ := HWA.out
      have HPT : Hid (Calls Try.prog 38 #[.int .i64 (DD : Int), .slice AL l.length cl, .int .i64 ((k : Int) + 2)] wr fun e w' => e = .returned (.int .i64 pp) ∧ wr = w') := Lib.hid (by
        rw [← HPQ.out]
        exact part_any DD l (k + 2) cl AL wr ((RL.out.below hb4).more hb4.size) hll (by omega) (by omega))
      clear hyl hyk hy lg ug hpp hlt2
      go_upto_region 17 with (go_at_call 38; refine HPT.out.mono ?_; rintro e wp ⟨rfl, rfl⟩)
      clear HPT hk2 wpa wa w2a
      obtain ⟨d, hd⟩ : ∃ d, pp - a = d := ⟨_, rfl⟩
      rw [hd]
      have hdb : -255 ≤ d ∧ d ≤ 255 := by have := HDD.out; omega
      have HDA := Lib.hid hd
      clear hd hpb
      have o2 : wr.cell? ⟨g, k * 4 + 2, none⟩ = some (.int .i64 p) := own_cell T4.out.1.1.1 shV_len HYK.out (j := 2) rfl
      have o3 : wr.cell? ⟨g, k * 4 + 3, none⟩ = some (.int .i64 q) := own_cell T4.out.1.1.1 shV_len HYK.out (j := 3) rfl
      obtain ⟨cur, hrow⟩ := own_row T4.out.1.1.1
      have lg2 := (Array.getElem?_eq_some_iff.1 hrow).1
      have HCUR := Lib.hid hrow
      clear hrow
      have w1' : IntKind.i64.wrap (p + d) = p + d := IntWalk.i64_in _ (by omega)
      have w2' : IntKind.i64.wrap (q + d) = q + d := IntWalk.i64_in _ (by omega)
      go_upto_region 18 with fail
      refine wp_region_calm_tail 15 (by kernel_rfl) (by decide +kernel) (by omega) ?_
      (simp only [List.take_succ_cons, List.take_zero, List.drop_succ_cons, List.drop_zero])
      repeat (go_big_quiet_step ((go_at_call 39; exact calm_of (span_any _ _ _))))
      refine wpQuiet_nil ?_
      rintro _ ⟨dx, rfl⟩
      obtain ⟨w5, hwy⟩ : ∃ v, wx _ dx = v := ⟨_, rfl⟩
      have hK := wx_below wr dx
      rw [hwy] at hK ⊢
      have HT6 := Lib.hid (row_keep HT4.out hK)
      have T6 := Lib.hid (T4.out.grow hK)
      have hb6 := below_keep hb4 hb4.size hK
      have HR := Lib.hid (row_keep HCUR.out hK)
      clear hwy hK o2 o3 lg2 w1' w2' HCUR HT4 T4 hb4 s1
      have o2 : w5.cell? ⟨g, k * 4 + 2, none⟩ = some (.int .i64 p) := own_cell T6.out.1.1.1 shV_len HYK.out (j := 2) rfl
      have o3 : w5.cell? ⟨g, k * 4 + 3, none⟩ = some (.int .i64 q) := own_cell T6.out.1.1.1 shV_len HYK.out (j := 3) rfl
      have f2 := frozen_of_row w5 g (k * 4 + 2) _ _ HR.out
      have f3 := frozen_of_row w5 g (k * 4 + 3) _ _ HR.out
      gi_wp2_with fail
      obtain ⟨w6, hw⟩ : ∃ ww, (w5.setCell ⟨g, k * 4 + 2, none⟩ (.int .i64 (p + d))).setCell ⟨g, k * 4 + 3, none⟩ (.int .i64 (q + d)) = ww := ⟨_, rfl⟩
      rw [hw]
      have hc : wrSh a l k ⟨f, t, p, q⟩ = ⟨f, t, p + d, q + d⟩ := by
        have e1 := HDA.out
        have e2 := HPQ.out
        have e3 := HDD.out.2
        unfold wrSh wrI
        rw [e3, e2, e1]
      have X1 := T6.out.put1s HYK.out (p + d) (q + d)
      rw [hw] at X1
      have X2 := row_other (row_other HT6.out (a := ⟨g, k * 4 + 2, none⟩) (by dsimp only; omega) (.int .i64 (p + d))) (a := ⟨g, k * 4 + 3, none⟩) (by dsimp only; omega) (.int .i64 (q + d))
      rw [hw] at X2
      have X3 := Below.setCell (Below.setCell hb6 (p := ⟨g, k * 4 + 2, none⟩) (Nat.le_of_lt hwg) (.int .i64 (p + d))) (p := ⟨g, k * 4 + 3, none⟩) (Nat.le_of_lt hwg) (.int .i64 (q + d))
      rw [hw] at X3
      rw [← hc] at X1
      have Z1 := Lib.hid X1
      have Z2 := Lib.hid X2
      have Z3 := Lib.hid X3
      have Z0 := Lib.hid hlt
      clear hw hc X1 X2 X3 o2 o3 f2 f3 HR T6 HT6 hb6
      go_wp2
      go_roundw
      case rel => exact ⟨k + 1, (by have := Z0.out; omega), by go_num, Z3.out, Z2.out, by rw [HUS.out]; exact Z1.out⟩
      case measure => (have := Z0.out; simp [intOf] <;> omega)
    · obtain rfl : k = s.shots.length := by omega
      have hfull : updL (wrSh a l) (truS s l).shots s.shots.length = (truS s l).shots.mapIdx (wrSh a l) := by
        have h := updL_full (wrSh a l) (truS s l).shots
        rw [show (truS s l).shots.length = s.shots.length by simp [truS]] at h
        exact h
      rw [hfull] at T4
      have hkk : ¬ ((s.shots.length : Nat) : Int) < (s.shots.length : Int) := by omega
      obtain ⟨w7, hw7⟩ : ∃ v, v = wr := ⟨_, rfl⟩
      subst hw7
      have m0 : w7.cell? ⟨gt, 0, none⟩ = some (.int .i64 s.n) := cell_of_row w7 _ 0 _ _ _ HT4.out
      have m1 : w7.cell? ⟨gt, 1, none⟩ = some (.slice B1 s.shots.length d1) := cell_of_row w7 _ 1 _ _ _ HT4.out
      have m2 : w7.cell? ⟨gt, 2, none⟩ = some (.slice B2 s.marks.length d2) := cell_of_row w7 _ 2 _ _ _ HT4.out
      have m3 : w7.cell? ⟨gt, 3, none⟩ = some (.slice B3 s.threads.length d3) := cell_of_row w7 _ 3 _ _ _ HT4.out
      obtain ⟨wa, w2a⟩ := HWA.out
      clear hfull w2a
      go_wp2_with (go_at_call 28; refine (widen_wr s l HWK.out rr hrr HRP.out d1 d2 d3 B1 B2 B3 w7 (T4.out.1.r1 (by simp [truS])) (T4.out.1.r2 (by simp [truS])) (T4.out.1.r3 rfl)).mono ?_; rintro e w8 ⟨rfl, hK⟩)
      go_ret
      exact ⟨rfl, below_keep hb4 hb4.size hK⟩


/-- LevelLeast answers true. -/
theorem lawLeast_any (s : Sv) (l : List Int) (a : Int) (cl c1 c2 c3 : Nat) (AL A1 A2 A3 : Option Addr) (w : World)
    (r1 : Rd w w.heap.size A1 shV 4 s.shots) (r2 : Rd w w.heap.size A2 mkV 3 s.marks) (r3 : Rd w w.heap.size A3 shV 4 s.threads) (rl : Rd w w.heap.size AL inV 1 l) (hll : l.length ≤ 9223372036854775807) (ha : 0 ≤ a ∧ a ≤ 255) :
    Calls Try.prog 10 #[.agg #[.int .i64 s.n, .slice A1 s.shots.length c1, .slice A2 s.marks.length c2, .slice A3 s.threads.length c3], .slice AL l.length cl, .int .u8 a] w fun e w' => e = .returned (.bool true) ∧ Below w.heap.size w w' := by
  cases hok : svOk s
  · exact lawLeast_bad s l a cl c1 c2 c3 AL A1 A2 A3 w r1 r2 r3 rl hok
  · obtain ⟨r, hr, hP⟩ := wid_least (fun _ => false) hok
    rcases Nat.eq_zero_or_pos r with h0 | h0
    · subst h0
      exact lawLeast_nil s l a cl c1 c2 c3 AL A1 A2 A3 w r1 r2 r3 rl hok ha hll hP
    · exact lawLeast_pos s l a cl c1 c2 c3 AL A1 A2 A3 w r1 r2 r3 rl hok ha hll r hr hP h0

end Go.Proofs.Ytaoonfmcimkmhaa
