/- The law LevelTrue (the stage's theorem) answers true of every survey that reads as plain data, and of every list of numbers. Condition: the slices read below the heap's end. -/
import Derived.Test.YtaoonfmcimkmhaaAlive
import Derived.Test.YtaoonfmcimkmhaaTruth
import Derived.Test.YtaoonfmcimkmhaaCalm
import Derived.BigRegion
set_option linter.unusedVariables false
set_option linter.unusedSimpArgs false
namespace Go.Proofs.Ytaoonfmcimkmhaa
open Go.RowKit
attribute [local go_sem] wx_cell wx_frozen

theorem mul_bd {p g : Int} (h1 : -20000000000 ≤ p) (h2 : p ≤ 20000000000) (h3 : 0 ≤ g) (h4 : g ≤ 100000000) : -2000000000000000000 ≤ p * g ∧ p * g ≤ 2000000000000000000 := by
  have a1 := Int.mul_le_mul_of_nonneg_right h1 h3
  have a2 := Int.mul_le_mul_of_nonneg_right h2 h3
  omega
theorem tru_e1 (s : Sv) (l : List Int) : (truS s l).shots.length = s.shots.length := by simp [truS]
theorem tru_e2 (s : Sv) (l : List Int) : (truS s l).marks.length = s.marks.length := by simp [truS]
theorem heights_tru (s : Sv) (l : List Int) {L : List (Int × Int)} (h : lvHeights (truS s l) = (L, 0)) (d1 d2 d3 : Nat) (B1 B2 B3 : Option Addr) (w : World) (q1 : Rd w w.heap.size B1 shV 4 (truS s l).shots) (q2 : Rd w w.heap.size B2 mkV 3 (truS s l).marks) (q3 : Rd w w.heap.size B3 shV 4 s.threads) :
    Calls Try.prog 16 #[.agg #[.int .i64 s.n, .slice B1 s.shots.length d1, .slice B2 s.marks.length d2, .slice B3 s.threads.length d3]] w fun e w' => (∃ A c, e = .returned (.tuple #[.slice A L.length c, .int .i64 0]) ∧ Rd w' w'.heap.size A spV 2 L) ∧ Below w.heap.size w w' := by
  have h1 := heights_as (truS s l) d1 d2 d3 B1 B2 B3 w q1 q2 q3 h
  rw [tru_e1, tru_e2] at h1
  exact h1

theorem fall_tru (s : Sv) (l : List Int) {i j : Nat} {p q : Int} (h : lvFall (truS s l) i j = ((p, q), 0)) (d1 d2 d3 : Nat) (B1 B2 B3 : Option Addr) (w : World) (q1 : Rd w w.heap.size B1 shV 4 (truS s l).shots) (q2 : Rd w w.heap.size B2 mkV 3 (truS s l).marks) (q3 : Rd w w.heap.size B3 shV 4 s.threads) :
    Calls Try.prog 18 #[.agg #[.int .i64 s.n, .slice B1 s.shots.length d1, .slice B2 s.marks.length d2, .slice B3 s.threads.length d3], .int .i64 (i : Int), .int .i64 (j : Int)] w fun e w' => e = .returned (.tuple #[.agg #[.int .i64 p, .int .i64 q], .int .i64 0]) ∧ Below w.heap.size w w' := by
  have h1 := fall_as (truS s l) i j d1 d2 d3 B1 B2 B3 w q1 q2 q3 h
  rw [tru_e1, tru_e2] at h1
  exact h1

theorem slope_tru (s : Sv) (l : List Int) {i : Nat} {p q : Int} (h : lvSlope (truS s l) i = ((p, q), 0)) (d1 d2 d3 : Nat) (B1 B2 B3 : Option Addr) (w : World) (q1 : Rd w w.heap.size B1 shV 4 (truS s l).shots) (q2 : Rd w w.heap.size B2 mkV 3 (truS s l).marks) (q3 : Rd w w.heap.size B3 shV 4 s.threads) :
    Calls Try.prog 31 #[.agg #[.int .i64 s.n, .slice B1 s.shots.length d1, .slice B2 s.marks.length d2, .slice B3 s.threads.length d3], .int .i64 (i : Int)] w fun e w' => e = .returned (.tuple #[.agg #[.int .i64 p, .int .i64 q], .int .i64 0]) ∧ Below w.heap.size w w' := by
  have h1 := lslope_any (truS s l) i d1 d2 d3 B1 B2 B3 w q1 q2 q3
  rw [tru_e1, tru_e2] at h1
  rw [h] at h1
  exact h1

theorem runs_tru (s : Sv) (l : List Int) {xs : List Int} {n : Nat} (hn : xs.length = n) {L : List Int} (h : lvRuns (truS s l) xs = (L, 0)) (cp : Nat) (AP : Option Addr) (d1 d2 d3 : Nat) (B1 B2 B3 : Option Addr) (w : World) (q1 : Rd w w.heap.size B1 shV 4 (truS s l).shots) (q2 : Rd w w.heap.size B2 mkV 3 (truS s l).marks) (q3 : Rd w w.heap.size B3 shV 4 s.threads) (rp : Rd w w.heap.size AP inV 1 xs) :
    Calls Try.prog 33 #[.agg #[.int .i64 s.n, .slice B1 s.shots.length d1, .slice B2 s.marks.length d2, .slice B3 s.threads.length d3], .slice AP n cp] w fun e w' => (∃ A c, e = .returned (.tuple #[.slice A L.length c, .int .i64 0]) ∧ Rd w' w'.heap.size A u8V 1 L) ∧ Below w.heap.size w w' := by
  have h1 := lruns_any (truS s l) xs cp d1 d2 d3 AP B1 B2 B3 w q1 q2 q3 rp
  rw [tru_e1, tru_e2] at h1
  rw [h, hn] at h1
  exact h1

theorem clash_tru (s : Sv) (l : List Int) (hok : svOk s = true) (d1 d2 d3 : Nat) (B1 B2 B3 : Option Addr) (w : World) (q1 : Rd w w.heap.size B1 shV 4 (truS s l).shots) (q2 : Rd w w.heap.size B2 mkV 3 (truS s l).marks) (q3 : Rd w w.heap.size B3 shV 4 s.threads) :
    Calls Try.prog 26 #[.agg #[.int .i64 s.n, .slice B1 s.shots.length d1, .slice B2 s.marks.length d2, .slice B3 s.threads.length d3]] w fun e w' => (∃ A c, e = .returned (.tuple #[.slice A 0 c, .int .i64 6])) ∧ Below w.heap.size w w' := by
  have h1 := lclash_any (truS s l) d1 d2 d3 B1 B2 B3 w q1 q2 q3
  rw [tru_e1, tru_e2] at h1
  rw [tru_clash hok l] at h1
  exact h1.mono fun e w' ⟨⟨A, c, h, _⟩, hb⟩ => ⟨⟨A, c, h⟩, hb⟩

theorem widen_tru (s : Sv) (l : List Int) (hok : svOk s = true) (d1 d2 d3 : Nat) (B1 B2 B3 : Option Addr) (w : World) (q1 : Rd w w.heap.size B1 shV 4 (truS s l).shots) (q2 : Rd w w.heap.size B2 mkV 3 (truS s l).marks) (q3 : Rd w w.heap.size B3 shV 4 s.threads) :
    Calls Try.prog 28 #[.agg #[.int .i64 s.n, .slice B1 s.shots.length d1, .slice B2 s.marks.length d2, .slice B3 s.threads.length d3]] w fun e w' => e = .returned (.tuple #[.int .i64 0, .int .i64 0]) ∧ Below w.heap.size w w' := by
  have h1 := lwiden_fine (truS s l) d1 d2 d3 B1 B2 B3 w q1 q2 q3 (tru_ok hok l) 0 (by omega) (tru_wid hok l)
  rw [tru_e1, tru_e2] at h1
  exact h1

set_option maxRecDepth 100000 in
set_option maxHeartbeats 16000000 in
theorem lawTrue_bad (s : Sv) (l : List Int) (cl c1 c2 c3 : Nat) (AL A1 A2 A3 : Option Addr) (w : World)
    (r1 : Rd w w.heap.size A1 shV 4 s.shots) (r2 : Rd w w.heap.size A2 mkV 3 s.marks) (r3 : Rd w w.heap.size A3 shV 4 s.threads) (rl : Rd w w.heap.size AL inV 1 l) (hok : svOk s = false) :
    Calls Try.prog 6 #[.agg #[.int .i64 s.n, .slice A1 s.shots.length c1, .slice A2 s.marks.length c2, .slice A3 s.threads.length c3], .slice AL l.length cl] w fun e w' => e = .returned (.bool true) ∧ Below w.heap.size w w' := by
  have R1 := Lib.hid r1
  have R2 := Lib.hid r2
  have R3 := Lib.hid r3
  have RL := Lib.hid rl
  have HOK := Lib.hid hok
  clear r1 r2 r3 rl hok
  go_enter Try.func6, Try.ntmps6
  go_wp2_with (first | (go_at_call 35; refine (alive_any _).mono ?_; rintro e w1 ⟨rfl, hb1⟩; obtain ⟨hc1, hf1⟩ := bcell hb1; have hz1 := hb1.size; simp at hz1; have hlt : w.heap.size < w1.heap.size := by omega) | (go_at_call 36; (have hbA : Below w.heap.size w w1 := by (repeat' (first | (with_reducible exact Below.refl _ _) | (with_reducible refine Below.alloc ?_ ?_ _) | (with_reducible refine Below.drew ?_) | (with_reducible refine Below.drewN_ ?_ _) | (with_reducible refine Below.setCell ?_ ?_ _) | (with_reducible refine Below.setRow ?_ ?_ _) | (with_reducible refine Below.via ?_ (by with_reducible assumption) ?_) | go_size))); have hr := ready_any s c1 c2 c3 A1 A2 A3 w1 ((R1.out.below hbA).more hbA.size) ((R2.out.below hbA).more hbA.size) ((R3.out.below hbA).more hbA.size); rw [HOK.out] at hr; refine hr.mono ?_; rintro e w2 ⟨rfl, hb2⟩; clear hr))
  go_ret
  exact ⟨rfl, by (repeat' (first | (with_reducible exact Below.refl _ _) | (with_reducible refine Below.alloc ?_ ?_ _) | (with_reducible refine Below.drew ?_) | (with_reducible refine Below.drewN_ ?_ _) | (with_reducible refine Below.setCell ?_ ?_ _) | (with_reducible refine Below.setRow ?_ ?_ _) | (with_reducible refine Below.via ?_ (by with_reducible assumption) ?_) | go_size))⟩

set_option maxRecDepth 100000 in
set_option maxHeartbeats 16000000 in
theorem lawTrue_fine (s : Sv) (l : List Int) (cl c1 c2 c3 : Nat) (AL A1 A2 A3 : Option Addr) (w : World)
    (r1 : Rd w w.heap.size A1 shV 4 s.shots) (r2 : Rd w w.heap.size A2 mkV 3 s.marks) (r3 : Rd w w.heap.size A3 shV 4 s.threads) (rl : Rd w w.heap.size AL inV 1 l) (hok : svOk s = true) (hl : l.length ≤ 9223372036854775807) :
    Calls Try.prog 6 #[.agg #[.int .i64 s.n, .slice A1 s.shots.length c1, .slice A2 s.marks.length c2, .slice A3 s.threads.length c3], .slice AL l.length cl] w fun e w' => e = .returned (.bool true) ∧ Below w.heap.size w w' := by
  have R1 := Lib.hid r1
  have R2 := Lib.hid r2
  have R3 := Lib.hid r3
  have RL := Lib.hid rl
  have HOK := Lib.hid hok
  obtain ⟨⟨n1, n2, n3, n4, n5⟩, _⟩ := svOk_spec hok
  obtain ⟨LH, hLH, hLn, hLat⟩ := tru_heights hok l
  have H5 := Lib.hid hLH
  have HLN := Lib.hid hLn
  have HLAT := Lib.hid hLat
  obtain ⟨nn, hnI, hn20, hnn⟩ : ∃ n : Nat, s.n = (n : Int) ∧ n ≤ 20 ∧ s.n.toNat = n := ⟨s.n.toNat, by omega, by omega, rfl⟩
  have hn1 : 1 ≤ nn := by omega
  have HNI := Lib.hid hnI
  have HNN := Lib.hid hnn
  clear r1 r2 r3 rl hok hLH hLn hLat hnI hnn n1 n2
  go_enter Try.func6, Try.ntmps6
  go_upto_region 6 with (first | (go_at_call 35; refine (alive_any _).mono ?_; rintro e w1 ⟨rfl, hb1⟩; obtain ⟨hc1, hf1⟩ := bcell hb1; have hz1 := hb1.size; simp at hz1; have hlt : w.heap.size < w1.heap.size := by omega) | (go_at_call 36; (have hbA : Below w.heap.size w w1 := by (repeat' (first | (with_reducible exact Below.refl _ _) | (with_reducible refine Below.alloc ?_ ?_ _) | (with_reducible refine Below.drew ?_) | (with_reducible refine Below.drewN_ ?_ _) | (with_reducible refine Below.setCell ?_ ?_ _) | (with_reducible refine Below.setRow ?_ ?_ _) | (with_reducible refine Below.via ?_ (by with_reducible assumption) ?_) | go_size))); have hr := ready_any s c1 c2 c3 A1 A2 A3 w1 ((R1.out.below hbA).more hbA.size) ((R2.out.below hbA).more hbA.size) ((R3.out.below hbA).more hbA.size); rw [HOK.out] at hr; refine hr.mono ?_; rintro e w2 ⟨rfl, hb2⟩; clear hr))
  have hzz := hb2.size
  have hb3 : Below w.heap.size w w2 := by (repeat' (first | (with_reducible exact Below.refl _ _) | (with_reducible refine Below.alloc ?_ ?_ _) | (with_reducible refine Below.drew ?_) | (with_reducible refine Below.drewN_ ?_ _) | (with_reducible refine Below.setCell ?_ ?_ _) | (with_reducible refine Below.setRow ?_ ?_ _) | (with_reducible refine Below.via ?_ (by with_reducible assumption) ?_) | go_size))
  have hws : w.heap.size < w2.heap.size := by omega
  have S : w2.heap[w.heap.size]? = some (.cells #[.int .i64 s.n, .slice A1 s.shots.length c1, .slice A2 s.marks.length c2, .slice A3 s.threads.length c3] 26 (0, 0)) := row_keep (row_keep (heap_alloc_new _ _) hb1) hb2
  have HS0 := Lib.hid S
  have s0 : w2.cell? ⟨w.heap.size, 0, none⟩ = some (.int .i64 s.n) := cell_of_row w2 _ 0 _ _ _ S
  have s1 : w2.cell? ⟨w.heap.size, 1, none⟩ = some (.slice A1 s.shots.length c1) := cell_of_row w2 _ 1 _ _ _ S
  have s2 : w2.cell? ⟨w.heap.size, 2, none⟩ = some (.slice A2 s.marks.length c2) := cell_of_row w2 _ 2 _ _ _ S
  have s3 : w2.cell? ⟨w.heap.size, 3, none⟩ = some (.slice A3 s.threads.length c3) := cell_of_row w2 _ 3 _ _ _ S
  clear S hb1 hb2 hbA hc1 hf1 hz1 hlt hzz
  go_upto_region 7 with (go_at_call 37; refine (truth_any s l cl c1 c2 c3 AL A1 A2 A3 w2 HOK.out ((RL.out.below hb3).more hb3.size) hl ((R1.out.below hb3).more hb3.size) ((R2.out.below hb3).more hb3.size) ((R3.out.below hb3).more hb3.size)).mono ?_; rintro e wt ⟨⟨AH, B1, B2, B3, cH, d1, d2, d3, rfl, xh, x1, x2, x3⟩, hbt⟩; have XH := Lib.hid xh; have X1 := Lib.hid x1; have X2 := Lib.hid x2; have X3 := Lib.hid x3; clear xh x1 x2 x3; have St := row_keep HS0.out hbt; have k0 := cell_of_row wt _ 0 _ _ _ St; have k1 := cell_of_row wt _ 1 _ _ _ St; have k2 := cell_of_row wt _ 2 _ _ _ St; have k3 := cell_of_row wt _ 3 _ _ _ St; have f0 := frozen_of_row wt w.heap.size 0 _ _ St; have f1 := frozen_of_row wt w.heap.size 1 _ _ St; have f2 := frozen_of_row wt w.heap.size 2 _ _ St; have f3 := frozen_of_row wt w.heap.size 3 _ _ St; simp only [List.getElem?_toArray, List.getElem?_cons_zero, List.getElem?_cons_succ] at k0 k1 k2 k3; have HSt := Lib.hid St; clear St)
  rw [HNN.out]
  obtain ⟨v6, hv6⟩ : ∃ v, ((((wt.setCell ⟨w.heap.size, 0, none⟩ (.int .i64 s.n)).setCell ⟨w.heap.size, 1, none⟩ (.slice B1 s.shots.length d1)).setCell ⟨w.heap.size, 2, none⟩ (.slice B2 s.marks.length d2)).setCell ⟨w.heap.size, 3, none⟩ (.slice B3 s.threads.length d3)) = v := ⟨_, rfl⟩
  rw [hv6]
  have T6 := heap_set4 (a := .int .i64 s.n) (b := .slice B1 s.shots.length d1) (c := .slice B2 s.marks.length d2) (d := .slice B3 s.threads.length d3) HSt.out
  rw [hv6] at T6
  have HS := Lib.hid T6
  have hzt := hbt.size
  have hsz6 : v6.heap.size = wt.heap.size := by rw [← hv6]; simp
  have hoth : ∀ b o, b ≠ w.heap.size → v6.cell? ⟨b, o, none⟩ = wt.cell? ⟨b, o, none⟩ := fun b o hb => by
    refine World.cell?_of_block (w := wt) (a := ⟨b, o, none⟩) ?_
    show v6.heap[b]? = wt.heap[b]?
    rw [← hv6, Below.heap_setCell _ _ _ _ hb, Below.heap_setCell _ _ _ _ hb, Below.heap_setCell _ _ _ _ hb, Below.heap_setCell _ _ _ _ hb]
  have hrd : ∀ {α : Type} {A : Option Addr} {enc : α → List Value} {sz : Nat} {ll : List α}, Rd wt wt.heap.size A enc sz ll → (∀ a, A = some a → a.block ≠ w.heap.size) → Rd v6 v6.heap.size A enc sz ll := fun h hne hlen => by
    obtain ⟨b, o, hA, hb, hc⟩ := h hlen
    exact ⟨b, o, hA, by omega, fun k x hx j v hv => (hoth b _ (by have := hne _ hA; exact this)).trans (hc k x hx j v hv)⟩
  have Q1 := Lib.hid (hrd X1.out.1 (fun a ha => by have := X1.out.2 a ha; omega))
  have Q2 := Lib.hid (hrd X2.out.1 (fun a ha => by have := X2.out.2 a ha; omega))
  have Q3 := Lib.hid (hrd X3.out.1 (fun a ha => by have := X3.out.2 a ha; omega))
  have QH := Lib.hid (hrd XH.out.1 (fun a ha => by have := XH.out.2 a ha; omega))
  have hb0t : Below w.heap.size w wt := hb3.trans (hbt.mono hb3.size)
  have QB := Lib.hid (((RL.out.below hb0t).keep (w' := v6) (fun b o hb => hoth b o (by omega))).more (by omega : w.heap.size ≤ v6.heap.size))
  replace hb3 : Below w.heap.size w v6 := by rw [← hv6]; exact (((hb0t.setCell (Nat.le_refl _) _).setCell (Nat.le_refl _) _).setCell (Nat.le_refl _) _).setCell (Nat.le_refl _) _
  clear hv6 T6 hoth hrd hb0t hbt X1 X2 X3 XH HSt HS0 k0 k1 k2 k3 f0 f1 f2 f3 hsz6 hzt hws s0 s1 s2 s3 R1 R2 R3 RL
  have s0 : v6.cell? ⟨w.heap.size, 0, none⟩ = some (.int .i64 s.n) := cell_of_row v6 _ 0 _ _ _ HS.out
  have s1 : v6.cell? ⟨w.heap.size, 1, none⟩ = some (.slice B1 s.shots.length d1) := cell_of_row v6 _ 1 _ _ _ HS.out
  have s2 : v6.cell? ⟨w.heap.size, 2, none⟩ = some (.slice B2 s.marks.length d2) := cell_of_row v6 _ 2 _ _ _ HS.out
  have s3 : v6.cell? ⟨w.heap.size, 3, none⟩ = some (.slice B3 s.threads.length d3) := cell_of_row v6 _ 3 _ _ _ HS.out
  go_upto_region 8 with (go_at_call 16; refine (heights_tru s l H5.out d1 d2 d3 B1 B2 B3 v6 Q1.out Q2.out Q3.out).mono ?_; rintro e v7 ⟨⟨LA, cA, rfl, qh⟩, hK⟩)
  have QL := Lib.hid qh
  replace Q1 := Lib.hid (rd_keep Q1.out hK)
  replace Q2 := Lib.hid (rd_keep Q2.out hK)
  replace Q3 := Lib.hid (rd_keep Q3.out hK)
  replace QH := Lib.hid (rd_keep QH.out hK)
  replace QB := Lib.hid (rd_keep QB.out hK)
  replace HS := Lib.hid (row_keep HS.out hK)
  replace hb3 := below_keep hb3 hb3.size hK
  clear hK qh s0 s1 s2 s3
  have hlenL : LH.length = nn := HLN.out.trans HNN.out
  rw [hlenL]
  have hnnb : ((nn : Int) != s.n) = false := by rw [bne_eq_false_iff_eq, HNI.out]
  clear hlenL
  have s0 : v7.cell? ⟨w.heap.size, 0, none⟩ = some (.int .i64 s.n) := cell_of_row v7 _ 0 _ _ _ HS.out
  have s1 : v7.cell? ⟨w.heap.size, 1, none⟩ = some (.slice B1 s.shots.length d1) := cell_of_row v7 _ 1 _ _ _ HS.out
  have s2 : v7.cell? ⟨w.heap.size, 2, none⟩ = some (.slice B2 s.marks.length d2) := cell_of_row v7 _ 2 _ _ _ HS.out
  have s3 : v7.cell? ⟨w.heap.size, 3, none⟩ = some (.slice B3 s.threads.length d3) := cell_of_row v7 _ 3 _ _ _ HS.out
  go_upto_region 10 with fail
  clear hnnb s0 s1 s2 s3
  go_wp2
  go_loopw [59] (fun v W => ∃ k : Nat, k ≤ nn ∧ v = .int .i64 k ∧ Below v7.heap.size v7 W) (fun i _ => nn - (intOf i).toNat)
  case atStart => exact ⟨0, by omega, rfl, Below.refl _ _⟩
  case round =>
    obtain ⟨k, hk, rfl, hK⟩ := hrel
    by_cases hlt : k < nn
    · obtain ⟨p, q, hpq, hp1, hp2⟩ := HLAT.out k (by rw [HNN.out]; exact hlt)
      obtain ⟨bl, ol, hLA, hbl, hcell⟩ := (rd_keep QL.out hK) (by rw [HLN.out, HNN.out]; omega)
      subst hLA
      have e0 := hcell k _ hpq 0 _ rfl
      have e1 := hcell k _ hpq 1 _ rfl
      simp only [Nat.add_zero] at e0
      obtain ⟨bh, oh, hAH, hbh, hch⟩ := (rd_keep QH.out hK) (by rw [trL_len, HNN.out]; omega)
      subst hAH
      have eh := hch k _ (trL_at s l (by rw [HNN.out]; exact hlt)) 0 _ rfl
      simp only [Nat.add_zero, Nat.mul_one] at eh
      have hkI : (k : Int) < (nn : Int) := by omega
      obtain ⟨x, hx⟩ : ∃ x, trH l k = x := ⟨_, rfl⟩
      rw [hx] at eh hp1 hp2
      have g1 : ¬ x < p := by omega
      have g2 : ¬ q < x := by omega
      clear hcell hch hpq hx
      dsimp only at e0 e1
      go_upto_region 13 with fail
      have hzK := hK.size
      go_region
      go_wp2
      go_roundw
      case rel => exact ⟨k + 1, by omega, by go_num, by (repeat' (first | (with_reducible exact Below.refl _ _) | (with_reducible refine Below.alloc ?_ ?_ _) | (with_reducible refine Below.drew ?_) | (with_reducible refine Below.drewN_ ?_ _) | (with_reducible refine Below.setCell ?_ ?_ _) | (with_reducible refine Below.setRow ?_ ?_ _) | (with_reducible refine Below.via ?_ (by with_reducible assumption) ?_) | go_size))⟩
      case measure => (simp [intOf] <;> omega)
    · have hkn : nn = k := by omega
      subst hkn
      have hkk : ¬ (nn : Int) < (nn : Int) := by omega
      obtain ⟨v8, hv8⟩ : ∃ v8, v8 = wr := ⟨_, rfl⟩
      subst hv8
      replace Q1 := Lib.hid (rd_keep Q1.out hK)
      replace Q2 := Lib.hid (rd_keep Q2.out hK)
      replace Q3 := Lib.hid (rd_keep Q3.out hK)
      replace QH := Lib.hid (rd_keep QH.out hK)
      replace QB := Lib.hid (rd_keep QB.out hK)
      replace HS := Lib.hid (row_keep HS.out hK)
      replace hb3 := below_keep hb3 hb3.size hK
      clear hK QL
      obtain ⟨i0, hi0, hz0, hz0b, hz0c⟩ := info_parts infoInt
      have I0 := Lib.hid (And.intro hi0 (And.intro hz0 (And.intro hz0b hz0c)))
      clear hi0 hz0 hz0b hz0c
      have s0 : v8.cell? ⟨w.heap.size, 0, none⟩ = some (.int .i64 s.n) := cell_of_row v8 _ 0 _ _ _ HS.out
      go_upto_region 18 with fail
      clear s0
      go_wp2
      go_loopw [11, 83] (fun v11 v83 W => ∃ k : Nat, k ≤ nn ∧ v83 = .int .i64 k ∧ Own W v8.heap.size 3 v11 inV 1 ((allPts nn).take k) ∧ Below v8.heap.size v8 W) (fun _ i _ => nn - (intOf i).toNat)
      case atStart => exact ⟨0, by omega, rfl, Own.nil_ _ _ _ _ _, Below.refl _ _⟩
      case round =>
        obtain ⟨k, hk, rfl, hO, hbk⟩ := hrel
        have HO := Lib.hid hO
        clear hO hkk
        have hzk := hbk.size
        by_cases hlt : k < nn
        · have hT : (allPts nn).take (k + 1) = (allPts nn).take k ++ [(k : Int)] := by
            rw [List.take_add_one, allPts_at hlt]
            rfl
          have HT := Lib.hid hT
          have hln : ((allPts nn).take k).length ≤ 20 := by rw [List.length_take, allPts_len]; omega
          clear hT
          obtain ⟨j, hj, hjn⟩ : ∃ j : Nat, partI (nn - 1) l (k + 11) = (j : Int) ∧ j < nn := ⟨(partI (nn - 1) l (k + 11)).toNat, by have := partI_bd (nn - 1) l (k + 11); omega, by have := partI_bd (nn - 1) l (k + 11); omega⟩
          have HJ := Lib.hid hj
          clear hj
          obtain ⟨p, q, hf, hf1, hf2, hf3⟩ := tru_fall HOK.out l (i := k) (j := j) (by rw [HNN.out]; exact hlt) (by rw [HNN.out]; exact hjn)
          have HF := Lib.hid hf
          clear hf
          have s0 : wr.cell? ⟨w.heap.size, 0, none⟩ = some (.int .i64 s.n) := cell_of_row wr _ 0 _ _ _ (row_keep HS.out hbk)
          have hkI : (k : Int) < s.n := by have := HNI.out; omega
          go_upto_region 21 with (at_builtin; refine wpList_append_rd rfl (.tmp 86) (.tmp 88) 46 rfl i0 _ 8 Try.underlying46 I0.out.1 I0.out.2.1 I0.out.2.2.1 I0.out.2.2.2 rfl (by omega) inV_len' inV_one' rfl (HO.out.below ((Below.refl _ _).alloc (Nat.le_refl _) _)) rfl rfl (Rd.one _ (k : Int) #[.int .i64 (k : Int)] 3 rfl) (by simp; omega) (by omega) (by simp; omega) ?_; intro v' w5 ho5 hg5 hat5; have HO5 := Lib.hid ho5; have HG5 := Lib.hid hg5; clear ho5 hg5 hat5)
          have hb5 : Below v8.heap.size v8 w5 := (hbk.alloc hbk.size _).trans (below_grown HG5.out (by simp; omega) (fun b hb => (HO.out.lt b hb).1))
          have hz5 := hb5.size
          have s05 : w5.cell? ⟨w.heap.size, 0, none⟩ = some (.int .i64 s.n) := cell_of_row w5 _ 0 _ _ _ (row_keep HS.out hb5)
          have hwn : IntKind.i64.wrap (s.n - 1) = ((nn - 1 : Nat) : Int) := by
            have := HNI.out
            rw [IntWalk.i64_in _ (by omega)]
            omega
          have HPT : Hid (Calls Try.prog 38 #[.int .i64 ((nn - 1 : Nat) : Int), .slice AL l.length cl, .int .i64 ((k : Int) + 11)] w5 fun e w' => e = .returned (.int .i64 (j : Int)) ∧ w5 = w') := Lib.hid (by
            rw [← HJ.out]
            exact part_any (nn - 1) l (k + 11) cl AL w5 ((rd_keep QB.out hb5)) hl (by omega) (by omega))
          clear s0 HG5
          go_upto_region 22 with (go_at_call 38; refine HPT.out.mono ?_; rintro e wp ⟨rfl, rfl⟩)
          have t1 : w5.cell? ⟨w.heap.size, 1, none⟩ = some (.slice B1 s.shots.length d1) := cell_of_row w5 _ 1 _ _ _ (row_keep HS.out hb5)
          have t2 : w5.cell? ⟨w.heap.size, 2, none⟩ = some (.slice B2 s.marks.length d2) := cell_of_row w5 _ 2 _ _ _ (row_keep HS.out hb5)
          have t3 : w5.cell? ⟨w.heap.size, 3, none⟩ = some (.slice B3 s.threads.length d3) := cell_of_row w5 _ 3 _ _ _ (row_keep HS.out hb5)
          clear HPT hwn
          go_upto_region 23 with (go_at_call 18; refine (fall_tru s l HF.out d1 d2 d3 B1 B2 B3 w5 (rd_keep Q1.out hb5) (rd_keep Q2.out hb5) (rd_keep Q3.out hb5)).mono ?_; rintro e wb ⟨rfl, hbb⟩)
          obtain ⟨v9, hw⟩ : ∃ v, wb.alloc (Obj.cells #[.int .i64 p, .int .i64 q] 36) = v := ⟨_, rfl⟩
          obtain ⟨gb, hgb⟩ : ∃ b, wb.heap.size = b := ⟨_, rfl⟩
          rw [hw, hgb]
          have hK : Below w5.heap.size w5 v9 := by rw [← hw]; exact hbb.alloc hbb.size _
          have Ya : v9.heap[gb]? = some (.cells #[.int .i64 p, .int .i64 q] 36 (0, 0)) := by rw [← hw, ← hgb]; exact heap_alloc_new _ _
          have hb9 := hb5.trans (hK.mono hb5.size)
          have HO9 := Lib.hid (HO5.out.below hK)
          have x0 : v9.cell? ⟨gb, 0, none⟩ = some (.int .i64 p) := cell_of_row v9 _ 0 _ _ _ Ya
          have x1 : v9.cell? ⟨gb, 1, none⟩ = some (.int .i64 q) := cell_of_row v9 _ 1 _ _ _ Ya
          clear hw hgb hbb t1 t2 t3 s05 HF Ya
          obtain ⟨bh, oh, hAH, hbh, hch⟩ := (rd_keep QH.out hb9) (by rw [trL_len, HNN.out]; omega)
          subst hAH
          have eh := hch k _ (trL_at s l (by rw [HNN.out]; exact hlt)) 0 _ rfl
          have ej := hch j _ (trL_at s l (by rw [HNN.out]; exact hjn)) 0 _ rfl
          simp only [Nat.add_zero, Nat.mul_one] at eh ej
          have bx := trH_bd l k
          have by_ := trH_bd l j
          obtain ⟨x, hx⟩ : ∃ x, trH l k = x := ⟨_, rfl⟩
          obtain ⟨y, hy⟩ : ∃ x, trH l j = x := ⟨_, rfl⟩
          rw [hx] at eh bx
          rw [hy] at ej by_
          rw [hx, hy] at hf1 hf2
          have wxy : IntKind.i64.wrap (x - y) = x - y := IntWalk.i64_in _ (by omega)
          have g1 : ¬ x - y < p := by omega
          have g2 : ¬ q < x - y := by omega
          have hknI : (k : Int) < (nn : Int) := by omega
          have hjnI : (j : Int) < (nn : Int) := by omega
          clear hch hx hy bx by_ hf1 hf2 hf3
          go_region
          go_wp2
          go_roundw
          case rel => exact ⟨k + 1, by omega, by go_num, by rw [HT.out]; exact HO9.out.below (Below.refl _ _).drew, hb9.drew⟩
          case measure => (simp [intOf] <;> omega)
        · have hkn : nn = k := by omega
          subst hkn
          have hkk : ¬ (nn : Int) < s.n := by have := HNI.out; omega
          have hfull : (allPts nn).take nn = allPts nn := List.take_of_length_le (by rw [allPts_len]; exact Nat.le_refl _)
          rw [hfull] at HO
          obtain ⟨AP, cP, hu11⟩ := HO.out.form
          rw [allPts_len] at hu11
          subst hu11
          have QP : Hid (Rd wr wr.heap.size AP inV 1 (allPts nn)) := Lib.hid (HO.out.rd' (allPts_len nn).symm inV_len')
          obtain ⟨v9, hv9⟩ : ∃ v9, v9 = wr := ⟨_, rfl⟩
          subst hv9
          have hK := hbk
          replace Q1 := Lib.hid (rd_keep Q1.out hK)
          replace Q2 := Lib.hid (rd_keep Q2.out hK)
          replace Q3 := Lib.hid (rd_keep Q3.out hK)
          replace QH := Lib.hid (rd_keep QH.out hK)
          replace QB := Lib.hid (rd_keep QB.out hK)
          replace HS := Lib.hid (row_keep HS.out hK)
          replace hb3 := below_keep hb3 hb3.size hK
          clear hK hbk hfull hzk HO
          have hr := tru_runs HOK.out l
          rw [HNN.out] at hr
          obtain ⟨LR, hLR, hLRn, hLRat⟩ := hr
          have HLR := Lib.hid hLR
          have HRN := Lib.hid hLRn
          have HRAT := Lib.hid hLRat
          clear hLR hLRn hLRat
          obtain ⟨mm, hmm⟩ : ∃ m : Nat, nn - 1 = m := ⟨_, rfl⟩
          rw [hmm] at HRN HRAT
          have hwn : IntKind.i64.wrap (s.n - 1) = (mm : Int) := by
            have := HNI.out
            rw [IntWalk.i64_in _ (by omega)]
            omega
          have s0 : v9.cell? ⟨w.heap.size, 0, none⟩ = some (.int .i64 s.n) := cell_of_row v9 _ 0 _ _ _ HS.out
          have s1 : v9.cell? ⟨w.heap.size, 1, none⟩ = some (.slice B1 s.shots.length d1) := cell_of_row v9 _ 1 _ _ _ HS.out
          have s2 : v9.cell? ⟨w.heap.size, 2, none⟩ = some (.slice B2 s.marks.length d2) := cell_of_row v9 _ 2 _ _ _ HS.out
          have s3 : v9.cell? ⟨w.heap.size, 3, none⟩ = some (.slice B3 s.threads.length d3) := cell_of_row v9 _ 3 _ _ _ HS.out
          go_upto_region 27 with (go_at_call 33; refine (runs_tru s l (allPts_len nn) HLR.out cP AP d1 d2 d3 B1 B2 B3 v9 Q1.out Q2.out Q3.out QP.out).mono ?_; rintro e va ⟨⟨AR, cR, rfl, qr⟩, hK⟩)
          have QR := Lib.hid qr
          replace Q1 := Lib.hid (rd_keep Q1.out hK)
          replace Q2 := Lib.hid (rd_keep Q2.out hK)
          replace Q3 := Lib.hid (rd_keep Q3.out hK)
          replace QH := Lib.hid (rd_keep QH.out hK)
          replace QB := Lib.hid (rd_keep QB.out hK)
          replace HS := Lib.hid (row_keep HS.out hK)
          replace hb3 := below_keep hb3 hb3.size hK
          clear hK qr s0 s1 s2 s3 QP HLR
          have hlr := HRN.out
          rw [hlr]
          have s0 : va.cell? ⟨w.heap.size, 0, none⟩ = some (.int .i64 s.n) := cell_of_row va _ 0 _ _ _ HS.out
          have hmb : ((mm : Int) != (mm : Int)) = false := by simp
          go_upto_region 29 with fail
          clear s0 hmb hlr hwn
          go_wp2
          go_loopw [153] (fun v W => ∃ k : Nat, k ≤ mm ∧ v = .int .i64 k ∧ Below va.heap.size va W) (fun i _ => mm - (intOf i).toNat)
          case atStart => exact ⟨0, by omega, rfl, Below.refl _ _⟩
          case round =>
            obtain ⟨k, hk, rfl, hK⟩ := hrel
            have hzk := hK.size
            by_cases hlt : k < mm
            · obtain ⟨r, hr, hc⟩ := HRAT.out k hlt
              obtain ⟨br, or_, hAR, hbr, hcr⟩ := (rd_keep QR.out hK) (by rw [HRN.out]; omega)
              subst hAR
              have er := hcr k _ hr 0 _ rfl
              obtain ⟨bh, oh, hAH, hbh, hch⟩ := (rd_keep QH.out hK) (by rw [trL_len, HNN.out]; omega)
              subst hAH
              have eh := hch k _ (trL_at s l (by rw [HNN.out]; omega)) 0 _ rfl
              have ej := hch (k + 1) _ (trL_at s l (by rw [HNN.out]; omega)) 0 _ rfl
              simp only [Nat.add_zero, Nat.mul_one] at er eh ej
              obtain ⟨x, hx⟩ : ∃ x, trH l k = x := ⟨_, rfl⟩
              obtain ⟨y, hy⟩ : ∃ x, trH l (k + 1) = x := ⟨_, rfl⟩
              rw [hx] at eh
              rw [hy] at ej
              rw [hx, hy] at hc
              have hkI : (k : Int) < (mm : Int) := by omega
              have hknI : (k : Int) < (nn : Int) := by omega
              have hjnI : (k : Int) + 1 < (nn : Int) := by omega
              clear hch hx hy hcr hr
              rcases hc with ⟨rfl, hc⟩ | ⟨rfl, hc⟩ | rfl
              · have g1 : ¬ x ≤ y := by omega
                go_upto_region 32 with fail
                go_region
                go_wp2
                go_roundw
                case rel => exact ⟨k + 1, by omega, by go_num, hK.drew⟩
                case measure => (simp [intOf] <;> omega)
              · have g1 : ¬ y < x := by omega
                go_upto_region 32 with fail
                go_region
                go_wp2
                go_roundw
                case rel => exact ⟨k + 1, by omega, by go_num, hK.drew⟩
                case measure => (simp [intOf] <;> omega)
              · have t1 := True.intro
                go_upto_region 32 with fail
                go_region
                go_wp2
                go_roundw
                case rel => exact ⟨k + 1, by omega, by go_num, hK.drew⟩
                case measure => (simp [intOf] <;> omega)
            · have hkn : mm = k := by omega
              subst hkn
              have hkk : ¬ (mm : Int) < (mm : Int) := by omega
              obtain ⟨vb, hvb⟩ : ∃ vb, vb = wr := ⟨_, rfl⟩
              subst hvb
              replace Q1 := Lib.hid (rd_keep Q1.out hK)
              replace Q2 := Lib.hid (rd_keep Q2.out hK)
              replace Q3 := Lib.hid (rd_keep Q3.out hK)
              replace QH := Lib.hid (rd_keep QH.out hK)
              replace QB := Lib.hid (rd_keep QB.out hK)
              replace HS := Lib.hid (row_keep HS.out hK)
              replace hb3 := below_keep hb3 hb3.size hK
              clear hK QR hzk
              have s3 : vb.cell? ⟨w.heap.size, 3, none⟩ = some (.slice B3 s.threads.length d3) := cell_of_row vb _ 3 _ _ _ HS.out
              go_upto_region 36 with fail
              clear s3 hkk
              go_wp2
              go_loopw [196] (fun v W => ∃ k : Nat, k ≤ s.threads.length ∧ v = .int .i64 k ∧ Below vb.heap.size vb W) (fun i _ => s.threads.length - (intOf i).toNat)
              case atStart => exact ⟨0, by omega, rfl, Below.refl _ _⟩
              case round =>
                obtain ⟨k, hk, rfl, hK⟩ := hrel
                have hzk := hK.size
                by_cases hlt : k < s.threads.length
                · obtain ⟨x, hx, hxk⟩ : ∃ x, s.threads[k]? = some x ∧ x ∈ s.threads := ⟨s.threads[k], List.getElem?_eq_getElem hlt, List.getElem_mem hlt⟩
                  have hs := shOk_spec ((svOk_spec HOK.out).2.2.2 x hxk)
                  obtain ⟨f, t, lo, hi⟩ := x
                  dsimp only at hs
                  obtain ⟨y1, y2, y3, y4, _, y6, y7, y8⟩ := hs
                  obtain ⟨fa, rfl⟩ := Int.eq_ofNat_of_zero_le y1
                  obtain ⟨ta, rfl⟩ := Int.eq_ofNat_of_zero_le y3
                  obtain ⟨D, hD⟩ : ∃ D : Nat, hi - lo = (D : Int) := ⟨(hi - lo).toNat, by omega⟩
                  obtain ⟨y, hy⟩ : ∃ y, partI D l (k + 13) = y := ⟨_, rfl⟩
                  have hyb := partI_bd D l (k + 13)
                  rw [hy] at hyb
                  obtain ⟨g, hg⟩ : ∃ g, lo + y = g := ⟨_, rfl⟩
                  obtain ⟨P, Q, hP, hP1, hP2, hP3, hP4, hP5, hP6⟩ := tru_slope HOK.out l (i := k) hx (long := g) (by dsimp only; omega) (by dsimp only; omega)
                  dsimp only at hP1 hP2
                  rw [Int.toNat_natCast, Int.toNat_natCast] at hP1 hP2
                  have HP := Lib.hid hP
                  obtain ⟨bt, ot, hBT, hbt, hct⟩ := (rd_keep Q3.out hK) (by omega)
                  have e0 := hct k _ hx 0 _ rfl
                  have e1 := hct k _ hx 1 _ rfl
                  have e2 := hct k _ hx 2 _ rfl
                  have e3 := hct k _ hx 3 _ rfl
                  simp only [Nat.add_zero] at e0 e1 e2 e3
                  have HBT := Lib.hid hBT
                  have hni := HNI.out
                  have hkI : (k : Int) < (s.threads.length : Int) := by omega
                  have hl30 := n5
                  clear hct hP hxk hx
                  subst hBT
                  go_upto_region 38 with fail
                  obtain ⟨v1, hv1⟩ : ∃ v, wr.alloc (Obj.cells #[.int .i64 (fa : Int), .int .i64 (ta : Int), .int .i64 lo, .int .i64 hi] 72) = v := ⟨_, rfl⟩
                  obtain ⟨gt, hgt⟩ : ∃ b, wr.heap.size = b := ⟨_, rfl⟩
                  rw [hv1, hgt]
                  have hb1 : Below vb.heap.size vb v1 := by rw [← hv1]; exact hK.alloc hzk _
                  have Yt : v1.heap[gt]? = some (.cells #[.int .i64 (fa : Int), .int .i64 (ta : Int), .int .i64 lo, .int .i64 hi] 72 (0, 0)) := by rw [← hv1, ← hgt]; exact heap_alloc_new _ _
                  have z2 : v1.cell? ⟨gt, 2, none⟩ = some (.int .i64 lo) := cell_of_row v1 _ 2 _ _ _ Yt
                  have z3 : v1.cell? ⟨gt, 3, none⟩ = some (.int .i64 hi) := cell_of_row v1 _ 3 _ _ _ Yt
                  have hgl := (Array.getElem?_eq_some_iff.1 Yt).1
                  have HYT := Lib.hid Yt
                  have hz1 := hb1.size
                  clear hv1 hgt Yt e0 e1 e2 e3
                  have whl : IntKind.i64.wrap (hi - lo) = (D : Int) := by rw [IntWalk.i64_in _ (by omega)]; exact hD
                  have wlg : IntKind.i64.wrap (lo + y) = g := by rw [IntWalk.i64_in _ (by omega)]; exact hg
                  have hk13 : IntKind.i64.wrap ((k : Int) + 13) = (k : Int) + 13 := IntWalk.i64_in _ (by omega)
                  have HPT : Hid (∀ W, Below v1.heap.size v1 W → Calls Try.prog 38 #[.int .i64 (D : Int), .slice AL l.length cl, .int .i64 ((k : Int) + 13)] W fun e w' => e = .returned (.int .i64 y) ∧ W = w') := Lib.hid (fun W hW => by
                    rw [← hy]
                    exact part_any D l (k + 13) cl AL W (rd_keep QB.out (hb1.trans (hW.mono hz1))) hl (by omega) (by omega))
                  clear hy
                  refine wp_region_calm (by kernel_rfl) (by kernel_rfl) ?_
                  repeat (go_big_quiet_step ((go_at_call 38; exact calm_same (HPT.out _ (wx_below _ _)))))
                  refine wpQuiet_nil ?_; rintro _ ⟨dx, rfl⟩
                  obtain ⟨wy, hwy⟩ : ∃ wy, wx _ dx = wy := ⟨_, rfl⟩; have hby := wx_below _ dx; rw [hwy] at hby ⊢
                  have hb2 : Below vb.heap.size vb wy := hb1.trans (hby.mono hz1)
                  have Y2 := Lib.hid (row_keep HYT.out hby)
                  clear hwy HPT whl wlg hk13 z2 z3
                  have t0 : wy.cell? ⟨w.heap.size, 0, none⟩ = some (.int .i64 s.n) := cell_of_row wy _ 0 _ _ _ (row_keep HS.out hb2)
                  have t1 : wy.cell? ⟨w.heap.size, 1, none⟩ = some (.slice B1 s.shots.length d1) := cell_of_row wy _ 1 _ _ _ (row_keep HS.out hb2)
                  have t2 : wy.cell? ⟨w.heap.size, 2, none⟩ = some (.slice B2 s.marks.length d2) := cell_of_row wy _ 2 _ _ _ (row_keep HS.out hb2)
                  have t3 : wy.cell? ⟨w.heap.size, 3, none⟩ = some (.slice (some ⟨bt, ot, none⟩) s.threads.length d3) := cell_of_row wy _ 3 _ _ _ (row_keep HS.out hb2)
                  have HHH := Lib.hid (slope_tru s l HP.out d1 d2 d3 B1 B2 (some ⟨bt, ot, none⟩) wy (rd_keep Q1.out hb2) (rd_keep Q2.out hb2) (rd_keep Q3.out hb2))
                  have HQQ := Lib.hid (And.intro hP1 (And.intro hP2 (And.intro hP3 (And.intro hP4 (And.intro hP5 (And.intro hP6 (And.intro hD (And.intro hg (And.intro hyb (And.intro y1 (And.intro y2 (And.intro y3 (And.intro y4 (And.intro y6 (And.intro y7 (y8))))))))))))))))
                  have HKK := Lib.hid (And.intro hni (And.intro hkI (And.intro hl30 (And.intro hzk (And.intro hK (And.intro hgl (And.intro hz1 (hb2))))))))
                  clear hP1 hP2 hP3 hP4 hP5 hP6 hD hg hyb y1 y2 y3 y4 y6 y7 y8 hby hb1 hni hkI hl30 hzk hK hgl hz1 hb2
                  go_upto_region 40 with (go_at_call 31; refine HHH.out.mono ?_; rintro e wb ⟨rfl, hbb⟩)
                  obtain ⟨hP1, hP2, hP3, hP4, hP5, hP6, hD, hg, hyb, y1, y2, y3, y4, y6, y7, y8⟩ := HQQ.out
                  obtain ⟨hni, hkI, hl30, hzk, hK, hgl, hz1, hb2⟩ := HKK.out
                  clear HQQ HKK HHH
                  obtain ⟨v2, hw⟩ : ∃ v, wb.alloc (Obj.cells #[.int .i64 P, .int .i64 Q] 36) = v := ⟨_, rfl⟩
                  obtain ⟨gs, hgs⟩ : ∃ b, wb.heap.size = b := ⟨_, rfl⟩
                  rw [hw, hgs]
                  have hK2 : Below wy.heap.size wy v2 := by rw [← hw]; exact hbb.alloc hbb.size _
                  have Ys : v2.heap[gs]? = some (.cells #[.int .i64 P, .int .i64 Q] 36 (0, 0)) := by rw [← hw, ← hgs]; exact heap_alloc_new _ _
                  have HYS := Lib.hid Ys
                  have hb4 : Below vb.heap.size vb v2 := hb2.trans (hK2.mono hb2.size)
                  have z0 : v2.cell? ⟨gt, 0, none⟩ = some (.int .i64 (fa : Int)) := cell_of_row v2 _ 0 _ _ _ (row_keep Y2.out hK2)
                  have z1 : v2.cell? ⟨gt, 1, none⟩ = some (.int .i64 (ta : Int)) := cell_of_row v2 _ 1 _ _ _ (row_keep Y2.out hK2)
                  clear hw hgs hbb t0 t1 t2 t3 Ys HP Y2 HYT
                  obtain ⟨bh, oh, hAH, hbh, hch⟩ := (rd_keep QH.out hb4) (by rw [trL_len, HNN.out]; omega)
                  subst hAH
                  have eh := hch fa _ (trL_at s l (by rw [HNN.out]; omega)) 0 _ rfl
                  have ej := hch ta _ (trL_at s l (by rw [HNN.out]; omega)) 0 _ rfl
                  simp only [Nat.add_zero, Nat.mul_one] at eh ej
                  have bx := trH_bd l fa
                  have by_ := trH_bd l ta
                  obtain ⟨a, ha⟩ : ∃ x, trH l fa = x := ⟨_, rfl⟩
                  obtain ⟨b, hb⟩ : ∃ x, trH l ta = x := ⟨_, rfl⟩
                  rw [ha] at eh bx
                  rw [hb] at ej by_
                  rw [ha, hb] at hP1 hP2
                  obtain ⟨d, hd⟩ : ∃ x, a - b = x := ⟨_, rfl⟩
                  obtain ⟨F, hF⟩ : ∃ x, 1000 * d = x := ⟨_, rfl⟩
                  obtain ⟨pg, hpg⟩ : ∃ x, P * g = x := ⟨_, rfl⟩
                  obtain ⟨qg, hqg⟩ : ∃ x, Q * g = x := ⟨_, rfl⟩
                  rw [hd, hF, hpg] at hP1
                  rw [hd, hF, hqg] at hP2
                  have bp := mul_bd hP3 hP4 (show 0 ≤ g by omega) (show g ≤ 100000000 by omega)
                  have bq := mul_bd hP5 hP6 (show 0 ≤ g by omega) (show g ≤ 100000000 by omega)
                  rw [hpg] at bp
                  rw [hqg] at bq
                  have wd : IntKind.i64.wrap (a - b) = d := by rw [IntWalk.i64_in _ (by omega)]; exact hd
                  have wF : IntKind.i64.wrap (1000 * d) = F := by rw [IntWalk.i64_in _ (by omega)]; exact hF
                  have wP : IntKind.i64.wrap (P * g) = pg := by rw [hpg]; exact IntWalk.i64_in _ (by omega)
                  have wQ : IntKind.i64.wrap (Q * g) = qg := by rw [hqg]; exact IntWalk.i64_in _ (by omega)
                  have g1 : ¬ F < pg := by omega
                  have g2 : ¬ qg < F := by omega
                  have hfaI : (fa : Int) < (nn : Int) := by omega
                  have htaI : (ta : Int) < (nn : Int) := by omega
                  clear hch ha hb bx by_ hd hF hpg hqg bp bq hP1 hP2 hP3 hP4 hP5 hP6 hD hg hyb y1 y2 y3 y4 y6 y7 y8
                  go_region
                  obtain ⟨v3, hv3⟩ : ∃ v, v2.drew = v := ⟨_, rfl⟩
                  rw [hv3]
                  have hK3 : Below v2.heap.size v2 v3 := by rw [← hv3]; exact (Below.refl _ _).drew
                  have x0 : v3.cell? ⟨gs, 0, none⟩ = some (.int .i64 P) := cell_of_row v3 _ 0 _ _ _ (row_keep HYS.out hK3)
                  have x1 : v3.cell? ⟨gs, 1, none⟩ = some (.int .i64 Q) := cell_of_row v3 _ 1 _ _ _ (row_keep HYS.out hK3)
                  have hb5 : Below vb.heap.size vb v3 := hb4.trans (hK3.mono hb4.size)
                  clear hv3 eh ej z0 z1 wd wF
                  go_wp2
                  go_roundw
                  case rel => exact ⟨k + 1, by omega, by go_num, hb5⟩
                  case measure => (simp [intOf] <;> omega)
                · have hkn : s.threads.length = k := by omega
                  subst hkn
                  have hkk : ¬ ((s.threads.length : Nat) : Int) < (s.threads.length : Int) := by omega
                  obtain ⟨vc, hvc⟩ : ∃ v, v = wr := ⟨_, rfl⟩
                  subst hvc
                  replace Q1 := Lib.hid (rd_keep Q1.out hK)
                  replace Q2 := Lib.hid (rd_keep Q2.out hK)
                  replace Q3 := Lib.hid (rd_keep Q3.out hK)
                  replace QH := Lib.hid (rd_keep QH.out hK)
                  replace QB := Lib.hid (rd_keep QB.out hK)
                  replace HS := Lib.hid (row_keep HS.out hK)
                  replace hb3 := below_keep hb3 hb3.size hK
                  clear hK hzk
                  have s0 : vc.cell? ⟨w.heap.size, 0, none⟩ = some (.int .i64 s.n) := cell_of_row vc _ 0 _ _ _ HS.out
                  have s1 : vc.cell? ⟨w.heap.size, 1, none⟩ = some (.slice B1 s.shots.length d1) := cell_of_row vc _ 1 _ _ _ HS.out
                  have s2 : vc.cell? ⟨w.heap.size, 2, none⟩ = some (.slice B2 s.marks.length d2) := cell_of_row vc _ 2 _ _ _ HS.out
                  have s3 : vc.cell? ⟨w.heap.size, 3, none⟩ = some (.slice B3 s.threads.length d3) := cell_of_row vc _ 3 _ _ _ HS.out
                  go_upto_region 45 with (go_at_call 26; refine (clash_tru s l HOK.out d1 d2 d3 B1 B2 B3 vc Q1.out Q2.out Q3.out).mono ?_; rintro e vd ⟨⟨AC, cC, rfl⟩, hK⟩)
                  replace Q1 := Lib.hid (rd_keep Q1.out hK)
                  replace Q2 := Lib.hid (rd_keep Q2.out hK)
                  replace Q3 := Lib.hid (rd_keep Q3.out hK)
                  replace QH := Lib.hid (rd_keep QH.out hK)
                  replace QB := Lib.hid (rd_keep QB.out hK)
                  replace HS := Lib.hid (row_keep HS.out hK)
                  replace hb3 := below_keep hb3 hb3.size hK
                  clear hK s0 s1 s2 s3
                  have s0 : vd.cell? ⟨w.heap.size, 0, none⟩ = some (.int .i64 s.n) := cell_of_row vd _ 0 _ _ _ HS.out
                  have s1 : vd.cell? ⟨w.heap.size, 1, none⟩ = some (.slice B1 s.shots.length d1) := cell_of_row vd _ 1 _ _ _ HS.out
                  have s2 : vd.cell? ⟨w.heap.size, 2, none⟩ = some (.slice B2 s.marks.length d2) := cell_of_row vd _ 2 _ _ _ HS.out
                  have s3 : vd.cell? ⟨w.heap.size, 3, none⟩ = some (.slice B3 s.threads.length d3) := cell_of_row vd _ 3 _ _ _ HS.out
                  go_upto_region 46 with (go_at_call 28; refine (widen_tru s l HOK.out d1 d2 d3 B1 B2 B3 vd Q1.out Q2.out Q3.out).mono ?_; rintro e ve ⟨rfl, hK⟩)
                  go_wp2
                  go_ret
                  exact ⟨rfl, below_keep hb3 hb3.size hK⟩

/-- LevelTrue answers true. -/
theorem lawTrue_any (s : Sv) (l : List Int) (cl c1 c2 c3 : Nat) (AL A1 A2 A3 : Option Addr) (w : World)
    (r1 : Rd w w.heap.size A1 shV 4 s.shots) (r2 : Rd w w.heap.size A2 mkV 3 s.marks) (r3 : Rd w w.heap.size A3 shV 4 s.threads) (rl : Rd w w.heap.size AL inV 1 l) (hl : l.length ≤ 9223372036854775807) :
    Calls Try.prog 6 #[.agg #[.int .i64 s.n, .slice A1 s.shots.length c1, .slice A2 s.marks.length c2, .slice A3 s.threads.length c3], .slice AL l.length cl] w fun e w' => e = .returned (.bool true) ∧ Below w.heap.size w w' := by
  cases hok : svOk s
  · exact lawTrue_bad s l cl c1 c2 c3 AL A1 A2 A3 w r1 r2 r3 rl hok
  · exact lawTrue_fine s l cl c1 c2 c3 AL A1 A2 A3 w r1 r2 r3 rl hok hl

end Go.Proofs.Ytaoonfmcimkmhaa
