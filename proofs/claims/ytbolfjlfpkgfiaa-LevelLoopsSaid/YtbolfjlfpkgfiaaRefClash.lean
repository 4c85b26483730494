/- aflajref01.Clash: what it answers of every survey that reads as plain data. Condition: the survey's slices read below the heap's end. -/
import Derived.Test.YtbolfjlfpkgfiaaClash
import Derived.Test.YtbolfjlfpkgfiaaRefWid
set_option linter.unusedVariables false
set_option linter.unusedSimpArgs false
namespace Go.Proofs.Ytbolfjlfpkgfiaa
open Go.RowKit

set_option maxRecDepth 100000 in
set_option maxHeartbeats 2000000 in
theorem rclash_bad (s : Sv) (c1 c2 c3 : Nat) (A1 A2 A3 : Option Addr) (w : World)
    (r1 : Rd w w.heap.size A1 shV 4 s.shots) (r2 : Rd w w.heap.size A2 mkV 3 s.marks) (r3 : Rd w w.heap.size A3 shV 4 s.threads) (hok : svOk s = false) :
    Calls Try.prog 27 #[.agg #[.int .i64 s.n, .slice A1 s.shots.length c1, .slice A2 s.marks.length c2, .slice A3 s.threads.length c3]] w fun e w' =>
      (∃ A c, e = .returned (.tuple #[.slice A (lvClash s).1.length c, .int .i64 (lvClash s).2]) ∧ Rd w' w'.heap.size A inV 1 (lvClash s).1) ∧ Below w.heap.size w w' := by
  have hb0 : Below w.heap.size w (w.alloc (Obj.cells #[Value.int IntKind.i64 s.n, Value.slice A1 s.shots.length c1, Value.slice A2 s.marks.length c2, Value.slice A3 s.threads.length c3] 26)) := by (repeat' (first | (with_reducible exact Below.refl _ _) | (with_reducible refine Below.alloc ?_ ?_ _) | (with_reducible refine Below.drew ?_) | (with_reducible refine Below.drewN_ ?_ _) | (with_reducible refine Below.setCell ?_ ?_ _) | (with_reducible refine Below.setRow ?_ ?_ _) | (with_reducible refine Below.via ?_ (by with_reducible assumption) ?_) | go_size))
  have R1 := Lib.hid ((r1.below hb0).more hb0.size)
  have R2 := Lib.hid ((r2.below hb0).more hb0.size)
  have R3 := Lib.hid ((r3.below hb0).more hb0.size)
  have P1 := Lib.hid r1
  have P2 := Lib.hid r2
  clear r1 r2 r3
  have HC := Lib.hid (rcheck_any s c1 c2 c3 A1 A2 A3 (w.alloc (Obj.cells #[Value.int IntKind.i64 s.n, Value.slice A1 s.shots.length c1, Value.slice A2 s.marks.length c2, Value.slice A3 s.threads.length c3] 26)) R1.out R2.out R3.out)
  have e1 : svErr s = 10 := by unfold svErr; rw [hok]; rfl
  rw [e1] at HC
  rw [lvClash_bad hok]
  clear e1 hok
  go_enter Try.func27, Try.ntmps27
  go_wp2_with (go_at_call 21; refine HC.out.mono ?_; rintro e w' ⟨rfl, hb1⟩; obtain ⟨hc1, hf1⟩ := bcell hb1; have hz1 := hb1.size; (try simp at hz1); (try have hy1 : w.heap.size < w'.heap.size := by omega))
  go_ret2
  exact ⟨⟨none, 0, rfl, fun h => absurd h (by simp)⟩, by (repeat' (first | (with_reducible exact Below.refl _ _) | (with_reducible refine Below.alloc ?_ ?_ _) | (with_reducible refine Below.drew ?_) | (with_reducible refine Below.drewN_ ?_ _) | (with_reducible refine Below.setCell ?_ ?_ _) | (with_reducible refine Below.setRow ?_ ?_ _) | (with_reducible refine Below.via ?_ (by with_reducible assumption) ?_) | go_size))⟩

set_option maxRecDepth 100000 in
set_option maxHeartbeats 2000000 in
theorem rclash_none (s : Sv) (c1 c2 c3 : Nat) (A1 A2 A3 : Option Addr) (w : World)
    (r1 : Rd w w.heap.size A1 shV 4 s.shots) (r2 : Rd w w.heap.size A2 mkV 3 s.marks) (r3 : Rd w w.heap.size A3 shV 4 s.threads) (hok : svOk s = true) (hf : fitB s (fun _ => false) = true) :
    Calls Try.prog 27 #[.agg #[.int .i64 s.n, .slice A1 s.shots.length c1, .slice A2 s.marks.length c2, .slice A3 s.threads.length c3]] w fun e w' =>
      (∃ A c, e = .returned (.tuple #[.slice A (lvClash s).1.length c, .int .i64 (lvClash s).2]) ∧ Rd w' w'.heap.size A inV 1 (lvClash s).1) ∧ Below w.heap.size w w' := by
  have hb0 : Below w.heap.size w (w.alloc (Obj.cells #[Value.int IntKind.i64 s.n, Value.slice A1 s.shots.length c1, Value.slice A2 s.marks.length c2, Value.slice A3 s.threads.length c3] 26)) := by (repeat' (first | (with_reducible exact Below.refl _ _) | (with_reducible refine Below.alloc ?_ ?_ _) | (with_reducible refine Below.drew ?_) | (with_reducible refine Below.drewN_ ?_ _) | (with_reducible refine Below.setCell ?_ ?_ _) | (with_reducible refine Below.setRow ?_ ?_ _) | (with_reducible refine Below.via ?_ (by with_reducible assumption) ?_) | go_size))
  have R1 := Lib.hid ((r1.below hb0).more hb0.size)
  have R2 := Lib.hid ((r2.below hb0).more hb0.size)
  have R3 := Lib.hid ((r3.below hb0).more hb0.size)
  have P1 := Lib.hid r1
  have P2 := Lib.hid r2
  clear r1 r2 r3
  have HC := Lib.hid (rcheck_any s c1 c2 c3 A1 A2 A3 (w.alloc (Obj.cells #[Value.int IntKind.i64 s.n, Value.slice A1 s.shots.length c1, Value.slice A2 s.marks.length c2, Value.slice A3 s.threads.length c3] 26)) R1.out R2.out R3.out)
  have e1 : svErr s = 0 := by unfold svErr; rw [hok]; rfl
  rw [e1] at HC
  obtain ⟨⟨_, _, g3, g4, _⟩, _⟩ := svOk_spec hok
  have HSN := Lib.hid (fun (W : World) gc cc (o : Nat → Bool) (hb : Below w.heap.size w W) hBo b hm => sides_fit s c1 c2 c3 A1 A2 A3 W hok ((P1.out.below hb).more hb.size) ((P2.out.below hb).more hb.size) gc cc o hBo 0 (by omega) (by omega) b hm)
  have HF := Lib.hid hf
  rw [lvClash_none hok hf]
  clear e1 hok hf
  go_enter Try.func27, Try.ntmps27
  go_upto_region 4 with (first | (go_at_call 21; refine HC.out.mono ?_; rintro e w' ⟨rfl, hb1⟩; obtain ⟨hc1, hf1⟩ := bcell hb1; have hz1 := hb1.size; (try simp at hz1); (try have hy1 : w.heap.size < w'.heap.size := by omega)) | (go_at_call 48; refine (every_any s.n s.shots.length s.marks.length c1 c2 A1 A2 _ _ (by omega) (by omega)).mono ?_; rintro e w3 ⟨⟨gc, rfl, hgc, hBo⟩, hb3⟩; have n0 := hb3.cell (p := ⟨w.heap.size, 0, none⟩) hy1; have n1 := hb3.cell (p := ⟨w.heap.size, 1, none⟩) hy1; have n2 := hb3.cell (p := ⟨w.heap.size, 2, none⟩) hy1; have n3 := hb3.cell (p := ⟨w.heap.size, 3, none⟩) hy1; have HBO := Lib.hid hBo; clear hBo))
  have hbw : Below w.heap.size w w' := by (repeat' (first | (with_reducible exact Below.refl _ _) | (with_reducible refine Below.alloc ?_ ?_ _) | (with_reducible refine Below.drew ?_) | (with_reducible refine Below.drewN_ ?_ _) | (with_reducible refine Below.setCell ?_ ?_ _) | (with_reducible refine Below.setRow ?_ ?_ _) | (with_reducible refine Below.via ?_ (by with_reducible assumption) ?_) | go_size))
  have m0 : w3.cell? ⟨w.heap.size, 0, none⟩ = some (.int .i64 s.n) := by rw [hb3.cell (p := ⟨w.heap.size, 0, none⟩) hy1, hc1 _ _ (by simp)]; simp
  have m1 : w3.cell? ⟨w.heap.size, 1, none⟩ = some (.slice A1 s.shots.length c1) := by rw [hb3.cell (p := ⟨w.heap.size, 1, none⟩) hy1, hc1 _ _ (by simp)]; simp
  have m2 : w3.cell? ⟨w.heap.size, 2, none⟩ = some (.slice A2 s.marks.length c2) := by rw [hb3.cell (p := ⟨w.heap.size, 2, none⟩) hy1, hc1 _ _ (by simp)]; simp
  have m3 : w3.cell? ⟨w.heap.size, 3, none⟩ = some (.slice A3 s.threads.length c3) := by rw [hb3.cell (p := ⟨w.heap.size, 3, none⟩) hy1, hc1 _ _ (by simp)]; simp
  have hb03 : Below w.heap.size w w3 := hbw.trans (hb3.mono hbw.size)
  have hgl : gc < w3.heap.size := HBO.out.lt
  have hwl : w.heap.size < w3.heap.size := Nat.lt_of_lt_of_le hy1 hb3.size
  clear hc1 hf1 hb1 hb0 hz1 n0 n1 n2 n3 R1 R2 R3 P1 P2 HC
  go_wp2_with (go_at_call 47; refine (HSN.out w3 gc _ (fun _ => false) hb03 HBO.out _ HF.out).mono ?_; rintro e w4 ⟨⟨v, rfl⟩, hb4⟩)
  go_ret2
  exact ⟨⟨none, 0, rfl, fun h => absurd h (by simp)⟩, hb03.trans (hb4.mono hb03.size)⟩

set_option maxRecDepth 100000 in
set_option maxHeartbeats 2000000 in
theorem rclash_some (s : Sv) (c1 c2 c3 : Nat) (A1 A2 A3 : Option Addr) (w : World)
    (r1 : Rd w w.heap.size A1 shV 4 s.shots) (r2 : Rd w w.heap.size A2 mkV 3 s.marks) (r3 : Rd w w.heap.size A3 shV 4 s.threads) (hok : svOk s = true) (hf : fitB s (fun _ => false) = false) :
    Calls Try.prog 27 #[.agg #[.int .i64 s.n, .slice A1 s.shots.length c1, .slice A2 s.marks.length c2, .slice A3 s.threads.length c3]] w fun e w' =>
      (∃ A c, e = .returned (.tuple #[.slice A (lvClash s).1.length c, .int .i64 (lvClash s).2]) ∧ Rd w' w'.heap.size A inV 1 (lvClash s).1) ∧ Below w.heap.size w w' := by
  have hb0 : Below w.heap.size w (w.alloc (Obj.cells #[Value.int IntKind.i64 s.n, Value.slice A1 s.shots.length c1, Value.slice A2 s.marks.length c2, Value.slice A3 s.threads.length c3] 26)) := by (repeat' (first | (with_reducible exact Below.refl _ _) | (with_reducible refine Below.alloc ?_ ?_ _) | (with_reducible refine Below.drew ?_) | (with_reducible refine Below.drewN_ ?_ _) | (with_reducible refine Below.setCell ?_ ?_ _) | (with_reducible refine Below.setRow ?_ ?_ _) | (with_reducible refine Below.via ?_ (by with_reducible assumption) ?_) | go_size))
  have R1 := Lib.hid ((r1.below hb0).more hb0.size)
  have R2 := Lib.hid ((r2.below hb0).more hb0.size)
  have R3 := Lib.hid ((r3.below hb0).more hb0.size)
  have P1 := Lib.hid r1
  have P2 := Lib.hid r2
  clear r1 r2 r3
  have HC := Lib.hid (rcheck_any s c1 c2 c3 A1 A2 A3 (w.alloc (Obj.cells #[Value.int IntKind.i64 s.n, Value.slice A1 s.shots.length c1, Value.slice A2 s.marks.length c2, Value.slice A3 s.threads.length c3] 26)) R1.out R2.out R3.out)
  have e1 : svErr s = 0 := by unfold svErr; rw [hok]; rfl
  rw [e1] at HC
  obtain ⟨⟨_, _, g3, g4, _⟩, _⟩ := svOk_spec hok
  have HSN := Lib.hid (fun (W : World) gc cc (o : Nat → Bool) (hb : Below w.heap.size w W) hBo b hm => sides_fit s c1 c2 c3 A1 A2 A3 W hok ((P1.out.below hb).more hb.size) ((P2.out.below hb).more hb.size) gc cc o hBo 0 (by omega) (by omega) b hm)
  have HF := Lib.hid hf
  rw [lvClash_some hok hf]
  clear e1 hok hf
  go_enter Try.func27, Try.ntmps27
  go_upto_region 4 with (first | (go_at_call 21; refine HC.out.mono ?_; rintro e w' ⟨rfl, hb1⟩; obtain ⟨hc1, hf1⟩ := bcell hb1; have hz1 := hb1.size; (try simp at hz1); (try have hy1 : w.heap.size < w'.heap.size := by omega)) | (go_at_call 48; refine (every_any s.n s.shots.length s.marks.length c1 c2 A1 A2 _ _ (by omega) (by omega)).mono ?_; rintro e w3 ⟨⟨gc, rfl, hgc, hBo⟩, hb3⟩; have n0 := hb3.cell (p := ⟨w.heap.size, 0, none⟩) hy1; have n1 := hb3.cell (p := ⟨w.heap.size, 1, none⟩) hy1; have n2 := hb3.cell (p := ⟨w.heap.size, 2, none⟩) hy1; have n3 := hb3.cell (p := ⟨w.heap.size, 3, none⟩) hy1; have HBO := Lib.hid hBo; clear hBo))
  have hbw : Below w.heap.size w w' := by (repeat' (first | (with_reducible exact Below.refl _ _) | (with_reducible refine Below.alloc ?_ ?_ _) | (with_reducible refine Below.drew ?_) | (with_reducible refine Below.drewN_ ?_ _) | (with_reducible refine Below.setCell ?_ ?_ _) | (with_reducible refine Below.setRow ?_ ?_ _) | (with_reducible refine Below.via ?_ (by with_reducible assumption) ?_) | go_size))
  have m0 : w3.cell? ⟨w.heap.size, 0, none⟩ = some (.int .i64 s.n) := by rw [hb3.cell (p := ⟨w.heap.size, 0, none⟩) hy1, hc1 _ _ (by simp)]; simp
  have m1 : w3.cell? ⟨w.heap.size, 1, none⟩ = some (.slice A1 s.shots.length c1) := by rw [hb3.cell (p := ⟨w.heap.size, 1, none⟩) hy1, hc1 _ _ (by simp)]; simp
  have m2 : w3.cell? ⟨w.heap.size, 2, none⟩ = some (.slice A2 s.marks.length c2) := by rw [hb3.cell (p := ⟨w.heap.size, 2, none⟩) hy1, hc1 _ _ (by simp)]; simp
  have m3 : w3.cell? ⟨w.heap.size, 3, none⟩ = some (.slice A3 s.threads.length c3) := by rw [hb3.cell (p := ⟨w.heap.size, 3, none⟩) hy1, hc1 _ _ (by simp)]; simp
  have hb03 : Below w.heap.size w w3 := hbw.trans (hb3.mono hbw.size)
  have hgl : gc < w3.heap.size := HBO.out.lt
  have hwl : w.heap.size < w3.heap.size := Nat.lt_of_lt_of_le hy1 hb3.size
  clear hc1 hf1 hb1 hb0 hz1 n0 n1 n2 n3 R1 R2 R3 P1 P2 HC
  go_upto_region 9 with (go_at_call 47; refine (HSN.out w3 gc _ (fun _ => false) hb03 HBO.out _ HF.out).mono ?_; rintro e w4 ⟨⟨v, rfl⟩, hb4⟩)
  replace m0 := (hb4.cell (p := ⟨w.heap.size, 0, none⟩) hwl).trans m0
  replace m1 := (hb4.cell (p := ⟨w.heap.size, 1, none⟩) hwl).trans m1
  replace m2 := (hb4.cell (p := ⟨w.heap.size, 2, none⟩) hwl).trans m2
  replace m3 := (hb4.cell (p := ⟨w.heap.size, 3, none⟩) hwl).trans m3
  have hgl4 : gc < w4.heap.size := Nat.lt_of_lt_of_le hgl hb4.size
  replace HBO := Lib.hid (HBO.out.below hb4 hgl)
  have hb04 := hb03.trans (hb4.mono hb03.size)
  have hw4 : w'.heap.size ≤ w4.heap.size := Nat.le_trans hb3.size hb4.size
  have hw4' : w.heap.size < w4.heap.size := Nat.lt_of_lt_of_le hy1 hw4
  clear hb3 hb4 hb03 hgl hwl
  obtain ⟨i0, hi0, hz0, hz1, hz2⟩ := info_parts infoInt
  have I0 := Lib.hid (And.intro hi0 (And.intro hz0 (And.intro hz1 hz2)))
  clear hi0 hz0 hz1 hz2
  obtain ⟨N, hN⟩ : ∃ N, s.shots.length + s.marks.length = N := ⟨_, rfl⟩
  rw [hN] at HBO HSN ⊢
  have hN80 : N ≤ 80 := by omega
  have HNN := Lib.hid hN
  clear hN
  go_loopw [7, 8] (fun v7 v8 W => ∃ k : Nat, k ≤ N ∧ v8 = .int .i64 k ∧ Own W w4.heap.size 3 v7 inV 1 (clL (fitB s) k) ∧ BoAt W gc N (fun j => !clOut (fitB s) k j) ∧ Below w'.heap.size w4 W) (fun _ i _ => N - (intOf i).toNat)
  case atStart => exact ⟨0, by omega, rfl, Own.nil_ _ _ _ _ _, HBO.out, Below.refl _ _⟩
  case round =>
    obtain ⟨k, hk, rfl, hO, hBo, hb⟩ := hrel
    have HO := Lib.hid hO
    have HB := Lib.hid hBo
    have q0 := (hb.cell (p := ⟨w.heap.size, 0, none⟩) hy1).trans m0
    have q1 := (hb.cell (p := ⟨w.heap.size, 1, none⟩) hy1).trans m1
    have q2 := (hb.cell (p := ⟨w.heap.size, 2, none⟩) hy1).trans m2
    have q3 := (hb.cell (p := ⟨w.heap.size, 3, none⟩) hy1).trans m3
    have hwrl : w'.heap.size ≤ wr.heap.size := Nat.le_trans hw4 hb.size
    have hbr := hb04.trans (hb.mono (by omega))
    have hgr : gc < wr.heap.size := HB.out.lt
    have hgw : gc ≠ w.heap.size := by omega
    clear hO hBo m0 m1 m2 m3
    by_cases hlt : k < N
    · have f1 := HB.out.frozen k
      have x1 := HB.out.cell hlt
      have hB1 := HB.out.set_ k (!true)
      rw [upB_not] at hB1
      have HB1 := Lib.hid hB1
      clear hB1
      have HLL := Lib.hid (clL_len (fitB s) k)
      obtain ⟨w5, hw5⟩ : ∃ w5, wr.setCell ⟨gc, k, none⟩ (.bool false) = w5 := ⟨_, rfl⟩
      have hb5 : Below w'.heap.size wr w5 := by rw [← hw5]; exact (Below.refl _ _).setCell hgc _
      have hz5 : w5.heap.size ≤ wr.heap.size ∧ wr.heap.size ≤ w5.heap.size := by rw [← hw5]; simp
      have HO5 : Hid (Own w5 w4.heap.size 3 u7 inV 1 (clL (fitB s) k)) := Lib.hid (by rw [← hw5]; exact HO.out.set_ (p := ⟨gc, k, none⟩) hgl4 _)
      have HB5 : Hid (BoAt w5 gc N (fun j => !upB (clOut (fitB s) k) k true j)) := Lib.hid (by rw [← hw5]; exact HB1.out)
      have t0 := (hb5.cell (p := ⟨w.heap.size, 0, none⟩) hy1).trans q0
      have t1 := (hb5.cell (p := ⟨w.heap.size, 1, none⟩) hy1).trans q1
      have t2 := (hb5.cell (p := ⟨w.heap.size, 2, none⟩) hy1).trans q2
      have t3 := (hb5.cell (p := ⟨w.heap.size, 3, none⟩) hy1).trans q3
      have hbw5 := hbr.trans (hb5.mono (by omega))
      have HW5 := Lib.hid hw5
      clear HB1 q0 q1 q2 q3 hw5
      have hg5 : gc < w5.heap.size := by omega
      go_upto_region 12 with fail
      rw [HW5.out]
      clear f1 x1
      cases hF : fitB s (upB (clOut (fitB s) k) k true)
      · obtain ⟨e1, e2⟩ := clOut_no hF
        have E1 := Lib.hid e1
        have E2 := Lib.hid e2
        have HF5 := Lib.hid hF
        clear e1 e2 hF
        go_wp2_with (go_at_call 47; refine (HSN.out w5 gc N _ hbw5 HB5.out _ HF5.out).mono ?_; rintro e w6 ⟨⟨v6, rfl⟩, hb6⟩)
        go_roundw
        case rel => exact ⟨k + 1, by omega, by go_num, by rw [E2.out]; exact HO5.out.below hb6, by rw [E1.out]; exact HB5.out.below hb6 hg5, hb.trans (hb5.trans (hb6.mono (by omega)))⟩
        case measure => (simp [intOf] <;> omega)
      · obtain ⟨e1, e2⟩ := clOut_yes hF
        have E1 := Lib.hid e1
        have E2 := Lib.hid e2
        have HF5 := Lib.hid hF
        clear e1 e2 hF
        go_upto_region 14 with (go_at_call 47; refine (HSN.out w5 gc N _ hbw5 HB5.out _ HF5.out).mono ?_; rintro e w6 ⟨⟨v6, rfl⟩, hb6⟩; have hB6 := HB5.out.below hb6 hg5; have f6 := hB6.frozen k; have x6 := hB6.cell hlt; have HB6 := Lib.hid hB6; clear hB6)
        have HO6 := Lib.hid (HO5.out.below hb6)
        have hB7 := HB6.out.set_ k (!false)
        rw [upB_not] at hB7
        have HB7 := Lib.hid hB7
        clear hB7
        obtain ⟨w7, hw7⟩ : ∃ w7, w6.setCell ⟨gc, k, none⟩ (.bool true) = w7 := ⟨_, rfl⟩
        have hg6 : gc < w6.heap.size := Nat.lt_of_lt_of_le hg5 hb6.size
        have hb7 : Below w'.heap.size w6 w7 := by rw [← hw7]; exact (Below.refl _ _).setCell hgc _
        have hz7 : w7.heap.size ≤ w6.heap.size ∧ w6.heap.size ≤ w7.heap.size := by rw [← hw7]; simp
        have hz65 := hb6.size
        have HO7 : Hid (Own w7 w4.heap.size 3 u7 inV 1 (clL (fitB s) k)) := Lib.hid (by rw [← hw7]; exact HO6.out.set_ (p := ⟨gc, k, none⟩) hgl4 _)
        have HB8 : Hid (BoAt w7 gc N (fun j => !upB (upB (clOut (fitB s) k) k true) k false j)) := Lib.hid (by rw [← hw7]; exact HB7.out)
        have HW7 := Lib.hid hw7
        have hbAll : Below w'.heap.size w4 w7 := hb.trans (hb5.trans ((hb6.mono (by omega)).trans hb7))
        clear HB6 HB7 HO6 hw7
        go_upto_region 15 with fail
        rw [HW7.out]
        clear f6 x6 HW7 t0 t1 t2 t3
        have hlk : (clL (fitB s) k).length ≤ 80 := by have := HLL.out; omega
        go_wp2_with (at_builtin; refine wpList_append_rd rfl (.tmp 42) (.tmp 44) 46 rfl i0 _ 8 Try.underlying46 I0.out.1 I0.out.2.1 I0.out.2.2.1 I0.out.2.2.2 rfl (by omega) inV_len' inV_one' rfl (HO7.out.below ((Below.refl _ _).alloc (Nat.le_refl _) _)) rfl rfl (Rd.one _ (k : Int) #[.int .i64 k] 3 rfl) (by first | omega | (simp <;> omega)) (by omega) (by have := hb.size; first | omega | (simp <;> omega)) ?_; intro v' w8 ho8 hg8 hat8)
        have hg9 : World.grownBy _ w8 u7.ownBlock := hg8
        have hne : u7.ownBlock ≠ some gc := fun e => by have := (HO7.out.lt gc e).1; omega
        have hBg := (hg9.block gc (by simp <;> omega) (fun e => hne e.symm)).trans ((Below.heap_alloc _ _ _ (by omega)).trans HB8.out)
        have hb9 : Below w'.heap.size w4 w8 := (hbAll.alloc (by omega) _).trans (below_grown hg9 (by simp <;> omega) (fun b hb => by have := (HO7.out.lt b hb).1; omega))
        have HO9 := Lib.hid ho8
        have HB9 := Lib.hid hBg
        clear ho8 hg8 hg9 hat8 hBg
        go_roundw
        case rel => exact ⟨k + 1, by omega, by go_num, by rw [E2.out]; exact HO9.out, by rw [E1.out]; exact HB9.out, hb9⟩
        case measure => (simp [intOf] <;> omega)
    · have hkN : k = N := by omega
      have HO6 : Hid (Own wr w4.heap.size 3 u7 inV 1 (clL (fitB s) N)) := Lib.hid (by have h := HO.out; rw [hkN] at h; exact h)
      go_wp2
      go_ret2
      have hN := HNN.out
      subst hN
      obtain ⟨A, c, rfl⟩ := HO6.out.form
      exact ⟨⟨A, c, rfl, HO6.out.rd inV_len'⟩, hbr⟩

theorem rclash_any (s : Sv) (c1 c2 c3 : Nat) (A1 A2 A3 : Option Addr) (w : World)
    (r1 : Rd w w.heap.size A1 shV 4 s.shots) (r2 : Rd w w.heap.size A2 mkV 3 s.marks) (r3 : Rd w w.heap.size A3 shV 4 s.threads) :
    Calls Try.prog 27 #[.agg #[.int .i64 s.n, .slice A1 s.shots.length c1, .slice A2 s.marks.length c2, .slice A3 s.threads.length c3]] w fun e w' =>
      (∃ A c, e = .returned (.tuple #[.slice A (lvClash s).1.length c, .int .i64 (lvClash s).2]) ∧ Rd w' w'.heap.size A inV 1 (lvClash s).1) ∧ Below w.heap.size w w' := by
  cases hok : svOk s
  · exact rclash_bad s c1 c2 c3 A1 A2 A3 w r1 r2 r3 hok
  · cases hf : fitB s (fun _ => false)
    · exact rclash_some s c1 c2 c3 A1 A2 A3 w r1 r2 r3 hok hf
    · exact rclash_none s c1 c2 c3 A1 A2 A3 w r1 r2 r3 hok hf

end Go.Proofs.Ytbolfjlfpkgfiaa
