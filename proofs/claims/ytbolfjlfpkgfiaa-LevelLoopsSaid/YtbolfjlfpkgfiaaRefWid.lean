/- aflajref01.Widen: what it answers of every survey that reads as plain data: the least error. Condition: the survey's slices read below the heap's end. -/
import Derived.Test.YtbolfjlfpkgfiaaWidMath
import Derived.Test.YtbolfjlfpkgfiaaRefHts
set_option linter.unusedVariables false
set_option linter.unusedSimpArgs false
namespace Go.Proofs.Ytbolfjlfpkgfiaa
open Go.RowKit

/-- Whether sides finds differences: whether heights fit. -/
theorem sides_fit (s : Sv) (c1 c2 c3 : Nat) (A1 A2 A3 : Option Addr) (w : World) (hok : svOk s = true)
    (r1 : Rd w w.heap.size A1 shV 4 s.shots) (r2 : Rd w w.heap.size A2 mkV 3 s.marks) (gc cc : Nat) (out : Nat → Bool) (hBo : BoAt w gc (s.shots.length + s.marks.length) (fun k => !out k)) (wider : Int) (hw0 : 0 ≤ wider) (hw2 : wider ≤ 20000000) (b : Bool) (hb : (wkD s out wider).2 = b) :
    Calls Try.prog 47 #[.agg #[.int .i64 s.n, .slice A1 s.shots.length c1, .slice A2 s.marks.length c2, .slice A3 s.threads.length c3], .slice (some ⟨gc, 0, none⟩) (s.shots.length + s.marks.length) cc, .int .i64 wider] w fun e w' =>
      (∃ v, e = .returned (.tuple #[v, .bool b])) ∧ Below w.heap.size w w' := by
  refine (sides_sv s c1 c2 c3 A1 A2 A3 w hok r1 r2 gc cc out hBo wider hw0 hw2).mono fun e w' h => ⟨?_, h.2⟩
  have h1 := (fw_fwS (wkMat_zero (out := out) (wider := wider) hok hw0 hw2)).1
  have h2 : (wkD s out wider).2 = (fwS (s.n.toNat + 1) (matOf s.n.toNat out wider (upto (rdOf s.n.toNat s) (s.shots.length + s.marks.length)))).isSome := h1
  rcases h.1 with ⟨h3, rfl⟩ | ⟨E, g, R, h3, rfl, _⟩
  · rw [h3] at h2
    exact ⟨_, by rw [← hb, h2]; rfl⟩
  · rw [h3] at h2
    exact ⟨_, by rw [← hb, h2]; rfl⟩

set_option maxRecDepth 100000 in
set_option maxHeartbeats 1000000 in
theorem rwiden_bad (s : Sv) (c1 c2 c3 : Nat) (A1 A2 A3 : Option Addr) (w : World)
    (r1 : Rd w w.heap.size A1 shV 4 s.shots) (r2 : Rd w w.heap.size A2 mkV 3 s.marks) (r3 : Rd w w.heap.size A3 shV 4 s.threads) (hok : svOk s = false) :
    Calls Try.prog 29 #[.agg #[.int .i64 s.n, .slice A1 s.shots.length c1, .slice A2 s.marks.length c2, .slice A3 s.threads.length c3]] w fun e w' =>
      e = .returned (.tuple #[.int .i64 0, .int .i64 10]) ∧ Below w.heap.size w w' := by
  have hb0 : Below w.heap.size w (w.alloc (Obj.cells #[Value.int IntKind.i64 s.n, Value.slice A1 s.shots.length c1, Value.slice A2 s.marks.length c2, Value.slice A3 s.threads.length c3] 26)) := by (repeat' (first | (with_reducible exact Below.refl _ _) | (with_reducible refine Below.alloc ?_ ?_ _) | (with_reducible refine Below.drew ?_) | (with_reducible refine Below.drewN_ ?_ _) | (with_reducible refine Below.setCell ?_ ?_ _) | (with_reducible refine Below.setRow ?_ ?_ _) | (with_reducible refine Below.via ?_ (by with_reducible assumption) ?_) | go_size))
  have R1 := Lib.hid ((r1.below hb0).more hb0.size)
  have R2 := Lib.hid ((r2.below hb0).more hb0.size)
  have R3 := Lib.hid ((r3.below hb0).more hb0.size)
  clear r1 r2 r3
  have HC := Lib.hid (rcheck_any s c1 c2 c3 A1 A2 A3 (w.alloc (Obj.cells #[Value.int IntKind.i64 s.n, Value.slice A1 s.shots.length c1, Value.slice A2 s.marks.length c2, Value.slice A3 s.threads.length c3] 26)) R1.out R2.out R3.out)
  have e1 : svErr s = 10 := by unfold svErr; rw [hok]; rfl
  rw [e1] at HC
  clear e1 hok
  go_enter Try.func29, Try.ntmps29
  go_wp2_with (go_at_call 21; refine HC.out.mono ?_; rintro e w' ⟨rfl, hb1⟩; obtain ⟨hc1, hf1⟩ := bcell hb1; have hz1 := hb1.size; (try simp at hz1); (try have hy1 : w.heap.size < w'.heap.size := by omega))
  go_ret2
  exact ⟨rfl, by (repeat' (first | (with_reducible exact Below.refl _ _) | (with_reducible refine Below.alloc ?_ ?_ _) | (with_reducible refine Below.drew ?_) | (with_reducible refine Below.drewN_ ?_ _) | (with_reducible refine Below.setCell ?_ ?_ _) | (with_reducible refine Below.setRow ?_ ?_ _) | (with_reducible refine Below.via ?_ (by with_reducible assumption) ?_) | go_size))⟩

set_option maxRecDepth 100000 in
set_option maxHeartbeats 2000000 in
theorem rwiden_fine (s : Sv) (c1 c2 c3 : Nat) (A1 A2 A3 : Option Addr) (w : World)
    (r1 : Rd w w.heap.size A1 shV 4 s.shots) (r2 : Rd w w.heap.size A2 mkV 3 s.marks) (r3 : Rd w w.heap.size A3 shV 4 s.threads) (hok : svOk s = true)
    (r : Nat) (hr : r ≤ 20000000) (hP : ∀ m : Nat, m ≤ 20000000 → (wkD s (fun _ => false) (m : Int)).2 = decide (r ≤ m)) :
    Calls Try.prog 29 #[.agg #[.int .i64 s.n, .slice A1 s.shots.length c1, .slice A2 s.marks.length c2, .slice A3 s.threads.length c3]] w fun e w' =>
      e = .returned (.tuple #[.int .i64 r, .int .i64 0]) ∧ Below w.heap.size w w' := by
  obtain ⟨⟨_, _, g3, g4, _⟩, _⟩ := svOk_spec hok
  have hb0 : Below w.heap.size w (w.alloc (Obj.cells #[Value.int IntKind.i64 s.n, Value.slice A1 s.shots.length c1, Value.slice A2 s.marks.length c2, Value.slice A3 s.threads.length c3] 26)) := by (repeat' (first | (with_reducible exact Below.refl _ _) | (with_reducible refine Below.alloc ?_ ?_ _) | (with_reducible refine Below.drew ?_) | (with_reducible refine Below.drewN_ ?_ _) | (with_reducible refine Below.setCell ?_ ?_ _) | (with_reducible refine Below.setRow ?_ ?_ _) | (with_reducible refine Below.via ?_ (by with_reducible assumption) ?_) | go_size))
  have R1 := Lib.hid ((r1.below hb0).more hb0.size)
  have R2 := Lib.hid ((r2.below hb0).more hb0.size)
  have R3 := Lib.hid ((r3.below hb0).more hb0.size)
  have P1 := Lib.hid r1
  have P2 := Lib.hid r2
  clear r1 r2 r3
  have HC := Lib.hid (rcheck_any s c1 c2 c3 A1 A2 A3 (w.alloc (Obj.cells #[Value.int IntKind.i64 s.n, Value.slice A1 s.shots.length c1, Value.slice A2 s.marks.length c2, Value.slice A3 s.threads.length c3] 26)) R1.out R2.out R3.out)
  have e1 : svErr s = 0 := by unfold svErr; rw [hok]; rfl
  rw [e1] at HC
  have HSN := Lib.hid (fun (W : World) gc cc (hb : Below w.heap.size w W) hBo (m : Int) h0 h2 b hm => sides_fit s c1 c2 c3 A1 A2 A3 W hok ((P1.out.below hb).more hb.size) ((P2.out.below hb).more hb.size) gc cc (fun _ => false) hBo m h0 h2 b hm)
  have HP := Lib.hid hP
  have HR := Lib.hid hr
  clear e1 hok hP hr
  go_enter Try.func29, Try.ntmps29
  go_upto_region 5 with (first | (go_at_call 21; refine HC.out.mono ?_; rintro e w' ⟨rfl, hb1⟩; obtain ⟨hc1, hf1⟩ := bcell hb1; have hz1 := hb1.size; (try simp at hz1); (try have hy1 : w.heap.size < w'.heap.size := by omega)) | (go_at_call 48; refine (every_any s.n s.shots.length s.marks.length c1 c2 A1 A2 _ _ (by omega) (by omega)).mono ?_; rintro e w3 ⟨⟨gc, rfl, hgc, hBo⟩, hb3⟩; have HBO := Lib.hid hBo; clear hBo))
  have hbw : Below w.heap.size w w' := by (repeat' (first | (with_reducible exact Below.refl _ _) | (with_reducible refine Below.alloc ?_ ?_ _) | (with_reducible refine Below.drew ?_) | (with_reducible refine Below.drewN_ ?_ _) | (with_reducible refine Below.setCell ?_ ?_ _) | (with_reducible refine Below.setRow ?_ ?_ _) | (with_reducible refine Below.via ?_ (by with_reducible assumption) ?_) | go_size))
  have m0 : w3.cell? ⟨w.heap.size, 0, none⟩ = some (.int .i64 s.n) := by rw [hb3.cell (p := ⟨w.heap.size, 0, none⟩) hy1, hc1 _ _ (by simp)]; simp
  have m1 : w3.cell? ⟨w.heap.size, 1, none⟩ = some (.slice A1 s.shots.length c1) := by rw [hb3.cell (p := ⟨w.heap.size, 1, none⟩) hy1, hc1 _ _ (by simp)]; simp
  have m2 : w3.cell? ⟨w.heap.size, 2, none⟩ = some (.slice A2 s.marks.length c2) := by rw [hb3.cell (p := ⟨w.heap.size, 2, none⟩) hy1, hc1 _ _ (by simp)]; simp
  have m3 : w3.cell? ⟨w.heap.size, 3, none⟩ = some (.slice A3 s.threads.length c3) := by rw [hb3.cell (p := ⟨w.heap.size, 3, none⟩) hy1, hc1 _ _ (by simp)]; simp
  have hb03 : Below w.heap.size w w3 := hbw.trans (hb3.mono hbw.size)
  have hgl : gc < w3.heap.size := HBO.out.lt
  have hwl : w.heap.size < w3.heap.size := Nat.lt_of_lt_of_le hy1 hb3.size
  clear hc1 hf1 hb1 hb0 hz1 hy1 hb3 hbw R1 R2 R3 P1 P2 HC hgc
  go_loopw [5, 6] (fun v0 v1 W => ∃ lo hi : Nat, v0 = .int .i64 lo ∧ v1 = .int .i64 hi ∧ lo ≤ r ∧ r ≤ hi ∧ (hi ≤ 20000000 ∨ (lo = 0 ∧ hi = 40000000)) ∧ Below w3.heap.size w3 W) (fun v0 v1 _ => (intOf v1).toNat - (intOf v0).toNat)
  case atStart => exact ⟨0, 40000000, rfl, by congr 1, by omega, by have := HR.out; omega, .inr ⟨rfl, rfl⟩, Below.refl _ _⟩
  case round =>
    obtain ⟨lo', hi', rfl, rfl, h1, h2, h3, hb⟩ := hrel
    have q0 := (hb.cell (p := ⟨w.heap.size, 0, none⟩) hwl).trans m0
    have q1 := (hb.cell (p := ⟨w.heap.size, 1, none⟩) hwl).trans m1
    have q2 := (hb.cell (p := ⟨w.heap.size, 2, none⟩) hwl).trans m2
    have q3 := (hb.cell (p := ⟨w.heap.size, 3, none⟩) hwl).trans m3
    clear m0 m1 m2 m3
    have hr20 := HR.out
    have hhi : hi' ≤ 40000000 := by omega
    by_cases hlt : lo' < hi'
    · obtain ⟨k, hk⟩ : ∃ k : Nat, ((lo' : Int) + (hi' : Int)) / 2 = k := ⟨(lo' + hi') / 2, by omega⟩
      have hk1 : lo' ≤ k := by omega
      have hk2 : k < hi' := by omega
      have hk3 : k ≤ 20000000 := by omega
      have HM := HP.out k hk3
      have HSC := Lib.hid (fun (b : Bool) hm => HSN.out wr gc (s.shots.length + s.marks.length) (hb03.trans (hb.mono hb03.size)) (HBO.out.below hb hgl) (k : Int) (by omega) (by omega) b hm)
      by_cases hrk : r ≤ k
      · rw [decide_eq_true hrk] at HM
        have HC2 := Lib.hid (HSC.out _ HM)
        have H3 := Lib.hid h3
        clear HM HSC h3
        go_wp2_with (go_at_call 47; refine HC2.out.mono ?_; rintro e w4 ⟨⟨v, rfl⟩, hb2⟩)
        go_roundw
        case rel => exact ⟨lo', k, rfl, rfl, h1, hrk, .inl hk3, hb.trans (hb2.mono hb.size)⟩
        case measure => simp [intOf]; omega
      · rw [decide_eq_false hrk] at HM
        have HC2 := Lib.hid (HSC.out _ HM)
        have H3 := Lib.hid h3
        clear HM HSC h3
        go_wp2_with (go_at_call 47; refine HC2.out.mono ?_; rintro e w4 ⟨⟨v, rfl⟩, hb2⟩)
        go_roundw
        case rel => exact ⟨k + 1, hi', by go_num, rfl, by omega, h2, by have := H3.out; omega, hb.trans (hb2.mono hb.size)⟩
        case measure => simp [intOf]; omega
    · have hr : lo' = r := by omega
      go_wp2
      go_ret2
      exact ⟨by rw [hr]; rfl, hb03.trans (hb.mono hb03.size)⟩

end Go.Proofs.Ytbolfjlfpkgfiaa
