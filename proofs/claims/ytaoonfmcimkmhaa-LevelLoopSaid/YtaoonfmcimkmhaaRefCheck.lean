/- The reference's Check answers svErr of every survey that reads as plain data. Condition: the three slices read below the heap's end. -/
import Derived.Test.YtaoonfmcimkmhaaLevCheck
import Derived.Test.YtaoonfmcimkmhaaCalm
namespace Go.Proofs.Ytaoonfmcimkmhaa
open Go.RowKit
attribute [local go_sem] wx_cell wx_frozen

theorem inR_inB (p x : Int) : inR 0 (p - 1) x = inB p x := by unfold inR inB; congr 1; simp; omega

set_option maxHeartbeats 4000000 in
set_option maxRecDepth 100000 in
theorem rcheck_good (s : Sv) (c1 c2 c3 : Nat) (A1 A2 A3 : Option Addr) (w : World)
    (r1 : Rd w w.heap.size A1 shV 4 s.shots) (r2 : Rd w w.heap.size A2 mkV 3 s.marks) (r3 : Rd w w.heap.size A3 shV 4 s.threads)
    (hg : 1 ≤ s.n ∧ s.n ≤ 20 ∧ s.shots.length ≤ 60 ∧ s.marks.length ≤ 20 ∧ s.threads.length ≤ 30) :
    Calls Try.prog 21 #[.agg #[.int .i64 s.n, .slice A1 s.shots.length c1, .slice A2 s.marks.length c2, .slice A3 s.threads.length c3]] w fun e w' => e = .returned (.int .i64 (svErr s)) ∧ Below w.heap.size w w' := by
  have HG := Lib.hid hg
  have R1 := Lib.hid r1
  have R2 := Lib.hid r2
  have R3 := Lib.hid r3
  clear r1 r2 r3
  obtain ⟨g1, g2, g3, g4, g5⟩ := hg
  have hin : inR 1 20 s.n = true := by unfold inR; simp; omega
  go_enter Try.func21, Try.ntmps21
  go_wp2_with (go_at_call 50; refine (rwithin_any _ _ _ _).mono ?_; rintro e w' ⟨rfl, rfl⟩)
  clear hin
  generalize hw0 : (w.alloc (Obj.cells #[Value.int IntKind.i64 s.n, Value.slice A1 s.shots.length c1, Value.slice A2 s.marks.length c2, Value.slice A3 s.threads.length c3] 26)) = w0
  have hb0 : Below w.heap.size w w0 := by rw [← hw0]; (repeat' (first | (with_reducible exact Below.refl _ _) | (with_reducible refine Below.alloc ?_ ?_ _) | (with_reducible refine Below.drew ?_) | (with_reducible refine Below.drewN_ ?_ _) | (with_reducible refine Below.setCell ?_ ?_ _) | (with_reducible refine Below.setRow ?_ ?_ _) | (with_reducible refine Below.via ?_ (by with_reducible assumption) ?_) | go_size))
  have k0 : w0.cell? ⟨w.heap.size, 0, none⟩ = some (.int .i64 s.n) := by rw [← hw0]; simp
  have k1 : w0.cell? ⟨w.heap.size, 1, none⟩ = some (.slice A1 s.shots.length c1) := by rw [← hw0]; simp
  have k2 : w0.cell? ⟨w.heap.size, 2, none⟩ = some (.slice A2 s.marks.length c2) := by rw [← hw0]; simp
  have k3 : w0.cell? ⟨w.heap.size, 3, none⟩ = some (.slice A3 s.threads.length c3) := by rw [← hw0]; simp
  have hsz : w0.heap.size = w.heap.size + 1 := by rw [← hw0]; simp
  have HS := Lib.hid hsz
  clear hsz hw0
  go_loopw [3] (fun i W => ∃ k : Nat, k ≤ s.shots.length ∧ i = .int .i64 k ∧ (∀ x ∈ s.shots.take k, shOk s.n (-20000000) 20000000 x = true) ∧ Below (w.heap.size + 1) w0 W) (fun i _ => s.shots.length - (intOf i).toNat)
  case atStart => exact ⟨0, by omega, rfl, by simp, Below.refl _ _⟩
  case round =>
    obtain ⟨k, hk, rfl, hall, hb⟩ := hrel
    have HA := Lib.hid hall
    clear hall
    have m0 := (hb.cell (p := ⟨w.heap.size, 0, none⟩) (Nat.lt_succ_self _)).trans k0
    have m1 := (hb.cell (p := ⟨w.heap.size, 1, none⟩) (Nat.lt_succ_self _)).trans k1
    have m2 := (hb.cell (p := ⟨w.heap.size, 2, none⟩) (Nat.lt_succ_self _)).trans k2
    have m3 := (hb.cell (p := ⟨w.heap.size, 3, none⟩) (Nat.lt_succ_self _)).trans k3
    have hz : w.heap.size < wr.heap.size := by have := hb.size; rw [HS.out] at this; omega
    by_cases hlt : k < s.shots.length
    · obtain ⟨b, o, rfl, hbl, hcell⟩ := (((R1.out.below hb0).more (Nat.le_succ _)).below hb).at_ hlt
      have q0 := hcell 0 _ rfl
      have q1 := hcell 1 _ rfl
      have q2 := hcell 2 _ rfl
      have q3 := hcell 3 _ rfl
      have hbl2 : b < wr.heap.size := by omega
      simp only [Nat.add_zero] at q0
      clear hcell
      cases hd : diffB s.n (s.shots[k]).f (s.shots[k]).t
      all_goals cases he : spanB (s.shots[k]).lo (s.shots[k]).hi (-20000000) 20000000
      all_goals
        have HX : Hid (shOk s.n (-20000000) 20000000 s.shots[k] = _) := (by unfold shOk; rw [hd, he] : shOk s.n (-20000000) 20000000 s.shots[k] = _)
        have HN := Lib.hid (take_all_snoc (p := shOk s.n (-20000000) 20000000) hlt HA.out)
        have HB := Lib.hid (fun h => svErr_shot (s := s) (List.getElem_mem hlt) h)
        generalize s.shots[k] = x at *
        go_wp2
        refine wp_region_calm (by kernel_rfl) (by kernel_rfl) ?_
        repeat (go_big_quiet_step ((first | (go_at_call 54; exact calm_of (rtwo_any _ _ _ _ _ _ _ (by omega) (by omega))) | (go_at_call 55; exact calm_of (rspanned_any _ _ _ _ _)))))
        refine wpQuiet_nil ?_; rintro _ ⟨dx, rfl⟩
        obtain ⟨wy, hwy⟩ : ∃ wy, wx _ dx = wy := ⟨_, rfl⟩; have hby := wx_below _ dx; rw [hwy] at hby ⊢
        have hbw : Below (w.heap.size + 1) w0 wy := hb.trans (hby.mono (by omega))
        go_wp2
      any_goals
        (go_ret; exact ⟨by rw [HB.out HX.out]; rfl, by (repeat' (first | (with_reducible exact Below.refl _ _) | (with_reducible refine Below.alloc ?_ ?_ _) | (with_reducible refine Below.drew ?_) | (with_reducible refine Below.drewN_ ?_ _) | (with_reducible refine Below.setCell ?_ ?_ _) | (with_reducible refine Below.setRow ?_ ?_ _) | (with_reducible refine Below.via ?_ (by with_reducible assumption) ?_) | go_size))⟩)
      go_roundw
      case rel => exact ⟨k + 1, by omega, by go_num, HN.out HX.out, by (repeat' (first | (with_reducible exact Below.refl _ _) | (with_reducible refine Below.alloc ?_ ?_ _) | (with_reducible refine Below.drew ?_) | (with_reducible refine Below.drewN_ ?_ _) | (with_reducible refine Below.setCell ?_ ?_ _) | (with_reducible refine Below.setRow ?_ ?_ _) | (with_reducible refine Below.via ?_ (by with_reducible assumption) ?_) | go_size))⟩
      case measure => simp [intOf]; omega
    · have HL1 : Hid (∀ x ∈ s.shots, shOk s.n (-20000000) 20000000 x = true) := by have h := HA.out; rw [List.take_of_length_le (by omega)] at h; exact h
      clear HA
      go_wp2
      clear m0 m1 m2 m3 hlt hz
      go_loopw [4] (fun i W => ∃ k : Nat, k ≤ s.marks.length ∧ i = .int .i64 k ∧ (∀ x ∈ s.marks.take k, mkOk s.n x = true) ∧ Below (w.heap.size + 1) w0 W) (fun i _ => s.marks.length - (intOf i).toNat)
      case atStart => exact ⟨0, by omega, rfl, by simp, hb⟩
      case round =>
        clear hb hk
        obtain ⟨k, hk, rfl, hall, hb⟩ := hrel
        have HA := Lib.hid hall
        clear hall
        have m0 := (hb.cell (p := ⟨w.heap.size, 0, none⟩) (Nat.lt_succ_self _)).trans k0
        have m1 := (hb.cell (p := ⟨w.heap.size, 1, none⟩) (Nat.lt_succ_self _)).trans k1
        have m2 := (hb.cell (p := ⟨w.heap.size, 2, none⟩) (Nat.lt_succ_self _)).trans k2
        have m3 := (hb.cell (p := ⟨w.heap.size, 3, none⟩) (Nat.lt_succ_self _)).trans k3
        have hz : w.heap.size < wr.heap.size := by have := hb.size; rw [HS.out] at this; omega
        by_cases hlt : k < s.marks.length
        · obtain ⟨b, o, rfl, hbl, hcell⟩ := (((R2.out.below hb0).more (Nat.le_succ _)).below hb).at_ hlt
          have q0 := hcell 0 _ rfl
          have q1 := hcell 1 _ rfl
          have q2 := hcell 2 _ rfl
          have hbl2 : b < wr.heap.size := by omega
          simp only [Nat.add_zero] at q0
          clear hcell
          cases hd : inR 0 (s.n - 1) (s.marks[k]).p
          all_goals cases he : spanB (s.marks[k]).lo (s.marks[k]).hi (-10000000) 10000000
          all_goals
            have HX : Hid (mkOk s.n s.marks[k] = (inR 0 (s.n - 1) (s.marks[k]).p && spanB (s.marks[k]).lo (s.marks[k]).hi (-10000000) 10000000)) := Lib.hid (by unfold mkOk; rw [inR_inB])
            rw [hd, he] at HX
            have HN := Lib.hid (take_all_snoc (p := mkOk s.n) hlt HA.out)
            have HB := Lib.hid (fun h => svErr_mark (s := s) (List.getElem_mem hlt) h)
            generalize s.marks[k] = x at *
            go_wp2
            refine wp_region_calm (by kernel_rfl) (by kernel_rfl) ?_
            repeat (go_big_quiet_step ((first | (go_at_call 50; exact calm_same (rwithin_any _ _ _ _)) | (go_at_call 55; exact calm_of (rspanned_any _ _ _ _ _)))))
            refine wpQuiet_nil ?_; rintro _ ⟨dx, rfl⟩
            obtain ⟨wy, hwy⟩ : ∃ wy, wx _ dx = wy := ⟨_, rfl⟩; have hby := wx_below _ dx; rw [hwy] at hby ⊢
            have hbw : Below (w.heap.size + 1) w0 wy := hb.trans (hby.mono (by omega))
            go_wp2
          any_goals
            (go_ret; exact ⟨by rw [HB.out HX.out]; rfl, by (repeat' (first | (with_reducible exact Below.refl _ _) | (with_reducible refine Below.alloc ?_ ?_ _) | (with_reducible refine Below.drew ?_) | (with_reducible refine Below.drewN_ ?_ _) | (with_reducible refine Below.setCell ?_ ?_ _) | (with_reducible refine Below.setRow ?_ ?_ _) | (with_reducible refine Below.via ?_ (by with_reducible assumption) ?_) | go_size))⟩)
          go_roundw
          case rel => exact ⟨k + 1, by omega, by go_num, HN.out HX.out, by (repeat' (first | (with_reducible exact Below.refl _ _) | (with_reducible refine Below.alloc ?_ ?_ _) | (with_reducible refine Below.drew ?_) | (with_reducible refine Below.drewN_ ?_ _) | (with_reducible refine Below.setCell ?_ ?_ _) | (with_reducible refine Below.setRow ?_ ?_ _) | (with_reducible refine Below.via ?_ (by with_reducible assumption) ?_) | go_size))⟩
          case measure => simp [intOf]; omega
        · have HL2 : Hid (∀ x ∈ s.marks, mkOk s.n x = true) := by have h := HA.out; rw [List.take_of_length_le (by omega)] at h; exact h
          clear HA
          go_wp2
          clear m0 m1 m2 m3 hlt hz
          go_loopw [5] (fun i W => ∃ k : Nat, k ≤ s.threads.length ∧ i = .int .i64 k ∧ (∀ x ∈ s.threads.take k, shOk s.n 1 100000000 x = true) ∧ Below (w.heap.size + 1) w0 W) (fun i _ => s.threads.length - (intOf i).toNat)
          case atStart => exact ⟨0, by omega, rfl, by simp, hb⟩
          case round =>
            clear hb hk
            obtain ⟨k, hk, rfl, hall, hb⟩ := hrel
            have HA := Lib.hid hall
            clear hall
            have m0 := (hb.cell (p := ⟨w.heap.size, 0, none⟩) (Nat.lt_succ_self _)).trans k0
            have m1 := (hb.cell (p := ⟨w.heap.size, 1, none⟩) (Nat.lt_succ_self _)).trans k1
            have m2 := (hb.cell (p := ⟨w.heap.size, 2, none⟩) (Nat.lt_succ_self _)).trans k2
            have m3 := (hb.cell (p := ⟨w.heap.size, 3, none⟩) (Nat.lt_succ_self _)).trans k3
            have hz : w.heap.size < wr.heap.size := by have := hb.size; rw [HS.out] at this; omega
            by_cases hlt : k < s.threads.length
            · obtain ⟨b, o, rfl, hbl, hcell⟩ := (((R3.out.below hb0).more (Nat.le_succ _)).below hb).at_ hlt
              have q0 := hcell 0 _ rfl
              have q1 := hcell 1 _ rfl
              have q2 := hcell 2 _ rfl
              have q3 := hcell 3 _ rfl
              have hbl2 : b < wr.heap.size := by omega
              simp only [Nat.add_zero] at q0
              clear hcell
              cases hd : diffB s.n (s.threads[k]).f (s.threads[k]).t
              all_goals cases he : spanB (s.threads[k]).lo (s.threads[k]).hi 1 100000000
              all_goals
                have HX : Hid (shOk s.n 1 100000000 s.threads[k] = _) := (by unfold shOk; rw [hd, he] : shOk s.n 1 100000000 s.threads[k] = _)
                have HN := Lib.hid (take_all_snoc (p := shOk s.n 1 100000000) hlt HA.out)
                have HB := Lib.hid (fun h => svErr_thread (s := s) (List.getElem_mem hlt) h)
                generalize s.threads[k] = x at *
                go_wp2
                refine wp_region_calm (by kernel_rfl) (by kernel_rfl) ?_
                repeat (go_big_quiet_step ((first | (go_at_call 54; exact calm_of (rtwo_any _ _ _ _ _ _ _ (by omega) (by omega))) | (go_at_call 55; exact calm_of (rspanned_any _ _ _ _ _)))))
                refine wpQuiet_nil ?_; rintro _ ⟨dx, rfl⟩
                obtain ⟨wy, hwy⟩ : ∃ wy, wx _ dx = wy := ⟨_, rfl⟩; have hby := wx_below _ dx; rw [hwy] at hby ⊢
                have hbw : Below (w.heap.size + 1) w0 wy := hb.trans (hby.mono (by omega))
                go_wp2
              any_goals
                (go_ret; exact ⟨by rw [HB.out HX.out]; rfl, by (repeat' (first | (with_reducible exact Below.refl _ _) | (with_reducible refine Below.alloc ?_ ?_ _) | (with_reducible refine Below.drew ?_) | (with_reducible refine Below.drewN_ ?_ _) | (with_reducible refine Below.setCell ?_ ?_ _) | (with_reducible refine Below.setRow ?_ ?_ _) | (with_reducible refine Below.via ?_ (by with_reducible assumption) ?_) | go_size))⟩)
              go_roundw
              case rel => exact ⟨k + 1, by omega, by go_num, HN.out HX.out, by (repeat' (first | (with_reducible exact Below.refl _ _) | (with_reducible refine Below.alloc ?_ ?_ _) | (with_reducible refine Below.drew ?_) | (with_reducible refine Below.drewN_ ?_ _) | (with_reducible refine Below.setCell ?_ ?_ _) | (with_reducible refine Below.setRow ?_ ?_ _) | (with_reducible refine Below.via ?_ (by with_reducible assumption) ?_) | go_size))⟩
              case measure => simp [intOf]; omega
            · have HL3 : Hid (∀ x ∈ s.threads, shOk s.n 1 100000000 x = true) := by have h := HA.out; rw [List.take_of_length_le (by omega)] at h; exact h
              clear HA
              go_wp2
              go_ret
              exact ⟨by rw [svErr_good HG.out HL1.out HL2.out HL3.out]; rfl, by (repeat' (first | (with_reducible exact Below.refl _ _) | (with_reducible refine Below.alloc ?_ ?_ _) | (with_reducible refine Below.drew ?_) | (with_reducible refine Below.drewN_ ?_ _) | (with_reducible refine Below.setCell ?_ ?_ _) | (with_reducible refine Below.setRow ?_ ?_ _) | (with_reducible refine Below.via ?_ (by with_reducible assumption) ?_) | go_size))⟩

theorem rcheck_any (s : Sv) (c1 c2 c3 : Nat) (A1 A2 A3 : Option Addr) (w : World)
    (r1 : Rd w w.heap.size A1 shV 4 s.shots) (r2 : Rd w w.heap.size A2 mkV 3 s.marks) (r3 : Rd w w.heap.size A3 shV 4 s.threads) :
    Calls Try.prog 21 #[.agg #[.int .i64 s.n, .slice A1 s.shots.length c1, .slice A2 s.marks.length c2, .slice A3 s.threads.length c3]] w fun e w' => e = .returned (.int .i64 (svErr s)) ∧ Below w.heap.size w w' := by
  by_cases hg : 1 ≤ s.n ∧ s.n ≤ 20 ∧ s.shots.length ≤ 60 ∧ s.marks.length ≤ 20 ∧ s.threads.length ≤ 30
  · exact rcheck_good s c1 c2 c3 A1 A2 A3 w r1 r2 r3 hg
  · have e := svErr_bad hg
    have E := Lib.hid e
    clear e
    cases hin : inR 1 20 s.n
    · go_enter Try.func21, Try.ntmps21
      go_wp2_with (go_at_call 50; refine (rwithin_any _ _ _ _).mono ?_; rintro e w' ⟨rfl, rfl⟩)
      go_ret
      exact ⟨by rw [E.out]; rfl, by (repeat' (first | (with_reducible exact Below.refl _ _) | (with_reducible refine Below.alloc ?_ ?_ _) | (with_reducible refine Below.drew ?_) | (with_reducible refine Below.drewN_ ?_ _) | (with_reducible refine Below.setCell ?_ ?_ _) | (with_reducible refine Below.setRow ?_ ?_ _) | (with_reducible refine Below.via ?_ (by with_reducible assumption) ?_) | go_size))⟩
    · have hg' : (60 : Int) < s.shots.length ∨ (s.shots.length : Int) ≤ 60 ∧ ((20 : Int) < s.marks.length ∨ (s.marks.length : Int) ≤ 20 ∧ (30 : Int) < s.threads.length) := by
        unfold inR at hin
        simp only [Bool.and_eq_true, decide_eq_true_eq] at hin
        omega
      clear hg
      rcases hg' with h1 | ⟨h1, h2 | ⟨h2, h3⟩⟩
      all_goals
        go_enter Try.func21, Try.ntmps21
        go_wp2_with (go_at_call 50; refine (rwithin_any _ _ _ _).mono ?_; rintro e w' ⟨rfl, rfl⟩)
        go_ret
        exact ⟨by rw [E.out]; rfl, by (repeat' (first | (with_reducible exact Below.refl _ _) | (with_reducible refine Below.alloc ?_ ?_ _) | (with_reducible refine Below.drew ?_) | (with_reducible refine Below.drewN_ ?_ _) | (with_reducible refine Below.setCell ?_ ?_ _) | (with_reducible refine Below.setRow ?_ ?_ _) | (with_reducible refine Below.via ?_ (by with_reducible assumption) ?_) | go_size))⟩

end Go.Proofs.Ytaoonfmcimkmhaa
