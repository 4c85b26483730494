/- level.Check answers svErr of every survey that reads as plain data. Condition: the three slices read below the heap's end. -/
import Derived.Test.YtaoonfmcimkmhaaLevSmall
namespace Go.Proofs.Ytaoonfmcimkmhaa
open Go.RowKit

theorem svErr_bad {s : Sv} (h : ¬ (1 ≤ s.n ∧ s.n ≤ 20 ∧ s.shots.length ≤ 60 ∧ s.marks.length ≤ 20 ∧ s.threads.length ≤ 30)) : svErr s = 10 := by
  unfold svErr
  rw [if_neg]
  simp only [svOk, Bool.and_eq_true, decide_eq_true_eq]
  intro h'
  apply h
  omega
theorem svErr_shot {s : Sv} {x : Sh} (hx : x ∈ s.shots) (h : shOk s.n (-20000000) 20000000 x = false) : svErr s = 10 := by
  unfold svErr
  rw [if_neg]
  simp only [svOk, Bool.and_eq_true, List.all_eq_true]
  intro h'
  have := h'.1.1.2 x hx
  rw [h] at this
  cases this
theorem svErr_mark {s : Sv} {x : Mk} (hx : x ∈ s.marks) (h : mkOk s.n x = false) : svErr s = 10 := by
  unfold svErr
  rw [if_neg]
  simp only [svOk, Bool.and_eq_true, List.all_eq_true]
  intro h'
  have := h'.1.2 x hx
  rw [h] at this
  cases this
theorem svErr_thread {s : Sv} {x : Sh} (hx : x ∈ s.threads) (h : shOk s.n 1 100000000 x = false) : svErr s = 10 := by
  unfold svErr
  rw [if_neg]
  simp only [svOk, Bool.and_eq_true, List.all_eq_true]
  intro h'
  have := h'.2 x hx
  rw [h] at this
  cases this
theorem svErr_good {s : Sv} (h : 1 ≤ s.n ∧ s.n ≤ 20 ∧ s.shots.length ≤ 60 ∧ s.marks.length ≤ 20 ∧ s.threads.length ≤ 30)
    (h1 : ∀ x ∈ s.shots, shOk s.n (-20000000) 20000000 x = true) (h2 : ∀ x ∈ s.marks, mkOk s.n x = true) (h3 : ∀ x ∈ s.threads, shOk s.n 1 100000000 x = true) : svErr s = 0 := by
  unfold svErr
  rw [if_pos]
  simp only [svOk, Bool.and_eq_true, List.all_eq_true, decide_eq_true_eq]
  exact ⟨⟨⟨⟨⟨⟨⟨h.1, h.2.1⟩, h.2.2.1⟩, h.2.2.2.1⟩, h.2.2.2.2⟩, h1⟩, h2⟩, h3⟩

theorem take_all_snoc {α : Type} {p : α → Bool} {l : List α} {k : Nat} (hk : k < l.length) (h : ∀ x ∈ l.take k, p x = true) (h' : p l[k] = true) : ∀ x ∈ l.take (k + 1), p x = true := by
  intro x hx
  rw [List.take_succ_eq_append_getElem hk] at hx
  rcases List.mem_append.1 hx with hx | hx
  · exact h x hx
  · simp at hx; subst hx; exact h'

set_option maxHeartbeats 2000000 in
theorem lcheck_good (s : Sv) (c1 c2 c3 : Nat) (A1 A2 A3 : Option Addr) (w : World)
    (r1 : Rd w w.heap.size A1 shV 4 s.shots) (r2 : Rd w w.heap.size A2 mkV 3 s.marks) (r3 : Rd w w.heap.size A3 shV 4 s.threads)
    (hg : 1 ≤ s.n ∧ s.n ≤ 20 ∧ s.shots.length ≤ 60 ∧ s.marks.length ≤ 20 ∧ s.threads.length ≤ 30) :
    Calls Try.prog 20 #[.agg #[.int .i64 s.n, .slice A1 s.shots.length c1, .slice A2 s.marks.length c2, .slice A3 s.threads.length c3]] w fun e w' => e = .returned (.int .i64 (svErr s)) ∧ Below w.heap.size w w' := by
  have HG := Lib.hid hg
  have R1 := Lib.hid r1
  have R2 := Lib.hid r2
  have R3 := Lib.hid r3
  clear r1 r2 r3
  obtain ⟨g1, g2, g3, g4, g5⟩ := hg
  go_enter Try.func20, Try.ntmps20
  go_wp2
  generalize hw0 : (w.alloc (Obj.cells #[Value.int IntKind.i64 s.n, Value.slice A1 s.shots.length c1, Value.slice A2 s.marks.length c2, Value.slice A3 s.threads.length c3] 26)) = w0
  have hb0 : Below w.heap.size w w0 := by rw [← hw0]; (repeat' (first | (with_reducible exact Below.refl _ _) | (with_reducible refine Below.alloc ?_ ?_ _) | (with_reducible refine Below.drew ?_) | (with_reducible refine Below.drewN_ ?_ _) | (with_reducible refine Below.setCell ?_ ?_ _) | (with_reducible refine Below.setRow ?_ ?_ _) | (with_reducible refine Below.via ?_ (by with_reducible assumption) ?_) | go_size))
  have k0 : w0.cell? ⟨w.heap.size, 0, none⟩ = some (.int .i64 s.n) := by rw [← hw0]; simp
  have k1 : w0.cell? ⟨w.heap.size, 1, none⟩ = some (.slice A1 s.shots.length c1) := by rw [← hw0]; simp
  have k2 : w0.cell? ⟨w.heap.size, 2, none⟩ = some (.slice A2 s.marks.length c2) := by rw [← hw0]; simp
  have k3 : w0.cell? ⟨w.heap.size, 3, none⟩ = some (.slice A3 s.threads.length c3) := by rw [← hw0]; simp
  have hsz : w0.heap.size = w.heap.size + 1 := by rw [← hw0]; simp
  have HS := Lib.hid hsz
  clear hsz hw0
  go_loopw [38] (fun i W => ∃ k : Nat, k ≤ s.shots.length ∧ i = .int .i64 k ∧ (∀ x ∈ s.shots.take k, shOk s.n (-20000000) 20000000 x = true) ∧ Below (w.heap.size + 1) w0 W) (fun i _ => s.shots.length - (intOf i).toNat)
  case atStart => exact ⟨0, by omega, rfl, by simp, Below.refl _ _⟩
  case round =>
    obtain ⟨k, hk, rfl, hall, hb⟩ := hrel
    have HA := Lib.hid hall
    clear hall
    have m0 := (hb.cell (p := ⟨w.heap.size, 0, none⟩) (Nat.lt_succ_self _)).trans k0
    have m1 := (hb.cell (p := ⟨w.heap.size, 1, none⟩) (Nat.lt_succ_self _)).trans k1
    have m2 := (hb.cell (p := ⟨w.heap.size, 2, none⟩) (Nat.lt_succ_self _)).trans k2
    have m3 := (hb.cell (p := ⟨w.heap.size, 3, none⟩) (Nat.lt_succ_self _)).trans k3
    have hz : w.heap.size < wr.heap.size := by have := hb.size; rw [HS.out] at this; omega
    by_cases hlt : k < s.shots.length
    · obtain ⟨b, o, rfl, hbl, hcell⟩ := (((R1.out.below hb0).more (Nat.le_succ _)).below hb).at_ hlt
      have q0 := hcell 0 _ rfl
      have q1 := hcell 1 _ rfl
      have q2 := hcell 2 _ rfl
      have q3 := hcell 3 _ rfl
      simp only [Nat.add_zero] at q0
      clear hcell
      cases hd : diffB s.n (s.shots[k]).f (s.shots[k]).t
      all_goals cases he : spanB (s.shots[k]).lo (s.shots[k]).hi (-20000000) 20000000
      all_goals
        have HX : Hid (shOk s.n (-20000000) 20000000 s.shots[k] = _) := (by unfold shOk; rw [hd, he] : shOk s.n (-20000000) 20000000 s.shots[k] = _)
        have HN := Lib.hid (take_all_snoc (p := shOk s.n (-20000000) 20000000) hlt HA.out)
        have HB := Lib.hid (fun h => svErr_shot (s := s) (List.getElem_mem hlt) h)
        generalize s.shots[k] = x at *
        go_wp2_with (first | (go_at_call 52; refine (differ_any _ _ _ _ _ _ _).mono ?_; rintro e w' ⟨rfl, hb1⟩; obtain ⟨hc1, hf1⟩ := bcell hb1; have hz1 := hb1.size; (try simp at hz1); (try have hy1 : w.heap.size < w'.heap.size := by omega)) | (go_at_call 53; refine (lwithin_any _ _ _ _ _).mono ?_; rintro e w' ⟨rfl, hb1⟩; obtain ⟨hc1, hf1⟩ := bcell hb1; have hz1 := hb1.size; (try simp at hz1); (try have hy1 : w.heap.size < w'.heap.size := by omega)))
      any_goals
        (go_ret; exact ⟨by rw [HB.out HX.out]; rfl, by (repeat' (first | (with_reducible exact Below.refl _ _) | (with_reducible refine Below.alloc ?_ ?_ _) | (with_reducible refine Below.drew ?_) | (with_reducible refine Below.drewN_ ?_ _) | (with_reducible refine Below.setCell ?_ ?_ _) | (with_reducible refine Below.setRow ?_ ?_ _) | (with_reducible refine Below.via ?_ (by with_reducible assumption) ?_) | go_size))⟩)
      go_roundw
      case rel => exact ⟨k + 1, by omega, by go_num, HN.out HX.out, by (repeat' (first | (with_reducible exact Below.refl _ _) | (with_reducible refine Below.alloc ?_ ?_ _) | (with_reducible refine Below.drew ?_) | (with_reducible refine Below.drewN_ ?_ _) | (with_reducible refine Below.setCell ?_ ?_ _) | (with_reducible refine Below.setRow ?_ ?_ _) | (with_reducible refine Below.via ?_ (by with_reducible assumption) ?_) | go_size))⟩
      case measure => simp [intOf]; omega
    · have HL1 : Hid (∀ x ∈ s.shots, shOk s.n (-20000000) 20000000 x = true) := by have h := HA.out; rw [List.take_of_length_le (by omega)] at h; exact h
      clear HA
      go_wp2
      clear m0 m1 m2 m3 hlt hz
      go_loopw [59] (fun i W => ∃ k : Nat, k ≤ s.marks.length ∧ i = .int .i64 k ∧ (∀ x ∈ s.marks.take k, mkOk s.n x = true) ∧ Below (w.heap.size + 1) w0 W) (fun i _ => s.marks.length - (intOf i).toNat)
      case atStart => exact ⟨0, by omega, rfl, by simp, hb⟩
      case round =>
        clear hb hk
        obtain ⟨k, hk, rfl, hall, hb⟩ := hrel
        have HA := Lib.hid hall
        clear hall
        have m0 := (hb.cell (p := ⟨w.heap.size, 0, none⟩) (Nat.lt_succ_self _)).trans k0
        have m1 := (hb.cell (p := ⟨w.heap.size, 1, none⟩) (Nat.lt_succ_self _)).trans k1
        have m2 := (hb.cell (p := ⟨w.heap.size, 2, none⟩) (Nat.lt_succ_self _)).trans k2
        have m3 := (hb.cell (p := ⟨w.heap.size, 3, none⟩) (Nat.lt_succ_self _)).trans k3
        have hz : w.heap.size < wr.heap.size := by have := hb.size; rw [HS.out] at this; omega
        by_cases hlt : k < s.marks.length
        · obtain ⟨b, o, rfl, hbl, hcell⟩ := (((R2.out.below hb0).more (Nat.le_succ _)).below hb).at_ hlt
          have q0 := hcell 0 _ rfl
          have q1 := hcell 1 _ rfl
          have q2 := hcell 2 _ rfl
          simp only [Nat.add_zero] at q0
          clear hcell
          cases hd : inB s.n (s.marks[k]).p
          all_goals cases he : spanB (s.marks[k]).lo (s.marks[k]).hi (-10000000) 10000000
          all_goals
            have HX : Hid (mkOk s.n s.marks[k] = _) := (by unfold mkOk; rw [hd, he] : mkOk s.n s.marks[k] = _)
            have HN := Lib.hid (take_all_snoc (p := mkOk s.n) hlt HA.out)
            have HB := Lib.hid (fun h => svErr_mark (s := s) (List.getElem_mem hlt) h)
            generalize s.marks[k] = x at *
            go_wp2_with (first | (go_at_call 49; refine (isPoint_any _ _ _ _ _ _).mono ?_; rintro e w' ⟨rfl, hb1⟩; obtain ⟨hc1, hf1⟩ := bcell hb1; have hz1 := hb1.size; (try simp at hz1); (try have hy1 : w.heap.size < w'.heap.size := by omega)) | (go_at_call 53; refine (lwithin_any _ _ _ _ _).mono ?_; rintro e w' ⟨rfl, hb1⟩; obtain ⟨hc1, hf1⟩ := bcell hb1; have hz1 := hb1.size; (try simp at hz1); (try have hy1 : w.heap.size < w'.heap.size := by omega)))
          any_goals
            (go_ret; exact ⟨by rw [HB.out HX.out]; rfl, by (repeat' (first | (with_reducible exact Below.refl _ _) | (with_reducible refine Below.alloc ?_ ?_ _) | (with_reducible refine Below.drew ?_) | (with_reducible refine Below.drewN_ ?_ _) | (with_reducible refine Below.setCell ?_ ?_ _) | (with_reducible refine Below.setRow ?_ ?_ _) | (with_reducible refine Below.via ?_ (by with_reducible assumption) ?_) | go_size))⟩)
          go_roundw
          case rel => exact ⟨k + 1, by omega, by go_num, HN.out HX.out, by (repeat' (first | (with_reducible exact Below.refl _ _) | (with_reducible refine Below.alloc ?_ ?_ _) | (with_reducible refine Below.drew ?_) | (with_reducible refine Below.drewN_ ?_ _) | (with_reducible refine Below.setCell ?_ ?_ _) | (with_reducible refine Below.setRow ?_ ?_ _) | (with_reducible refine Below.via ?_ (by with_reducible assumption) ?_) | go_size))⟩
          case measure => simp [intOf]; omega
        · have HL2 : Hid (∀ x ∈ s.marks, mkOk s.n x = true) := by have h := HA.out; rw [List.take_of_length_le (by omega)] at h; exact h
          clear HA
          go_wp2
          clear m0 m1 m2 m3 hlt hz
          go_loopw [78] (fun i W => ∃ k : Nat, k ≤ s.threads.length ∧ i = .int .i64 k ∧ (∀ x ∈ s.threads.take k, shOk s.n 1 100000000 x = true) ∧ Below (w.heap.size + 1) w0 W) (fun i _ => s.threads.length - (intOf i).toNat)
          case atStart => exact ⟨0, by omega, rfl, by simp, hb⟩
          case round =>
            clear hb hk
            obtain ⟨k, hk, rfl, hall, hb⟩ := hrel
            have HA := Lib.hid hall
            clear hall
            have m0 := (hb.cell (p := ⟨w.heap.size, 0, none⟩) (Nat.lt_succ_self _)).trans k0
            have m1 := (hb.cell (p := ⟨w.heap.size, 1, none⟩) (Nat.lt_succ_self _)).trans k1
            have m2 := (hb.cell (p := ⟨w.heap.size, 2, none⟩) (Nat.lt_succ_self _)).trans k2
            have m3 := (hb.cell (p := ⟨w.heap.size, 3, none⟩) (Nat.lt_succ_self _)).trans k3
            have hz : w.heap.size < wr.heap.size := by have := hb.size; rw [HS.out] at this; omega
            by_cases hlt : k < s.threads.length
            · obtain ⟨b, o, rfl, hbl, hcell⟩ := (((R3.out.below hb0).more (Nat.le_succ _)).below hb).at_ hlt
              have q0 := hcell 0 _ rfl
              have q1 := hcell 1 _ rfl
              have q2 := hcell 2 _ rfl
              have q3 := hcell 3 _ rfl
              simp only [Nat.add_zero] at q0
              clear hcell
              cases hd : diffB s.n (s.threads[k]).f (s.threads[k]).t
              all_goals cases he : spanB (s.threads[k]).lo (s.threads[k]).hi 1 100000000
              all_goals
                have HX : Hid (shOk s.n 1 100000000 s.threads[k] = _) := (by unfold shOk; rw [hd, he] : shOk s.n 1 100000000 s.threads[k] = _)
                have HN := Lib.hid (take_all_snoc (p := shOk s.n 1 100000000) hlt HA.out)
                have HB := Lib.hid (fun h => svErr_thread (s := s) (List.getElem_mem hlt) h)
                generalize s.threads[k] = x at *
                go_wp2_with (first | (go_at_call 52; refine (differ_any _ _ _ _ _ _ _).mono ?_; rintro e w' ⟨rfl, hb1⟩; obtain ⟨hc1, hf1⟩ := bcell hb1; have hz1 := hb1.size; (try simp at hz1); (try have hy1 : w.heap.size < w'.heap.size := by omega)) | (go_at_call 53; refine (lwithin_any _ _ _ _ _).mono ?_; rintro e w' ⟨rfl, hb1⟩; obtain ⟨hc1, hf1⟩ := bcell hb1; have hz1 := hb1.size; (try simp at hz1); (try have hy1 : w.heap.size < w'.heap.size := by omega)))
              any_goals
                (go_ret; exact ⟨by rw [HB.out HX.out]; rfl, by (repeat' (first | (with_reducible exact Below.refl _ _) | (with_reducible refine Below.alloc ?_ ?_ _) | (with_reducible refine Below.drew ?_) | (with_reducible refine Below.drewN_ ?_ _) | (with_reducible refine Below.setCell ?_ ?_ _) | (with_reducible refine Below.setRow ?_ ?_ _) | (with_reducible refine Below.via ?_ (by with_reducible assumption) ?_) | go_size))⟩)
              go_roundw
              case rel => exact ⟨k + 1, by omega, by go_num, HN.out HX.out, by (repeat' (first | (with_reducible exact Below.refl _ _) | (with_reducible refine Below.alloc ?_ ?_ _) | (with_reducible refine Below.drew ?_) | (with_reducible refine Below.drewN_ ?_ _) | (with_reducible refine Below.setCell ?_ ?_ _) | (with_reducible refine Below.setRow ?_ ?_ _) | (with_reducible refine Below.via ?_ (by with_reducible assumption) ?_) | go_size))⟩
              case measure => simp [intOf]; omega
            · have HL3 : Hid (∀ x ∈ s.threads, shOk s.n 1 100000000 x = true) := by have h := HA.out; rw [List.take_of_length_le (by omega)] at h; exact h
              clear HA
              go_wp2
              go_ret
              exact ⟨by rw [svErr_good HG.out HL1.out HL2.out HL3.out]; rfl, by (repeat' (first | (with_reducible exact Below.refl _ _) | (with_reducible refine Below.alloc ?_ ?_ _) | (with_reducible refine Below.drew ?_) | (with_reducible refine Below.drewN_ ?_ _) | (with_reducible refine Below.setCell ?_ ?_ _) | (with_reducible refine Below.setRow ?_ ?_ _) | (with_reducible refine Below.via ?_ (by with_reducible assumption) ?_) | go_size))⟩

set_option maxHeartbeats 800000 in
theorem lcheck_any (s : Sv) (c1 c2 c3 : Nat) (A1 A2 A3 : Option Addr) (w : World)
    (r1 : Rd w w.heap.size A1 shV 4 s.shots) (r2 : Rd w w.heap.size A2 mkV 3 s.marks) (r3 : Rd w w.heap.size A3 shV 4 s.threads) :
    Calls Try.prog 20 #[.agg #[.int .i64 s.n, .slice A1 s.shots.length c1, .slice A2 s.marks.length c2, .slice A3 s.threads.length c3]] w fun e w' => e = .returned (.int .i64 (svErr s)) ∧ Below w.heap.size w w' := by
  by_cases hg : 1 ≤ s.n ∧ s.n ≤ 20 ∧ s.shots.length ≤ 60 ∧ s.marks.length ≤ 20 ∧ s.threads.length ≤ 30
  · exact lcheck_good s c1 c2 c3 A1 A2 A3 w r1 r2 r3 hg
  · have e := svErr_bad hg
    have E := Lib.hid e
    clear e
    have HG := Lib.hid hg
    clear hg
    go_enter Try.func20, Try.ntmps20
    go_wp2
    all_goals first | exact absurd (by omega) HG.out | (go_ret; exact ⟨by rw [E.out]; rfl, by (repeat' (first | (with_reducible exact Below.refl _ _) | (with_reducible refine Below.alloc ?_ ?_ _) | (with_reducible refine Below.drew ?_) | (with_reducible refine Below.drewN_ ?_ _) | (with_reducible refine Below.setCell ?_ ?_ _) | (with_reducible refine Below.setRow ?_ ?_ _) | (with_reducible refine Below.via ?_ (by with_reducible assumption) ?_) | go_size))⟩)

end Go.Proofs.Ytaoonfmcimkmhaa
