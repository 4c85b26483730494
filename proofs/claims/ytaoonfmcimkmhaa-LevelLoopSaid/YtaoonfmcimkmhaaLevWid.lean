/- level.Widen: what it answers of every survey that reads as plain data: the least error, by the closure's contract and the search's. Condition: the survey's slices read below the heap's end. -/
import Derived.Test.YtaoonfmcimkmhaaWidMath
import Derived.Test.YtaoonfmcimkmhaaLevHts
set_option linter.unusedVariables false
set_option linter.unusedSimpArgs false
namespace Go.Proofs.Ytaoonfmcimkmhaa
open Go.RowKit

/-- The cells of a survey at work, nothing left out, so much wider. -/
def wkW (v0 v1 v2 v3 : Value) (m : Int) : Array Value := (wkC v0 v1 v2 v3).setIfInBounds 84 (.int .i64 m)
theorem wkW_size (v0 v1 v2 v3 : Value) (m : Int) : (wkW v0 v1 v2 v3 m).size = 85 := by unfold wkW; rw [Array.size_setIfInBounds, wkC_size]
theorem wkW_wid (v0 v1 v2 v3 : Value) (m : Int) : (wkW v0 v1 v2 v3 m)[84]? = some (.int .i64 m) := by
  unfold wkW
  rw [Array.getElem?_setIfInBounds]
  simp [wkC_size]
theorem wkW_other (v0 v1 v2 v3 : Value) (m : Int) (k : Nat) (hk : k ≠ 84) : (wkW v0 v1 v2 v3 m)[k]? = (wkC v0 v1 v2 v3)[k]? := by
  unfold wkW
  rw [Array.getElem?_setIfInBounds, if_neg (by omega)]
theorem wkW_set (v0 v1 v2 v3 : Value) (m m' : Int) : (wkW v0 v1 v2 v3 m).setIfInBounds 84 (.int .i64 m') = wkW v0 v1 v2 v3 m' := by
  unfold wkW
  rw [Array.setIfInBounds_setIfInBounds]
theorem wkW_zero (v0 v1 v2 v3 : Value) : wkC v0 v1 v2 v3 = wkW v0 v1 v2 v3 0 := by
  apply Array.ext_getElem?
  intro i
  by_cases h : i = 84
  · subst h
    rw [wkW_wid, wkC_wid]
  · rw [wkW_other _ _ _ _ _ _ h]
theorem set_one {a : Array Value} (h : a.all (·.oneCell') = true) (i : Nat) (v : Value) (hv : v.oneCell' = true) : (a.setIfInBounds i v).all (·.oneCell') = true := by
  rw [Array.all_eq_true_iff_forall_mem] at h ⊢
  intro x hx
  obtain ⟨k, hk, rfl⟩ := Array.mem_iff_getElem.1 hx
  rw [Array.getElem_setIfInBounds (by simpa using hk)]
  split
  · exact hv
  · exact h _ (Array.getElem_mem _)
theorem wkW_one (n : Int) (A1 A2 A3 : Option Addr) (n1 n2 n3 c1 c2 c3 : Nat) (m : Int) : (wkW (.int .i64 n) (.slice A1 n1 c1) (.slice A2 n2 c2) (.slice A3 n3 c3) m).all (·.oneCell') = true :=
  set_one (wkC_one n A1 A2 A3 n1 n2 n3 c1 c2 c3) 84 _ rfl

theorem wkW_all (w : World) (s : Sv) (c1 c2 c3 : Nat) (A1 A2 A3 : Option Addr) (hok : svOk s = true) (m : Int) (h0 : 0 ≤ m) (h2 : m ≤ 20000000) (r1 : Rd w w.heap.size A1 shV 4 s.shots) (r2 : Rd w w.heap.size A2 mkV 3 s.marks) :
    WkAll w (wkW (.int .i64 s.n) (.slice A1 s.shots.length c1) (.slice A2 s.marks.length c2) (.slice A3 s.threads.length c3) m) s (fun _ => false) m :=
  { at_ := { size := wkW_size _ _ _ _ _, c0 := (wkW_other _ _ _ _ _ 0 (by omega)).trans (wkC_head _ _ _ _ 0 (by omega)), sh := ⟨A1, c1, (wkW_other _ _ _ _ _ 1 (by omega)).trans (wkC_head _ _ _ _ 1 (by omega)), r1⟩, mks := ⟨A2, c2, (wkW_other _ _ _ _ _ 2 (by omega)).trans (wkC_head _ _ _ _ 2 (by omega)), r2⟩ },
    ok := hok, out_ := fun k hk => (wkW_other _ _ _ _ _ (4 + k) (by omega)).trans (wkC_out _ _ _ _ k hk), wid := wkW_wid _ _ _ _ _, w0 := h0, w2 := h2 }

set_option maxRecDepth 100000 in
set_option maxHeartbeats 1000000 in
theorem widen1_any (s : Sv) (c1 c2 c3 : Nat) (A1 A2 A3 : Option Addr) (hok : svOk s = true) (gw : Nat) (j m : Int) (h0 : 0 ≤ m) (h2 : m ≤ 20000000) (w : World)
    (hg : w.heap[gw]? = some (.cells (wkW (.int .i64 s.n) (.slice A1 s.shots.length c1) (.slice A2 s.marks.length c2) (.slice A3 s.threads.length c3) j) 93 (0, 0)))
    (r1 : Rd w gw A1 shV 4 s.shots) (r2 : Rd w gw A2 mkV 3 s.marks) (b : Bool) (hb : (wkD s (fun _ => false) m).2 = b) :
    Calls Try.prog 63 #[.int .i64 m, .pointer (some ⟨gw, 0, none⟩)] w fun e w' => e = .returned (.bool b) ∧
      w'.heap[gw]? = some (.cells (wkW (.int .i64 s.n) (.slice A1 s.shots.length c1) (.slice A2 s.marks.length c2) (.slice A3 s.threads.length c3) m) 93 (0, 0)) ∧ Below gw w w' := by
  have hlt : gw < w.heap.size := (Array.getElem?_eq_some_iff.1 hg).1
  have f0 := frozen_of_row w gw 84 _ _ hg
  have x0 := (cell_of_row w gw 84 _ _ _ hg).trans (wkW_wid _ _ _ _ _)
  have hs := heap_setCell_same w gw 84 _ _ (.int .i64 m) hg
  rw [wkW_set] at hs
  have hb1 : Below gw w (w.setCell ⟨gw, 84, none⟩ (.int .i64 m)) := (Below.refl gw w).setCell (Nat.le_refl _) _
  have HS := Lib.hid hs
  have HF := Lib.hid (fits_any _ s (fun _ => false) m _ (wkW_all (w.setCell ⟨gw, 84, none⟩ (.int .i64 m)) s c1 c2 c3 A1 A2 A3 hok m h0 h2 ((r1.below hb1).more (by simp; omega)) ((r2.below hb1).more (by simp; omega))))
  rw [hb] at HF
  have HI : Hid ((Try.prog.info? 93).map (·.size) = some (wkW (.int .i64 s.n) (.slice A1 s.shots.length c1) (.slice A2 s.marks.length c2) (.slice A3 s.threads.length c3) m).size) := Lib.hid (by rw [wkW_size]; exact info93)
  clear hs hg hb r1 r2
  go_enter Try.func63, Try.ntmps63
  go_wp2_with (first | (refine wpList_load_row rfl 93 (.tmp 1) rfl gw rfl 93 _ (0, 0) _ HS.out Try.underlying93 rfl HI.out ?_) | (go_at_call 60; refine HF.out.mono ?_; rintro e w2 ⟨rfl, hb2⟩))
  go_ret
  exact ⟨rfl, (hb2.block gw (by simpa using hlt)).trans HS.out, hb1.trans (hb2.mono (by simp; omega))⟩

set_option maxRecDepth 100000 in
set_option maxHeartbeats 2000000 in
theorem least_any (s : Sv) (c1 c2 c3 : Nat) (A1 A2 A3 : Option Addr) (hok : svOk s = true) (r : Nat) (hP : ∀ m : Nat, m ≤ 20000000 → (wkD s (fun _ => false) (m : Int)).2 = decide (r ≤ m)) (gw : Nat) (lo hi : Nat) (hlo : lo ≤ r) (hhi : r ≤ hi) (h20 : hi ≤ 20000000) (w : World)
    (hg : w.heap[gw]? = some (.cells (wkW (.int .i64 s.n) (.slice A1 s.shots.length c1) (.slice A2 s.marks.length c2) (.slice A3 s.threads.length c3) 0) 93 (0, 0)))
    (r1 : Rd w gw A1 shV 4 s.shots) (r2 : Rd w gw A2 mkV 3 s.marks) :
    Calls Try.prog 62 #[.int .i64 lo, .int .i64 hi, .func (.func 63) #[] #[.pointer (some ⟨gw, 0, none⟩)]] w fun e w' => e = .returned (.int .i64 r) ∧ Below gw w w' := by
  have hgl : gw < w.heap.size := (Array.getElem?_eq_some_iff.1 hg).1
  have HG := Lib.hid hg
  have R1 := Lib.hid r1
  have R2 := Lib.hid r2
  have HP := Lib.hid hP
  clear hg r1 r2 hP
  go_enter Try.func62, Try.ntmps62
  go_wp2
  go_loopw [0, 1] (fun v0 v1 W => ∃ lo hi : Nat, v0 = .int .i64 lo ∧ v1 = .int .i64 hi ∧ lo ≤ r ∧ r ≤ hi ∧ hi ≤ 20000000 ∧ (∃ j : Int, W.heap[gw]? = some (.cells (wkW (.int .i64 s.n) (.slice A1 s.shots.length c1) (.slice A2 s.marks.length c2) (.slice A3 s.threads.length c3) j) 93 (0, 0))) ∧ Below gw w W) (fun v0 v1 _ => (intOf v1).toNat - (intOf v0).toNat)
  case atStart => exact ⟨lo, hi, rfl, rfl, hlo, hhi, h20, ⟨0, HG.out⟩, Below.refl gw w⟩
  case round =>
    obtain ⟨lo', hi', rfl, rfl, h1, h2, h3, ⟨j, hj⟩, hb⟩ := hrel
    have HJ := Lib.hid hj
    clear hj hlo hhi h20
    by_cases hlt : lo' < hi'
    · obtain ⟨k, hk⟩ : ∃ k : Nat, (lo' : Int) + ((hi' : Int) - lo') / 2 = k := ⟨lo' + (hi' - lo') / 2, by omega⟩
      have hk1 : lo' ≤ k := by omega
      have hk2 : k < hi' := by omega
      have HC := Lib.hid (fun (b : Bool) => widen1_any s c1 c2 c3 A1 A2 A3 hok gw j (k : Int) (by omega) (by omega) wr HJ.out (R1.out.below hb) (R2.out.below hb) b)
      have HM := HP.out k (by omega)
      by_cases hr : r ≤ k
      · rw [decide_eq_true hr] at HM
        have HC2 := Lib.hid (HC.out _ HM)
        clear HM HC
        go_wp2_with (go_at_call 63; refine HC2.out.mono ?_; rintro e w2 ⟨rfl, hg2, hb2⟩)
        go_roundw
        case rel => exact ⟨lo', k, rfl, rfl, h1, hr, by omega, ⟨_, hg2⟩, hb.trans hb2⟩
        case measure => simp [intOf]; omega
      · rw [decide_eq_false hr] at HM
        have HC2 := Lib.hid (HC.out _ HM)
        clear HM HC
        go_wp2_with (go_at_call 63; refine HC2.out.mono ?_; rintro e w2 ⟨rfl, hg2, hb2⟩)
        go_roundw
        case rel => exact ⟨k + 1, hi', by go_num, rfl, by omega, h2, h3, ⟨_, hg2⟩, hb.trans hb2⟩
        case measure => simp [intOf]; omega
    · have hr : lo' = r := by omega
      go_wp2
      go_ret
      exact ⟨by rw [hr]; rfl, hb⟩

theorem least_start (s : Sv) (c1 c2 c3 : Nat) (A1 A2 A3 : Option Addr) (hok : svOk s = true) (r : Nat) (hr : r ≤ 20000000) (hP : ∀ m : Nat, m ≤ 20000000 → (wkD s (fun _ => false) (m : Int)).2 = decide (r ≤ m)) (gw : Nat) (w : World) (cs : Array Value)
    (hcs : wkC (.int .i64 s.n) (.slice A1 s.shots.length c1) (.slice A2 s.marks.length c2) (.slice A3 s.threads.length c3) = cs)
    (hg : w.heap[gw]? = some (.cells cs 93 (0, 0)))
    (r1 : Rd w gw A1 shV 4 s.shots) (r2 : Rd w gw A2 mkV 3 s.marks) :
    Calls Try.prog 62 #[.int .i64 0, .int .i64 20000000, .func (.func 63) #[] #[.pointer (some ⟨gw, 0, none⟩)]] w fun e w' => e = .returned (.int .i64 r) ∧ Below gw w w' := by
  rw [← hcs, wkW_zero] at hg
  have h := least_any s c1 c2 c3 A1 A2 A3 hok r hP gw 0 20000000 (by omega) hr (by omega) w hg r1 r2
  have e1 : ((0 : Nat) : Int) = 0 := by omega
  have e2 : ((20000000 : Nat) : Int) = 20000000 := by omega
  rw [e1, e2] at h
  exact h

set_option maxRecDepth 100000 in
set_option maxHeartbeats 1000000 in
theorem lwiden_bad (s : Sv) (c1 c2 c3 : Nat) (A1 A2 A3 : Option Addr) (w : World)
    (r1 : Rd w w.heap.size A1 shV 4 s.shots) (r2 : Rd w w.heap.size A2 mkV 3 s.marks) (r3 : Rd w w.heap.size A3 shV 4 s.threads) (hok : svOk s = false) :
    Calls Try.prog 28 #[.agg #[.int .i64 s.n, .slice A1 s.shots.length c1, .slice A2 s.marks.length c2, .slice A3 s.threads.length c3]] w fun e w' =>
      e = .returned (.tuple #[.int .i64 0, .int .i64 10]) ∧ Below w.heap.size w w' := by
  have hb0 : Below w.heap.size w (w.alloc (Obj.cells #[Value.int IntKind.i64 s.n, Value.slice A1 s.shots.length c1, Value.slice A2 s.marks.length c2, Value.slice A3 s.threads.length c3] 26)) := by (repeat' (first | (with_reducible exact Below.refl _ _) | (with_reducible refine Below.alloc ?_ ?_ _) | (with_reducible refine Below.drew ?_) | (with_reducible refine Below.drewN_ ?_ _) | (with_reducible refine Below.setCell ?_ ?_ _) | (with_reducible refine Below.setRow ?_ ?_ _) | (with_reducible refine Below.via ?_ (by with_reducible assumption) ?_) | go_size))
  have R1 := Lib.hid ((r1.below hb0).more hb0.size)
  have R2 := Lib.hid ((r2.below hb0).more hb0.size)
  have R3 := Lib.hid ((r3.below hb0).more hb0.size)
  clear r1 r2 r3
  have HC := Lib.hid (lcheck_any s c1 c2 c3 A1 A2 A3 (w.alloc (Obj.cells #[Value.int IntKind.i64 s.n, Value.slice A1 s.shots.length c1, Value.slice A2 s.marks.length c2, Value.slice A3 s.threads.length c3] 26)) R1.out R2.out R3.out)
  have e1 : svErr s = 10 := by unfold svErr; rw [hok]; rfl
  rw [e1] at HC
  clear e1 hok
  go_enter Try.func28, Try.ntmps28
  go_wp2_with (go_at_call 20; refine HC.out.mono ?_; rintro e w' ⟨rfl, hb1⟩; obtain ⟨hc1, hf1⟩ := bcell hb1; have hz1 := hb1.size; (try simp at hz1); (try have hy1 : w.heap.size < w'.heap.size := by omega))
  go_ret2
  exact ⟨rfl, by (repeat' (first | (with_reducible exact Below.refl _ _) | (with_reducible refine Below.alloc ?_ ?_ _) | (with_reducible refine Below.drew ?_) | (with_reducible refine Below.drewN_ ?_ _) | (with_reducible refine Below.setCell ?_ ?_ _) | (with_reducible refine Below.setRow ?_ ?_ _) | (with_reducible refine Below.via ?_ (by with_reducible assumption) ?_) | go_size))⟩

set_option maxRecDepth 100000 in
set_option maxHeartbeats 1000000 in
theorem lwiden_fine (s : Sv) (c1 c2 c3 : Nat) (A1 A2 A3 : Option Addr) (w : World)
    (r1 : Rd w w.heap.size A1 shV 4 s.shots) (r2 : Rd w w.heap.size A2 mkV 3 s.marks) (r3 : Rd w w.heap.size A3 shV 4 s.threads) (hok : svOk s = true)
    (r : Nat) (hr : r ≤ 20000000) (hP : ∀ m : Nat, m ≤ 20000000 → (wkD s (fun _ => false) (m : Int)).2 = decide (r ≤ m)) :
    Calls Try.prog 28 #[.agg #[.int .i64 s.n, .slice A1 s.shots.length c1, .slice A2 s.marks.length c2, .slice A3 s.threads.length c3]] w fun e w' =>
      e = .returned (.tuple #[.int .i64 r, .int .i64 0]) ∧ Below w.heap.size w w' := by
  have hb0 : Below w.heap.size w (w.alloc (Obj.cells #[Value.int IntKind.i64 s.n, Value.slice A1 s.shots.length c1, Value.slice A2 s.marks.length c2, Value.slice A3 s.threads.length c3] 26)) := by (repeat' (first | (with_reducible exact Below.refl _ _) | (with_reducible refine Below.alloc ?_ ?_ _) | (with_reducible refine Below.drew ?_) | (with_reducible refine Below.drewN_ ?_ _) | (with_reducible refine Below.setCell ?_ ?_ _) | (with_reducible refine Below.setRow ?_ ?_ _) | (with_reducible refine Below.via ?_ (by with_reducible assumption) ?_) | go_size))
  have R1 := Lib.hid ((r1.below hb0).more hb0.size)
  have R2 := Lib.hid ((r2.below hb0).more hb0.size)
  have R3 := Lib.hid ((r3.below hb0).more hb0.size)
  clear r1 r2 r3
  have HC := Lib.hid (lcheck_any s c1 c2 c3 A1 A2 A3 (w.alloc (Obj.cells #[Value.int IntKind.i64 s.n, Value.slice A1 s.shots.length c1, Value.slice A2 s.marks.length c2, Value.slice A3 s.threads.length c3] 26)) R1.out R2.out R3.out)
  have e1 : svErr s = 0 := by unfold svErr; rw [hok]; rfl
  rw [e1] at HC
  have hst := wkC_one s.n A1 A2 A3 s.shots.length s.marks.length s.threads.length c1 c2 c3
  have hsz := wkC_size (.int .i64 s.n) (.slice A1 s.shots.length c1) (.slice A2 s.marks.length c2) (.slice A3 s.threads.length c3)
  obtain ⟨cs, hcs⟩ : ∃ cs, wkC (.int .i64 s.n) (.slice A1 s.shots.length c1) (.slice A2 s.marks.length c2) (.slice A3 s.threads.length c3) = cs := ⟨_, rfl⟩
  have hcs' : (((Try.zeroCells93.setIfInBounds 0 (.int .i64 s.n)).setIfInBounds 1 (.slice A1 s.shots.length c1)).setIfInBounds 2 (.slice A2 s.marks.length c2)).setIfInBounds 3 (.slice A3 s.threads.length c3) = cs := (wkC_eq _ _ _ _).trans hcs
  rw [hcs] at hst hsz
  have HST := Lib.hid hst
  have HI : Hid ((Try.prog.info? 93).map (·.size) = some cs.size) := Lib.hid (by rw [hsz]; exact info93)
  have HZ3 : Hid (Try.zeroCells93.size = cs.size) := Lib.hid (by rw [hsz]; exact zero93_size)
  have HL := Lib.hid (fun (gw : Nat) (W : World) hg r1 r2 => least_start s c1 c2 c3 A1 A2 A3 hok r hr hP gw W cs hcs hg r1 r2)
  clear e1 hok hst hsz hcs hP hr
  go_enter Try.func28, Try.ntmps28
  have tok0 : True := trivial
  go_wp2_with (first | (go_at_call 20; refine HC.out.mono ?_; rintro e w' ⟨rfl, hb1⟩; obtain ⟨hc1, hf1⟩ := bcell hb1; have hz1 := hb1.size; (try simp at hz1); (try have hy1 : w.heap.size < w'.heap.size := by omega); have S1 := Lib.hid ((R1.out.below hb1).more hb1.size); have S2 := Lib.hid ((R2.out.below hb1).more hb1.size)) | (have _t := tok0; refine wpList_store_row rfl 93 (.tmp 5) (.tmp 12) rfl w'.heap.size cs rfl rfl 93 Try.zeroCells93 (heap_alloc_new _ _) HI.out HZ3.out HST.out ?_; rw [World.setRow_alloc_new]; clear hcs' tok0 _t) | (go_at_call 62; refine (HL.out w'.heap.size _ (heap_alloc_new _ _) (S1.out.below ((Below.refl _ _).alloc (Nat.le_refl _) _)) (S2.out.below ((Below.refl _ _).alloc (Nat.le_refl _) _))).mono ?_; rintro e w3 ⟨rfl, hb3⟩))
  go_ret2
  exact ⟨rfl, by (repeat' (first | (with_reducible exact Below.refl _ _) | (with_reducible refine Below.alloc ?_ ?_ _) | (with_reducible refine Below.drew ?_) | (with_reducible refine Below.drewN_ ?_ _) | (with_reducible refine Below.setCell ?_ ?_ _) | (with_reducible refine Below.setRow ?_ ?_ _) | (with_reducible refine Below.via ?_ (by with_reducible assumption) ?_) | go_size))⟩

end Go.Proofs.Ytaoonfmcimkmhaa
