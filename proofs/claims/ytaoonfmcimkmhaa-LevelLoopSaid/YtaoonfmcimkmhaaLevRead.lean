/- The iterator over a survey's readings: it yields each shot, then each mark, with its index. -/
import Derived.RangeFuncNested
import Derived.RangeFuncBound
import Derived.RangeFuncCalls
import Derived.RangeFuncLeaves
import Derived.RangeFuncBox
import Derived.Shelf.Abstract
import Derived.Shelf.RegionOpen
import Derived.Stop.RegionWithIn
import Derived.BigRegionIn
import Derived.OwnWalkIn
import Derived.TacticsInMore
import Derived.LoopNIn
import Derived.LoopIn
import Derived.Test.YtaoonfmcimkmhaaLevSmall
import Derived.Test.YtaoonfmcimkmhaaLevMat
import Derived.Test.YtaoonfmcimkmhaaLevInit
import Derived.Test.YtaoonfmcimkmhaaPlan
namespace Go.Proofs.Ytaoonfmcimkmhaa
open Go.RowKit Go.Shelf
attribute [local go_sem] Oper.semAt_some

/-- The cells of a survey at work: the survey's four, what is left out, and how much wider. -/
structure WkAt (w : World) (B : Nat) (cs : Array Value) (s : Sv) : Prop where
  size : cs.size = 85
  c0 : cs[0]? = some (.int .i64 s.n)
  sh : ∃ A c, cs[1]? = some (.slice A s.shots.length c) ∧ Rd w B A shV 4 s.shots
  mks : ∃ A c, cs[2]? = some (.slice A s.marks.length c) ∧ Rd w B A mkV 3 s.marks

def rdV (x : Nat × Sh) : Array Value := #[.int .i64 (x.1 : Int), .agg #[.int .i64 x.2.f, .int .i64 x.2.t, .int .i64 x.2.lo, .int .i64 x.2.hi]]

set_option maxRecDepth 100000 in
set_option maxHeartbeats 400000 in
theorem ground_any (cs : Array Value) (p : Int) (w : World) (h0 : cs[0]? = some (.int .i64 p)) :
    Calls Try.prog 46 #[.agg cs] w fun e w' => e = .returned (.int .i64 p) ∧ Below w.heap.size w w' := by
  have k0 : (w.alloc (.cells cs 93)).cell? ⟨w.heap.size, 0, none⟩ = some (.int .i64 p) := by rw [World.cell?_alloc_new]; exact h0
  go_enter Try.func46, Try.ntmps46
  go_wp2
  go_ret
  exact ⟨rfl, by (repeat' (first | (with_reducible exact Below.refl _ _) | (with_reducible refine Below.alloc ?_ ?_ _) | (with_reducible refine Below.drew ?_) | (with_reducible refine Below.drewN_ ?_ _) | (with_reducible refine Below.setCell ?_ ?_ _) | (with_reducible refine Below.setRow ?_ ?_ _) | (with_reducible refine Below.via ?_ (by with_reducible assumption) ?_) | go_size))⟩

set_option maxRecDepth 100000 in
set_option maxHeartbeats 400000 in
theorem readings_any (cs : Array Value) (w : World) :
    Calls Try.prog 61 #[.agg cs] w fun e w' => e = .returned (.func (.func 73) #[] #[.pointer (some ⟨w.heap.size, 0, none⟩)]) ∧ w.alloc (.cells cs 93) = w' := by
  go_enter Try.func61, Try.ntmps61
  go_wp2
  go_ret
  exact ⟨rfl, rfl⟩

/-- What a round that goes on keeps: all below n₀, and the block Bn. -/
def KpB (n₀ Bn : Nat) (W W' : World) : Prop := Below n₀ W W' ∧ W'.heap[Bn]? = W.heap[Bn]?
theorem kpB_t {n₀ Bn : Nat} {A B C : World} (h : KpB n₀ Bn A B) (k : KpB n₀ Bn B C) : KpB n₀ Bn A C := ⟨h.1.trans k.1, k.2.trans h.2⟩
theorem kpB_b {n₀ Bn : Nat} {w : World} (hn : n₀ ≤ w.heap.size) (hB : Bn < w.heap.size) (W : World) (l : Nat) (o o' : Obj) (hl : w.heap.size ≤ l) (h : W.heap[l]? = some o) (h1 : o.isCells = false) (h2 : o.isWalk = false) : KpB n₀ Bn W (W.putObj l o') :=
  ⟨belowK_b hn W l o o' hl h h1 h2, World.putObj_heap_other (by omega)⟩

set_option maxRecDepth 100000 in
set_option maxHeartbeats 1000000 in
theorem readings1_in {α : Type} (encs : α → Array Value) (rd : Nat → α) (n : Nat) (hn1 : 1 ≤ n) (l Bn n₀ : Nat) (cs : Array Value) (s : Sv) (henc : ∀ k, k < s.shots.length + s.marks.length → encs (rd k) = rdV (rdAt s k)) (J Jx : List α → World → Prop) (hl1 : s.shots.length ≤ 60) (hl2 : s.marks.length ≤ 20)
    (Bj : Nat) (hJ : AbidesFrom Bj J)
    (hY : ∀ pre x W, J pre W → pre.length < s.shots.length + s.marks.length → YieldAt Fence.wide (n - 1) Try.prog l (encs x) W fun e W' =>
      (e = .returned (.bool true) ∧ J (pre ++ [x]) W' ∧ KpB n₀ Bn W W') ∨ (e = .returned (.bool false) ∧ Jx (pre ++ [x]) W'))
    (W : World) (hn : n₀ ≤ W.heap.size) (hW : W.heap[Bn]? = some (.cells cs 93 (0, 0))) (hK : WkAt W n₀ cs s) (h0 : J [] W) :
    CallsIn Fence.wide n Try.prog 73 #[.func (.yield l) #[] #[], .pointer (some ⟨Bn, 0, none⟩)] W fun e W' => (∃ v, e = .returned v) ∧
      ((∃ ys, ys = upto rd (s.shots.length + s.marks.length) ∧ J ys W') ∨ (∃ pre, (∃ k, k ≤ s.shots.length + s.marks.length ∧ pre = upto rd k) ∧ Jx pre W')) := by
  obtain ⟨A1, c1, hA1, hR1⟩ := hK.sh
  obtain ⟨A2, c2, hA2, hR2⟩ := hK.mks
  have hc0 := hK.c0
  have hcs := hK.size
  have hBl : Bn < W.heap.size := (Array.getElem?_eq_some_iff.1 hW).1
  have k0 : W.cell? ⟨Bn, 0, none⟩ = some (.int .i64 s.n) := by rw [cell_of_row _ _ _ _ _ _ hW]; exact hc0
  have k1 : W.cell? ⟨Bn, 1, none⟩ = some (.slice A1 s.shots.length c1) := by rw [cell_of_row _ _ _ _ _ _ hW]; exact hA1
  have k2 : W.cell? ⟨Bn, 2, none⟩ = some (.slice A2 s.marks.length c2) := by rw [cell_of_row _ _ _ _ _ _ hW]; exact hA2
  have R1 := Lib.hid hR1
  have R2 := Lib.hid hR2
  have HW := Lib.hid hW
  have HJ := Lib.hid hJ
  have HY := Lib.hid hY
  have HE := Lib.hid henc
  have C0 := Lib.hid hc0
  have CA1 := Lib.hid hA1
  have CA2 := Lib.hid hA2
  clear hR1 hR2 hW hJ hY henc hA1 hA2 hc0 hK
  refine callsIn_of_wp Try.func73 rfl trivial ?_ rfl
  simp only [Try.ntmps73, List.size_toArray, List.length_cons, List.length_nil, Nat.reduceAdd, Nat.reduceSub, Array.replicate_succ, Array.replicate_zero, List.push_toArray, List.append_toArray, List.nil_append, List.cons_append]
  gi_wp2
  gi_loopw [11] (fun i wr => ∃ k : Nat, k ≤ s.shots.length ∧ i = .int .i64 k ∧ J (upto rd k) wr ∧ Below n₀ W wr ∧ wr.heap[Bn]? = some (.cells cs 93 (0, 0)))
    (fun i _ => s.shots.length - (intOf i).toNat)
  case atStart => exact ⟨0, Nat.zero_le _, rfl, h0, Below.refl _ _, HW.out⟩
  case round =>
    obtain ⟨k, hk, rfl, hJs, hnx, hbn⟩ := hrel
    have HBN := Lib.hid hbn
    have hbl : Bn < wr.heap.size := (Array.getElem?_eq_some_iff.1 hbn).1
    have m0 : wr.cell? ⟨Bn, 0, none⟩ = some (.int .i64 s.n) := by rw [cell_of_row _ _ _ _ _ _ hbn]; exact C0.out
    have m1 : wr.cell? ⟨Bn, 1, none⟩ = some (.slice A1 s.shots.length c1) := by rw [cell_of_row _ _ _ _ _ _ hbn]; exact CA1.out
    have m2 : wr.cell? ⟨Bn, 2, none⟩ = some (.slice A2 s.marks.length c2) := by rw [cell_of_row _ _ _ _ _ _ hbn]; exact CA2.out
    clear hbn
    by_cases hlt : k < s.shots.length
    · obtain ⟨b, o, rfl, hbl2, hcell⟩ := (R1.out.below hnx).at_ hlt
      have q0 := hcell 0 _ rfl
      have q1 := hcell 1 _ rfl
      have q2 := hcell 2 _ rfl
      have q3 := hcell 3 _ rfl
      simp only [Nat.add_zero] at q0
      clear hcell
      have ex : rdAt s k = (k, s.shots[k]) := by unfold rdAt; rw [dif_pos hlt]
      have EX := Lib.hid ex
      clear ex
      generalize s.shots[k] = x at *
      have hJa : J (upto rd k) (wr.alloc (.cells #[.int .i64 x.f, .int .i64 x.t, .int .i64 x.lo, .int .i64 x.hi] 78)) := HJ.out _ _ _ none hJs (World.grownBy_alloc _ _ none) (fun r e => by cases e)
      obtain ⟨fn, tmps, assign, body, hy, hR⟩ := HY.out _ (rd k) _ hJa (by rw [upto_length]; omega)
      rw [show encs (rd k) = #[.int .i64 (k : Int), .agg #[.int .i64 x.f, .int .i64 x.t, .int .i64 x.lo, .int .i64 x.hi]] from by rw [HE.out k (by omega), EX.out]; rfl] at hy
      gi_wp2
      refine hR.mono ?_
      rintro e W3 (⟨rfl, hJ3, hk3⟩ | ⟨rfl, hJx3⟩)
      · have HK3 := Lib.hid hk3
        clear hk3
        gi_wp2
        go_roundw
        case rel => exact ⟨k + 1, by omega, by simp, by rw [upto_succ]; exact hJ3, hnx.trans (((Below.refl n₀ wr).alloc (by have := hnx.size; omega) _).trans HK3.out.1), HK3.out.2.trans ((Below.heap_alloc _ _ _ hbl).trans HBN.out)⟩
        case measure => simp [intOf]; omega
      · gi_wp2
        refine bodyPost_ret (results_none rfl _ _ _) rfl ?_
        exact ⟨⟨_, rfl⟩, .inr ⟨_, ⟨k + 1, by omega, by rw [upto_succ]⟩, hJx3⟩⟩
    · obtain rfl : k = s.shots.length := by omega
      gi_wp2
      clear m0 m1 m2 hlt
      gi_loopw [33] (fun i wr => ∃ k : Nat, k ≤ s.marks.length ∧ i = .int .i64 k ∧ J (upto rd (s.shots.length + k)) wr ∧ Below n₀ W wr ∧ wr.heap[Bn]? = some (.cells cs 93 (0, 0)))
        (fun i _ => s.marks.length - (intOf i).toNat)
      case atStart => exact ⟨0, Nat.zero_le _, rfl, hJs, hnx, HBN.out⟩
      case round =>
        clear hnx hJs hk HBN hbl
        obtain ⟨k, hk, rfl, hJs, hnx, hbn⟩ := hrel
        have HBN := Lib.hid hbn
        have hbl : Bn < wr.heap.size := (Array.getElem?_eq_some_iff.1 hbn).1
        have m0 : wr.cell? ⟨Bn, 0, none⟩ = some (.int .i64 s.n) := by rw [cell_of_row _ _ _ _ _ _ hbn]; exact C0.out
        have m1 : wr.cell? ⟨Bn, 1, none⟩ = some (.slice A1 s.shots.length c1) := by rw [cell_of_row _ _ _ _ _ _ hbn]; exact CA1.out
        have m2 : wr.cell? ⟨Bn, 2, none⟩ = some (.slice A2 s.marks.length c2) := by rw [cell_of_row _ _ _ _ _ _ hbn]; exact CA2.out
        clear hbn
        have hsz := hnx.size
        by_cases hlt : k < s.marks.length
        · obtain ⟨b, o, rfl, hbl2, hcell⟩ := (R2.out.below hnx).at_ hlt
          have q0 := hcell 0 _ rfl
          have q1 := hcell 1 _ rfl
          have q2 := hcell 2 _ rfl
          simp only [Nat.add_zero] at q0
          clear hcell
          have ex : rdAt s (s.shots.length + k) = (s.shots.length + k, ⟨s.n, (s.marks[k]).p, (s.marks[k]).lo, (s.marks[k]).hi⟩) := by
            unfold rdAt
            rw [dif_neg (by omega), dif_pos (by omega)]
            simp
          have EX := Lib.hid ex
          clear ex
          generalize s.marks[k] = x at *
          have hJa : ∀ W', (wr.alloc (.cells #[.int .i64 x.p, .int .i64 x.lo, .int .i64 x.hi] 75)).grownBy W' none → J (upto rd (s.shots.length + k)) W' := fun W' hg =>
            HJ.out _ _ _ none (HJ.out _ _ _ none hJs (World.grownBy_alloc _ _ none) (fun r e => by cases e)) hg (fun r e => by cases e)
          have HJA := Lib.hid hJa
          clear hJa
          obtain ⟨w2, hw2⟩ : ∃ w2, wr.alloc (.cells #[.int .i64 x.p, .int .i64 x.lo, .int .i64 x.hi] 75) = w2 := ⟨_, rfl⟩
          have z0 : w2.cell? ⟨wr.heap.size, 0, none⟩ = some (.int .i64 x.p) := by rw [← hw2]; simp
          have z1 : w2.cell? ⟨wr.heap.size, 1, none⟩ = some (.int .i64 x.lo) := by rw [← hw2]; simp
          have z2 : w2.cell? ⟨wr.heap.size, 2, none⟩ = some (.int .i64 x.hi) := by rw [← hw2]; simp
          have hz2 : w2.heap.size = wr.heap.size + 1 := by rw [← hw2]; simp
          have b2 : Below n₀ wr w2 := by rw [← hw2]; exact (Below.refl _ _).alloc (by omega) _
          have fb2 : w2.heap[Bn]? = some (.cells cs 93 (0, 0)) := by rw [← hw2]; exact (Below.heap_alloc _ _ _ hbl).trans HBN.out
          have FB2 := Lib.hid fb2
          have HZ := Lib.hid hz2
          have HW2 := Lib.hid hw2
          clear hw2 hz2 fb2
          gi_wp2_with fail
          rw [HW2.out]
          refine wpIn_region_planA (by kernel_rfl) 15 (by kernel_rfl) (by omega)
            (fun i => (#[.func (.yield l) #[] #[], .pointer (some ⟨Bn, 0, none⟩), .pointer (some ⟨Bn, 1, none⟩), .slice A1 s.shots.length c1, .int .i64 s.shots.length, .int .i64 k, .int .i64 (s.shots.length + k : Int), .agg cs, .int .i64 s.n, .pointer (some ⟨wr.heap.size, 0, none⟩), .int .i64 x.p, .agg #[.int .i64 s.n, .int .i64 x.p], .pointer (some ⟨wr.heap.size, 1, none⟩), .agg #[.int .i64 x.lo, .int .i64 x.hi], .agg #[.int .i64 s.n, .int .i64 x.p, .int .i64 x.lo, .int .i64 x.hi]] : Array Value).getD i undef)
            (fun w => Below w2.heap.size w2 w) _ _ ?aF ?hA ?hS ?hstep ?htail
          case hA => simp [putTo, putIf, dstAt, Act.put, List.range_succ]; rfl
          case hS => exact (Below.refl _ _).drew
          case hstep =>
            intro i o hi ho w hS
            refine ⟨fun _ _ => trivial, ?_⟩
            have fh := (hS.block Bn (by have := HZ.out; omega)).trans FB2.out
            have f1 : w.cell? ⟨Bn, 1, none⟩ = some (.slice A1 s.shots.length c1) := by rw [cell_of_row _ _ _ _ _ _ fh]; exact CA1.out
            have y0 := (hS.cell (p := ⟨wr.heap.size, 0, none⟩) (by rw [HZ.out]; exact Nat.lt_succ_self _)).trans z0
            have y1 := (hS.cell (p := ⟨wr.heap.size, 1, none⟩) (by rw [HZ.out]; exact Nat.lt_succ_self _)).trans z1
            have y2 := (hS.cell (p := ⟨wr.heap.size, 2, none⟩) (by rw [HZ.out]; exact Nat.lt_succ_self _)).trans z2
            have FH := Lib.hid fh
            clear fh
            have hi' : i = 0 ∨ i = 1 ∨ i = 2 ∨ i = 3 ∨ i = 4 ∨ i = 5 ∨ i = 6 ∨ i = 7 ∨ i = 8 ∨ i = 9 ∨ i = 10 ∨ i = 11 ∨ i = 12 ∨ i = 13 ∨ i = 14 := by omega
            rcases hi' with rfl | rfl | rfl | rfl | rfl | rfl | rfl | rfl | rfl | rfl | rfl | rfl | rfl | rfl | rfl
            all_goals (simp only [List.getElem?_toArray, List.getElem?_cons_succ, List.getElem?_cons_zero, Option.some.injEq] at ho; subst ho)
            case inr.inr.inr.inr.inr.inr.inr.inl =>
              have hl93 := run_loadVar_row (P := Try.prog) w Bn 93 93 cs (0, 0) _ FH.out Try.underlying93 rfl (by rw [hcs]; exact info93)
              simp only [execOp, Act.eval, List.getElem?_toArray, Array.getD_eq_getD_getElem?, List.getElem?_cons_succ, List.getElem?_cons_zero, Option.getD_some, Instr.loadAt, Instr.sureAddr, Sem.run_bind, Sem.run_pure, Result.andThen_ok, hl93]
              exact ⟨rfl, hS⟩
            case inr.inr.inr.inr.inr.inr.inr.inr.inl =>
              go_simp
              refine ⟨fun _ => hn1, callsIn_wide.2 ((ground_any cs s.n w C0.out).mono ?_)⟩
              rintro e w' ⟨rfl, hb⟩
              exact ⟨_, rfl, rfl, hS.trans (hb.mono hS.size)⟩
            all_goals go_simp
            all_goals first | exact ⟨rfl, hS⟩ | exact ⟨by rw [IntWalk.i64_in _ (by omega)], hS⟩
          case htail =>
            intro w hS
            simp only [List.drop_succ_cons, List.drop_zero]
            have fh := Lib.hid ((hS.block Bn (by have := HZ.out; omega)).trans FB2.out)
            have hwr := hnx.trans (b2.trans (hS.mono (by have := HZ.out; omega)))
            have hJb := HJA.out w (by rw [HW2.out]; exact ⟨hS.os, hS.tape, hS.output, hS.size, fun i hi _ => hS.block i hi⟩)
            obtain ⟨fn, tmps, assign, body, hy, hR⟩ := HY.out _ (rd (s.shots.length + k)) w hJb (by rw [upto_length]; omega)
            rw [show encs (rd (s.shots.length + k)) = #[.int .i64 ((s.shots.length : Int) + (k : Int)), .agg #[.int .i64 s.n, .int .i64 x.p, .int .i64 x.lo, .int .i64 x.hi]] from by rw [HE.out _ (by omega), EX.out]; unfold rdV; simp] at hy
            gi_wp2
            refine hR.mono ?_
            rintro e W3 (⟨rfl, hJ3, hk3⟩ | ⟨rfl, hJx3⟩)
            · have HK3 := Lib.hid hk3
              clear hk3
              gi_wp2
              go_roundw
              case rel => exact ⟨k + 1, by omega, by simp, by rw [← Nat.add_assoc, upto_succ]; exact hJ3, hwr.trans HK3.out.1, HK3.out.2.trans fh.out⟩
              case measure => simp [intOf]; omega
            · gi_wp2
              refine bodyPost_ret (results_none rfl _ _ _) rfl ?_
              exact ⟨⟨_, rfl⟩, .inr ⟨_, ⟨s.shots.length + k + 1, by omega, by rw [upto_succ]⟩, hJx3⟩⟩
        · obtain rfl : k = s.marks.length := by omega
          gi_wp2
          go_end0
          exact ⟨⟨_, rfl⟩, .inl ⟨_, rfl, hJs⟩⟩

theorem WkAt.below {w w' : World} {B : Nat} {cs : Array Value} {s : Sv} (h : WkAt w B cs s) (hb : Below B w w') : WkAt w' B cs s := by
  obtain ⟨A1, c1, h1, r1⟩ := h.sh
  obtain ⟨A2, c2, h2, r2⟩ := h.mks
  exact ⟨h.size, h.c0, ⟨A1, c1, h1, r1.below hb⟩, ⟨A2, c2, h2, r2.below hb⟩⟩
theorem WkAt.more {w : World} {B B' : Nat} {cs : Array Value} {s : Sv} (h : WkAt w B cs s) (hb : B ≤ B') : WkAt w B' cs s := by
  obtain ⟨A1, c1, h1, r1⟩ := h.sh
  obtain ⟨A2, c2, h2, r2⟩ := h.mks
  exact ⟨h.size, h.c0, ⟨A1, c1, h1, r1.more hb⟩, ⟨A2, c2, h2, r2.more hb⟩⟩

/-- The iterator of a survey at work yields all its readings, or a first part of them. -/
theorem readings_stops {α : Type} (encs : α → Array Value) (rd : Nat → α) (n : Nat) (hn1 : 1 ≤ n) (Bn n₀ : Nat) (cs : Array Value) (s : Sv) (henc : ∀ k, k < s.shots.length + s.marks.length → encs (rd k) = rdV (rdAt s k)) (hl1 : s.shots.length ≤ 60) (hl2 : s.marks.length ≤ 20) (w : World) (hn : n₀ ≤ w.heap.size)
    (hW : w.heap[Bn]? = some (.cells cs 93 (0, 0))) (hK : WkAt w n₀ cs s) :
    SeqStopsK Fence.wide n Try.prog 73 #[.pointer (some ⟨Bn, 0, none⟩)] encs (KpB n₀ Bn) (fun ys => ys = upto rd (s.shots.length + s.marks.length))
      (fun pre => ∃ k, k ≤ s.shots.length + s.marks.length ∧ pre = upto rd k) (s.shots.length + s.marks.length) w := fun l J Jx W hWb hJ _ hY h0 =>
  readings1_in encs rd n hn1 l Bn n₀ cs s henc J Jx hl1 hl2 W.heap.size hJ hY W (Nat.le_trans hn hWb.size) ((hWb.block _ (Array.getElem?_eq_some_iff.1 hW).1).trans hW) (hK.below (hWb.mono hn)) h0

end Go.Proofs.Ytaoonfmcimkmhaa
