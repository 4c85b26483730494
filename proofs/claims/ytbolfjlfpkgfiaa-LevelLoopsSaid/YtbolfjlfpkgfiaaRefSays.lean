/- aflajref01.says: what all single shots between two points have in common, and how many there are. Conditions: the survey is valid, its shots read below the heap's end, and the points differ. -/
import Derived.Test.YtbolfjlfpkgfiaaSays
import Derived.Test.YtbolfjlfpkgfiaaLevFall
set_option linter.unusedVariables false
set_option linter.unusedSimpArgs false
namespace Go.Proofs.Ytbolfjlfpkgfiaa
open Go.RowKit

theorem resSays (tmps : Array Value) (W : World) (g : Nat) (x y : Value) (e : Value) (h1 : tmps.getD 6 undef = .pointer (some ⟨g, 0, none⟩)) (h2 : tmps.getD 7 undef = e) (hM : W.heap[g]? = some (.cells #[x, y] 36 (0, 0))) :
    (results Try.f59 tmps).run Try.prog W = .ok (.tuple #[.agg #[x, y], e]) W := by
  rw [results_cell_tmp Try.results59, h1, h2]
  simp only [asAddr, Sem.run_pure, Result.andThen_ok]
  rw [run_loadVar_row W g _ _ #[x, y] (0, 0) _ hM Try.underlying36 rfl info36']
  rfl

set_option maxRecDepth 100000 in
set_option maxHeartbeats 4000000 in
theorem says_any (s : Sv) (a b : Int) (c1 c2 c3 : Nat) (A1 A2 A3 : Option Addr) (w : World) (hok : svOk s = true) (hab : a ≠ b)
    (r1 : Rd w w.heap.size A1 shV 4 s.shots) :
    Calls Try.prog 59 #[.agg #[Value.int IntKind.i64 s.n, Value.slice A1 s.shots.length c1, Value.slice A2 s.marks.length c2, Value.slice A3 s.threads.length c3], .int .i64 a, .int .i64 b] w fun e w' =>
      e = .returned (.tuple #[.agg #[.int .i64 (syFold a b s.shots).1.1, .int .i64 (syFold a b s.shots).1.2], .int .i64 ((syFold a b s.shots).2 : Int)]) ∧ Below w.heap.size w w' := by
  have R1 := Lib.hid r1
  have HSB := Lib.hid (svOk_shB hok)
  have hS : s.shots.length ≤ 60 := (svOk_spec hok).1.2.2.1
  clear r1 hok
  go_enter Try.func59, Try.ntmps59
  go_upto_region 4 with fail
  obtain ⟨w1, hw1⟩ : ∃ w1, (((w.alloc (Obj.cells #[Value.int IntKind.i64 s.n, Value.slice A1 s.shots.length c1, Value.slice A2 s.marks.length c2, Value.slice A3 s.threads.length c3] 26)).alloc (Obj.cells #[Value.int IntKind.i64 0, Value.int IntKind.i64 0] 36)).alloc (Obj.cells #[Value.int IntKind.i64 (-20000000), Value.int IntKind.i64 20000000] 36)) = w1 := ⟨_, rfl⟩
  rw [hw1]
  have hg := heap_alloc3 w (Obj.cells #[Value.int IntKind.i64 s.n, Value.slice A1 s.shots.length c1, Value.slice A2 s.marks.length c2, Value.slice A3 s.threads.length c3] 26) (Obj.cells #[Value.int IntKind.i64 0, Value.int IntKind.i64 0] 36) (Obj.cells #[Value.int IntKind.i64 (-20000000), Value.int IntKind.i64 20000000] 36)
  rw [hw1] at hg
  have G0 := Lib.hid hg.1
  have G1 := Lib.hid hg.2.1
  have G2 := Lib.hid hg.2.2.1
  have hb1 : Below w.heap.size w w1 := by rw [← hw1]; (repeat' (first | (with_reducible exact Below.refl _ _) | (with_reducible refine Below.alloc ?_ ?_ _) | (with_reducible refine Below.drew ?_) | (with_reducible refine Below.drewN_ ?_ _) | (with_reducible refine Below.setCell ?_ ?_ _) | (with_reducible refine Below.setRow ?_ ?_ _) | (with_reducible refine Below.via ?_ (by with_reducible assumption) ?_) | go_size))
  have hz1 : w.heap.size + 2 < w1.heap.size := by rw [← hw1]; simp
  have HL0 := Lib.hid (show syFold a b (s.shots.take 0) = ((-20000000, 20000000), 0) from rfl)
  clear hg hw1
  go_loopw [9, 10] (fun v9 v10 W => ∃ k : Nat, k ≤ s.shots.length ∧ v10 = .int .i64 k ∧ v9 = .int .i64 ((syFold a b (s.shots.take k)).2 : Int) ∧
    (W.heap[w.heap.size + 1 + 1]? = some (.cells #[.int .i64 (syFold a b (s.shots.take k)).1.1, .int .i64 (syFold a b (s.shots.take k)).1.2] 36 (0, 0)) ∧
    W.heap[w.heap.size]? = some (.cells #[Value.int IntKind.i64 s.n, Value.slice A1 s.shots.length c1, Value.slice A2 s.marks.length c2, Value.slice A3 s.threads.length c3] 26 (0, 0)) ∧ W.heap[w.heap.size + 1]? = some (.cells #[.int .i64 0, .int .i64 0] 36 (0, 0))) ∧ Below w.heap.size w W) (fun _ i _ => s.shots.length - (intOf i).toNat)
  case atStart => exact ⟨0, by omega, rfl, by rw [HL0.out]; rfl, ⟨by rw [HL0.out]; exact G2.out, G0.out, G1.out⟩, hb1⟩
  case round =>
    obtain ⟨k, hk, rfl, rfl, ⟨h2, h0, h1⟩, hb⟩ := hrel
    have H2 := Lib.hid h2
    have H0 := Lib.hid h0
    have H1 := Lib.hid h1
    have hlt2 : w.heap.size + 1 + 1 < wr.heap.size := (Array.getElem?_eq_some_iff.1 h2).1
    have m1 := cell_of_row wr w.heap.size 1 _ _ _ h0
    simp at m1
    have f0 := frozen_of_row wr (w.heap.size + 1 + 1) 0 _ _ h2
    have f1 := frozen_of_row wr (w.heap.size + 1 + 1) 1 _ _ h2
    have y0 := cell_of_row wr (w.heap.size + 1 + 1) 0 _ _ _ h2
    have y1 := cell_of_row wr (w.heap.size + 1 + 1) 1 _ _ _ h2
    simp at y0 y1
    have g0 := frozen_of_row wr (w.heap.size + 1) 0 _ _ h1
    have g1 := frozen_of_row wr (w.heap.size + 1) 1 _ _ h1
    have z0 := cell_of_row wr (w.heap.size + 1) 0 _ _ _ h1
    have z1 := cell_of_row wr (w.heap.size + 1) 1 _ _ _ h1
    simp at z0 z1
    clear h2 h0 h1 G0 G1 G2 HL0
    by_cases hlt : k < s.shots.length
    · obtain ⟨bx, o, rfl, hbl, hcell⟩ := (R1.out.below hb).at_ hlt
      have q0 := hcell 0 _ rfl
      have q1 := hcell 1 _ rfl
      have q2 := hcell 2 _ rfl
      have q3 := hcell 3 _ rfl
      simp only [Nat.add_zero] at q0
      clear hcell
      have hsb := HSB.out s.shots[k] (List.getElem_mem hlt)
      have HT := Lib.hid (show syFold a b (s.shots.take (k + 1)) = syStep a b (syFold a b (s.shots.take k)) s.shots[k] by rw [List.take_add_one, List.getElem?_eq_getElem hlt]; exact syFold_snoc a b _ _)
      have hlen := syFold_len a b (s.shots.take k)
      rw [List.length_take] at hlen
      generalize s.shots[k] = x at *
      obtain ⟨xf, xt, xl, xh⟩ := x
      generalize syFold a b (s.shots.take k) = st at *
      obtain ⟨⟨u, v⟩, n⟩ := st
      dsimp only at *
      obtain ⟨l1, l2, l3, l4⟩ := hsb
      dsimp only at l1 l2 l3 l4
      have hn60 : n ≤ 60 := by omega
      have hon : (xf = a ∧ xt = b) ∨ (xf = b ∧ xt = a) ∨ ((¬ (xf = a ∧ xt = b)) ∧ ¬ (xf = b ∧ xt = a)) := by omega
      rcases hon with ⟨rfl, rfl⟩ | ⟨rfl, rfl⟩ | ⟨hn1, hn2⟩
      · have HT2 := Lib.hid (HT.out.trans (show syStep xf xt ((u, v), n) ⟨xf, xt, xl, xh⟩ = (cut2 (u, v) (xl, xh), n + 1) by unfold syStep onWay; rw [if_pos ⟨rfl, rfl⟩]))
        clear HT
        have hne1 : (xf == xt) = false := by rw [beq_eq_false_iff_ne]; exact hab
        have hne2 : (xt == xf) = false := by rw [beq_eq_false_iff_ne]; exact fun e => hab e.symm
        go_wp2
        go_roundw
        case rel =>
          refine ⟨k + 1, by omega, by go_num, by rw [HT2.out]; simp, ⟨?_, ?_, ?_⟩, ((hb.setCell (p := ⟨w.heap.size + 1 + 1, 0, none⟩) (by show _ ≤ w.heap.size + 1 + 1; omega) _).setCell (p := ⟨w.heap.size + 1 + 1, 1, none⟩) (by show _ ≤ w.heap.size + 1 + 1; omega) _).alloc (by simp; omega) _⟩
          · rw [HT2.out]
            have e1 : (if u < xl then xl else u) = max u (xl) := by split <;> omega
            have e2 : (if xh < v then xh else v) = min v (xh) := by split <;> omega
            dsimp only [cut2]
            rw [← e1, ← e2]
            exact (Below.heap_alloc _ _ _ (by simp; omega)).trans (heap_set2 H2.out)
          · exact (Below.heap_alloc _ _ _ (by simp; omega)).trans ((Below.heap_setCell _ _ _ _ (by show w.heap.size ≠ w.heap.size + 1 + 1; omega)).trans ((Below.heap_setCell _ _ _ _ (by show w.heap.size ≠ w.heap.size + 1 + 1; omega)).trans H0.out))
          · exact (Below.heap_alloc _ _ _ (by simp; omega)).trans ((Below.heap_setCell _ _ _ _ (by show w.heap.size + 1 ≠ w.heap.size + 1 + 1; omega)).trans ((Below.heap_setCell _ _ _ _ (by show w.heap.size + 1 ≠ w.heap.size + 1 + 1; omega)).trans H1.out))
        case measure => (simp [intOf] <;> omega)
      · have HT2 := Lib.hid (HT.out.trans (show syStep xt xf ((u, v), n) ⟨xf, xt, xl, xh⟩ = (cut2 (u, v) (-xh, -xl), n + 1) by unfold syStep onWay; rw [if_neg (fun h => hab h.1.symm), if_pos ⟨rfl, rfl⟩]))
        clear HT
        have hne1 : (xf == xt) = false := by rw [beq_eq_false_iff_ne]; exact fun e => hab e.symm
        have hne2 : (xt == xf) = false := by rw [beq_eq_false_iff_ne]; exact hab
        have hw1 : IntKind.i64.wrap (-xh) = -xh := IntWalk.i64_in _ (by omega)
        have hw2 : IntKind.i64.wrap (-xl) = -xl := IntWalk.i64_in _ (by omega)
        go_wp2
        go_roundw
        case rel =>
          refine ⟨k + 1, by omega, by go_num, by rw [HT2.out]; simp, ⟨?_, ?_, ?_⟩, ((hb.setCell (p := ⟨w.heap.size + 1 + 1, 0, none⟩) (by show _ ≤ w.heap.size + 1 + 1; omega) _).setCell (p := ⟨w.heap.size + 1 + 1, 1, none⟩) (by show _ ≤ w.heap.size + 1 + 1; omega) _).alloc (by simp; omega) _⟩
          · rw [HT2.out]
            have e1 : (if u < -xh then -xh else u) = max u (-xh) := by split <;> omega
            have e2 : (if -xl < v then -xl else v) = min v (-xl) := by split <;> omega
            dsimp only [cut2]
            rw [← e1, ← e2]
            exact (Below.heap_alloc _ _ _ (by simp; omega)).trans (heap_set2 H2.out)
          · exact (Below.heap_alloc _ _ _ (by simp; omega)).trans ((Below.heap_setCell _ _ _ _ (by show w.heap.size ≠ w.heap.size + 1 + 1; omega)).trans ((Below.heap_setCell _ _ _ _ (by show w.heap.size ≠ w.heap.size + 1 + 1; omega)).trans H0.out))
          · exact (Below.heap_alloc _ _ _ (by simp; omega)).trans ((Below.heap_setCell _ _ _ _ (by show w.heap.size + 1 ≠ w.heap.size + 1 + 1; omega)).trans ((Below.heap_setCell _ _ _ _ (by show w.heap.size + 1 ≠ w.heap.size + 1 + 1; omega)).trans H1.out))
        case measure => (simp [intOf] <;> omega)
      · have HT2 := Lib.hid (HT.out.trans (show syStep a b ((u, v), n) ⟨xf, xt, xl, xh⟩ = ((u, v), n) by unfold syStep onWay; rw [if_neg hn1, if_neg hn2]))
        clear HT
        have hff : (¬ xf = a ∧ ¬ xf = b) ∨ (xf = a ∧ ¬ xt = b) ∨ (xf = b ∧ ¬ xt = a) := by omega
        have hrel2 : ∀ o : Obj, ∃ k1 : Nat, k1 = k + 1 := fun _ => ⟨_, rfl⟩
        clear hn1 hn2 hrel2
        rcases hff with ⟨hn1, hn2⟩ | ⟨rfl, hn1⟩ | ⟨rfl, hn1⟩
        · have e1 : (xf == a) = false := by rw [beq_eq_false_iff_ne]; exact hn1
          have e2 : (xf == b) = false := by rw [beq_eq_false_iff_ne]; exact hn2
          go_wp2
          go_roundw
          case rel => exact ⟨k + 1, by omega, by go_num, by rw [HT2.out], ⟨by rw [HT2.out]; exact (Below.heap_alloc _ _ _ hlt2).trans H2.out, (Below.heap_alloc _ _ _ (by omega)).trans H0.out, (Below.heap_alloc _ _ _ (by omega)).trans H1.out⟩, hb.alloc (by omega) _⟩
          case measure => (simp [intOf] <;> omega)
        · have e1 : (xt == b) = false := by rw [beq_eq_false_iff_ne]; exact hn1
          have e2 : (xf == b) = false := by rw [beq_eq_false_iff_ne]; exact hab
          go_wp2
          go_roundw
          case rel => exact ⟨k + 1, by omega, by go_num, by rw [HT2.out], ⟨by rw [HT2.out]; exact (Below.heap_alloc _ _ _ hlt2).trans H2.out, (Below.heap_alloc _ _ _ (by omega)).trans H0.out, (Below.heap_alloc _ _ _ (by omega)).trans H1.out⟩, hb.alloc (by omega) _⟩
          case measure => (simp [intOf] <;> omega)
        · have e1 : (xf == a) = false := by rw [beq_eq_false_iff_ne]; exact fun e => hab e.symm
          have e2 : (xt == a) = false := by rw [beq_eq_false_iff_ne]; exact hn1
          go_wp2
          go_roundw
          case rel => exact ⟨k + 1, by omega, by go_num, by rw [HT2.out], ⟨by rw [HT2.out]; exact (Below.heap_alloc _ _ _ hlt2).trans H2.out, (Below.heap_alloc _ _ _ (by omega)).trans H0.out, (Below.heap_alloc _ _ _ (by omega)).trans H1.out⟩, hb.alloc (by omega) _⟩
          case measure => (simp [intOf] <;> omega)
    · have hkS : k = s.shots.length := by omega
      have HK : Hid (syFold a b (s.shots.take k) = syFold a b s.shots) := Lib.hid (by rw [List.take_of_length_le (by omega)])
      clear hkS hk
      generalize syFold a b (s.shots.take k) = st at *
      go_wp2
      refine bodyPost_ret (resSays _ _ (w.heap.size + 1) (.int .i64 st.1.1) (.int .i64 st.1.2) (.int .i64 (st.2 : Int)) rfl rfl ?_) rfl ?_
      · exact heap_set2 H1.out
      · rw [HK.out]
        exact ⟨rfl, by (repeat' (first | (with_reducible exact Below.refl _ _) | (with_reducible refine Below.alloc ?_ ?_ _) | (with_reducible refine Below.drew ?_) | (with_reducible refine Below.drewN_ ?_ _) | (with_reducible refine Below.setCell ?_ ?_ _) | (with_reducible refine Below.setRow ?_ ?_ _) | (with_reducible refine Below.via ?_ (by with_reducible assumption) ?_) | go_size))⟩

end Go.Proofs.Ytbolfjlfpkgfiaa
