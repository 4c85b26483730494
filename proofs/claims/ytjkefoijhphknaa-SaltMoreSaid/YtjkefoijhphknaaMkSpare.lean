/- What rents have to spare for each set of fields. Condition: a market within bounds. -/
import Derived.Test.YtjkefoijhphknaaMkModel
import Derived.Test.YtjkefoijhphknaaCalm
import Derived.Deep.Cut
import Derived.Deep.RegionWith
import Derived.Deep.CutRange
import Derived.IntWalk
namespace Go.Proofs.Ytjkefoijhphknaa
open Go.RowKit Go.IntWalk
attribute [local go_sem] run_index_needs

set_option maxRecDepth 100000 in
set_option maxHeartbeats 8000000 in
theorem spare_any (m : Mk) (A1 : Option Addr) (c1 : Nat) (A2 : Option Addr) (c2 : Nat) (w : World) (hm : MkOk m) (r1 : Rd w w.heap.size A1 lotV 4 m.lots) :
    Calls Try.prog 105 #[.agg (mkA m A1 c1 A2 c2)] w fun e w' => e = .returned (.agg (arV (spI m))) ∧ Below w.heap.size w w' := by
  have HM := Lib.hid hm
  have R1 := Lib.hid r1
  have HZ := Lib.hid arZero
  clear hm r1
  have hsz : (mkA m A1 c1 A2 c2).size = 18 := rfl
  go_enter Try.func105, Try.ntmps105
  go_upto_region 2 with (fail)
  rw [HZ.out]
  generalize hw0 : ((w.alloc (Obj.cells (mkA m A1 c1 A2 c2) 114)).alloc (Obj.cells (arV fun _ => 0) 166)).alloc (Obj.cells (arV fun _ => 0) 166) = w0
  have g0 : w0.heap[w.heap.size]? = some (.cells (mkA m A1 c1 A2 c2) 114 (0, 0)) := by rw [← hw0]; exact (Below.heap_alloc _ _ _ (by simp; omega)).trans ((Below.heap_alloc _ _ _ (by simp)).trans (heap_alloc_new _ _))
  have g1 : w0.heap[w.heap.size + 1]? = some (.cells (arV fun _ => 0) 166 (0, 0)) := by rw [← hw0]; exact (Below.heap_alloc _ _ _ (by simp)).trans (heap_alloc2_new _ _ _)
  have g2 : w0.heap[w.heap.size + 1 + 1]? = some (.cells (arV (cur m 0 0)) 166 (0, 0)) := by
    rw [← hw0, cur_zero]
    have := heap_alloc_new ((w.alloc (Obj.cells (mkA m A1 c1 A2 c2) 114)).alloc (Obj.cells (arV fun _ => 0) 166)) (Obj.cells (arV fun _ => 0) 166)
    simpa using this
  have hb0 : Below w.heap.size w w0 := by rw [← hw0]; (repeat' (first | (with_reducible exact Below.refl _ _) | (with_reducible refine Below.alloc ?_ ?_ _) | (with_reducible refine Below.drew ?_) | (with_reducible refine Below.drewN_ ?_ _) | (with_reducible refine Below.setCell ?_ ?_ _) | (with_reducible refine Below.setRow ?_ ?_ _) | (with_reducible refine Below.via ?_ (by with_reducible assumption) ?_) | go_size))
  have G0 := Lib.hid g0
  have G1 := Lib.hid g1
  have G2 := Lib.hid g2
  have HB0 := Lib.hid hb0
  clear hw0 g0 g1 g2 hb0
  go_wp2
  go_loopw [9] (fun v9 W => ∃ s : Nat, s ≤ 256 ∧ v9 = .int .i64 s ∧ W.heap[w.heap.size]? = some (.cells (mkA m A1 c1 A2 c2) 114 (0, 0)) ∧ W.heap[w.heap.size + 1]? = some (.cells (arV fun _ => 0) 166 (0, 0)) ∧ W.heap[w.heap.size + 1 + 1]? = some (.cells (arV (cur m s 0)) 166 (0, 0)) ∧ Below w.heap.size w W) (fun i _ => 256 - (intOf i).toNat)
  case atStart => exact ⟨0, by omega, rfl, G0.out, G1.out, G2.out, HB0.out⟩
  case round =>
    obtain ⟨s, hs, rfl, h0, h1, h2, hb⟩ := hrel
    clear G0 G1 G2 HB0
    have H0 := Lib.hid h0
    have H1 := Lib.hid h1
    have H2 := Lib.hid h2
    have HB := Lib.hid hb
    have hl2 : w.heap.size + 1 + 1 < wr.heap.size := (Array.getElem?_eq_some_iff.1 h2).1
    by_cases hlt : s < 256
    · have hsI : (s : Int) < 256 := by omega
      have k0 : wr.cell? ⟨w.heap.size, 0, none⟩ = some (.slice A1 m.lots.length c1) := cell_of_row wr w.heap.size 0 _ _ _ h0
      clear h0 h1 h2 hb
      go_wp2
      clear k0
      go_loopw [15] (fun v15 W => ∃ i : Nat, i ≤ m.lots.length ∧ v15 = .int .i64 i ∧ W.heap[w.heap.size]? = some (.cells (mkA m A1 c1 A2 c2) 114 (0, 0)) ∧ W.heap[w.heap.size + 1]? = some (.cells (arV fun _ => 0) 166 (0, 0)) ∧ W.heap[w.heap.size + 1 + 1]? = some (.cells (arV (cur m s (spL m s i))) 166 (0, 0)) ∧ Below w.heap.size w W) (fun i _ => m.lots.length - (intOf i).toNat)
      case atStart => exact ⟨0, by omega, rfl, H0.out, H1.out, H2.out, HB.out⟩
      case round =>
        clear H0 H1 H2 HB hl2
        obtain ⟨i, hi, rfl, h0, h1, h2, hb⟩ := hrel
        have H0 := Lib.hid h0
        have H1 := Lib.hid h1
        have H2 := Lib.hid h2
        have HB := Lib.hid hb
        have hl2 : w.heap.size + 1 + 1 < wr.heap.size := (Array.getElem?_eq_some_iff.1 h2).1
        have hl0 : w.heap.size < wr.heap.size := by omega
        by_cases hli : i < m.lots.length
        · have hi8 : i < 8 := by have := HM.out.len; omega
          have hi8I : (i : Int) < 8 := by omega
          have hliI : (i : Int) < (m.lots.length : Int) := by omega
          have kl : wr.cell? ⟨w.heap.size, 10 + i, none⟩ = some (.int .i64 (m.left i)) := (cell_of_row wr w.heap.size (10 + i) _ _ _ h0).trans (mkA_left m A1 c1 A2 c2 hi8)
          have ka : wr.cell? ⟨w.heap.size + 1 + 1, s, none⟩ = some (.int .i64 (spL m s i)) := (cell_of_row wr _ s _ _ _ h2).trans ((arV_get _ hlt).trans (by rw [cur_at]))
          have fa : wr.frozen? ⟨w.heap.size + 1 + 1, s, none⟩ = false := frozen_of_row wr _ s _ _ h2
          have hsp : spL m s (i + 1) = spL m s i + if touch (m.lots[i]).whose s then m.left i else 0 := by rw [← Mk.who_get hli]; rfl
          have HSP := Lib.hid hsp
          have b1 := spL_bnd HM.out s i (by omega)
          have b2 := HM.out.left i
          obtain ⟨b, o, rfl, hbl, hcell⟩ := (R1.out.below hb).at_ hli
          have q0 := hcell 0 _ rfl
          have q1 := hcell 1 _ rfl
          have q2 := hcell 2 _ rfl
          have q3 := hcell 3 _ rfl
          simp only [Nat.add_zero] at q0
          clear hcell h0 h1 h2 hb hsp
          generalize m.lots[i] = l at *
          generalize hv : spL m s i = v at *
          generalize m.left i = u at *
          have HV := Lib.hid hv
          clear hv
          cases ht : touch l.whose s
          · have ht' := ht
            unfold touch at ht'
            have HT := Lib.hid ht
            clear ht
            go_wp2
            go_roundw
            case rel => exact ⟨i + 1, by omega, by go_num, (Below.heap_alloc _ _ _ hl0).trans H0.out, (Below.heap_alloc _ _ _ (by omega)).trans H1.out, (Below.heap_alloc _ _ _ hl2).trans (by rw [HSP.out, HT.out]; simpa using H2.out), HB.out.alloc HB.out.size _⟩
            case measure => (simp [intOf] <;> omega)
          · have ht' := ht
            unfold touch at ht'
            have HT := Lib.hid ht
            clear ht
            go_wp2
            refine wp_region_draw_tail 9 (by kernel_rfl) (by kernel_rfl) (by omega) ?_
            (simp only [List.take_succ_cons, List.take_zero, List.drop_succ_cons, List.drop_zero]); (repeat (go_big_quiet_step (fail))); refine wpQuiet_nil ?_; rintro _ ⟨nq, rfl⟩
            gi_wp2_with fail
            go_wp2
            go_roundw
            case rel =>
              refine ⟨i + 1, by omega, by go_num, ?_, ?_, ?_, ?_⟩
              · exact (Below.heap_setCell _ _ _ _ (by show w.heap.size ≠ w.heap.size + 1 + 1; omega)).trans ((Below.heap_alloc _ _ _ hl0).trans H0.out)
              · exact (Below.heap_setCell _ _ _ _ (by show w.heap.size + 1 ≠ w.heap.size + 1 + 1; omega)).trans ((Below.heap_alloc _ _ _ (by omega)).trans H1.out)
              · refine (heap_setCell_same _ (w.heap.size + 1 + 1) s _ _ _ ((Below.heap_alloc _ _ _ hl2).trans H2.out)).trans ?_
                rw [arV_set, cur_set, HSP.out, HT.out]
                rfl
              · exact Below.setCell (Below.drewN_ (HB.out.alloc HB.out.size _) _) (by show w.heap.size ≤ w.heap.size + 1 + 1; omega) _
            case measure => (simp [intOf] <;> omega)
        · obtain rfl : i = m.lots.length := by omega
          have hnl : spL m s m.lots.length = spL m s m.lots.length - spN m s 0 := by unfold spN; omega
          have HNL := Lib.hid hnl
          have bL := Lib.hid (spL_bnd HM.out s m.lots.length HM.out.len)
          have k0 : wr.cell? ⟨w.heap.size, 2, none⟩ = some (.int .i64 (m.needs 0)) := (cell_of_row wr w.heap.size 2 _ _ _ h0).trans rfl
          have k1 : wr.cell? ⟨w.heap.size, 3, none⟩ = some (.int .i64 (m.needs 1)) := (cell_of_row wr w.heap.size 3 _ _ _ h0).trans rfl
          have k2 : wr.cell? ⟨w.heap.size, 4, none⟩ = some (.int .i64 (m.needs 2)) := (cell_of_row wr w.heap.size 4 _ _ _ h0).trans rfl
          have k3 : wr.cell? ⟨w.heap.size, 5, none⟩ = some (.int .i64 (m.needs 3)) := (cell_of_row wr w.heap.size 5 _ _ _ h0).trans rfl
          have k4 : wr.cell? ⟨w.heap.size, 6, none⟩ = some (.int .i64 (m.needs 4)) := (cell_of_row wr w.heap.size 6 _ _ _ h0).trans rfl
          have k5 : wr.cell? ⟨w.heap.size, 7, none⟩ = some (.int .i64 (m.needs 5)) := (cell_of_row wr w.heap.size 7 _ _ _ h0).trans rfl
          have k6 : wr.cell? ⟨w.heap.size, 8, none⟩ = some (.int .i64 (m.needs 6)) := (cell_of_row wr w.heap.size 8 _ _ _ h0).trans rfl
          have k7 : wr.cell? ⟨w.heap.size, 9, none⟩ = some (.int .i64 (m.needs 7)) := (cell_of_row wr w.heap.size 9 _ _ _ h0).trans rfl
          clear h0 h1 h2 hb hnl
          go_wp2
          clear k0 k1 k2 k3 k4 k5 k6 k7
          go_loopw [37] (fun v37 W => ∃ f : Nat, f ≤ 8 ∧ v37 = .int .i64 f ∧ W.heap[w.heap.size]? = some (.cells (mkA m A1 c1 A2 c2) 114 (0, 0)) ∧ W.heap[w.heap.size + 1]? = some (.cells (arV fun _ => 0) 166 (0, 0)) ∧ W.heap[w.heap.size + 1 + 1]? = some (.cells (arV (cur m s (spL m s m.lots.length - spN m s f))) 166 (0, 0)) ∧ Below w.heap.size w W) (fun i _ => 8 - (intOf i).toNat)
          case atStart => exact ⟨0, by omega, rfl, H0.out, H1.out, by rw [← HNL.out]; exact H2.out, HB.out⟩
          case round =>
            clear H0 H1 H2 HB hl2 hl0 HNL hi
            obtain ⟨f, hf, rfl, h0, h1, h2, hb⟩ := hrel
            have H0 := Lib.hid h0
            have H1 := Lib.hid h1
            have H2 := Lib.hid h2
            have HB := Lib.hid hb
            have hl2 : w.heap.size + 1 + 1 < wr.heap.size := (Array.getElem?_eq_some_iff.1 h2).1
            have hl0 : w.heap.size < wr.heap.size := by omega
            by_cases hlf : f < 8
            · have ka : wr.cell? ⟨w.heap.size + 1 + 1, s, none⟩ = some (.int .i64 (spL m s m.lots.length - spN m s f)) := (cell_of_row wr _ s _ _ _ h2).trans ((arV_get _ hlt).trans (by rw [cur_at]))
              have fa : wr.frozen? ⟨w.heap.size + 1 + 1, s, none⟩ = false := frozen_of_row wr _ s _ _ h2
              have hsp : spL m s m.lots.length - spN m s (f + 1) = spL m s m.lots.length - spN m s f - if s.testBit f then m.needs f else 0 := by
                show _ - (spN m s f + _) = _
                omega
              have HSP := Lib.hid hsp
              have b1 := bL.out
              have b2 := spN_bnd HM.out s f (by omega)
              have b3 := HM.out.needs f
              have b4 := HM.out.len
              have b5 : -400000 ≤ spL m s m.lots.length - spN m s f ∧ spL m s m.lots.length - spN m s f ≤ 400000 := by omega
              have HH := Lib.hid (fun W => has_any s f W hlt hlf)
              clear h0 h1 h2 hb hsp b1 b2 b4
              generalize hv : spL m s m.lots.length - spN m s f = v at *
              have HV := Lib.hid hv
              clear hv
              cases ht : s.testBit f
              · rw [ht] at HH HSP
                clear ht
                go_wp2_with (go_at_call 112; refine (HH.out _).mono ?_; rintro e w' ⟨rfl, rfl⟩)
                go_roundw
                case rel => exact ⟨f + 1, by omega, by go_num, H0.out, H1.out, by rw [HSP.out]; simpa using H2.out, HB.out⟩
                case measure => (simp [intOf] <;> omega)
              · rw [ht] at HH HSP
                clear ht
                go_wp2_with (go_at_call 112; refine (HH.out _).mono ?_; rintro e w' ⟨rfl, rfl⟩)
                go_roundw
                case rel =>
                  refine ⟨f + 1, by omega, by go_num, ?_, ?_, ?_, ?_⟩
                  · exact (Below.heap_setCell _ _ _ _ (by show w.heap.size ≠ w.heap.size + 1 + 1; omega)).trans H0.out
                  · exact (Below.heap_setCell _ _ _ _ (by show w.heap.size + 1 ≠ w.heap.size + 1 + 1; omega)).trans H1.out
                  · refine (heap_setCell_same _ (w.heap.size + 1 + 1) s _ _ _ H2.out).trans ?_
                    rw [arV_set, cur_set, HSP.out]
                    rfl
                  · exact Below.setCell HB.out (by show w.heap.size ≤ w.heap.size + 1 + 1; omega) _
                case measure => (simp [intOf] <;> omega)
            · obtain rfl : f = 8 := by omega
              go_wp2
              go_roundw
              case rel => exact ⟨s + 1, by omega, by go_num, H0.out, H1.out, by rw [← cur_next]; exact H2.out, HB.out⟩
              case measure => (simp [intOf] <;> omega)
    · obtain rfl : s = 256 := by omega
      rw [arV_end] at h2
      clear H2
      have H2 := Lib.hid h2
      clear h0 h1 h2 hb
      have hs1 : (arV fun _ => (0 : Int)).size = (arV (spI m)).size := by rw [arV_size, arV_size]
      go_wp2_with (first | (refine wpList_load_row rfl 166 (.tmp 3) rfl (w.heap.size + 1 + 1) rfl 166 (arV (spI m)) (0, 0) _ H2.out Try.underlying166 rfl (infoAr _) ?_) | (refine wpList_store_row rfl 166 (.tmp 2) (.tmp 52) rfl (w.heap.size + 1) (arV (spI m)) rfl rfl 166 (arV fun _ => 0) H1.out (infoAr _) hs1 (arV_one _) ?_))
      refine bodyPost_ret (results_cell_row Try.results105 _ _ (w.heap.size + 1) 166 (arV (spI m)) (0, 0) _ rfl (setRow_heap _ _ _ _ _ _ H1.out) Try.underlying166 rfl (infoAr _)) rfl ⟨rfl, Below.setRow HB.out (by omega) _⟩
end Go.Proofs.Ytjkefoijhphknaa
