/- work.single fills a matrix with what single readings and the limits of heights say. -/
import Derived.Test.YtaoonfmcimkmhaaLevRead
import Derived.Test.YtaoonfmcimkmhaaLevDiff
import Derived.Test.YtaoonfmcimkmhaaLevInit
import Derived.Test.YtaoonfmcimkmhaaRange
import Derived.Deep.LoopGhost
import Derived.BigRegion
namespace Go.Proofs.Ytaoonfmcimkmhaa
open Go.RowKit Go.Shelf
attribute [local go_sem] Oper.semAt_some stillR_ok

set_option maxRecDepth 100000 in
set_option maxHeartbeats 1000000 in
theorem single_any (cs : Array Value) (s : Sv) (p : Nat) (w : World) (hK : WkAt w w.heap.size cs s) (hp : p ≤ 20) (hsp : s.n = p) (hl1 : s.shots.length ≤ 60) (hl2 : s.marks.length ≤ 20) (out : Nat → Bool) (wider : Int) (hout : ∀ k, k < 80 → cs[4 + k]? = some (.bool (out k))) (hwid : cs[84]? = some (.int .i64 wider)) (hw0 : 0 ≤ wider) (hw2 : wider ≤ 20000000) (hrd : ∀ k, k < s.shots.length + s.marks.length → rokB p (rdAt s k) = true) :
    Calls Try.prog 71 #[.agg cs] w fun e w' => e = .returned (.agg (matV (matOf p out wider (upto (rdOf p s) (s.shots.length + s.marks.length))))) ∧ Below w.heap.size w w' := by
  have c0 : cs[0]? = some (.int .i64 (p : Int)) := by rw [hK.c0, hsp]
  have hcs := hK.size
  have HI : Hid ((Try.prog.info? 93).map (·.size) = some cs.size) := by rw [hcs]; exact info93
  have HC := Lib.hid hcs
  have C0 := Lib.hid c0
  have HK := Lib.hid hK
  have HOUT := Lib.hid hout
  have HWID := Lib.hid hwid
  have HRD := Lib.hid hrd
  clear hcs hK hout hwid hrd
  refine (callsIn_wide (n := 3)).1 ?_
  refine callsIn_of_wp_marks Try.func71 rfl trivial ?_ rfl
  simp only [Try.ntmps71, List.size_toArray, List.length_cons, List.length_nil, Nat.reduceAdd, Nat.reduceSub, Array.replicate_succ, Array.replicate_zero, List.push_toArray, List.append_toArray, List.nil_append, List.cons_append]
  refine wpIn_wide.2 ?_
  go_wp2
  clear c0
  obtain ⟨w1, hw1⟩ : ∃ w1, ((w.alloc (Obj.cells cs 93)).alloc (Obj.cells Try.zeroCells96 96)).alloc (Obj.cells Try.zeroCells96 96) = w1 := ⟨_, rfl⟩
  rw [hw1]
  have hz1 : w1.heap.size = w.heap.size + 3 := by rw [← hw1]; simp
  have hb1 : Below w.heap.size w w1 := by rw [← hw1]; (repeat' (first | (with_reducible exact Below.refl _ _) | (with_reducible refine Below.alloc ?_ ?_ _) | (with_reducible refine Below.drew ?_) | (with_reducible refine Below.drewN_ ?_ _) | (with_reducible refine Below.setCell ?_ ?_ _) | (with_reducible refine Below.setRow ?_ ?_ _) | (with_reducible refine Below.via ?_ (by with_reducible assumption) ?_) | go_size))
  have hM : MatAt w1 (w.heap.size + 1 + 1) (B1 p 0) := by
    rw [← hw1, B1_zero]
    have := MatAt.new ((w.alloc (Obj.cells cs 93)).alloc (Obj.cells Try.zeroCells96 96)) (fun _ _ => 0)
    rw [← zero96] at this
    simpa using this
  have k1 : w1.heap[w.heap.size]? = some (.cells cs 93 (0, 0)) := by rw [← hw1, heap_alloc_old _ _ _ (by simp; omega)]; exact heap_alloc2_old w _ _
  have k2 : w1.heap[w.heap.size + 1]? = some (.cells Try.zeroCells96 96 (0, 0)) := by rw [← hw1, heap_alloc_old _ _ _ (by simp)]; exact heap_alloc2_new w _ _
  have K1 := Lib.hid k1
  have K2 := Lib.hid k2
  have HM := Lib.hid hM
  have HZ1 := Lib.hid hz1
  clear hM k1 k2 hw1 hz1
  obtain ⟨g, hg⟩ : ∃ g, w.heap.size + 1 + 1 = g := ⟨_, rfl⟩
  rw [hg]
  have HMg : Hid (MatAt w1 g (B1 p 0)) := by rw [← hg]; exact HM
  have hgw : w.heap.size < g := by omega
  have hgw1 : w.heap.size + 1 < g := by omega
  have HG := Lib.hid hg
  clear HM hg
  go_loopg [11] p (fun k v W => ∃ f : Nat, f + k = p ∧ v = .int .i64 f ∧ MatAt W g (B1 p f) ∧ Below g w1 W)
  case atStart => exact ⟨0, by omega, rfl, HMg.out, Below.refl _ _⟩
  case round =>
    obtain ⟨f, hfk, rfl, hM, hb⟩ := hrel
    have HM1 := Lib.hid hM
    have HFK := Lib.hid hfk
    have m0 : wr.cell? ⟨w.heap.size, 0, none⟩ = some (.int .i64 p) := by rw [cell_of_row _ _ _ _ _ _ ((hb.block _ hgw).trans K1.out)]; exact C0.out
    clear hM
    by_cases hlt : f < p
    · obtain ⟨k1, hk1⟩ : ∃ k1, gk = k1 + 1 := ⟨gk - 1, by omega⟩
      have HK1 := Lib.hid hk1
      clear hfk hk1
      go_wp2_with fail
      go_loopg [17] p (fun k v W => ∃ t : Nat, t + k = p ∧ v = .int .i64 t ∧ MatAt W g (B2 p f t) ∧ Below g w1 W)
      case atStart => exact ⟨0, by omega, rfl, by rw [B2_zero]; exact HM1.out, hb⟩
      case round =>
        clear hb m0
        obtain ⟨t, htk, rfl, hM, hb⟩ := hrel
        have HM2 := Lib.hid hM
        have HTK := Lib.hid htk
        by_cases hlt2 : t < p
        · obtain ⟨k2, hk2⟩ : ∃ k2, gk = k2 + 1 := ⟨gk - 1, by omega⟩
          have HK2 := Lib.hid hk2
          clear htk hk2
          by_cases hne : f = t
          · subst hne
            clear hM
            go_wp2_with fail
            go_roundg k2
            case rel => exact ⟨f + 1, by have := HTK.out; have := HK2.out; omega, by go_num, by rw [← B2_eq]; exact HM2.out, hb⟩
            case measure => have := HK2.out; omega
          · have qc := hM.cell (i := f) (j := t) (by omega) (by omega)
            have qf := hM.frozen (f * 21 + t)
            clear hM
            have hneI : ((f : Int) != (t : Int)) = true := by rw [bne_iff_ne]; omega
            go_wp2_with fail
            go_roundg k2
            case rel => exact ⟨t + 1, by have := HTK.out; have := HK2.out; omega, by go_num, by rw [← B2_ne hne]; exact HM2.out.set_ (by omega) _, hb.setCell (Nat.le_refl _) _⟩
            case measure => have := HK2.out; omega
        · have htp : t = p := by omega
          have hM2 : MatAt wr g (B2 p f p) := by have h := HM2.out; rw [htp] at h; exact h
          have HMM := Lib.hid hM2
          have hgwr := hM2.lt
          have hf21 : (f : Int) < 21 := by omega
          have hp21 : (p : Int) < 21 := by omega
          clear htk hM hM2 htp
          go_wp2_with fail
          clear hlt2
          refine (wpIn_wide (n := 3)).1 ?_
          refine wpIn_region_planA (by kernel_rfl) 5 (by kernel_rfl) (by omega)
            (fun i => (#[.int .i64 f, .agg cs, .int .i64 p, .pointer (some ⟨g, f * 21, none⟩), .pointer (some ⟨g, f * 21 + p, none⟩)] : Array Value).getD i undef)
            (fun w' => Below wr.heap.size wr w') _ _ ?aF ?hA ?hS ?hstep ?htail
          case hA => simp [putTo, putIf, dstAt, Act.put, List.range_succ]; rfl
          case hS => exact (Below.refl _ _).drew
          case hstep =>
            intro i o hi ho w' hS
            refine ⟨fun _ _ => trivial, ?_⟩
            have fh := (hS.block _ (by omega)).trans ((hb.block _ hgw).trans K1.out)
            have hi' : i = 0 ∨ i = 1 ∨ i = 2 ∨ i = 3 ∨ i = 4 := by omega
            rcases hi' with rfl | rfl | rfl | rfl | rfl
            all_goals (simp only [List.getElem?_toArray, List.getElem?_cons_succ, List.getElem?_cons_zero, Option.some.injEq] at ho; subst ho)
            case inr.inl =>
              have hl93 := run_loadVar_row (P := Try.prog) w' w.heap.size 93 93 cs (0, 0) _ fh Try.underlying93 rfl HI.out
              simp only [execOp, Act.eval, List.getElem?_toArray, Array.getD_eq_getD_getElem?, List.getElem?_cons_succ, List.getElem?_cons_zero, Option.getD_some, Instr.loadAt, Instr.sureAddr, Sem.run_bind, Sem.run_pure, Result.andThen_ok, hl93]
              exact ⟨rfl, hS⟩
            case inr.inr.inl =>
              go_simp
              refine ⟨fun _ => by omega, callsIn_wide.2 ((ground_any cs p w' C0.out).mono ?_)⟩
              rintro e w'' ⟨rfl, hb'⟩
              exact ⟨_, rfl, rfl, hS.trans (hb'.mono hS.size)⟩
            all_goals go_simp
            all_goals exact ⟨rfl, hS⟩
          case htail =>
            intro w2 hS
            simp only [List.drop_succ_cons, List.drop_zero]
            have hM3 := HMM.out.below hS hgwr
            have qc := hM3.cell (i := f) (j := p) (by omega) (by omega)
            have qf := hM3.frozen (f * 21 + p)
            have HM4 := Lib.hid (hM3.set_ (i := f) (j := p) (by omega) 10000000)
            have hb3 : Below g w1 (w2.setCell ⟨g, f * 21 + p, none⟩ (.int .i64 10000000)) := (hb.trans (hS.mono (by omega))).setCell (Nat.le_refl _) _
            clear hM3
            obtain ⟨w3, hw3⟩ : ∃ w3, w2.setCell ⟨g, f * 21 + p, none⟩ (.int .i64 10000000) = w3 := ⟨_, rfl⟩
            rw [hw3] at HM4 hb3
            have fh := Lib.hid ((hb3.block _ hgw).trans K1.out)
            have hgw3 := HM4.out.lt
            gi_wp2_with fail
            go_wp2_with (first | (refine wpList_load_row rfl 93 (.tmp 1) rfl w.heap.size rfl 93 cs (0, 0) _ fh.out Try.underlying93 rfl HI.out ?_) | (go_at_call 46; refine (ground_any cs p _ C0.out).mono ?_; rintro e w4 ⟨rfl, hb4⟩; have hM5 := HM4.out.below hb4 hgw3; have qc4 := hM5.cell (i := p) (j := f) (by omega) (by omega); have qf4 := hM5.frozen (p * 21 + f); have HM5 := Lib.hid hM5; clear hM5))
            go_roundg k1
            case rel => exact ⟨f + 1, by have := HFK.out; have := HK1.out; omega, by go_num, by have h := HM5.out.set_ (i := p) (j := f) (by omega) 10000000; rw [B2_end hlt] at h; exact h, (hb3.trans (hb4.mono (by omega))).setCell (Nat.le_refl _) _⟩
            case measure => have := HK1.out; omega
    · have hfp : f = p := by omega
      have HMP : Hid (MatAt wr g (B1 p p)) := by have h := HM1.out; rw [hfp] at h; exact h
      have fh := Lib.hid ((hb.block _ hgw).trans K1.out)
      clear hfk hfp
      go_wp2_with (first | (refine wpList_load_row rfl 93 (.tmp 1) rfl w.heap.size rfl 93 cs (0, 0) _ fh.out Try.underlying93 rfl HI.out ?_) | (go_at_call 61; refine (readings_any cs _).mono ?_; rintro e w5 ⟨rfl, rfl⟩))
      obtain ⟨w6, hw6⟩ : ∃ w6, wr.alloc (.cells cs 93) = w6 := ⟨_, rfl⟩
      rw [hw6]
      obtain ⟨Bn, hBn⟩ : ∃ Bn, wr.heap.size = Bn := ⟨_, rfl⟩
      rw [hBn]
      have hz6 : w6.heap.size = Bn + 1 := by rw [← hw6, ← hBn]; simp
      have hgB : g < Bn := by have := HMP.out.lt; omega
      have hb6 : Below w.heap.size w w6 := by rw [← hw6]; exact (hb1.trans (hb.mono (by omega))).alloc (by omega) _
      have hM6 : MatAt w6 g (B1 p p) := by rw [← hw6]; exact (Below.heap_alloc _ _ _ (by omega)).trans HMP.out
      have h61 : w6.heap[w.heap.size]? = some (.cells cs 93 (0, 0)) := by rw [← hw6]; exact (Below.heap_alloc _ _ _ (by omega)).trans fh.out
      have h62 : w6.heap[w.heap.size + 1]? = some (.cells Try.zeroCells96 96 (0, 0)) := by rw [← hw6]; exact (Below.heap_alloc _ _ _ (by omega)).trans ((hb.block _ hgw1).trans K2.out)
      have h63 : w6.heap[Bn]? = some (.cells cs 93 (0, 0)) := by rw [← hw6, ← hBn]; exact heap_alloc_new _ _
      have hKw : WkAt w6 w.heap.size cs s := HK.out.below hb6
      clear hw6 hb hlt fh m0
      refine wp_rangeH (gf := 73) (lb := #[.pointer (some ⟨Bn, 0, none⟩)]) rfl (enters_of Try.func73 (by kernel_rfl) rfl)
        (readings_stops (fun x : Rdg p => rdV x.1) (rdOf p s) 2 (by omega) Bn w.heap.size cs s (fun k hk => by unfold rdOf; rw [dif_pos (HRD.out k hk)]) hl1 hl2 w6 (by omega) h63 hKw)
        kpB_t (kpB_b (by omega) (by omega)) (fun _ => rfl)
        (fun pre W => (((MatAt W g (matOf p out wider pre) ∧ W.heap[w.heap.size]? = some (.cells cs 93 (0, 0))) ∧ W.heap[w.heap.size + 1]? = some (.cells Try.zeroCells96 96 (0, 0))) ∧ W.heap[Bn]? = some (.cells cs 93 (0, 0))) ∧ Below w.heap.size w W)
        (fun _ _ _ => False)
        (OwnFrom.and (fun pre X Y row hs hg hr => ⟨⟨⟨cells_from hg hr hs.1.1.1, cells_from hg hr hs.1.1.2⟩, cells_from hg hr hs.1.2⟩, cells_from hg hr hs.2⟩) (ownFrom_below (Nat.le_refl _) (by omega)))
        (fun _ _ _ _ _ hs _ _ => hs)
        ⟨⟨⟨⟨hM6, h61⟩, h62⟩, h63⟩, hb6⟩
        (fun a x a' W => ∃ Bx, g < Bx ∧ W.heap[Bx]? = some (.cells #[.int .i64 x.1.2.f, .int .i64 x.1.2.t, .int .i64 x.1.2.lo, .int .i64 x.1.2.hi] 127 (0, 0)) ∧
          a' = { tmps := (((a.tmps.setIfInBounds 41 (.int .i64 (x.1.1 : Int))).setIfInBounds 42 (.agg #[.int .i64 x.1.2.f, .int .i64 x.1.2.t, .int .i64 x.1.2.lo, .int .i64 x.1.2.hi])).setIfInBounds 6 (.int .i64 (x.1.1 : Int))).setIfInBounds 7 (.pointer (some ⟨Bx, 0, none⟩)), defers := [] })
        (fun x a' _ X Y row hs hg hr => by obtain ⟨Bx, h1, h2, h3⟩ := hs; exact ⟨Bx, h1, cells_from hg hr h2, h3⟩)
        ?assign ?body ?done ?stop
      case stop =>
        intro D c pre W _ _ h _
        exact h.elim
      case assign =>
        rintro l pre x W K ⟨⟨⟨⟨i1, i2⟩, i3⟩, i4⟩, i5⟩ hK
        have HK7 := Lib.hid hK
        have I1 := Lib.hid i1
        have I2 := Lib.hid i2
        have I3 := Lib.hid i3
        have I4 := Lib.hid i4
        have hgl := i1.lt
        clear hK i1 i2 i3 i4
        dsimp only [rdV]
        gi_wp2
        refine HK7.out _ _ ((KeepsOthers.alloc _ _).from _) ⟨(Below.refl _ W).alloc i5.size _, Below.heap_alloc _ _ _ (by have := (Array.getElem?_eq_some_iff.1 I4.out).1; exact this)⟩
          ⟨⟨⟨⟨(Below.heap_alloc _ _ _ hgl).trans I1.out, (Below.heap_alloc _ _ _ (by omega)).trans I2.out⟩, (Below.heap_alloc _ _ _ (by omega)).trans I3.out⟩, (Below.heap_alloc _ _ _ (by have := (Array.getElem?_eq_some_iff.1 I4.out).1; exact this)).trans I4.out⟩, i5.alloc i5.size _⟩
          ⟨W.heap.size, hgl, heap_alloc_new _ _, rfl⟩
      case body =>
        rintro l pre ⟨⟨k, ⟨xf, xt, lo, hi⟩⟩, hx⟩ a' W hl ⟨r, hr⟩ ⟨⟨⟨⟨i1, i2⟩, i3⟩, i4⟩, i5⟩ ⟨Bx, hBx, bX, rfl⟩ hlt
        unfold rokB at hx
        rw [decide_eq_true_eq] at hx
        obtain ⟨hk80, f0, f1, t0, t1, lo1, lo2, hi1, hi2⟩ := hx
        dsimp only at hk80 f0 f1 t0 t1 lo1 lo2 hi1 hi2 bX
        obtain ⟨fa, rfl⟩ := Int.eq_ofNat_of_zero_le f0
        obtain ⟨tb, rfl⟩ := Int.eq_ofNat_of_zero_le t0
        have q6 : W.cell? ⟨w.heap.size, 4 + k, none⟩ = some (.bool (out k)) := by rw [cell_of_row _ _ _ _ _ _ i2]; exact HOUT.out k hk80
        have q84 : W.cell? ⟨w.heap.size, 84, none⟩ = some (.int .i64 wider) := by rw [cell_of_row _ _ _ _ _ _ i2]; exact HWID.out
        have x0 : W.cell? ⟨Bx, 0, none⟩ = some (.int .i64 (fa : Int)) := by rw [cell_of_row _ _ _ _ _ _ bX]; rfl
        have x1 : W.cell? ⟨Bx, 1, none⟩ = some (.int .i64 (tb : Int)) := by rw [cell_of_row _ _ _ _ _ _ bX]; rfl
        have x2 : W.cell? ⟨Bx, 2, none⟩ = some (.int .i64 lo) := by rw [cell_of_row _ _ _ _ _ _ bX]; rfl
        have x3 : W.cell? ⟨Bx, 3, none⟩ = some (.int .i64 hi) := by rw [cell_of_row _ _ _ _ _ _ bX]; rfl
        have em := matOf_snoc p out wider pre ⟨(k, ⟨fa, tb, lo, hi⟩), by unfold rokB; rw [decide_eq_true_eq]; exact ⟨hk80, f0, f1, t0, t1, lo1, lo2, hi1, hi2⟩⟩
        have EM := Lib.hid em
        have I1 := Lib.hid i1
        have I2 := Lib.hid i2
        have I3 := Lib.hid i3
        have I4 := Lib.hid i4
        have BX := Lib.hid bX
        have HR := Lib.hid hr
        clear i1 i2 i3 i4 bX em hr
        have fa21 : (fa : Int) < 21 := by omega
        have tb21 : (tb : Int) < 21 := by omega
        have hk80I : (k : Int) < 80 := by omega
        cases ho : out k
        · rw [ho] at q6
          gi_wp2_with fail
          have d1 := I1.out.cell (i := fa) (j := tb) (by omega) (by omega)
          generalize hDD : matOf p out wider pre = DD at *
          generalize hd1 : DD fa tb = y1 at d1
          have HDD := Lib.hid hDD
          have HD1 := Lib.hid hd1
          clear hDD hd1
          refine wpIn_region_still (by kernel_rfl) 24 (by kernel_rfl) (by omega) (by kernel_rfl) _ _ ?_
          simp only [List.take_succ_cons, List.take_zero, List.drop_succ_cons, List.drop_zero]
          have hwr : IntKind.i64.wrap (hi + wider) = hi + wider := IntWalk.i64_in _ (by omega)
          repeat (refine stillL_step (fun K' hK' => ?_); go_simp; refine hK' _ ?_; clear hK')
          refine stillL_nil ?_
          clear hwr
          obtain ⟨m1, hm1⟩ : ∃ m1, (if hi + wider < y1 then hi + wider else y1) = m1 := ⟨_, rfl⟩
          rw [hm1]
          have e1 : min (DD fa tb) (hi + wider) = m1 := by rw [HD1.out, ← hm1, Int.min_def]; split <;> split <;> omega
          obtain ⟨w2, hw2⟩ : ∃ w2, (W.setCell ⟨g, fa * 21 + tb, none⟩ (.int .i64 m1)).drew = w2 := ⟨_, rfl⟩
          have hM2 : MatAt w2 g (upd DD fa tb m1) := by rw [← hw2]; exact I1.out.set_ (i := fa) (j := tb) (by omega) m1
          have hoth : ∀ b, b ≠ g → w2.heap[b]? = W.heap[b]? := fun b hb => by rw [← hw2]; exact heap_setCell_other W _ b _ hb
          have d2 := hM2.cell (i := tb) (j := fa) (by omega) (by omega)
          have z84 : w2.cell? ⟨w.heap.size, 84, none⟩ = some (.int .i64 wider) := by rw [cell_of_row _ _ _ _ _ _ ((hoth _ (by omega)).trans I2.out)]; exact HWID.out
          have bX2 := (hoth Bx (by omega)).trans BX.out
          have z0 : w2.cell? ⟨Bx, 0, none⟩ = some (.int .i64 (fa : Int)) := by rw [cell_of_row _ _ _ _ _ _ bX2]; rfl
          have z1 : w2.cell? ⟨Bx, 1, none⟩ = some (.int .i64 (tb : Int)) := by rw [cell_of_row _ _ _ _ _ _ bX2]; rfl
          have z2 : w2.cell? ⟨Bx, 2, none⟩ = some (.int .i64 lo) := by rw [cell_of_row _ _ _ _ _ _ bX2]; rfl
          have HM2 := Lib.hid hM2
          have HO2 := Lib.hid hoth
          have HE1 := Lib.hid e1
          have qf1 := I1.out.frozen (fa * 21 + tb)
          have hkf2 : KeepsFrom w6.heap.size W w2 := by rw [← hw2]; exact ((KeepsOthers.setCell _ _ _).trans (KeepsOthers.drew _)).from _
          have hbl2 : Below w.heap.size W w2 := by rw [← hw2]; exact ((Below.refl _ _).setCell (p := ⟨g, fa * 21 + tb, none⟩) (by show _ ≤ g; omega) _).drew
          clear hm1 hM2 hoth bX2 e1
          gi_wp2_with fail
          clear x0 x1 x2 x3 q6 q84 d1 qf1 hw2
          generalize hD2 : upd DD fa tb m1 tb fa = y2 at d2
          have HD2 := Lib.hid hD2
          clear hD2
          refine wpIn_region_still (by kernel_rfl) 24 (by kernel_rfl) (by omega) (by kernel_rfl) _ _ ?_
          simp only [List.take_succ_cons, List.take_zero, List.drop_succ_cons, List.drop_zero]
          have hwr : IntKind.i64.wrap (wider - lo) = wider - lo := IntWalk.i64_in _ (by omega)
          repeat (refine stillL_step (fun K' hK' => ?_); go_simp; refine hK' _ ?_; clear hK')
          refine stillL_nil ?_
          clear hwr
          obtain ⟨m2, hm2⟩ : ∃ m2, (if wider - lo < y2 then wider - lo else y2) = m2 := ⟨_, rfl⟩
          rw [hm2]
          have e2 : min (upd DD fa tb m1 tb fa) (wider - lo) = m2 := by rw [HD2.out, ← hm2, Int.min_def]; split <;> split <;> omega
          have HE2 := Lib.hid e2
          have qf2 := HM2.out.frozen (tb * 21 + fa)
          clear hm2 e2
          gi_wp2_with fail
          have hf : ∀ b, b ≠ g → ((w2.setCell ⟨g, tb * 21 + fa, none⟩ (.int .i64 m2)).drew).heap[b]? = W.heap[b]? := fun b hb => (heap_setCell_other w2 _ b _ hb).trans (HO2.out b hb)
          have hM3 : MatAt ((w2.setCell ⟨g, tb * 21 + fa, none⟩ (.int .i64 m2)).drew) g (matOf p out wider (pre ++ [⟨(k, ⟨fa, tb, lo, hi⟩), hx⟩])) := by
            have h := HM2.out.set_ (i := tb) (j := fa) (by omega) m2
            rw [EM.out]
            unfold addRd
            simp only [ho, Int.toNat_natCast, Bool.false_eq_true, if_false]
            rw [HE1.out, HE2.out]
            exact h
          have hkb : Below w.heap.size W ((w2.setCell ⟨g, tb * 21 + fa, none⟩ (.int .i64 m2)).drew) := (hbl2.setCell (p := ⟨g, tb * 21 + fa, none⟩) (by show _ ≤ g; omega) _).drew
          exact ⟨hkf2.trans (((KeepsOthers.setCell _ _ _).trans (KeepsOthers.drew _)).from _), ⟨hkb, hf Bn (by omega)⟩, ⟨⟨⟨hM3, (hf _ (by omega)).trans I2.out⟩, (hf _ (by omega)).trans I3.out⟩, (hf _ (by omega)).trans I4.out⟩, i5.trans hkb⟩
        · rw [ho] at q6
          gi_wp2_with fail
          refine ⟨KeepsFrom.refl _ _, ⟨Below.refl _ _, rfl⟩, ⟨⟨⟨?_, I2.out⟩, I3.out⟩, I4.out⟩, i5⟩
          rw [EM.out]
          unfold addRd
          rw [ho]
          exact I1.out
      case done =>
        rintro D' ys W hD rfl ⟨⟨⟨⟨i1, i2⟩, i3⟩, i4⟩, i5⟩ hKD
        have I1 := Lib.hid i1
        have I3 := Lib.hid i3
        have HKD := Lib.hid hKD
        clear i1 i2 i3 i4 hKD
        generalize hR : matOf p out wider (upto (rdOf p s) (s.shots.length + s.marks.length)) = R at *
        have HRR := Lib.hid hR
        clear hR
        go_wp2_with (first | (refine wpList_load_row rfl 96 (.tmp 3) rfl g rfl 96 (matV R) (0, 0) _ I1.out Try.underlying96 rfl (info96 _) ?_) | (refine wpList_store_row rfl 96 (.tmp 2) (.tmp 96) rfl (w.heap.size + 1) (matV R) rfl rfl 96 Try.zeroCells96 I3.out (info96 R) (zero96_size R) (matV_one R) ?_))
        have hKD2 : (W.setRow (w.heap.size + 1) (matV R)).heap[D']? = some (.deferred (some [])) := by
          simp only [World.setRow, Array.getElem?_modify]
          rw [if_neg (by omega)]
          exact HKD.out
        refine ⟨by simp, .inl ⟨_, _, rfl, run_takeDeferred hKD2, ?_⟩⟩
        refine ⟨_, results_cell_row Try.results71 _ _ (w.heap.size + 1) 96 (matV R) (0, 0) _ rfl (cells_putObj hKD2 rfl (setRow_heap _ _ _ _ _ _ I3.out)) Try.underlying96 rfl (info96 _), by rw [HRR.out], ?_⟩
        exact (Below.setRow i5 (by omega) _).trans (belowK_b (w := w) (Nat.le_refl _) _ D' _ _ (by omega) hKD2 rfl rfl)

end Go.Proofs.Ytaoonfmcimkmhaa
