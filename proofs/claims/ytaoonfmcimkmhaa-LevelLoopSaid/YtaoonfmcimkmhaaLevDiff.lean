/- work.differences computes fw of the matrix of single bounds, if these are small and 0 on the diagonal. -/
import Derived.Test.YtaoonfmcimkmhaaLevFw
import Derived.BigRegion
import Derived.Deep.LoopGhost
namespace Go.Proofs.Ytaoonfmcimkmhaa
open Go.RowKit

/-- work.single as a contract that a caller may have: of these arguments it returns this matrix. -/
def SingleIs (cs : Array Value) (w0 : World) (D : Nat → Nat → Int) : Prop := ∀ w, Below w0.heap.size w0 w → Calls Try.prog 71 #[.agg cs] w fun e w' => e = .returned (.agg (matV D)) ∧ Below w.heap.size w w'

theorem resDiff (tmps : Array Value) (W : World) (g : Nat) (D : Nat → Nat → Int) (b : Value) (h1 : tmps.getD 2 undef = .pointer (some ⟨g, 0, none⟩)) (h2 : tmps.getD 3 undef = b) (hM : MatAt W g D) :
    (results Try.f44 tmps).run Try.prog W = .ok (.tuple #[.agg (matV D), b]) W := by
  rw [results_cell_tmp Try.results44, h1, h2]
  simp only [asAddr, Sem.run_pure, Result.andThen_ok]
  rw [run_loadVar_row W g _ _ (matV D) (0, 0) _ hM Try.underlying96 rfl (info96 D)]
  rfl

set_option maxHeartbeats 1000000 in
set_option maxRecDepth 100000 in
theorem diff_any (cs : Array Value) (p : Nat) (w : World) (D : Nat → Nat → Int) (hcs : cs.size = 85) (h0 : cs[0]? = some (.int .i64 p)) (hp : p ≤ 20) (hS : SingleIs cs w D) (hD : Small (p + 1) 100000000 D) :
    Calls Try.prog 44 #[.agg cs] w fun e w' => e = .returned (.tuple #[.agg (matV (fw (p + 1) D).1), .bool (fw (p + 1) D).2]) ∧ Below w.heap.size w w' := by
  have HS := Lib.hid hS
  clear hS
  have HI : Hid ((Try.prog.info? 93).map (·.size) = some cs.size) := by rw [hcs]; exact info93
  have HG : Hid (((w.alloc (Obj.cells cs 93)).alloc (Obj.cells Try.zeroCells96 96)).heap[w.heap.size]? = some (.cells cs 93 (0, 0))) := heap_alloc2_old w _ _
  have HC := Lib.hid hcs
  have H0 := Lib.hid h0
  have HD := Lib.hid hD
  clear hcs h0 hD
  go_enter Try.func44, Try.ntmps44
  go_wp2
  go_step3
  go_wp2_with (first | (refine wpList_load_row rfl 93 (.tmp 1) rfl w.heap.size rfl 93 cs (0, 0) _ HG.out Try.underlying93 rfl HI.out ?_) | (go_at_call 71; refine (HS.out _ (by go_grown)).mono ?_; rintro e w' ⟨rfl, hb1⟩) | (refine wpList_store_row rfl 96 (.tmp 4) (.tmp 10) rfl w'.heap.size (matV D) rfl rfl 96 Try.zeroCells96 (heap_alloc_new _ _) (info96 D) (zero96_size D) (matV_one D) ?_; rw [World.setRow_alloc_new]))
  go_step3
  obtain ⟨w1, hw1⟩ : ∃ w1, w'.alloc (.cells (matV D) 96) = w1 := ⟨_, rfl⟩
  obtain ⟨g, hg⟩ : ∃ g, w'.heap.size = g := ⟨_, rfl⟩
  rw [hw1, hg]
  have hz1 := hb1.size
  simp at hz1
  rw [hg] at hz1
  have hM : MatAt w1 g D := by rw [← hw1, ← hg]; exact MatAt.new _ _
  have hb2 : Below g w' w1 := by rw [← hw1, ← hg]; exact (Below.refl _ _).alloc (Nat.le_refl _) _
  have k0 : w1.cell? ⟨w.heap.size, 0, none⟩ = some (.int .i64 p) := by
    rw [hb2.cell (p := ⟨w.heap.size, 0, none⟩) (by simp; omega), hb1.cell (p := ⟨w.heap.size, 0, none⟩) (by simp; omega), cell_of_row _ _ _ _ _ _ HG.out]
    exact H0.out
  have k2 : w1.heap[w.heap.size + 1]? = some (.cells Try.zeroCells96 96 (0, 0)) := by
    rw [hb2.block _ (by omega), hb1.block _ (by simp)]
    exact heap_alloc2_new w _ _
  have K2 := Lib.hid k2
  clear k2
  have hz2 : w1.heap.size = g + 1 := by rw [← hw1, ← hg]; simp
  have HM := Lib.hid hM
  have HW := Lib.hid hw1
  have HZ := Lib.hid hz2
  have HGG := Lib.hid hg
  clear hM hw1 hz2 hg
  go_wp2_with fail
  go_loopg [5, 15] (p + 1) (fun k v5 v15 W => ∃ (o : Nat) (E : Nat → Nat → Int), o + k = p + 1 ∧ v5 = .bool true ∧ v15 = .int .i64 o ∧ MatAt W g E ∧ Small (p + 1) (pow2 o) E ∧ goO (p + 1) k o E = fw (p + 1) D ∧ Below g w1 W)
  case atStart => exact ⟨0, D, by omega, rfl, rfl, HM.out, HD.out, rfl, Below.refl _ _⟩
  case round =>
    obtain ⟨o, E, hok, rfl, rfl, hM, hE, hgo, hb⟩ := hrel
    have HM1 := Lib.hid hM
    have HE := Lib.hid hE
    have HGO := Lib.hid hgo
    have HOK := Lib.hid hok
    clear hM hE hgo
    have m0 := (hb.cell (p := ⟨w.heap.size, 0, none⟩) (by show w.heap.size < g; omega)).trans k0
    by_cases hlt : o < p + 1
    · clear hok
      have hltI : (o : Int) < (p : Int) + 1 := by omega
      go_wp2_with fail
      obtain ⟨k1, hk1⟩ : ∃ k1, gk = k1 + 1 := ⟨gk - 1, by have := HOK.out; omega⟩
      have HK1 := Lib.hid hk1
      clear hk1
      go_loopg [5, 22] (p + 1) (fun k v5 v22 W => ∃ (i : Nat) (F : Nat → Nat → Int), i + k = p + 1 ∧ v5 = .bool true ∧ v22 = .int .i64 i ∧ MatAt W g F ∧ Phase (p + 1) o (pow2 o) F ∧ goI o (p + 1) k i F = goI o (p + 1) (p + 1) 0 E ∧ Below g w1 W)
      case atStart => exact ⟨0, E, by omega, rfl, rfl, HM1.out, Phase.of HE.out hlt, rfl, hb⟩
      case round =>
        clear hb
        obtain ⟨i, F, hik, rfl, rfl, hM, hF, hgi, hb⟩ := hrel
        have HM2 := Lib.hid hM
        have HF := Lib.hid hF
        have HGI := Lib.hid hgi
        have HIK := Lib.hid hik
        clear hM hF hgi m0
        have m0 := (hb.cell (p := ⟨w.heap.size, 0, none⟩) (by show w.heap.size < g; omega)).trans k0
        by_cases hlt2 : i < p + 1
        · clear hik
          have hltI2 : (i : Int) < (p : Int) + 1 := by omega
          go_wp2_with fail
          obtain ⟨k2, hk2⟩ : ∃ k2, gk = k2 + 1 := ⟨gk - 1, by have := HIK.out; omega⟩
          have HK2 := Lib.hid hk2
          clear hk2
          go_loopg [5, 29] (p + 1) (fun k v5 v29 W => ∃ (j : Nat) (G : Nat → Nat → Int), j + k = p + 1 ∧ v5 = .bool true ∧ v29 = .int .i64 j ∧ MatAt W g G ∧ Phase (p + 1) o (pow2 o) G ∧ goJ o i k j G = goJ o i (p + 1) 0 F ∧ Below g w1 W)
          case atStart => exact ⟨0, F, by omega, rfl, rfl, HM2.out, HF.out, rfl, hb⟩
          case round =>
            clear hb
            obtain ⟨j, G, hjk, rfl, rfl, hM, hG, hgj, hb⟩ := hrel
            have HM3 := Lib.hid hM
            have HGG2 := Lib.hid hG
            have HGJ := Lib.hid hgj
            have HJK := Lib.hid hjk
            clear hgj m0
            have hp2 := pow2_le (n := o) (by omega)
            by_cases hlt3 : j < p + 1
            · obtain ⟨k3, hk3⟩ : ∃ k3, gk = k3 + 1 := ⟨gk - 1, by omega⟩
              have HK3 := Lib.hid hk3
              clear hjk hk3
              have q1 := hM.cell (i := i) (j := j) (by omega) (by omega)
              have q2 := hM.cell (i := i) (j := o) (by omega) (by omega)
              have q3 := hM.cell (i := o) (j := j) (by omega) (by omega)
              have qf := hM.frozen (i * 21 + j)
              have b1 := hG.2 i hlt2
              have b2 := hG.2 j hlt3
              have b3 := hG.1.2 i j hlt2 hlt3
              clear hM hG
              have z1 : G i j = G i j := rfl
              obtain ⟨x, hx⟩ : ∃ x, G i j = x := ⟨_, rfl⟩
              obtain ⟨y, hy⟩ : ∃ y, G i o = y := ⟨_, rfl⟩
              obtain ⟨z, hz⟩ : ∃ z, G o j = z := ⟨_, rfl⟩
              rw [hx] at q1 b3
              rw [hy] at q2 b1
              rw [hz] at q3 b2
              have HX := Lib.hid hx
              have HY := Lib.hid hy
              have HZZ := Lib.hid hz
              clear hx hy hz z1
              obtain ⟨b1a, b1b, _⟩ := b1
              obtain ⟨_, _, b2a, b2b⟩ := b2
              obtain ⟨wo, rfl⟩ : ∃ wo : World, wo = wr := ⟨_, rfl⟩
              go_wp2_with fail
              go_region
              obtain ⟨m, hm⟩ : ∃ m, (if y + z < x then y + z else x) = m := ⟨_, rfl⟩
              rw [hm]
              obtain ⟨wn, hwn⟩ : ∃ wn, (wo.setCell ⟨g, i * 21 + j, none⟩ (.int .i64 m)).drew = wn := ⟨_, rfl⟩
              rw [hwn]
              have em : relax o i j G = upd G i j m := by
                unfold relax
                rw [HX.out, HY.out, HZZ.out, ← hm]
                congr 1
                rw [Int.min_def]
                split <;> split <;> omega
              have hMn : MatAt wn g (relax o i j G) := by rw [em, ← hwn]; exact (HM3.out.set_ (i := i) (j := j) (by omega) m)
              have hbn : Below g w1 wn := by rw [← hwn]; exact (hb.setCell (Nat.le_refl _) _).drew
              have r1 := hMn.cell (i := i) (j := i) (by omega) (by omega)
              have m1 := (hbn.cell (p := ⟨w.heap.size, 0, none⟩) (by show w.heap.size < g; omega)).trans k0
              have HMN := Lib.hid hMn
              clear hm hwn em hMn q1 q2 q3 qf
              obtain ⟨r, hr⟩ : ∃ r, relax o i j G i i = r := ⟨_, rfl⟩
              rw [hr] at r1
              by_cases hneg : r < 0
              · have eJ := goJ_stop (o := o) (i := i) (k := k3) (j := j) (G := G) (by rw [hr]; exact hneg)
                rw [← HK3.out, HGJ.out] at eJ
                have eI := goI_stop (o := o) (n := p + 1) (i := i) (k := k2) eJ
                rw [← HK2.out, HGI.out] at eI
                have eO := goO_stop (n := p + 1) (o := o) (k := k1) eI
                rw [← HK1.out, HGO.out] at eO
                have EO := Lib.hid eO
                clear eJ eI eO hr
                have HRX := Lib.hid ((hbn.block _ (by omega)).trans K2.out)
                generalize hRR : relax o i j G = RR at *
                have HMX := HMN
                go_wp2_with (first | (refine wpList_load_row rfl 96 (.tmp 4) rfl g rfl 96 (matV RR) (0, 0) _ HMX.out Try.underlying96 rfl (info96 _) ?_) | (refine wpList_store_row rfl 96 (.tmp 2) (.tmp 62) rfl (w.heap.size + 1) (matV RR) rfl rfl 96 Try.zeroCells96 HRX.out (info96 RR) (zero96_size RR) (matV_one RR) ?_))
                rw [Exit.noGoto_ret]
                refine bodyPost_ret (resDiff _ _ (w.heap.size + 1) RR (.bool false) rfl rfl (setRow_heap _ _ _ _ _ _ HRX.out)) rfl ?_
                exact ⟨by rw [EO.out], by (repeat' (first | (with_reducible exact Below.refl _ _) | (with_reducible refine Below.alloc ?_ ?_ _) | (with_reducible refine Below.drew ?_) | (with_reducible refine Below.drewN_ ?_ _) | (with_reducible refine Below.setCell ?_ ?_ _) | (with_reducible refine Below.setRow ?_ ?_ _) | (with_reducible refine Below.via ?_ (by with_reducible assumption) ?_) | go_size))⟩
              · have eJ := goJ_go (o := o) (i := i) (k := k3) (j := j) (G := G) (by rw [hr]; exact hneg)
                rw [← HK3.out, HGJ.out] at eJ
                have EJ := Lib.hid eJ
                have HR := Lib.hid hr
                clear eJ hr
                go_wp2_with fail
                go_roundg k3
                case rel =>
                  exact ⟨j + 1, relax o i j G, by have := HJK.out; have := HK3.out; omega, rfl, by go_num, HMN.out, HGG2.out.relax hlt hlt2 hlt3 (by rw [HR.out]; omega), EJ.out.symm, hbn⟩
                case measure => have := HK3.out; omega
            · have eJ := HGJ.out
              obtain rfl : gk = 0 := by omega
              have eI := goI_go (o := o) (n := p + 1) (i := i) (k := k2) (F := F) (R := G) eJ.symm
              rw [← HK2.out, HGI.out] at eI
              have EI := Lib.hid eI
              clear eJ eI hM hG hjk
              go_wp2_with fail
              go_roundg k2
              case rel => exact ⟨i + 1, G, by have := HIK.out; have := HK2.out; omega, rfl, by go_num, HM3.out, HGG2.out, EI.out.symm, hb⟩
              case measure => have := HK2.out; omega
        · have eI := HGI.out
          obtain rfl : gk = 0 := by omega
          have eO := goO_go (n := p + 1) (o := o) (k := k1) (F := E) (R := F) eI.symm
          rw [← HK1.out, HGO.out] at eO
          have EO := Lib.hid eO
          clear eI eO hik
          go_wp2_with fail
          go_roundg k1
          case rel => exact ⟨o + 1, F, by have := HOK.out; have := HK1.out; omega, rfl, by go_num, HM2.out, HF.out.1, EO.out.symm, hb⟩
          case measure => have := HK1.out; omega
    · have eO := HGO.out
      obtain rfl : gk = 0 := by omega
      have EO : Hid ((E, true) = fw (p + 1) D) := eO
      have HRX := Lib.hid ((hb.block _ (by omega)).trans K2.out)
      have HMX := HM1
      clear eO hok
      go_wp2_with (first | (refine wpList_load_row rfl 96 (.tmp 4) rfl g rfl 96 (matV E) (0, 0) _ HMX.out Try.underlying96 rfl (info96 _) ?_) | (refine wpList_store_row rfl 96 (.tmp 2) (.tmp 62) rfl (w.heap.size + 1) (matV E) rfl rfl 96 Try.zeroCells96 HRX.out (info96 E) (zero96_size E) (matV_one E) ?_))
      rw [Exit.noGoto_ret]
      refine bodyPost_ret (resDiff _ _ (w.heap.size + 1) E (.bool true) rfl rfl (setRow_heap _ _ _ _ _ _ HRX.out)) rfl ?_
      exact ⟨by rw [← EO.out], by (repeat' (first | (with_reducible exact Below.refl _ _) | (with_reducible refine Below.alloc ?_ ?_ _) | (with_reducible refine Below.drew ?_) | (with_reducible refine Below.drewN_ ?_ _) | (with_reducible refine Below.setCell ?_ ?_ _) | (with_reducible refine Below.setRow ?_ ?_ _) | (with_reducible refine Below.via ?_ (by with_reducible assumption) ?_) | go_size))⟩

end Go.Proofs.Ytaoonfmcimkmhaa
