/- open: the market of needs and rents. -/
import Derived.Test.YtjkefoijhphknaaMkOpenM
import Derived.Laws.CopyOwn
import Derived.Test.YtjkefoijhphknaaSaAfterB
import Derived.Test.YtjkefoijhphknaaMkSort
namespace Go.Proofs.Ytjkefoijhphknaa
open Go.RowKit Go.IntWalk Go.Shelf Go.Sort

def mkZ : Mk := ⟨[], [], fun _ => 0, fun _ => 0⟩

theorem resOpen (tmps : Array Value) (W : World) (g : Nat) (m : Mk) (A1 : Option Addr) (c1 : Nat) (A2 : Option Addr) (c2 : Nat) (e : Value) (h1 : tmps.getD 4 undef = .pointer (some ⟨g, 0, none⟩)) (h2 : tmps.getD 5 undef = e) (hM : W.heap[g]? = some (.cells (mkA m A1 c1 A2 c2) 114 (0, 0))) :
    (results Try.f56 tmps).run Try.prog W = .ok (.tuple #[.agg (mkA m A1 c1 A2 c2), e]) W := by
  rw [results_cell_tmp Try.results56, h1, h2]
  simp only [asAddr, Sem.run_pure, Result.andThen_ok]
  rw [run_loadVar_row W g _ _ (mkA m A1 c1 A2 c2) (0, 0) _ hM Try.underlying114 rfl (infoMk _ _ _ _ _)]
  rfl

set_option maxRecDepth 100000 in
set_option maxHeartbeats 4000000 in
theorem open_bad (xs : List Int) (rs : List Re) (A1 : Option Addr) (c1 : Nat) (A2 : Option Addr) (c2 : Nat) (w : World) (r1 : Rd w w.heap.size A1 inV 1 xs) (r2 : Rd w w.heap.size A2 reV 3 rs) (rf : ReAt w w.heap.size rs) (hl1 : xs.length ≤ 1000) (hl2 : rs.length ≤ 1000000000)
    (hbad : (needsB xs && rentsB xs.length rs) = false) :
    Calls Try.prog 56 #[.slice A1 xs.length c1, .slice A2 rs.length c2] w fun e w' => e = .returned (.tuple #[.agg (mkA mkZ none 0 none 0), .int .i64 62]) ∧ Below w.heap.size w w' := by
  have HN := Lib.hid (fun W (hW : Below w.heap.size w W) => areNeeds_any xs A1 c1 W ((r1.below hW).more hW.size) (by omega))
  have HR := Lib.hid (fun W (hW : Below w.heap.size w W) => areRents_any rs xs.length A2 c2 W ((r2.below hW).more hW.size) (fun r hr => ⟨((rf r hr).1.below hW).more hW.size, (rf r hr).2⟩) hl2 hl1)
  clear r1 r2 rf
  obtain ⟨w1, hw1⟩ : ∃ w1, ((w.alloc (.cells #[.slice A2 rs.length c2] 54)).alloc (.cells (mkA mkZ none 0 none 0) 114)).alloc (.cells (mkA mkZ none 0 none 0) 114) = w1 := ⟨_, rfl⟩
  have b1 : Below w.heap.size w w1 := by rw [← hw1]; (repeat' (first | (with_reducible exact Below.refl _ _) | (with_reducible refine Below.alloc ?_ ?_ _) | (with_reducible refine Below.drew ?_) | (with_reducible refine Below.drewN_ ?_ _) | (with_reducible refine Below.setCell ?_ ?_ _) | (with_reducible refine Below.setRow ?_ ?_ _) | (with_reducible refine Below.via ?_ (by with_reducible assumption) ?_) | go_size))
  have hz : w1.heap.size = w.heap.size + 3 := by rw [← hw1]; simp
  have e0 : w1.heap[w.heap.size]? = some (.cells #[.slice A2 rs.length c2] 54 (0, 0)) := by
    rw [← hw1]; exact (Below.heap_alloc _ _ _ (by simp; omega)).trans ((Below.heap_alloc _ _ _ (by simp)).trans (heap_alloc_new _ _))
  have e1 : w1.heap[w.heap.size + 1]? = some (.cells (mkA mkZ none 0 none 0) 114 (0, 0)) := by
    rw [← hw1]; exact (Below.heap_alloc _ _ _ (by simp)).trans (heap_alloc2_new _ _ _)
  have e2 : w1.heap[w.heap.size + 2]? = some (.cells (mkA mkZ none 0 none 0) 114 (0, 0)) := by
    rw [← hw1]
    have h := heap_alloc_new ((w.alloc (.cells #[.slice A2 rs.length c2] 54)).alloc (.cells (mkA mkZ none 0 none 0) 114)) (.cells (mkA mkZ none 0 none 0) 114)
    simpa using h
  have HW1 := Lib.hid hw1
  have B1 := Lib.hid b1
  have E0 := Lib.hid e0
  have E1 := Lib.hid e1
  have E2 := Lib.hid e2
  clear hw1 b1 e0 e1 e2
  go_enter Try.func56, Try.ntmps56
  go_upto_region 2 with (fail)
  rw [show ((w.alloc (.cells #[.slice A2 rs.length c2] 54)).alloc (.cells #[.slice none 0 0, .slice none 0 0, .int .i64 0, .int .i64 0, .int .i64 0, .int .i64 0, .int .i64 0, .int .i64 0, .int .i64 0, .int .i64 0, .int .i64 0, .int .i64 0, .int .i64 0, .int .i64 0, .int .i64 0, .int .i64 0, .int .i64 0, .int .i64 0] 114)).alloc (.cells #[.slice none 0 0, .slice none 0 0, .int .i64 0, .int .i64 0, .int .i64 0, .int .i64 0, .int .i64 0, .int .i64 0, .int .i64 0, .int .i64 0, .int .i64 0, .int .i64 0, .int .i64 0, .int .i64 0, .int .i64 0, .int .i64 0, .int .i64 0, .int .i64 0] 114) = w1 from HW1.out]
  have k0 : w1.cell? ⟨w.heap.size, 0, none⟩ = some (.slice A2 rs.length c2) := cell_of_row w1 w.heap.size 0 _ _ _ E0.out
  cases hn : needsB xs
  · have HNF := Lib.hid hn
    clear hn
    go_upto_region 3 with (go_at_call 97; refine (HN.out _ B1.out).mono ?_; rintro e w' ⟨rfl, rfl⟩; rw [HNF.out])
    go_wp2_with (first | (refine wpList_load_row rfl 114 (.tmp 6) rfl (w.heap.size + 2) rfl 114 (mkA mkZ none 0 none 0) (0, 0) _ E2.out Try.underlying114 rfl (infoMk _ _ _ _ _) ?_) | (refine wpList_store_row rfl 114 (.tmp 4) (.tmp 20) rfl (w.heap.size + 1) (mkA mkZ none 0 none 0) rfl rfl 114 (mkA mkZ none 0 none 0) E1.out (infoMk _ _ _ _ _) rfl (mkA_one _ _ _ _ _) ?_))
    refine bodyPost_ret (resOpen _ _ (w.heap.size + 1) mkZ none 0 none 0 (.int .i64 62) rfl rfl (setRow_heap _ _ _ _ _ _ E1.out)) rfl ?_
    exact ⟨rfl, Below.setRow B1.out (by omega) _⟩
  · have HNF := Lib.hid hn
    rw [hn, Bool.true_and] at hbad
    have HRF := Lib.hid hbad
    clear hn hbad
    go_upto_region 3 with (first | (go_at_call 97; refine (HN.out _ B1.out).mono ?_; rintro e w' ⟨rfl, rfl⟩; rw [HNF.out]) | (go_at_call 98; refine (HR.out _ B1.out).mono ?_; rintro e w2 ⟨rfl, hb2⟩; rw [HRF.out]))
    go_wp2_with (first | (refine wpList_load_row rfl 114 (.tmp 6) rfl (w.heap.size + 2) rfl 114 (mkA mkZ none 0 none 0) (0, 0) _ ((hb2.block _ (by omega)).trans E2.out) Try.underlying114 rfl (infoMk _ _ _ _ _) ?_) | (refine wpList_store_row rfl 114 (.tmp 4) (.tmp 20) rfl (w.heap.size + 1) (mkA mkZ none 0 none 0) rfl rfl 114 (mkA mkZ none 0 none 0) ((hb2.block _ (by omega)).trans E1.out) (infoMk _ _ _ _ _) rfl (mkA_one _ _ _ _ _) ?_))
    refine bodyPost_ret (resOpen _ _ (w.heap.size + 1) mkZ none 0 none 0 (.int .i64 62) rfl rfl (setRow_heap _ _ _ _ _ _ ((hb2.block _ (by omega)).trans E1.out))) rfl ?_
    exact ⟨rfl, Below.setRow (B1.out.trans (hb2.mono B1.out.size)) (by omega) _⟩

theorem rd_fl {w : World} {B : Nat} {A : Option Addr} {l : List Int} (h : Rd w B A inV 1 l) (h0 : ∀ x ∈ l, 0 ≤ x) : Rd w B A nnV 1 (l.map Int.toNat) := fun hl => by
  obtain ⟨b, o, hA, hb, hc⟩ := h (by simpa using hl)
  refine ⟨b, o, hA, hb, fun k x hx j v hv => ?_⟩
  rw [List.getElem?_map] at hx
  cases e : l[k]? with
  | none => rw [e] at hx; cases hx
  | some y =>
    rw [e] at hx
    injection hx with hx
    subst hx
    refine hc k y e j v ?_
    have hy := h0 y (List.mem_of_getElem? e)
    unfold nnV at hv
    unfold inV
    rw [Int.toNat_of_nonneg hy] at hv
    exact hv
theorem lotV_one (l : Lo) : ∀ u ∈ lotV l, u.oneCell' = true := by intro u hu; unfold lotV at hu; simp at hu; rcases hu with rfl | rfl | rfl | rfl <;> rfl
theorem infoLot : (Try.prog.info? 163).map (fun i => (i.zero, i.size, i.bytes)) = some (some (.agg #[.int .i64 0, .int .i64 0, .slice none 0 0, .int .i64 0]), 4, 48) := by kernel_rfl
theorem info_partsL {o : Option TypeInfo} {z : Value} {a b : Nat} (h : o.map (fun i => (i.zero, i.size, i.bytes)) = some (some z, a, b)) : ∃ i, o = some i ∧ i.zero = some z ∧ i.size = a ∧ i.bytes = b := info_parts' h
theorem rd_row1 {W : World} {g : Nat} {l : Lo} (h : W.heap[g]? = some (.cells #[.int .i64 l.mins, .int .i64 l.price, .slice l.fA l.fn l.fc, .int .i64 (l.whose : Int)] 163 (0, 0))) : Rd W (g + 1) (some ⟨g, 0, none⟩) lotV 4 [l] := fun _ => by
  refine ⟨g, 0, rfl, by omega, fun k x hx j v hv => ?_⟩
  cases k with
  | succ k => simp at hx
  | zero =>
    simp only [List.getElem?_cons_zero, Option.some.injEq] at hx
    subst hx
    refine (cell_of_row W g (0 + 0 * 4 + j) _ _ _ h).trans ?_
    rw [show 0 + 0 * 4 + j = j by omega]
    unfold lotV at hv
    simpa using hv
def ivL (xs : List Int) : List Value := xs.map fun x => .int .i64 x
def mkN (xs : List Int) (rs : List Re) (a b c : Nat) : Mk := ⟨(rs.map loOf).take a, List.range b, neOf xs, fun i => if i < c then miOf rs i else 0⟩
theorem mkN_lots {rs : List Re} {a : Nat} (xs : List Int) (b c : Nat) (h : a ≤ rs.length) : (mkN xs rs a b c).lots.length = a := by
  show ((rs.map loOf).take a).length = a
  rw [List.length_take, List.length_map]
  omega
theorem mkN_dear (xs : List Int) (rs : List Re) (a b c : Nat) : (mkN xs rs a b c).dear.length = b := by
  show (List.range b).length = b
  simp
theorem mkN_set0 {rs : List Re} {a : Nat} (xs : List Int) (b c : Nat) (A1 A2 A3 : Option Addr) (c1 c2 c3 : Nat) (h : a + 1 ≤ rs.length) : (mkA (mkN xs rs a b c) A1 c1 A2 c2).setIfInBounds 0 (.slice A3 (a + 1) c3) = mkA (mkN xs rs (a + 1) b c) A3 c3 A2 c2 := by
  unfold mkA
  rw [mkN_lots xs b c h]
  rfl
theorem mkN_set1 (xs : List Int) (rs : List Re) (a b c : Nat) (A1 A2 A3 : Option Addr) (c1 c2 c3 : Nat) : (mkA (mkN xs rs a b c) A1 c1 A2 c2).setIfInBounds 1 (.slice A3 (b + 1) c3) = mkA (mkN xs rs a (b + 1) c) A1 c1 A3 c3 := by
  unfold mkA
  rw [mkN_dear, mkN_dear]
  rfl
theorem mkN_set2 {c : Nat} (xs : List Int) (rs : List Re) (a b : Nat) (A1 A2 : Option Addr) (c1 c2 : Nat) (h : c < 8) : (mkA (mkN xs rs a b c) A1 c1 A2 c2).setIfInBounds (10 + c) (.int .i64 (miOf rs c)) = mkA (mkN xs rs a b (c + 1)) A1 c1 A2 c2 := by
  rw [mkA_setL _ A1 c1 A2 c2 h]
  unfold mkA mkN
  have e : ∀ i, (if i = c then miOf rs c else if i < c then miOf rs i else 0) = if i < c + 1 then miOf rs i else 0 := fun i => by
    repeat' split
    all_goals first | rfl | omega | (have : i = c := by omega
                                     rw [this])
  simp only [e]
theorem splice_needs (xs : List Int) (rs : List Re) (h : xs.length ≤ 8) : (splice (mkA mkZ none 0 none 0).toList 2 (ivL xs)).toArray = mkA (mkN xs rs 0 0 0) none 0 none 0 := by
  match xs, h with
  | [], _ => rfl
  | [a], _ => rfl
  | [a, b], _ => rfl
  | [a, b, c], _ => rfl
  | [a, b, c, d], _ => rfl
  | [a, b, c, d, e], _ => rfl
  | [a, b, c, d, e, f], _ => rfl
  | [a, b, c, d, e, f, g], _ => rfl
  | [a, b, c, d, e, f, g, i], _ => rfl
  | a :: b :: c :: d :: e :: f :: g :: i :: j :: l, h => simp at h
theorem infoInt1 : (Try.prog.info? 3).map (·.size) = some 1 := by kernel_rfl

theorem mkN_end (xs : List Int) (rs : List Re) (A1 A2 : Option Addr) (c1 c2 : Nat) : mkA (mkN xs rs rs.length rs.length rs.length) A1 c1 A2 c2 = mkA (openM xs rs) A1 c1 A2 c2 := by
  have e : ∀ i, (if i < rs.length then miOf rs i else 0) = miOf rs i := fun i => by
    split
    · rfl
    · rename_i h
      unfold miOf
      rw [List.getElem?_eq_none (by omega)]
      rfl
  have e1 : (mkN xs rs rs.length rs.length rs.length).lots.length = (openM xs rs).lots.length := by rw [mkN_lots xs _ _ (Nat.le_refl _)]; show _ = (rs.map loOf).length; rw [List.length_map]
  have e2 : (mkN xs rs rs.length rs.length rs.length).dear.length = (openM xs rs).dear.length := by rw [mkN_dear]; show _ = (deOf rs).length; rw [deOf_len]
  unfold mkA
  rw [e1, e2]
  unfold mkN openM
  simp only [e]
theorem sort_rs (rs : List Re) (D : Option Addr) (d G B c base : Nat) (A2 : Option Addr) (W : World) (hO : Own W base 3 (.slice D rs.length d) nnV 1 (List.range rs.length)) (hl : rs.length ≤ 8)
    (kG : W.cell? ⟨G, 0, none⟩ = some (.func (.func 100) #[] #[.pointer (some ⟨B, 0, none⟩)])) (k0 : W.cell? ⟨B, 0, none⟩ = some (.slice A2 rs.length c)) (hR : Rd W base A2 reV 3 rs) (hB : B < base) (hG : G < W.heap.size) (hbs : base ≤ W.heap.size) (nG : some G ≠ (Value.slice D rs.length d).ownBlock) :
    Calls Try.prog 102 #[.slice D rs.length d, .func (.func 103) #[] #[.pointer (some ⟨G, 0, none⟩)]] W fun e w' =>
      e = .returned (.tuple #[]) ∧ W.grownBy w' (Value.slice D rs.length d).ownBlock ∧ ∀ w'' : World, (∀ g, (Value.slice D rs.length d).ownBlock = some g → w''.heap[g]? = w'.heap[g]?) → Rd w'' w''.heap.size D nnV 1 (deOf rs) := by
  cases rs with
  | nil => exact (AnyF.slices_SortFunc_none { Try.sortInt with } D d (.func (.func 103) #[] #[.pointer (some ⟨G, 0, none⟩)]) W).mono fun e w' h => ⟨h.1, by rw [h.2]; exact World.grownBy.refl _ _, fun _ _ hl => absurd hl (by simp [deOf])⟩
  | cons r l =>
    obtain ⟨_, ⟨_, h0⟩ | ⟨g, cap, cur, hv, hbg, hg, _⟩⟩ := id hO
    · simp at h0
    · injection hv with hD _ _
      subst hD
      have hgs : g < W.heap.size := (Array.getElem?_eq_some_iff.1 hg).1
      have hgG : G ≠ g := fun e => nG (by rw [e]; rfl)
      have rdo := hO.rd' (by simp) nnV_len
      obtain ⟨rb, ro, rfl, hrb, _⟩ := hR.at_ (k := 0) (by simp)
      have hH : Holds (idV l.length) W g 0 (idsA l.length) := fun j hj => by
        rw [idsA_size] at hj
        obtain ⟨b', o', he, _, hc⟩ := rdo.at_ (k := j) (by simpa using hj)
        injection he with he
        injection he with he1 he2
        subst he1
        subst he2
        have h2 := hc 0 _ rfl
        refine ⟨?_, frozen_of_row W g _ _ _ hg⟩
        have hj2 : j < (idsA l.length).size := by rw [idsA_size]; exact hj
        rw [getElem!_pos (idsA l.length) j hj2]
        simpa [idsA, idV] using h2
      have kp : ∀ i, i < l.length + 1 → W.cell? ⟨rb, ro + i * 3 + 1, none⟩ = some (.int .i64 (prOf (r :: l) i)) := fun i hi => by
        obtain ⟨b', o', he, _, hc⟩ := hR.at_ (k := i) (by simpa using hi)
        injection he with he
        injection he with he1 he2
        subst he1
        subst he2
        have h2 := hc 1 _ rfl
        have e : prOf (r :: l) i = ((r :: l)[i]'(by simpa using hi)).price := by unfold prOf; rw [List.getElem?_eq_getElem (by simpa using hi)]; rfl
        rw [e]
        exact h2
      refine (sort_any (prOf (r :: l)) l.length rb ro c B G g d W (by simp at hl; omega) kG k0 kp hG (by omega) (by omega) hgs hgG (by omega) (by omega) hH).mono ?_
      rintro e w' ⟨rfl, m, os, rfl⟩
      have hcell : ∀ j, j < l.length + 1 → (sortWorld (idV l.length) W g 0 m (dearF (prOf (r :: l)) l.length).toArray os).cell? ⟨g, 0 + j, none⟩ = some (idV l.length ((dearF (prOf (r :: l)) l.length).toArray[j]!)) := fun j hj => by
        have hs : (dearF (prOf (r :: l)) l.length).toArray.size = (idsA l.length).size := by rw [idsA_size]; simp [dearF_len]
        exact (cell?_grow _ _ _ (by simpa using hgs)).trans (cell?_putRow (idV l.length) _ g 0 (idsA l.length) _ hH hs j (by rw [hs, idsA_size]; exact hj))
      refine ⟨rfl, ⟨rfl, rfl, rfl, by simp [sortWorld, grow], fun b hb hne => ?_⟩, fun w'' h'' => ?_⟩
      · have hbg2 : b ≠ g := fun e => hne (by rw [e]; rfl)
        refine (heap_grow_old _ _ (by simpa using hb)).trans ?_
        unfold putRow mapBlock
        simp only [Array.getElem?_modify]
        rw [if_neg (by omega)]
        rfl
      · have hg2 := h'' g rfl
        intro hl2
        have hgw : g < w''.heap.size := by
          have h3 := hcell 0 (by omega)
          rw [← World.cell?_of_block (a := ⟨g, 0 + 0, none⟩) hg2] at h3
          exact Classical.byContradiction fun hn => by
            rw [World.cell?, Array.getElem?_eq_none (by show w''.heap.size ≤ g; omega)] at h3
            cases h3
        refine ⟨g, 0, rfl, hgw, fun k x hx j v hv => ?_⟩
        have hx' : (dearL (prOf (r :: l)) l.length)[k]? = some x := hx
        unfold dearL at hx'
        rw [List.getElem?_map] at hx'
        cases e : (dearF (prOf (r :: l)) l.length)[k]? with
        | none => rw [e] at hx'; cases hx'
        | some y =>
          rw [e] at hx'
          injection hx' with hx'
          have hk := (List.getElem?_eq_some_iff.1 e).1
          rw [dearF_len] at hk
          have h3 := hcell k hk
          rw [← World.cell?_of_block (a := ⟨g, 0 + k, none⟩) hg2] at h3
          have h4 : (dearF (prOf (r :: l)) l.length).toArray[k]! = y := by rw [getElem!_def]; simp [e]
          rw [h4] at h3
          cases j with
          | succ j => simp [nnV] at hv
          | zero =>
            simp only [nnV, List.getElem?_cons_zero, Option.some.injEq] at hv
            rw [← hv, ← hx']
            simpa [idV] using h3

set_option maxRecDepth 100000 in
set_option maxHeartbeats 4000000 in
theorem open_good (xs : List Int) (rs : List Re) (A1 : Option Addr) (c1 : Nat) (A2 : Option Addr) (c2 : Nat) (w : World) (r1 : Rd w w.heap.size A1 inV 1 xs) (r2 : Rd w w.heap.size A2 reV 3 rs) (rf : ReAt w w.heap.size rs) (hl1 : xs.length ≤ 8) (hl2 : rs.length ≤ 8)
    (hok1 : needsB xs = true) (hok2 : rentsB xs.length rs = true) :
    Calls Try.prog 56 #[.slice A1 xs.length c1, .slice A2 rs.length c2] w fun e w' =>
      (∃ B1 d1 B2 d2, e = .returned (.tuple #[.agg (mkA (openM xs rs) B1 d1 B2 d2), .int .i64 0]) ∧ Rd w' w'.heap.size B1 lotV 4 (openM xs rs).lots ∧ Rd w' w'.heap.size B2 nnV 1 (openM xs rs).dear) ∧ Below w.heap.size w w' := by
  have HN := Lib.hid (fun W (hW : Below w.heap.size w W) => areNeeds_any xs A1 c1 W ((r1.below hW).more hW.size) (by omega))
  have HR := Lib.hid (fun W (hW : Below w.heap.size w W) => areRents_any rs xs.length A2 c2 W ((r2.below hW).more hW.size) (fun r hr => ⟨((rf r hr).1.below hW).more hW.size, (rf r hr).2⟩) (by omega) (by omega))
  have R1 := Lib.hid r1
  have R2 := Lib.hid r2
  have RF := Lib.hid rf
  clear r1 r2 rf
  obtain ⟨w1, hw1⟩ : ∃ w1, ((w.alloc (.cells #[.slice A2 rs.length c2] 54)).alloc (.cells (mkA mkZ none 0 none 0) 114)).alloc (.cells (mkA mkZ none 0 none 0) 114) = w1 := ⟨_, rfl⟩
  have b1 : Below w.heap.size w w1 := by rw [← hw1]; (repeat' (first | (with_reducible exact Below.refl _ _) | (with_reducible refine Below.alloc ?_ ?_ _) | (with_reducible refine Below.drew ?_) | (with_reducible refine Below.drewN_ ?_ _) | (with_reducible refine Below.setCell ?_ ?_ _) | (with_reducible refine Below.setRow ?_ ?_ _) | (with_reducible refine Below.via ?_ (by with_reducible assumption) ?_) | go_size))
  have hz : w1.heap.size = w.heap.size + 3 := by rw [← hw1]; simp
  have e0 : w1.heap[w.heap.size]? = some (.cells #[.slice A2 rs.length c2] 54 (0, 0)) := by
    rw [← hw1]; exact (Below.heap_alloc _ _ _ (by simp; omega)).trans ((Below.heap_alloc _ _ _ (by simp)).trans (heap_alloc_new _ _))
  have e1 : w1.heap[w.heap.size + 1]? = some (.cells (mkA mkZ none 0 none 0) 114 (0, 0)) := by
    rw [← hw1]; exact (Below.heap_alloc _ _ _ (by simp)).trans (heap_alloc2_new _ _ _)
  have e2 : w1.heap[w.heap.size + 2]? = some (.cells (mkA mkZ none 0 none 0) 114 (0, 0)) := by
    rw [← hw1]
    have h := heap_alloc_new ((w.alloc (.cells #[.slice A2 rs.length c2] 54)).alloc (.cells (mkA mkZ none 0 none 0) 114)) (.cells (mkA mkZ none 0 none 0) 114)
    simpa using h
  have HW1 := Lib.hid hw1
  have B1 := Lib.hid b1
  have E0 := Lib.hid e0
  have E1 := Lib.hid e1
  have E2 := Lib.hid e2
  clear hw1 b1 e0 e1 e2
  go_enter Try.func56, Try.ntmps56
  go_upto_region 2 with (fail)
  rw [show ((w.alloc (.cells #[.slice A2 rs.length c2] 54)).alloc (.cells #[.slice none 0 0, .slice none 0 0, .int .i64 0, .int .i64 0, .int .i64 0, .int .i64 0, .int .i64 0, .int .i64 0, .int .i64 0, .int .i64 0, .int .i64 0, .int .i64 0, .int .i64 0, .int .i64 0, .int .i64 0, .int .i64 0, .int .i64 0, .int .i64 0] 114)).alloc (.cells #[.slice none 0 0, .slice none 0 0, .int .i64 0, .int .i64 0, .int .i64 0, .int .i64 0, .int .i64 0, .int .i64 0, .int .i64 0, .int .i64 0, .int .i64 0, .int .i64 0, .int .i64 0, .int .i64 0, .int .i64 0, .int .i64 0, .int .i64 0, .int .i64 0] 114) = w1 from HW1.out]
  have k0 : w1.cell? ⟨w.heap.size, 0, none⟩ = some (.slice A2 rs.length c2) := cell_of_row w1 w.heap.size 0 _ _ _ E0.out
  have HNF := Lib.hid hok1
  have HRF := Lib.hid hok2
  clear hok1 hok2
  go_upto_region 4 with (first | (go_at_call 97; refine (HN.out _ B1.out).mono ?_; rintro e w' ⟨rfl, rfl⟩; rw [HNF.out]) | (go_at_call 98; refine (HR.out _ B1.out).mono ?_; rintro e w2 ⟨rfl, hb2⟩; rw [HRF.out]))
  have F0 := Lib.hid ((hb2.block _ (by omega)).trans E0.out)
  have F1 := Lib.hid ((hb2.block _ (by omega)).trans E1.out)
  have F2 := Lib.hid ((hb2.block _ (by omega)).trans E2.out)
  have B2 := Lib.hid (B1.out.trans (hb2.mono B1.out.size))
  have hcs : (ivL xs).length = xs.length := by unfold ivL; rw [List.length_map]
  have hmin : (ivL xs).length = Nat.min xs.length 8 := by rw [hcs]; exact (Nat.min_eq_left hl1).symm
  have hpos : 0 < (ivL xs).length → (some ⟨w.heap.size + 1 + 1, 2, none⟩ : Option Addr) = some ⟨w.heap.size + 1 + 1, 2, none⟩ ∧ ∃ ad, A1 = some ad ∧ ∀ j v, (ivL xs)[j]? = some v → w2.cell? (ad.add j) = some v := fun h0 => by
    refine ⟨rfl, ?_⟩
    rw [hcs] at h0
    obtain ⟨b, o, rfl, hbl, _⟩ := (R1.out.below B2.out).at_ h0
    refine ⟨_, rfl, fun j v hv => ?_⟩
    have hj : j < xs.length := by rw [← hcs]; exact (List.getElem?_eq_some_iff.1 hv).1
    obtain ⟨b', o', he, _, hc⟩ := (R1.out.below B2.out).at_ hj
    injection he with he
    injection he with he1 he2
    subst he1
    subst he2
    have h2 := hc 0 _ rfl
    unfold ivL at hv
    rw [List.getElem?_map, List.getElem?_eq_getElem hj] at hv
    injection hv with hv
    rw [← hv]
    by_cases e : j = 0
    · subst e
      simpa [Addr.add] using h2
    · simpa [Addr.add, e] using h2
  have HPOS := Lib.hid hpos
  have HMIN := Lib.hid hmin
  clear hpos hmin hb2 HN HR E0 E1 E2 k0
  go_upto_region 4 with (fail)
  go_upto_region 5 with (refine wpList_copy_splice rfl (.tmp 22) (.tmp 23) 41 41 rfl 3 Try.underlying41 infoInt1 _ _ _ _ _ _ rfl rfl (w.heap.size + 1 + 1) 2 (mkA mkZ none 0 none 0).toList 114 F2.out (ivL xs) HMIN.out HPOS.out (by rw [hcs]; show 2 + xs.length ≤ 18; omega) (by intro v hv; unfold ivL at hv; obtain ⟨x, _, rfl⟩ := List.mem_map.1 hv; rfl) (w.heap.size + 1 + 1) w2 (Below.refl _ _) (Nat.le_refl _) ?_; intro w3 hg3 hb3)
  have hw3 : w3.heap[w.heap.size + 2]? = some (.cells (mkA (mkN xs rs 0 0 0) none 0 none 0) 114 (0, 0)) := by have h := hg3.out; rw [splice_needs xs rs hl1] at h; exact h
  have G0 := Lib.hid ((hb3.block w.heap.size (by omega)).trans F0.out)
  have G1 := Lib.hid ((hb3.block (w.heap.size + 1) (by omega)).trans F1.out)
  have G2 := Lib.hid hw3
  have B3 := Lib.hid (B2.out.trans (hb3.mono (by omega)))
  have hz3 : w.heap.size + 2 < w3.heap.size := (Array.getElem?_eq_some_iff.1 hw3).1
  have k0 : w3.cell? ⟨w.heap.size, 0, none⟩ = some (.slice A2 rs.length c2) := cell_of_row w3 w.heap.size 0 _ _ _ G0.out
  clear hw3 hg3 hb3 hcs HPOS HMIN F0 F1 F2 R1 HW1 B1 B2 hz
  obtain ⟨i0, hi0, hz0, hz1, hz2⟩ := info_parts' infoInt
  have I0 := Lib.hid (And.intro hi0 (And.intro hz0 (And.intro hz1 hz2)))
  clear hi0 hz0 hz1 hz2
  go_wp2
  go_loopw [27] (fun v W => ∃ (k : Nat) (B1 B2 : Option Addr) (d1 d2 : Nat), k ≤ rs.length ∧ v = .int .i64 k ∧ W.heap[w.heap.size + 2]? = some (.cells (mkA (mkN xs rs k k k) B1 d1 B2 d2) 114 (0, 0)) ∧ W.heap[w.heap.size]? = some (.cells #[.slice A2 rs.length c2] 54 (0, 0)) ∧ W.heap[w.heap.size + 1]? = some (.cells (mkA mkZ none 0 none 0) 114 (0, 0))
    ∧ Own W (w.heap.size + 3) 163 (.slice B1 k d1) lotV 4 ((rs.map loOf).take k) ∧ Own W (w.heap.size + 3) 3 (.slice B2 k d2) nnV 1 (List.range k) ∧ Below w.heap.size w W) (fun i _ => rs.length - (intOf i).toNat)
  case atStart => exact ⟨0, none, none, 0, 0, by omega, rfl, G2.out, G0.out, G1.out, Own.nil_ _ _ _ _ _, Own.nil_ _ _ _ _ _, B3.out⟩
  case round =>
    obtain ⟨k, D1, D2, d1, d2, hk, rfl, h2, h0, h1, ho1, ho2, hb⟩ := hrel
    clear G0 G1 G2 B3
    have H0 := Lib.hid h0
    have H1 := Lib.hid h1
    have H2 := Lib.hid h2
    have O1 := Lib.hid ho1
    have O2 := Lib.hid ho2
    have HB := Lib.hid hb
    have hwr : w.heap.size + 2 < wr.heap.size := (Array.getElem?_eq_some_iff.1 h2).1
    by_cases hlt : k < rs.length
    · have hltI : (k : Int) < (rs.length : Int) := by omega
      obtain ⟨b, o, rfl, hbl, hcell⟩ := (R2.out.below hb).at_ hlt
      have q0 := hcell 0 _ rfl
      have q1 := hcell 1 _ rfl
      have q2 := hcell 2 _ rfl
      simp only [Nat.add_zero] at q0
      have hr := RF.out _ (List.getElem_mem hlt)
      have hok := (rentsB_spec HRF.out).2 _ (List.getElem_mem hlt)
      have hmi : miOf rs k = (rs[k]).mins := by unfold miOf; rw [List.getElem?_eq_getElem hlt]; rfl
      have htk : (rs.map loOf).take (k + 1) = (rs.map loOf).take k ++ [loOf rs[k]] := by rw [take_snoc (by simpa using hlt)]; simp
      generalize rs[k] = r at *
      obtain ⟨mins, price, fA, fc, fl⟩ := r
      dsimp only at hr hok q0 q1 q2 hmi
      obtain ⟨rb, hrb⟩ : ∃ rb, wr.heap.size = rb := ⟨_, rfl⟩
      obtain ⟨w5, hw5⟩ : ∃ w5, wr.alloc (.cells #[.int .i64 mins, .int .i64 price, .slice fA fl.length fc] 89) = w5 := ⟨_, rfl⟩
      have b5 : Below wr.heap.size wr w5 := by rw [← hw5]; (repeat' (first | (with_reducible exact Below.refl _ _) | (with_reducible refine Below.alloc ?_ ?_ _) | (with_reducible refine Below.drew ?_) | (with_reducible refine Below.drewN_ ?_ _) | (with_reducible refine Below.setCell ?_ ?_ _) | (with_reducible refine Below.setRow ?_ ?_ _) | (with_reducible refine Below.via ?_ (by with_reducible assumption) ?_) | go_size))
      have z0 : w5.cell? ⟨rb, 0, none⟩ = some (.int .i64 mins) := by rw [← hw5, ← hrb]; simp
      have z1 : w5.cell? ⟨rb, 1, none⟩ = some (.int .i64 price) := by rw [← hw5, ← hrb]; simp
      have z2 : w5.cell? ⟨rb, 2, none⟩ = some (.slice fA fl.length fc) := by rw [← hw5, ← hrb]; simp
      have hz5 : rb < w5.heap.size := by rw [← hw5, ← hrb]; simp
      have P0 := Lib.hid ((b5.block w.heap.size (by omega)).trans h0)
      have P1 := Lib.hid ((b5.block (w.heap.size + 1) (by omega)).trans h1)
      have P2 := Lib.hid ((b5.block (w.heap.size + 2) (by omega)).trans h2)
      have Q1 := Lib.hid (ho1.below b5)
      have Q2 := Lib.hid (ho2.below b5)
      have PB := Lib.hid (hb.trans (b5.mono hb.size))
      have lt1 : ∀ g, (Value.slice D1 k d1).ownBlock = some g → w.heap.size + 3 ≤ g ∧ g < rb := fun g hg => by rw [← hrb]; exact ho1.lt g hg
      have lt2 : ∀ g, (Value.slice D2 k d2).ownBlock = some g → w.heap.size + 3 ≤ g ∧ g < rb := fun g hg => by rw [← hrb]; exact ho2.lt g hg
      have hfl := (flN_lt (q := xs.length) (r := ⟨mins, price, fA, fc, fl⟩) hok.2.2)
      have hf0 := (fldsB_spec (by omega) hok.2.2).1
      have HSO := Lib.hid (fun W (hW : Below w.heap.size w W) => setOf_any (fl.map Int.toNat) fA fc W (rd_fl ((hr.1.below hW).more hW.size) (fun x hx => (hf0 x hx).1)) (by rw [List.length_map]; exact hr.2) (fun f hf => by have := hfl.1 f hf; omega))
      rw [List.length_map] at HSO
      have hsf : loOf ⟨mins, price, fA, fc, fl⟩ = ⟨mins, price, fA, fl.length, fc, setF (fl.map Int.toNat)⟩ := rfl
      rw [hsf] at htk
      generalize setF (fl.map Int.toNat) = sf at *
      have HW5 := Lib.hid hw5
      have HTK := Lib.hid htk
      have HMI := Lib.hid hmi
      clear hcell h0 h1 h2 ho1 ho2 hb hw5 b5 hfl hf0 hr hok hsf htk hmi
      go_upto_region 8 with (fail)
      rw [show wr.alloc (.cells #[.int .i64 mins, .int .i64 price, .slice fA fl.length fc] 89) = w5 from HW5.out]
      clear q0 q1 q2 HW5
      have y0 : w5.cell? ⟨w.heap.size + 1 + 1, 0, none⟩ = some (.slice D1 k d1) := (cell_of_row w5 (w.heap.size + 2) 0 _ _ _ P2.out).trans (by show some (Value.slice D1 (mkN xs rs k k k).lots.length d1) = _; rw [mkN_lots xs k k hk])
      have own_far : ∀ g, g < w.heap.size + 3 ∨ rb ≤ g → some g ≠ (Value.slice D1 k d1).ownBlock := fun g hg e => by have := lt1 g e.symm; omega
      obtain ⟨j0, hj0, hjz, hjs, hjb⟩ := info_partsL infoLot
      refine (wpIn_wide (n := 3)).1 ?_
      refine wpIn_region_planYA (X := Nat × Value) (by kernel_rfl) 10 (by decide +kernel) (by decide +kernel) (by omega)
        (fun x i => if i = 7 then .slice (some ⟨x.1, 0, none⟩) 1 1 else if i = 8 then x.2 else (#[.pointer (some ⟨w.heap.size + 1 + 1, 0, none⟩), .slice D1 k d1, .agg #[.int .i64 mins, .int .i64 price, .slice fA fl.length fc], .pointer (some ⟨rb, 2, none⟩), .slice fA fl.length fc, .int .i64 (sf : Int), .agg #[.int .i64 mins, .int .i64 price, .slice fA fl.length fc, .int .i64 (sf : Int)], undef, undef, .pointer (some ⟨w.heap.size + 1 + 1, 0, none⟩)] : Array Value).getD i undef)
        (fun L x W => w5.grownBy W (Value.slice D1 k d1).ownBlock ∧ (L 7 = true → w5.heap.size ≤ x.1 ∧ W.heap[x.1]? = some (.cells #[.int .i64 mins, .int .i64 price, .slice fA fl.length fc, .int .i64 (sf : Int)] 163 (0, 0))) ∧ (L 8 = false → Own W (w.heap.size + 3) 163 (.slice D1 k d1) lotV 4 ((rs.map loOf).take k)) ∧ (L 8 = true → Own W (w.heap.size + 3) 163 x.2 lotV 4 ((rs.map loOf).take (k + 1)) ∧ ∀ g, x.2.ownBlock = some g → some g = (Value.slice D1 k d1).ownBlock ∨ w5.heap.size ≤ g)) _ _ (0, undef) ?aF ?hA ?hS ?hstep ?htail
      case hA => intro x; simp [putTo, putIf, dstAt, Act.put, List.range_succ]; rfl
      case hS => exact fun L hL => ⟨⟨rfl, rfl, rfl, Nat.le_refl _, fun _ _ _ => rfl⟩, fun h => (by rw [hL] at h; cases h), fun _ => Q1.out.below (Below.refl _ _).drew, fun h => (by rw [hL] at h; cases h)⟩
      case hstep =>
        intro i o' hi ho L x W hL hcl hdep hW
        obtain ⟨x, y⟩ := x
        obtain ⟨hW1, hW2, hW3, hW4⟩ := hW
        refine ⟨fun _ _ => trivial, ?_⟩
        dsimp only at hW2 hW3 hW4
        have p0 := hW1.cell y0 (own_far _ (.inl (by show w.heap.size + 1 + 1 < _; omega)))
        have p1 := hW1.cell z0 (own_far _ (.inr (Nat.le_refl _)))
        have p2 := hW1.cell z1 (own_far _ (.inr (Nat.le_refl _)))
        have p3 := hW1.cell z2 (own_far _ (.inr (Nat.le_refl _)))
        have H1 := Lib.hid hW1
        have H2 := Lib.hid hW2
        have H3 := Lib.hid hW3
        have H4 := Lib.hid hW4
        clear hW1 hW2 hW3 hW4
        have e7 : ∀ j : Nat, j ≠ 7 → (L 7 || (7 == j)) = L 7 := fun j h => by rw [show ((7 : Nat) == j) = false from by simp; omega, Bool.or_false]
        have e8 : ∀ j : Nat, j ≠ 8 → (L 8 || (8 == j)) = L 8 := fun j h => by rw [show ((8 : Nat) == j) = false from by simp; omega, Bool.or_false]
        have E7 := Lib.hid e7
        have E8 := Lib.hid e8
        clear e7 e8
        have hi' : i = 0 ∨ i = 1 ∨ i = 2 ∨ i = 3 ∨ i = 4 ∨ i = 5 ∨ i = 6 ∨ i = 7 ∨ i = 8 ∨ i = 9 := by omega
        rcases hi' with rfl | rfl | rfl | rfl | rfl | rfl | rfl | rfl | rfl | rfl
        all_goals (simp only [List.getElem?_toArray, List.getElem?_cons_succ, List.getElem?_cons_zero, Option.some.injEq] at ho; subst ho)
        case inr.inr.inr.inr.inr.inl =>
          go_simp
          refine ⟨by simp, callsIn_wide.2 ((HSO.out W (PB.out.trans (below_grown H1.out (by omega) (fun g hg => by have := lt1 g hg; omega)))).mono ?_)⟩
          rintro e w' ⟨rfl, rfl⟩
          refine ⟨_, rfl, (x, y), fun _ _ => rfl, by first | rfl | simp, H1.out, ?_, ?_, ?_⟩
          all_goals dsimp only
          all_goals first | (rw [E7.out _ (by decide)]; exact H2.out) | (rw [E8.out _ (by decide)]; first | exact H3.out | exact H4.out)
        case inr.inr.inr.inr.inr.inr.inr.inl =>
          have h8 : L 8 = false := by
            cases h : L 8
            · rfl
            · have h7 := hcl 8 _ h rfl { on := 7, ground := Ground.data } (by simp) rfl
              rw [hL] at h7
              cases h7
          go_simp
          refine ⟨(W.heap.size, y), fun j hj => ?_, by simp, H1.out.trans (World.grownBy_alloc _ _ _), fun _ => ⟨H1.out.size, heap_alloc_new _ _⟩, fun _ => (H3.out h8).below ((Below.refl _ _).alloc (Nat.le_refl _) _), fun h => ?_⟩
          · by_cases e : j = 7
            · rw [e, hL] at hj; cases hj
            · dsimp only; rw [if_neg e, if_neg e]
          · dsimp only at h
            rw [E8.out 7 (by decide), h8] at h
            cases h
        case inr.inr.inr.inr.inr.inr.inr.inr.inl =>
          have h7 : L 7 = true := hdep { on := 7, ground := Ground.data } (by simp) rfl
          obtain ⟨hx1, hx2⟩ := H2.out h7
          have hlk : ((rs.map loOf).take k).length ≤ 8 := by rw [List.length_take, List.length_map]; omega
          have hx3 : x < W.heap.size := (Array.getElem?_eq_some_iff.1 hx2).1
          obtain ⟨v', w', hrun, g2, g3, g4⟩ := run_append_rd (P := Try.prog) (t := 111) (ty := 111) j0 _ 48 Try.underlying111 hj0 hjz hjs hjb rfl (by omega) lotV_len lotV_one (H3.out hL) (c := 1) (m := 1) (news := [⟨mins, price, fA, fl.length, fc, sf⟩]) rfl (rd_row1 (l := ⟨mins, price, fA, fl.length, fc, sf⟩) hx2) (by omega) (by omega) (by have := H1.out.size; omega)
          simp only [execOp, resolve, invoke, builtin, Act.eval, List.getElem?_toArray, Array.getD_eq_getD_getElem?, List.getElem?_cons_succ, List.getElem?_cons_zero, Option.getD_some, Sem.run_bind, Sem.run_pure, Result.andThen_ok, List.map_toArray, List.map_cons, List.map_nil]
          rw [show (Builtin.append_ #[111, 111] 111 #[.slice D1 k d1, .slice (some ⟨x, 0, none⟩) 1 1]).run Try.prog W = .ok v' w' from hrun]
          simp only [Result.andThen_ok]
          refine ⟨(x, v'), fun j hj => ?_, rfl, H1.out.trans g3, fun _ => ⟨hx1, (g3.block x hx3 (own_far x (.inr (by omega)))).trans hx2⟩, fun h => ?_, fun _ => ⟨by rw [HTK.out]; exact g2, fun g hg => ?_⟩⟩
          · by_cases e : j = 8
            · rw [e, hL] at hj; cases hj
            · dsimp only; rw [if_neg e, if_neg e]
          · dsimp only at h
            simp at h
          · rcases g4 with g4 | g4
            · exact .inl (by rw [← hg, g4])
            · refine .inr ?_
              rw [g4] at hg
              injection hg with hg
              have := H1.out.size
              omega
        all_goals go_simp
        all_goals refine ⟨(x, y), fun _ _ => rfl, by first | rfl | simp, H1.out, ?_, ?_, ?_⟩
        all_goals dsimp only
        all_goals first | (rw [E7.out _ (by decide)]; exact H2.out) | (rw [E8.out _ (by decide)]; first | exact H3.out | exact H4.out)
      case htail =>
        intro L x W hL hW
        obtain ⟨x, v'⟩ := x
        obtain ⟨hW1, _, _, hW4⟩ := hW
        obtain ⟨hW4, hW5⟩ := hW4 (hL 8 (by omega))
        dsimp only at hW4 hW5
        simp only [List.drop_succ_cons, List.drop_zero]
        have hlk : ((rs.map loOf).take (k + 1)).length = k + 1 := by rw [List.length_take, List.length_map]; omega
        obtain ⟨D3, d3, rfl⟩ := hW4.form
        rw [hlk] at hW4 hW5 ⊢
        have hrow := (hW1.block (w.heap.size + 2) (by have := (Array.getElem?_eq_some_iff.1 P2.out).1; omega) (own_far _ (.inl (by omega)))).trans P2.out
        have hrow0 := (hW1.block w.heap.size (by omega) (own_far _ (.inl (by omega)))).trans P0.out
        have hrow1 := (hW1.block (w.heap.size + 1) (by omega) (own_far _ (.inl (by omega)))).trans P1.out
        have pc : W.cell? ⟨w.heap.size + 1 + 1, 0, none⟩ = _ := cell_of_row W (w.heap.size + 2) 0 _ _ _ hrow
        have pf : W.frozen? ⟨w.heap.size + 1 + 1, 0, none⟩ = false := frozen_of_row W (w.heap.size + 2) 0 _ _ hrow
        have pz := hW1.cell z0 (own_far _ (.inr (Nat.le_refl _)))
        have ho2 := Own.other (t := 163) Q2.out hW1 (by decide) (fun r hr => by obtain ⟨_, cur, hc⟩ := Q1.out.row hr; exact ⟨_, hc, .inr ⟨_, _, rfl⟩⟩)
        obtain ⟨w6, hw6⟩ : ∃ w6, W.setCell ⟨w.heap.size + 1 + 1, 0, none⟩ (.slice D3 (k + 1 : Nat) d3) = w6 := ⟨_, rfl⟩
        have n2 : w6.heap[w.heap.size + 2]? = some (.cells (mkA (mkN xs rs (k + 1) k k) D3 d3 D2 d2) 114 (0, 0)) := by
          rw [← hw6, ← mkN_set0 xs k k D1 D2 D3 d1 d2 d3 (by omega)]
          exact heap_setCell_same W (w.heap.size + 2) 0 _ _ _ hrow
        have n0 : w6.heap[w.heap.size]? = some (.cells #[.slice (some ⟨b, o, none⟩) rs.length c2] 54 (0, 0)) := by rw [← hw6]; exact (Below.heap_setCell _ _ _ _ (by show w.heap.size ≠ w.heap.size + 1 + 1; omega)).trans hrow0
        have n1 : w6.heap[w.heap.size + 1]? = some (.cells (mkA mkZ none 0 none 0) 114 (0, 0)) := by rw [← hw6]; exact (Below.heap_setCell _ _ _ _ (by show w.heap.size + 1 ≠ w.heap.size + 1 + 1; omega)).trans hrow1
        have nb : Below w.heap.size w w6 := by rw [← hw6]; exact Below.setCell (PB.out.trans (below_grown hW1 (by omega) (fun g hg => by have := lt1 g hg; omega))) (by show w.heap.size ≤ w.heap.size + 1 + 1; omega) _
        have no1 : Own w6 (w.heap.size + 3) 163 (.slice D3 (k + 1 : Nat) d3) lotV 4 ((rs.map loOf).take (k + 1)) := by rw [← hw6]; exact hW4.set_ (by show w.heap.size + 1 + 1 < w.heap.size + 3; omega) _
        have no2 : Own w6 (w.heap.size + 3) 3 (.slice D2 k d2) nnV 1 (List.range k) := by rw [← hw6]; exact ho2.set_ (by show w.heap.size + 1 + 1 < w.heap.size + 3; omega) _
        have nz : w6.cell? ⟨rb, 0, none⟩ = some (.int .i64 mins) := by rw [← hw6]; exact (World.cell?_of_block (a := ⟨rb, 0, none⟩) (Below.heap_setCell _ _ _ _ (by show rb ≠ w.heap.size + 1 + 1; omega))).trans pz
        have HW6 := Lib.hid hw6
        have NB := Lib.hid nb
        have N0 := Lib.hid n0
        have N1 := Lib.hid n1
        have N2 := Lib.hid n2
        have NO1 := Lib.hid no1
        have NO2 := Lib.hid no2
        clear hrow hrow0 hrow1 pz ho2 hW4 hW5 hW1 hL y0 z0 z1 z2 own_far hw6 nb n0 n1 n2 no1 no2 hjz hjs hjb hj0
        gi_wp2
        rw [HW6.out]
        clear pc pf HW6
        go_upto_region 9 with (fail)
        have hk8 : k < 8 := by omega
        have hkI : (k : Int) < 8 := by omega
        have kc : w6.cell? ⟨w.heap.size + 1 + 1, 10 + k, none⟩ = some (.int .i64 ((mkN xs rs (k + 1) k k).left k)) := (cell_of_row w6 (w.heap.size + 2) (10 + k) _ _ _ N2.out).trans (mkA_left _ _ _ _ _ hk8)
        have kf : w6.frozen? ⟨w.heap.size + 1 + 1, 10 + k, none⟩ = false := frozen_of_row w6 (w.heap.size + 2) (10 + k) _ _ N2.out
        generalize (mkN xs rs (k + 1) k k).left k = le at kc
        obtain ⟨w7, hw7⟩ : ∃ w7, w6.setCell ⟨w.heap.size + 1 + 1, 10 + k, none⟩ (.int .i64 mins) = w7 := ⟨_, rfl⟩
        have n2 : w7.heap[w.heap.size + 2]? = some (.cells (mkA (mkN xs rs (k + 1) k (k + 1)) D3 d3 D2 d2) 114 (0, 0)) := by
          rw [← hw7, ← HMI.out, ← mkN_set2 xs rs (k + 1) k D3 D2 d3 d2 hk8]
          exact heap_setCell_same w6 (w.heap.size + 2) (10 + k) _ _ _ N2.out
        have n0 : w7.heap[w.heap.size]? = some (.cells #[.slice (some ⟨b, o, none⟩) rs.length c2] 54 (0, 0)) := by rw [← hw7]; exact (Below.heap_setCell _ _ _ _ (by show w.heap.size ≠ w.heap.size + 1 + 1; omega)).trans N0.out
        have n1 : w7.heap[w.heap.size + 1]? = some (.cells (mkA mkZ none 0 none 0) 114 (0, 0)) := by rw [← hw7]; exact (Below.heap_setCell _ _ _ _ (by show w.heap.size + 1 ≠ w.heap.size + 1 + 1; omega)).trans N1.out
        have nb : Below w.heap.size w w7 := by rw [← hw7]; exact Below.setCell NB.out (by show w.heap.size ≤ w.heap.size + 1 + 1; omega) _
        have no1 : Own w7 (w.heap.size + 3) 163 (.slice D3 (k + 1 : Nat) d3) lotV 4 ((rs.map loOf).take (k + 1)) := by rw [← hw7]; exact NO1.out.set_ (by show w.heap.size + 1 + 1 < w.heap.size + 3; omega) _
        have no2 : Own w7 (w.heap.size + 3) 3 (.slice D2 k d2) nnV 1 (List.range k) := by rw [← hw7]; exact NO2.out.set_ (by show w.heap.size + 1 + 1 < w.heap.size + 3; omega) _
        have HW7 := Lib.hid hw7
        clear hw7 NB N0 N1 N2 NO1 NO2
        go_upto_region 10 with (fail)
        rw [HW7.out]
        clear kc kf nz HW7
        have kd : w7.cell? ⟨w.heap.size + 1 + 1, 1, none⟩ = some (.slice D2 k d2) := (cell_of_row w7 (w.heap.size + 2) 1 _ _ _ n2).trans (by show some (Value.slice D2 (mkN xs rs (k + 1) k (k + 1)).dear.length d2) = _; rw [mkN_dear])
        have hz7 : w.heap.size + 3 ≤ w7.heap.size := (Array.getElem?_eq_some_iff.1 n2).1
        have hx2 : ∀ g, g < w.heap.size + 3 → some g ≠ (Value.slice D2 k d2).ownBlock := fun g hg e => by have := lt2 g e.symm; omega
        have N0 := Lib.hid n0
        have N1 := Lib.hid n1
        have N2 := Lib.hid n2
        have NB := Lib.hid nb
        have NO1 := Lib.hid no1
        have NO2 := Lib.hid no2
        have lrk : (List.range k ++ [k]).length = k + 1 := by simp
        have LRK := Lib.hid lrk
        clear lrk
        clear n0 n1 n2 nb no1 no2
        go_upto_region 11 with (at_builtin; refine wpList_append_rd rfl (.tmp 48) (.tmp 50) 41 rfl i0 _ 8 Try.underlying41 I0.out.1 I0.out.2.1 I0.out.2.2.1 I0.out.2.2.2 rfl (by omega) nnV_len nnV_one rfl (NO2.out.below ((Below.refl _ _).alloc (Nat.le_refl _) _)) rfl rfl (Rd.one _ k #[.int .i64 k] 3 rfl) (by simp; omega) (by omega) (by simp; omega) ?_; intro v8 w8 ho8 hg8 hat8; obtain ⟨D4, d4, rfl⟩ := ho8.form; rw [LRK.out] at ho8 ⊢; clear hat8; (have r8 := (hg8.block (w.heap.size + 2) (by simp; omega) (hx2 _ (by omega))).trans ((Below.heap_alloc _ _ _ (by omega)).trans N2.out)); (have k8 : w8.cell? ⟨w.heap.size + 1 + 1, 1, none⟩ = some (Value.slice D2 (mkN xs rs (k + 1) k (k + 1)).dear.length d2) := cell_of_row w8 (w.heap.size + 2) 1 _ _ _ r8); (have f8 : w8.frozen? ⟨w.heap.size + 1 + 1, 1, none⟩ = false := frozen_of_row w8 (w.heap.size + 2) 1 _ _ r8); (have O8 := Lib.hid ho8); (have G8 := Lib.hid hg8); (have R8 := Lib.hid r8); clear ho8 hg8 r8)
        have hne12 : ∀ r, (Value.slice D2 k d2).ownBlock = some r → ∃ ob : Obj, w7.heap[r]? = some ob ∧ (ob.isCells = false ∨ ∃ c fr, ob = .cells c 3 fr) := fun r hr => by obtain ⟨_, cur, hc⟩ := NO2.out.row hr; exact ⟨_, hc, .inr ⟨_, _, rfl⟩⟩
        have g8 : w7.grownBy w8 (Value.slice D2 k d2).ownBlock := (World.grownBy_alloc _ _ _).trans G8.out
        obtain ⟨w9, hw9⟩ : ∃ w9, w8.setCell ⟨w.heap.size + 1 + 1, 1, none⟩ (.slice D4 (k + 1 : Nat) d4) = w9 := ⟨_, rfl⟩
        have m2 : w9.heap[w.heap.size + 2]? = some (.cells (mkA (mkN xs rs (k + 1) (k + 1) (k + 1)) D3 d3 D4 d4) 114 (0, 0)) := by
          rw [← hw9, ← mkN_set1 xs rs (k + 1) k (k + 1) D3 D2 D4 d3 d2 d4]
          exact heap_setCell_same w8 (w.heap.size + 2) 1 _ _ _ R8.out
        have m0 : w9.heap[w.heap.size]? = some (.cells #[.slice (some ⟨b, o, none⟩) rs.length c2] 54 (0, 0)) := by rw [← hw9]; exact (Below.heap_setCell _ _ _ _ (by show w.heap.size ≠ w.heap.size + 1 + 1; omega)).trans ((g8.block _ (by omega) (hx2 _ (by omega))).trans N0.out)
        have m1 : w9.heap[w.heap.size + 1]? = some (.cells (mkA mkZ none 0 none 0) 114 (0, 0)) := by rw [← hw9]; exact (Below.heap_setCell _ _ _ _ (by show w.heap.size + 1 ≠ w.heap.size + 1 + 1; omega)).trans ((g8.block _ (by omega) (hx2 _ (by omega))).trans N1.out)
        have mb : Below w.heap.size w w9 := by rw [← hw9]; exact Below.setCell (NB.out.trans (below_grown g8 (by omega) (fun g hg => by have := lt2 g hg; omega))) (by show w.heap.size ≤ w.heap.size + 1 + 1; omega) _
        have mo1 : Own w9 (w.heap.size + 3) 163 (.slice D3 (k + 1 : Nat) d3) lotV 4 ((rs.map loOf).take (k + 1)) := by rw [← hw9]; exact (Own.other (t := 3) NO1.out g8 (by decide) hne12).set_ (by show w.heap.size + 1 + 1 < w.heap.size + 3; omega) _
        have mo2 : Own w9 (w.heap.size + 3) 3 (.slice D4 (k + 1 : Nat) d4) nnV 1 (List.range (k + 1)) := by rw [← hw9, List.range_succ]; exact O8.out.set_ (by show w.heap.size + 1 + 1 < w.heap.size + 3; omega) _
        have M0 := Lib.hid m0
        have M1 := Lib.hid m1
        have M2 := Lib.hid m2
        have MB := Lib.hid mb
        have MO1 := Lib.hid mo1
        have MO2 := Lib.hid mo2
        rw [hw9]
        clear m0 m1 m2 mb mo1 mo2 hw9 g8 hne12 k8 f8 kd
        go_wp2
        go_roundw
        case rel => exact ⟨k + 1, D3, D4, d3, d4, by omega, by go_num, M2.out, M0.out, M1.out, MO1.out, MO2.out, MB.out⟩
        case measure => (simp [intOf] <;> omega)
    · obtain rfl : k = rs.length := by omega
      clear h0 h1 h2 ho1 ho2 hb
      obtain ⟨w4, hw4⟩ : ∃ w4, wr.alloc (.cells #[.func (.func 100) #[] #[.pointer (some ⟨w.heap.size, 0, none⟩)]] 134) = w4 := ⟨_, rfl⟩
      have b4 : Below wr.heap.size wr w4 := by rw [← hw4]; (repeat' (first | (with_reducible exact Below.refl _ _) | (with_reducible refine Below.alloc ?_ ?_ _) | (with_reducible refine Below.drew ?_) | (with_reducible refine Below.drewN_ ?_ _) | (with_reducible refine Below.setCell ?_ ?_ _) | (with_reducible refine Below.setRow ?_ ?_ _) | (with_reducible refine Below.via ?_ (by with_reducible assumption) ?_) | go_size))
      have kG : w4.cell? ⟨wr.heap.size, 0, none⟩ = some (.func (.func 100) #[] #[.pointer (some ⟨w.heap.size, 0, none⟩)]) := by rw [← hw4]; simp
      have hz4 : wr.heap.size < w4.heap.size := by rw [← hw4]; simp
      have P0 := Lib.hid ((b4.block w.heap.size (by omega)).trans H0.out)
      have P1 := Lib.hid ((b4.block (w.heap.size + 1) (by omega)).trans H1.out)
      have P2 := Lib.hid ((b4.block (w.heap.size + 2) (by omega)).trans H2.out)
      have Q1 := Lib.hid (O1.out.below b4)
      have Q2 := Lib.hid (O2.out.below b4)
      have PB := Lib.hid (HB.out.trans (b4.mono HB.out.size))
      have lt2 : ∀ g, (Value.slice D2 rs.length d2).ownBlock = some g → w.heap.size + 3 ≤ g ∧ g < wr.heap.size := fun g hg => O2.out.lt g hg
      have hx2 : ∀ g, g < w.heap.size + 3 → some g ≠ (Value.slice D2 rs.length d2).ownBlock := fun g hg e => by have := lt2 g e.symm; omega
      have HSR := Lib.hid (sort_rs rs D2 d2 wr.heap.size w.heap.size c2 (w.heap.size + 3) A2 w4 Q2.out hl2 kG (cell_of_row w4 w.heap.size 0 _ _ _ P0.out) ((R2.out.below PB.out).more (by omega)) (by omega) hz4 (by omega) (fun e => by have := lt2 _ e.symm; omega))
      have HW4 := Lib.hid hw4
      have kd : w4.cell? ⟨w.heap.size + 1 + 1, 1, none⟩ = some (.slice D2 rs.length d2) := (cell_of_row w4 (w.heap.size + 2) 1 _ _ _ P2.out).trans (by show some (Value.slice D2 (mkN xs rs rs.length rs.length rs.length).dear.length d2) = _; rw [mkN_dear])
      clear hw4 b4 kG
      go_upto_region 13 with (fail)
      rw [HW4.out]
      go_upto_region 14 with (go_at_call 102; refine HSR.out.mono ?_; rintro e w5 ⟨rfl, g5, rd5⟩)
      have e0 := Lib.hid ((g5.block (w.heap.size + 1) (by omega) (hx2 _ (by omega))).trans P1.out)
      have e2 := Lib.hid ((g5.block (w.heap.size + 2) (by omega) (hx2 _ (by omega))).trans P2.out)
      have hne12 : ∀ r, (Value.slice D2 rs.length d2).ownBlock = some r → ∃ ob : Obj, w4.heap[r]? = some ob ∧ (ob.isCells = false ∨ ∃ c fr, ob = .cells c 3 fr) := fun r hr => by obtain ⟨_, cur, hc⟩ := Q2.out.row hr; exact ⟨_, hc, .inr ⟨_, _, rfl⟩⟩
      have q1 := Lib.hid (Own.other (t := 3) Q1.out g5 (by decide) hne12)
      have pb := Lib.hid (PB.out.trans (below_grown g5 (by omega) (fun g hg => by have := lt2 g hg; omega)))
      have RD5 := Lib.hid rd5
      have hz5 := g5.size
      have lt1 : ∀ g, (Value.slice D1 rs.length d1).ownBlock = some g → w.heap.size + 3 ≤ g := fun g hg => (O1.out.lt g hg).1
      clear g5 rd5 kd
      have hs1 : (mkA mkZ none 0 none 0).size = (mkA (mkN xs rs rs.length rs.length rs.length) D1 d1 D2 d2).size := rfl
      go_wp2_with (first | (refine wpList_load_row rfl 114 (.tmp 6) rfl (w.heap.size + 2) rfl 114 (mkA (mkN xs rs rs.length rs.length rs.length) D1 d1 D2 d2) (0, 0) _ e2.out Try.underlying114 rfl (infoMk _ _ _ _ _) ?_) | (refine wpList_store_row rfl 114 (.tmp 4) (.tmp 59) rfl (w.heap.size + 1) (mkA (mkN xs rs rs.length rs.length rs.length) D1 d1 D2 d2) rfl rfl 114 (mkA mkZ none 0 none 0) e0.out (infoMk _ _ _ _ _) hs1 (mkA_one _ _ _ _ _) ?_))
      refine bodyPost_ret (resOpen _ _ (w.heap.size + 1) (mkN xs rs rs.length rs.length rs.length) D1 d1 D2 d2 (.int .i64 0) rfl rfl (setRow_heap _ _ _ _ _ _ e0.out)) rfl ?_
      have gS : w5.grownBy (w5.setRow (w.heap.size + 1) (mkA (mkN xs rs rs.length rs.length rs.length) D1 d1 D2 d2)) (some (w.heap.size + 1)) := ⟨rfl, rfl, rfl, by simp, fun g _ hg => setRow_other _ _ _ _ (fun e => hg (by rw [e]))⟩
      have o1 := q1.out.keep gS (by
        cases h : (Value.slice D1 rs.length d1).ownBlock with
        | none => exact .inl rfl
        | some g => exact .inr (fun e => by injection e with e; have := lt1 g h; omega))
      have hta : (rs.map loOf).take rs.length = rs.map loOf := List.take_of_length_le (by rw [List.length_map]; omega)
      rw [hta] at o1
      have rd1 := o1.rd' (by rw [List.length_map]) lotV_len
      have rd2 := RD5.out (w5.setRow (w.heap.size + 1) (mkA (mkN xs rs rs.length rs.length rs.length) D1 d1 D2 d2)) (fun g hg => setRow_other _ _ _ _ (by have := lt2 g hg; omega))
      exact ⟨⟨D1, d1, D2, d2, by rw [mkN_end], rd1, rd2⟩, Below.setRow pb.out (by omega) _⟩
end Go.Proofs.Ytjkefoijhphknaa
