/- The first of the cheapest plans of a market. Condition: a market within bounds, its rents' fields below the number of needs; at each step what may be given at most is found by halving. -/
import Derived.Test.YtjkefoijhphknaaMkPlanM
import Derived.Test.YtjkefoijhphknaaFloat
namespace Go.Proofs.Ytjkefoijhphknaa
open Go.RowKit Go.IntWalk
attribute [local go_sem] wx_cell wx_frozen

/-- What holds of a plan under way after n numbers. -/
structure StOk (m0 : Mk) (st : PSt) (n : Nat) : Prop where
  ok : MkOk2 st.m
  l0 : ∀ i, 0 ≤ st.m.left i
  n0 : ∀ f, 0 ≤ st.m.needs f
  lots : st.m.lots = m0.lots
  dear : st.m.dear = m0.dear
  c1 : -(160000000000000 + 2304000000 * (n : Int)) ≤ st.co
  c2 : st.co ≤ 160000000000000 + 2304000000 * n
theorem StOk.le {m0 : Mk} {st : PSt} {n k : Nat} (h : StOk m0 st n) (hk : n ≤ k) : StOk m0 st k := ⟨h.ok, h.l0, h.n0, h.lots, h.dear, by have := h.c1; omega, by have := h.c2; omega⟩
theorem StOk.stp {m0 : Mk} {st : PSt} {n : Nat} (h : StOk m0 st n) {i f : Nat} {pr : Int} (h0 : 0 ≤ pr) (h1 : pr ≤ 100000) : StOk m0 (stpS st i f pr) (n + 1) := by
  unfold stpS
  split
  · exact h.le (by omega)
  · have g1 := grI_le (soB st.m i f st.co pr) (min (st.m.left i) (st.m.needs f)).toNat
    have e : stpN st i f pr = grI (soB st.m i f st.co pr) (min (st.m.left i) (st.m.needs f)).toNat := rfl
    have a1 := h.l0 i
    have a2 := h.n0 f
    have a3 := h.ok.ok.left i
    generalize stpN st i f pr = k at *
    have hk1 : (k : Int) ≤ st.m.left i := by omega
    have hk2 : (k : Int) ≤ st.m.needs f := by omega
    have hk3 : (k : Int) ≤ 23040 := by omega
    have p1 := mul_le_of (show (0 : Int) ≤ (k : Int) by omega) hk3 h0 h1
    have c1 := h.c1
    have c2 := h.c2
    refine ⟨h.ok.after (by omega) hk1 hk2, fun x => ?_, fun x => ?_, h.lots, h.dear, ?_, ?_⟩
    · show 0 ≤ (if x = i then st.m.left i - k else st.m.left x)
      have := h.l0 x
      split <;> omega
    · show 0 ≤ (if x = f then st.m.needs f - k else st.m.needs x)
      have := h.n0 x
      split <;> omega
    · push_cast; show _ ≤ st.co - k * pr; omega
    · push_cast; show st.co - k * pr ≤ _; omega
theorem StOk.stf {m0 : Mk} {i : Nat} {pr : Int} (h0 : 0 ≤ pr) (h1 : pr ≤ 100000) : ∀ (l : List Nat) (st : PSt) (n : Nat), StOk m0 st n → StOk m0 (stF st i pr l) (n + l.length)
  | [], st, n, h => h
  | f :: l, st, n, h => by
    have := StOk.stf (i := i) h0 h1 l _ (n + 1) (h.stp (i := i) (f := f) h0 h1)
    exact this.le (by simp; omega)
theorem price_b {m : Mk} (h : MkOk m) (k : Nat) : 0 ≤ m.price k ∧ m.price k ≤ 100000 := by
  unfold Mk.price
  cases e : m.lots[k]? with
  | none => simp
  | some l => exact h.price l (List.mem_of_getElem? e)
theorem stO_ok {m : Mk} (h : MkOk2 m) (hl : ∀ i, 0 ≤ m.left i) (hn : ∀ f, 0 ≤ m.needs f) {fl : Nat → List Nat} (hf : ∀ k, (fl k).length ≤ 8) : ∀ k, StOk m (stO m fl k) (8 * k)
  | 0 => by
    have := coC_b h m.dear.length (Nat.le_refl _)
    have hd := h.dlen
    refine ⟨h, hl, hn, rfl, rfl, ?_, ?_⟩
    · show _ ≤ costI m; unfold costI; omega
    · show costI m ≤ _; unfold costI; omega
  | k + 1 => by
    have hp := price_b h.ok k
    exact (StOk.stf hp.1 hp.2 (fl k) _ _ (stO_ok h hl hn hf k)).le (by have := hf k; omega)

/-- After j fields of the rent k. -/
def stJ (m : Mk) (fl : Nat → List Nat) (k j : Nat) : PSt := stF (stO m fl k) k (m.price k) ((fl k).take j)
theorem stJ_zero (m : Mk) (fl : Nat → List Nat) (k : Nat) : stJ m fl k 0 = stO m fl k := by unfold stJ; simp [stF_nil]
theorem stJ_end (m : Mk) (fl : Nat → List Nat) (k : Nat) : stJ m fl k (fl k).length = stO m fl (k + 1) := by unfold stJ; rw [List.take_length]; rfl
theorem stJ_succ (m : Mk) (fl : Nat → List Nat) {k j : Nat} (h : j < (fl k).length) : stJ m fl k (j + 1) = stpS (stJ m fl k j) k (fl k)[j] (m.price k) := by
  unfold stJ
  rw [List.take_add_one, List.getElem?_eq_getElem h, Option.toList_some, stF_snoc]
theorem stJ_ok {m : Mk} (h : MkOk2 m) (hl : ∀ i, 0 ≤ m.left i) (hn : ∀ f, 0 ≤ m.needs f) {fl : Nat → List Nat} (hf : ∀ k, (fl k).length ≤ 8) (k j : Nat) : StOk m (stJ m fl k j) (8 * k + 8) := by
  have hp := price_b h.ok k
  refine (StOk.stf (i := k) hp.1 hp.2 ((fl k).take j) _ _ (stO_ok h hl hn hf k)).le ?_
  have := hf k
  rw [List.length_take]
  omega
/-- Once nothing is needed, the plan stays as it is. -/
theorem stJ_break {m : Mk} {fl : Nat → List Nat} {k j p : Nat} (hk : k < p) (h : zeroN (stJ m fl k j).m = true) : stO m fl p = stJ m fl k j := by
  have e1 : stO m fl (k + 1) = stJ m fl k j := by
    show stF (stO m fl k) k (m.price k) (fl k) = _
    have e2 : fl k = (fl k).take j ++ (fl k).drop j := (List.take_append_drop j (fl k)).symm
    have e3 : stF (stO m fl k) k (m.price k) ((fl k).take j ++ (fl k).drop j) = stF (stJ m fl k j) k (m.price k) ((fl k).drop j) := by unfold stF stJ stF; rw [List.foldl_append]
    rw [← e2] at e3
    rw [e3]
    exact stF_zero h _ _ _
  have e2 := stO_zero (m := m) (fl := fl) (k := k + 1) (by rw [e1]; exact h) (p - (k + 1))
  rw [show k + 1 + (p - (k + 1)) = p by omega, e1] at e2
  exact e2
/-- At each step what may be given at most is found by halving. -/
def MonoAt (m : Mk) (fl : Nat → List Nat) : Prop := ∀ k, k < m.lots.length → ∀ j f, (fl k)[j]? = some f → zeroN (stJ m fl k j).m = false →
  ∀ a b : Nat, 1 ≤ a → a ≤ b → (b : Int) ≤ (stJ m fl k j).m.left k → (b : Int) ≤ (stJ m fl k j).m.needs f → soB (stJ m fl k j).m k f (stJ m fl k j).co (m.price k) a = false → soB (stJ m fl k j).m k f (stJ m fl k j).co (m.price k) b = false
/-- The fields of the rents, as lists in memory. -/
def FldAt (w : World) (m : Mk) (fl : Nat → List Nat) (q : Nat) : Prop := ∀ k l, m.lots[k]? = some l → l.fn = (fl k).length ∧ Rd w w.heap.size l.fA nnV 1 (fl k) ∧ ∀ f ∈ fl k, f < q

def ifA (b : Bool) (x y : Array Value) : Array Value := if b = true then x else y

set_option maxRecDepth 100000 in
set_option maxHeartbeats 8000000 in
theorem mplan_any (m : Mk) (fl : Nat → List Nat) (q : Nat) (A1 : Option Addr) (c1 : Nat) (A2 : Option Addr) (c2 : Nat) (w : World) (hm : MkOk2 m) (hl0 : ∀ i, 0 ≤ m.left i) (hn0 : ∀ f, 0 ≤ m.needs f) (hq : q ≤ 8) (hf8 : ∀ k, (fl k).length ≤ 8)
    (hmono : MonoAt m fl) (hfl : FldAt w m fl q) (r1 : Rd w w.heap.size A1 lotV 4 m.lots) (r2 : Rd w w.heap.size A2 nnV 1 m.dear) :
    Calls Try.prog 58 #[.agg (mkA m A1 c1 A2 c2), .int .i64 (q : Int)] w fun e w' =>
      (∃ P R, e = .returned (.slice (some ⟨P, 0, none⟩) m.lots.length m.lots.length) ∧ PlAt w' P m.lots.length q m.lots.length R (stO m fl m.lots.length).pl w.heap.size) ∧ Below w.heap.size w w' := by
  have b0 : Below w.heap.size w (w.alloc (.cells (mkA m A1 c1 A2 c2) 114)) := by (repeat' (first | (with_reducible exact Below.refl _ _) | (with_reducible refine Below.alloc ?_ ?_ _) | (with_reducible refine Below.drew ?_) | (with_reducible refine Below.drewN_ ?_ _) | (with_reducible refine Below.setCell ?_ ?_ _) | (with_reducible refine Below.setRow ?_ ?_ _) | (with_reducible refine Below.via ?_ (by with_reducible assumption) ?_) | go_size))
  have row := heap_alloc_new w (.cells (mkA m A1 c1 A2 c2) 114)
  have hp8 := hm.ok.len
  have CC := Lib.hid (fun (W : World) (hW : Below w.heap.size w W) => cost_any m A1 c1 A2 c2 W hm ((r1.below hW).more hW.size) ((r2.below hW).more hW.size))
  have HST := Lib.hid (fun k j => stJ_ok hm hl0 hn0 hf8 k j)
  have HM := Lib.hid hm
  have HMO := Lib.hid hmono
  have HFL := Lib.hid hfl
  have R1 := Lib.hid r1
  have R2 := Lib.hid r2
  have H8 := Lib.hid hf8
  have k0 : (w.alloc (.cells (mkA m A1 c1 A2 c2) 114)).cell? ⟨w.heap.size, 0, none⟩ = some (.slice A1 m.lots.length c1) := cell_of_row _ w.heap.size 0 _ _ _ row
  have ROW := Lib.hid row
  clear hm hl0 hn0 hf8 hmono hfl r1 r2 row
  obtain ⟨p, hp⟩ : ∃ p, m.lots.length = p := ⟨_, rfl⟩
  rw [hp] at hp8 k0 ⊢
  have HP := Lib.hid hp
  have hmk := fun W => mkLists p (by omega) W
  have hmi := fun W => mkInts q (by omega) W
  clear hp
  go_enter Try.func58, Try.ntmps58
  go_wp2
  go_step3
  go_upto_region 2 with (fail)
  obtain ⟨P, hP⟩ : ∃ P, w.heap.size + 1 = P := ⟨_, rfl⟩
  obtain ⟨w1, hw1⟩ : ∃ w1, (w.alloc (.cells (mkA m A1 c1 A2 c2) 114)).alloc (.cells (slA p fun _ => .slice none 0 0) 41) = w1 := ⟨_, rfl⟩
  have g0 : w1.heap[w.heap.size]? = some (.cells (mkA m A1 c1 A2 c2) 114 (0, 0)) := by rw [← hw1]; exact (Below.heap_alloc _ _ _ (by simp)).trans ROW.out
  have g1 : PlAt w1 P p q 0 (fun _ => 0) (fun _ _ => 0) w.heap.size := by
    refine ⟨?_, fun j hj => absurd hj (Nat.not_lt_zero j), by omega, fun j hj => absurd hj (Nat.not_lt_zero j), fun i j hi => absurd hi (Nat.not_lt_zero i), fun j hj => absurd hj (Nat.not_lt_zero j)⟩
    rw [← hw1, ← hP]
    exact heap_alloc2_new _ _ _
  have g2 : Below w.heap.size w w1 := by rw [← hw1]; (repeat' (first | (with_reducible exact Below.refl _ _) | (with_reducible refine Below.alloc ?_ ?_ _) | (with_reducible refine Below.drew ?_) | (with_reducible refine Below.drewN_ ?_ _) | (with_reducible refine Below.setCell ?_ ?_ _) | (with_reducible refine Below.setRow ?_ ?_ _) | (with_reducible refine Below.via ?_ (by with_reducible assumption) ?_) | go_size))
  rw [hw1, hP]
  have hPl : w.heap.size < P := by omega
  have G0 := Lib.hid g0
  have G1 := Lib.hid g1
  have G2 := Lib.hid g2
  clear hw1 hP g0 g1 g2 k0 ROW b0
  go_wp2
  go_loopw [19] (fun v19 W => ∃ (k : Nat) (R : Nat → Nat), k ≤ p ∧ v19 = .int .i64 k ∧ PlAt W P p q k R (fun _ _ => 0) w.heap.size ∧ (∀ j, j < k → R j ≠ w.heap.size) ∧ W.heap[w.heap.size]? = some (.cells (mkA m A1 c1 A2 c2) 114 (0, 0)) ∧ Below w.heap.size w W) (fun i _ => p - (intOf i).toNat)
  case atStart => exact ⟨0, _, by omega, rfl, G1.out, fun j hj => absurd hj (Nat.not_lt_zero j), G0.out, G2.out⟩
  case round =>
    obtain ⟨k, R, hk, rfl, hpl, hne, h0, hb⟩ := hrel
    clear G0 G1 G2
    have HPL := Lib.hid hpl
    have HNE := Lib.hid hne
    have H0 := Lib.hid h0
    have HB := Lib.hid hb
    have hPw : P < wr.heap.size := (Array.getElem?_eq_some_iff.1 hpl.hP).1
    by_cases hlt : k < p
    · have hltI : (k : Int) < (p : Int) := by omega
      have ka : (wr.alloc (.cells (ivA q fun _ => 0) 3)).cell? ⟨P, k, none⟩ = some (.slice none 0 0) := (cell_of_row _ P k _ _ _ ((Below.heap_alloc _ _ _ hPw).trans hpl.hP)).trans ((slA_get _ hlt).trans (by rw [if_neg (by omega)]))
      have fa : (wr.alloc (.cells (ivA q fun _ => 0) 3)).frozen? ⟨P, k, none⟩ = false := frozen_of_row _ P _ _ _ ((Below.heap_alloc _ _ _ hPw).trans hpl.hP)
      have hE : (wr.alloc (.cells (ivA q fun _ => 0) 3)).setCell ⟨P, k, none⟩ (.slice (some ⟨wr.heap.size, 0, none⟩) q q) = (wr.setCell ⟨P, k, none⟩ (.slice (some ⟨wr.heap.size, 0, none⟩) q q)).alloc (.cells (ivA q fun _ => 0) 3) := World.setCell_alloc_past _ P k _ hPw
      have hmore := Lib.hid (hpl.more hb.size hlt)
      have HE := Lib.hid hE
      clear hE
      clear hpl hne h0 hb hmk
      go_wp2
      go_roundw
      case rel =>
        rw [← HE.out]
        refine ⟨k + 1, _, by omega, by go_num, hmore.out, fun j hj => ?_, ?_, ?_⟩
        · split
          · have := HB.out.size; omega
          · exact HNE.out j (by omega)
        · exact (Below.heap_setCell _ _ _ _ (by show w.heap.size ≠ P; omega)).trans ((Below.heap_alloc _ _ _ (by omega)).trans H0.out)
        · exact Below.setCell (HB.out.alloc HB.out.size _) (by show w.heap.size ≤ P; omega) _
      case measure => (simp [intOf] <;> omega)
    · obtain rfl : k = p := by omega
      clear hpl hne h0 hb hmk hmi
      have T1 : Hid True := Lib.hid trivial
      go_upto_region 8 with (first | (have _t := T1; refine wpList_load_row rfl 114 (.tmp 2) rfl w.heap.size rfl 114 (mkA m A1 c1 A2 c2) (0, 0) _ H0.out Try.underlying114 rfl (infoMk _ _ _ _ _) ?_; clear T1 _t) | (go_at_call 59; refine (CC.out _ HB.out).mono ?_; rintro e w3 ⟨rfl, hb3⟩; have hz3 := hb3.size))
      obtain ⟨g, hg⟩ : ∃ g, w3.heap.size = g := ⟨_, rfl⟩
      obtain ⟨w4, hw4⟩ : ∃ w4, w3.alloc (.cells #[.int .i64 (costI m)] 3) = w4 := ⟨_, rfl⟩
      have g0 : w4.heap[w.heap.size]? = some (.cells (mkA (stO m fl 0).m A1 c1 A2 c2) 114 (0, 0)) := by rw [← hw4]; exact (Below.heap_alloc _ _ _ (by omega)).trans ((hb3.block _ (by omega)).trans H0.out)
      have g1 : w4.heap[g]? = some (.cells #[.int .i64 (stO m fl 0).co] 3 (0, 0)) := by rw [← hw4, ← hg]; exact heap_alloc_new _ _
      have g2 : PlAt w4 P k q k R (stO m fl 0).pl w.heap.size := by rw [← hw4]; exact (HPL.out.below hb3).below ((Below.refl _ _).alloc (Nat.le_refl _) _)
      have g3 : Below w.heap.size w w4 := by rw [← hw4]; exact (HB.out.trans (hb3.mono HB.out.size)).alloc (Nat.le_trans HB.out.size hz3) _
      have gP : P < g := by omega
      have gR : ∀ j, j < k → R j < g := fun j hj => by have := (Array.getElem?_eq_some_iff.1 (HPL.out.hR j hj)).1; omega
      rw [hw4, hg]
      have G0 := Lib.hid g0
      have G1 := Lib.hid g1
      have G2 := Lib.hid g2
      have G3 := Lib.hid g3
      have GR := Lib.hid gR
      have k0 : w4.cell? ⟨w.heap.size, 0, none⟩ = some (.slice A1 k c1) := (cell_of_row w4 w.heap.size 0 _ _ _ g0).trans (by show some (Value.slice A1 m.lots.length c1) = _; rw [HP.out])
      clear hw4 hg hb3 hz3 g0 g1 g2 g3 gR HPL H0 HB CC
      go_step3
      go_wp2
      clear k0
      obtain ⟨p, rfl⟩ : ∃ p, p = k := ⟨_, rfl⟩
      go_loopw [33] (fun v33 W => ∃ k : Nat, k ≤ p ∧ v33 = .int .i64 k ∧ W.heap[w.heap.size]? = some (.cells (mkA (stO m fl k).m A1 c1 A2 c2) 114 (0, 0)) ∧ W.heap[g]? = some (.cells #[.int .i64 (stO m fl k).co] 3 (0, 0)) ∧ PlAt W P p q p R (stO m fl k).pl w.heap.size ∧ Below w.heap.size w W) (fun i _ => p - (intOf i).toNat)
      case atStart => exact ⟨0, by omega, rfl, G0.out, G1.out, G2.out, G3.out⟩
      case round =>
        clear G0 G1 G2 G3
        obtain ⟨k, hkp, rfl, h0, h1, h2, hb⟩ := hrel
        have hgw : g < wr.heap.size := (Array.getElem?_eq_some_iff.1 h1).1
        have H0 := Lib.hid h0
        have H1 := Lib.hid h1
        have H2 := Lib.hid h2
        have HB := Lib.hid hb
        by_cases hlt : k < p
        · have hltI : (k : Int) < (p : Int) := by omega
          have hlm : k < m.lots.length := by rw [HP.out]; exact hlt
          have hF := HFL.out k m.lots[k] (List.getElem?_eq_getElem hlm)
          have hpr := Mk.price_get hlm
          have hpb := price_b HM.out.ok k
          obtain ⟨b, o, rfl, hbl, hcell⟩ := (R1.out.below hb).at_ hlm
          have q0 := hcell 0 _ rfl
          have q1 := hcell 1 _ rfl
          have q2 := hcell 2 _ rfl
          have q3 := hcell 3 _ rfl
          simp only [Nat.add_zero] at q0
          rw [hpr] at hpb
          have HPR := Lib.hid hpr
          obtain ⟨f1, f2, f3⟩ := hF
          generalize m.lots[k] = l at *
          obtain ⟨mi, pr, fA, fn, fc, wh⟩ := l
          dsimp only at f1 f2 q0 q1 q2 q3 hpb HPR
          subst f1
          have F2 := Lib.hid f2
          have F3 := Lib.hid f3
          obtain ⟨bi, hbi⟩ : ∃ bi, wr.heap.size = bi := ⟨_, rfl⟩
          obtain ⟨w5, hw5⟩ : ∃ w5, (wr.alloc (.cells #[.int .i64 (k : Int)] 3)).alloc (.cells (lotA ⟨mi, pr, fA, (fl k).length, fc, wh⟩) 163) = w5 := ⟨_, rfl⟩
          have b5 : Below wr.heap.size wr w5 := by rw [← hw5]; (repeat' (first | (with_reducible exact Below.refl _ _) | (with_reducible refine Below.alloc ?_ ?_ _) | (with_reducible refine Below.drew ?_) | (with_reducible refine Below.drewN_ ?_ _) | (with_reducible refine Below.setCell ?_ ?_ _) | (with_reducible refine Below.setRow ?_ ?_ _) | (with_reducible refine Below.via ?_ (by with_reducible assumption) ?_) | go_size))
          have e0 : w5.heap[bi]? = some (.cells #[.int .i64 (k : Int)] 3 (0, 0)) := by rw [← hw5, ← hbi]; exact (Below.heap_alloc _ _ _ (by simp)).trans (heap_alloc_new _ _)
          have e1 : w5.heap[bi + 1]? = some (.cells (lotA ⟨mi, pr, fA, (fl k).length, fc, wh⟩) 163 (0, 0)) := by rw [← hw5, ← hbi]; exact heap_alloc2_new _ _ _
          have hz5 : w5.heap.size = bi + 1 + 1 := by rw [← hw5, ← hbi]; simp
          have hbig : g < bi := by omega
          have HW5 := Lib.hid hw5
          have E0 := Lib.hid e0
          have E1 := Lib.hid e1
          have B5 := Lib.hid b5
          have HBI := Lib.hid hbi
          clear hcell h0 h1 h2 hb f2 f3 hpr hw5 e0 e1 b5 hlm
          go_upto_region 11 with (fail)
          rw [show (wr.alloc (Obj.cells #[Value.int IntKind.i64 (k : Int)] 3)).alloc (Obj.cells #[Value.int IntKind.i64 mi, Value.int IntKind.i64 pr, Value.slice fA (fl k).length fc, Value.int IntKind.i64 (wh : Int)] 163) = w5 from HW5.out]
          have kf : w5.cell? ⟨bi + 1, 2, none⟩ = some (.slice fA (fl k).length fc) := cell_of_row w5 (bi + 1) 2 _ _ _ E1.out
          clear q0 q1 q2 q3
          go_wp2
          clear kf
          go_loopw [42] (fun v42 W => ∃ j : Nat, j ≤ (fl k).length ∧ v42 = .int .i64 j ∧ W.heap[w.heap.size]? = some (.cells (mkA (stJ m fl k j).m (some ⟨b, o, none⟩) c1 A2 c2) 114 (0, 0)) ∧ W.heap[g]? = some (.cells #[.int .i64 (stJ m fl k j).co] 3 (0, 0)) ∧ PlAt W P p q p R (stJ m fl k j).pl w.heap.size ∧ Below w.heap.size w W ∧ W.heap[bi]? = some (.cells #[.int .i64 (k : Int)] 3 (0, 0)) ∧ W.heap[bi + 1]? = some (.cells (lotA ⟨mi, pr, fA, (fl k).length, fc, wh⟩) 163 (0, 0))) (fun i _ => (fl k).length - (intOf i).toNat)
          case atStart =>
            refine ⟨0, by omega, rfl, ?_, ?_, ?_, ?_, E0.out, E1.out⟩
            · rw [stJ_zero]; exact (B5.out.block _ (by omega)).trans H0.out
            · rw [stJ_zero]; exact (B5.out.block _ hgw).trans H1.out
            · rw [stJ_zero]; exact H2.out.below B5.out
            · exact HB.out.trans (B5.out.mono HB.out.size)
          case round =>
            obtain ⟨j, hj, rfl, h0, h1, h2, hb, h3, h4⟩ := hrel
            clear H0 H1 H2 HB HW5 B5 E0 E1
            have hst := HST.out k j
            have hbw : bi + 1 < wr.heap.size := (Array.getElem?_eq_some_iff.1 h4).1
            have hb1 : bi < wr.heap.size := by omega
            have hgw1 : g < wr.heap.size := by omega
            have hww : w.heap.size < wr.heap.size := by omega
            by_cases hlj : j < (fl k).length
            · have hljI : (j : Int) < ((fl k).length : Int) := by omega
              have hsucc := Lib.hid (stJ_succ m fl hlj)
              have hmo := Lib.hid (fun hz => HMO.out k (by rw [HP.out]; exact hlt) j (fl k)[j] (List.getElem?_eq_getElem hlj) hz)
              have hfq := F3.out _ (List.getElem_mem hlj)
              have hbr := Lib.hid (fun hz => stJ_break (m := m) (fl := fl) (k := k) (j := j) (p := p) hlt hz)
              obtain ⟨b2, o2, rfl, hbl2, hc2⟩ := (F2.out.below hb).at_ hlj
              have qf := hc2 0 _ rfl
              simp only [Nat.add_zero, Nat.mul_one] at qf
              generalize (fl k)[j] = f at *
              generalize stJ m fl k j = st at *
              have hf8 : f < 8 := by omega
              have hfI : (f : Int) < 8 := by omega
              have hk8 : k < 8 := by omega
              have hkI : (k : Int) < 8 := by omega
              have kn0 : wr.cell? ⟨w.heap.size, 2, none⟩ = some (.int .i64 (st.m.needs 0)) := (cell_of_row wr w.heap.size 2 _ _ _ h0).trans rfl
              have kn1 : wr.cell? ⟨w.heap.size, 3, none⟩ = some (.int .i64 (st.m.needs 1)) := (cell_of_row wr w.heap.size 3 _ _ _ h0).trans rfl
              have kn2 : wr.cell? ⟨w.heap.size, 4, none⟩ = some (.int .i64 (st.m.needs 2)) := (cell_of_row wr w.heap.size 4 _ _ _ h0).trans rfl
              have kn3 : wr.cell? ⟨w.heap.size, 5, none⟩ = some (.int .i64 (st.m.needs 3)) := (cell_of_row wr w.heap.size 5 _ _ _ h0).trans rfl
              have kn4 : wr.cell? ⟨w.heap.size, 6, none⟩ = some (.int .i64 (st.m.needs 4)) := (cell_of_row wr w.heap.size 6 _ _ _ h0).trans rfl
              have kn5 : wr.cell? ⟨w.heap.size, 7, none⟩ = some (.int .i64 (st.m.needs 5)) := (cell_of_row wr w.heap.size 7 _ _ _ h0).trans rfl
              have kn6 : wr.cell? ⟨w.heap.size, 8, none⟩ = some (.int .i64 (st.m.needs 6)) := (cell_of_row wr w.heap.size 8 _ _ _ h0).trans rfl
              have kn7 : wr.cell? ⟨w.heap.size, 9, none⟩ = some (.int .i64 (st.m.needs 7)) := (cell_of_row wr w.heap.size 9 _ _ _ h0).trans rfl
              have I0 := Lib.hid h0
              have I1 := Lib.hid h1
              have I2 := Lib.hid h2
              have I3 := Lib.hid h3
              have I4 := Lib.hid h4
              have IB := Lib.hid hb
              clear hc2 h0 h1 h2 h3 h4 hb
              have heq := fun W => run_equalN st.m W
              cases hz : zeroN st.m
              · rw [hz] at heq
                have n0 := hst.n0 f
                have l0 := hst.l0 k
                have hpr0 := hpb.1
                have hpr1 := hpb.2
                have hcob : -1000000000000000 ≤ st.co ∧ st.co ≤ 1000000000000000 := by have h1 := hst.c1; have h2 := hst.c2; push_cast at h1 h2; omega
                obtain ⟨w6, hw6⟩ : ∃ w6, wr.alloc (.cells #[.int .i64 (f : Int)] 3) = w6 := ⟨_, rfl⟩
                obtain ⟨bf, hbf⟩ : ∃ bf, wr.heap.size = bf := ⟨_, rfl⟩
                have b6 : Below wr.heap.size wr w6 := by rw [← hw6]; (repeat' (first | (with_reducible exact Below.refl _ _) | (with_reducible refine Below.alloc ?_ ?_ _) | (with_reducible refine Below.drew ?_) | (with_reducible refine Below.drewN_ ?_ _) | (with_reducible refine Below.setCell ?_ ?_ _) | (with_reducible refine Below.setRow ?_ ?_ _) | (with_reducible refine Below.via ?_ (by with_reducible assumption) ?_) | go_size))
                have ef : w6.heap[bf]? = some (.cells #[.int .i64 (f : Int)] 3 (0, 0)) := by rw [← hw6, ← hbf]; exact heap_alloc_new _ _
                have hCap : CapAt w6 st.m (some ⟨b, o, none⟩) c1 A2 c2 k f st.co ⟨mi, pr, (some ⟨b2, o2, none⟩), (fl k).length, fc, wh⟩ w.heap.size bi bf g (bi + 1) :=
                  ⟨(b6.block _ hww).trans I0.out, (b6.block _ hb1).trans I3.out, ef, (b6.block _ hgw1).trans I1.out, (b6.block _ hbw).trans I4.out⟩
                have J2 := Lib.hid (I2.out.below b6)
                have JB := Lib.hid (IB.out.trans (b6.mono IB.out.size))
                have hmost : ((stpN st k f pr : Nat) : Int) = ((grI (soB st.m k f st.co pr) (min (st.m.left k) (st.m.needs f)).toNat : Nat) : Int) := rfl
                obtain ⟨most, hmt⟩ : ∃ most, (min (st.m.left k) (st.m.needs f)).toNat = most := ⟨_, rfl⟩
                have hmt1 : (most : Int) ≤ st.m.left k ∧ (most : Int) ≤ st.m.needs f ∧ (most : Int) ≤ 23040 ∧ ((most : Int) = st.m.left k ∨ (most : Int) = st.m.needs f) := by have := hst.ok.ok.left k; omega
                have hGR : ∀ W, Below w6.heap.size w6 W → Calls Try.prog 80 #[.int .i64 (most : Int), .func (.func 109) #[] #[.pointer (some ⟨w.heap.size, 0, none⟩), .pointer (some ⟨bi, 0, none⟩), .pointer (some ⟨bf, 0, none⟩), .pointer (some ⟨g, 0, none⟩), .pointer (some ⟨bi + 1, 0, none⟩)]] W fun e w' =>
                    e = .returned (.int .i64 ((stpN st k f pr : Nat) : Int)) ∧ Below W.heap.size W w' := fun W hW => by
                  refine (greatest_any 109 #[.pointer (some ⟨w.heap.size, 0, none⟩), .pointer (some ⟨bi, 0, none⟩), .pointer (some ⟨bf, 0, none⟩), .pointer (some ⟨g, 0, none⟩), .pointer (some ⟨bi + 1, 0, none⟩)] most (soB st.m k f st.co pr) W (enters_of Try.func109 (by kernel_rfl) rfl) (by omega) (fun W' i i1 i2 hW' => ?_) (fun x y x1 xy y1 => by have hh := hmo.out hz x y x1 xy (by omega) (by omega); rw [HPR.out] at hh; exact hh)).mono ?_
                  · have hWW := hW.trans (hW'.mono hW.size)
                    have hC2 : CapAt W' st.m (some ⟨b, o, none⟩) c1 A2 c2 k f st.co ⟨mi, pr, (some ⟨b2, o2, none⟩), (fl k).length, fc, wh⟩ w.heap.size bi bf g (bi + 1) :=
                      ⟨(hWW.block _ (Array.getElem?_eq_some_iff.1 hCap.h0).1).trans hCap.h0, (hWW.block _ (Array.getElem?_eq_some_iff.1 hCap.h1).1).trans hCap.h1, (hWW.block _ (Array.getElem?_eq_some_iff.1 hCap.h2).1).trans hCap.h2, (hWW.block _ (Array.getElem?_eq_some_iff.1 hCap.h3).1).trans hCap.h3, (hWW.block _ (Array.getElem?_eq_some_iff.1 hCap.h4).1).trans hCap.h4⟩
                    have hWB : Below w.heap.size w W' := JB.out.trans (hWW.mono JB.out.size)
                    exact plan1_any st.m (some ⟨b, o, none⟩) c1 A2 c2 k f i st.co ⟨mi, pr, (some ⟨b2, o2, none⟩), (fl k).length, fc, wh⟩ w.heap.size bi bf g (bi + 1) W' hst.ok hk8 hf8 (by omega) (by omega) hpb hcob hC2 (by rw [hst.lots]; exact (R1.out.below hWB).more hWB.size) (by rw [hst.dear]; exact (R2.out.below hWB).more hWB.size)
                  · rintro e w' ⟨⟨x, rfl, hx, h1, h2⟩, hb'⟩
                    refine ⟨?_, hb'⟩
                    rw [hmost, hmt, grI_eq _ most x hx h1 h2]
                have HGR := Lib.hid hGR
                have hnn : ((stpN st k f pr : Nat) : Int) ≤ most := by
                  have := grI_le (soB st.m k f st.co pr) most
                  rw [hmost, hmt]
                  omega
                have hstp : stpS st k f pr = ⟨aftM st.m k f (stpN st k f pr), st.co - stpN st k f pr * pr, fun x y => if x = k ∧ y = f then (stpN st k f pr : Int) else st.pl x y⟩ := by unfold stpS; rw [if_neg (by rw [hz]; simp)]
                have HSTP := Lib.hid hstp
                have HCAP := Lib.hid hCap
                generalize stpN st k f pr = nn at *
                have HW6 := Lib.hid hw6
                have HBF := Lib.hid hbf
                have hgbf : g < bf := by omega
                have hbbf : bi + 1 < bf := by omega
                have hz6 : w6.heap.size = bf + 1 := by rw [← hw6, ← hbf]; simp
                clear hmost hmo hbr hCap hGR b6 ef hw6 hbf hz
                go_upto_region 15 with (fail)
                rw [HBF.out, show wr.alloc (.cells #[.int .i64 (f : Int)] 3) = w6 from HW6.out]
                clear kn0 kn1 kn2 kn3 kn4 kn5 kn6 kn7 heq qf
                have hbf6 : bf < w6.heap.size := by omega
                have hbb6 : bi + 1 < w6.heap.size := by have := (Array.getElem?_eq_some_iff.1 HCAP.out.h4).1; omega
                have hbi6 : bi < w6.heap.size := by omega
                have hg6 : g < w6.heap.size := by omega
                have hw60 : w.heap.size < w6.heap.size := by omega
                clear hz6
                have ki : w6.cell? ⟨bi, 0, none⟩ = some (.int .i64 (k : Int)) := cell_of_row w6 bi 0 _ _ _ HCAP.out.h1
                have kf : w6.cell? ⟨bf, 0, none⟩ = some (.int .i64 (f : Int)) := cell_of_row w6 bf 0 _ _ _ HCAP.out.h2
                have kl := (cell_of_row w6 w.heap.size (10 + k) _ _ _ HCAP.out.h0).trans (mkA_left _ _ c1 _ c2 hk8)
                have kn := (cell_of_row w6 w.heap.size (2 + f) _ _ _ HCAP.out.h0).trans (mkA_needs _ _ c1 _ c2 hf8)
                generalize hL : st.m.left k = L at *
                generalize hN : st.m.needs f = N at *
                have HL := Lib.hid hL
                have HN := Lib.hid hN
                have hmin : (if N < L then N else L) = (most : Int) := by split <;> omega
                clear hL hN hmt
                refine wp_region_calm (by kernel_rfl) (by kernel_rfl) ?_
                repeat (go_big_quiet_step ((go_at_call 80; exact calm_of (HGR.out _ (wx_below _ _)))))
                refine wpQuiet_nil ?_; rintro _ ⟨dx, rfl⟩
                obtain ⟨wy, hwy⟩ : ∃ wy, wx _ dx = wy := ⟨_, rfl⟩; have hby := wx_below _ dx; rw [hwy] at hby ⊢
                have JP := Lib.hid (J2.out.below hby)
                have JC0 := Lib.hid ((hby.block _ (Array.getElem?_eq_some_iff.1 HCAP.out.h0).1).trans HCAP.out.h0)
                have JC1 := Lib.hid ((hby.block _ (Array.getElem?_eq_some_iff.1 HCAP.out.h1).1).trans HCAP.out.h1)
                have JC2 := Lib.hid ((hby.block _ (Array.getElem?_eq_some_iff.1 HCAP.out.h2).1).trans HCAP.out.h2)
                have JC3 := Lib.hid ((hby.block _ (Array.getElem?_eq_some_iff.1 HCAP.out.h3).1).trans HCAP.out.h3)
                have JC4 := Lib.hid ((hby.block _ (Array.getElem?_eq_some_iff.1 HCAP.out.h4).1).trans HCAP.out.h4)
                have JBy := Lib.hid (JB.out.trans (hby.mono JB.out.size))
                have sz := hby.size
                replace ki := (hby.cell (p := ⟨bi, 0, none⟩) hbi6).trans ki
                replace kf := (hby.cell (p := ⟨bf, 0, none⟩) hbf6).trans kf
                have kP : wy.cell? ⟨P, k, none⟩ = some (.slice (some ⟨R k, 0, none⟩) q q) := (cell_of_row wy P k _ _ _ JP.out.hP).trans ((slA_get _ hlt).trans (by rw [if_pos hlt]))
                have kR : wy.cell? ⟨R k, f, none⟩ = some (.int .i64 (st.pl k f)) := (cell_of_row wy (R k) f _ _ _ (JP.out.hR k hlt)).trans (ivA_get _ hfq)
                have fR : wy.frozen? ⟨R k, f, none⟩ = false := frozen_of_row wy (R k) f _ _ (JP.out.hR k hlt)
                have hfqI : (f : Int) < (q : Int) := by omega
                have hPw1 : P < wy.heap.size := (Array.getElem?_eq_some_iff.1 JP.out.hP).1
                clear kl kn hmin HCAP J2 JB hby hwy
                go_upto_region 16 with (fail)
                refine wp_region_draw_tail 7 (by kernel_rfl) (by decide +kernel) (by omega) ?_
                (simp only [List.take_succ_cons, List.take_zero, List.drop_succ_cons, List.drop_zero]); (repeat (go_big_quiet_step (fail))); refine wpQuiet_nil ?_; rintro _ ⟨nq, rfl⟩
                gi_wp2_with fail
                obtain ⟨w7, hw7⟩ : ∃ w7, (wy.drewN nq).setCell ⟨R k, f, none⟩ (.int .i64 (nn : Int)) = w7 := ⟨_, rfl⟩
                have hRw : R k ≠ w.heap.size := HNE.out k hlt
                have hRg : R k < g := GR.out k hlt
                have K0 : ∀ x, x ≠ R k → w7.heap[x]? = wy.heap[x]? := fun x hx => by rw [← hw7]; exact Below.heap_setCell _ _ _ _ hx
                have JP7 := Lib.hid (show PlAt w7 P p q p R (fun x y => if x = k ∧ y = f then (nn : Int) else st.pl x y) w.heap.size by rw [← hw7]; exact PlAt.put (JP.out.below (Below.drewN_ (Below.refl _ _) nq)) hlt _)
                have JB7 := Lib.hid (show Below w.heap.size w w7 by rw [← hw7]; exact Below.setCell (Below.drewN_ JBy.out nq) (by show w.heap.size ≤ R k; exact JP.out.bR k hlt) _)
                have r0 := (K0 _ (fun e => hRw e.symm)).trans JC0.out
                have r1 := (K0 bi (by omega)).trans JC1.out
                have r2 := (K0 bf (by omega)).trans JC2.out
                have r3 := (K0 g (by omega)).trans JC3.out
                have r4 := (K0 (bi + 1) (by omega)).trans JC4.out
                rw [hw7]
                clear hw7 K0 JP JBy JC0 JC1 JC2 JC3 JC4 ki kf kP kR fR hPw1 sz
                have L0 := Lib.hid r0
                have L1 := Lib.hid r1
                have L3 := Lib.hid r3
                have L4 := Lib.hid r4
                have hx0 : w.heap.size < w7.heap.size := (Array.getElem?_eq_some_iff.1 r0).1
                have hx1 : bi < w7.heap.size := (Array.getElem?_eq_some_iff.1 r1).1
                have hx2 : bf < w7.heap.size := (Array.getElem?_eq_some_iff.1 r2).1
                have hx3 : g < w7.heap.size := (Array.getElem?_eq_some_iff.1 r3).1
                have hx4 : bi + 1 < w7.heap.size := (Array.getElem?_eq_some_iff.1 r4).1
                have ki : w7.cell? ⟨bi, 0, none⟩ = some (.int .i64 (k : Int)) := cell_of_row w7 bi 0 _ _ _ r1
                have kf : w7.cell? ⟨bf, 0, none⟩ = some (.int .i64 (f : Int)) := cell_of_row w7 bf 0 _ _ _ r2
                have kc : w7.cell? ⟨g, 0, none⟩ = some (.int .i64 st.co) := cell_of_row w7 g 0 _ _ _ r3
                have kp : w7.cell? ⟨bi + 1, 1, none⟩ = some (.int .i64 pr) := cell_of_row w7 (bi + 1) 1 _ _ _ r4
                have CA := Lib.hid (fun W' => after_any' st.m (some ⟨b, o, none⟩) c1 A2 c2 k f (nn : Int) W' hst.ok.ok hk8 hf8 (by omega) (by omega))
                have p1 := term_b (a := (nn : Int)) (p := pr) (by omega) (by omega) hpr0 hpr1
                have hne1 : g ≠ w.heap.size := by omega
                clear r0 r1 r2 r3 r4
                refine (wpIn_wide (n := 3)).1 ?_
                refine wpIn_region_planYA (X := Unit) (by kernel_rfl) 13 (by decide +kernel) (by decide +kernel) (by omega)
                  (fun _ i => (#[.agg (mkA st.m (some ⟨b, o, none⟩) c1 A2 c2), .int .i64 (k : Int), .int .i64 (f : Int), .int .i64 (nn : Int), .agg (mkA (aftM st.m k f nn) (some ⟨b, o, none⟩) c1 A2 c2), .int .i64 st.co, .int .i64 (nn : Int), .pointer (some ⟨bi + 1, 0, none⟩), .pointer (some ⟨bi + 1, 1, none⟩), .int .i64 pr, .int .i64 ((nn : Int) * pr), .int .i64 (st.co - (nn : Int) * pr), undef] : Array Value).getD i undef)
                  (fun L _ W => ((Below w.heap.size w W ∧ w7.heap.size ≤ W.heap.size) ∧ ∀ x, x < w7.heap.size → x ≠ w.heap.size → W.heap[x]? = w7.heap[x]?) ∧ W.heap[w.heap.size]? = some (.cells (ifA (L 12) (mkA (aftM st.m k f nn) (some ⟨b, o, none⟩) c1 A2 c2) (mkA st.m (some ⟨b, o, none⟩) c1 A2 c2)) 114 (0, 0))) _ _ () ?aF ?hA ?hS ?hstep ?htail
                case hA => intro x; simp [putTo, putIf, dstAt, Act.put, List.range_succ]; rfl
                case hS => exact fun L hL => ⟨⟨⟨JB7.out.drew, Nat.le_refl _⟩, fun x _ _ => rfl⟩, by rw [hL]; exact L0.out⟩
                case hstep =>
                  intro i o' hi ho L x W hL hcl hdep hW
                  obtain ⟨⟨⟨hW1, hW2⟩, hW3⟩, hW4⟩ := hW
                  refine ⟨fun _ _ => trivial, ?_⟩
                  have hj1 : ∀ x y, x < w7.heap.size → x ≠ w.heap.size → W.cell? ⟨x, y, none⟩ = w7.cell? ⟨x, y, none⟩ := fun x y h1 h2 => by unfold World.cell?; rw [show W.heap[(⟨x, y, none⟩ : Addr).block]? = w7.heap[(⟨x, y, none⟩ : Addr).block]? from hW3 x h1 h2]
                  have pi := (hj1 bi 0 hx1 (by omega)).trans ki
                  have pf := (hj1 bf 0 hx2 (by omega)).trans kf
                  have pc := (hj1 g 0 hx3 hne1).trans kc
                  have pp := (hj1 (bi + 1) 1 hx4 (by omega)).trans kp
                  have H4 := Lib.hid hW4
                  have H3 := Lib.hid hW3
                  have H1 := Lib.hid hW1
                  clear hW4 hW3 hW1 hj1 ki kf kc kp
                  have e12 : ∀ j : Nat, j ≠ 12 → (L 12 || (12 == j)) = L 12 := fun j h => by rw [show ((12 : Nat) == j) = false from by simp; omega, Bool.or_false]
                  have HE12 := Lib.hid e12
                  clear e12
                  have hi' : i = 0 ∨ i = 1 ∨ i = 2 ∨ i = 3 ∨ i = 4 ∨ i = 5 ∨ i = 6 ∨ i = 7 ∨ i = 8 ∨ i = 9 ∨ i = 10 ∨ i = 11 ∨ i = 12 := by omega
                  rcases hi' with rfl | rfl | rfl | rfl | rfl | rfl | rfl | rfl | rfl | rfl | rfl | rfl | rfl
                  all_goals (simp only [List.getElem?_toArray, List.getElem?_cons_succ, List.getElem?_cons_zero, Option.some.injEq] at ho; subst ho)
                  case inl =>
                    have h12 : L 12 = false := by
                      cases h : L 12
                      · rfl
                      · have h4 := hcl 12 _ h rfl { on := 4, ground := Ground.data } (by simp) rfl
                        have h0 := hcl 4 _ h4 rfl { on := 0, ground := Ground.data } (by simp) rfl
                        rw [hL] at h0
                        cases h0
                    have hrow := H4.out
                    rw [h12, show ∀ x y, ifA false x y = y from fun _ _ => rfl] at hrow
                    have hld := run_loadVar_row (P := Try.prog) W w.heap.size 114 114 (mkA st.m (some ⟨b, o, none⟩) c1 A2 c2) (0, 0) _ hrow Try.underlying114 rfl (infoMk _ _ _ _ _)
                    simp only [execOp, Act.eval, List.getElem?_toArray, Array.getD_eq_getD_getElem?, List.getElem?_cons_succ, List.getElem?_cons_zero, Option.getD_some, Instr.loadAt, Instr.sureAddr, Sem.run_bind, Sem.run_pure, Result.andThen_ok, hld]
                    refine ⟨(), fun _ _ => rfl, rfl, ⟨⟨H1.out, hW2⟩, H3.out⟩, ?_⟩
                    dsimp only
                    rw [HE12.out 0 (by decide)]
                    exact H4.out
                  case inr.inr.inr.inr.inl =>
                    go_simp
                    refine ⟨by simp, callsIn_wide.2 ((CA.out W).mono ?_)⟩
                    rintro e w' ⟨rfl, hb'⟩
                    refine ⟨_, rfl, (), fun _ _ => rfl, rfl, ⟨⟨H1.out.trans (hb'.mono H1.out.size), Nat.le_trans hW2 hb'.size⟩, fun x hx hne => (hb'.block x (Nat.lt_of_lt_of_le hx hW2)).trans (H3.out x hx hne)⟩, ?_⟩
                    dsimp only
                    rw [HE12.out 4 (by decide)]
                    exact (hb'.block _ (Nat.lt_of_lt_of_le hx0 hW2)).trans H4.out
                  case inr.inr.inr.inr.inr.inr.inr.inr.inr.inr.inr.inr =>
                    have hrow := H4.out
                    rw [hL, show ∀ x y, ifA false x y = y from fun _ _ => rfl] at hrow
                    have hss := run_storeVar_row (P := Try.prog) W w.heap.size 114 114 _ (mkA (aftM st.m k f nn) (some ⟨b, o, none⟩) c1 A2 c2) hrow (infoMk _ _ _ _ _) (by simp [mkA]) (mkA_one _ _ _ _ _)
                    simp only [execOp, Act.eval, List.getElem?_toArray, Array.getD_eq_getD_getElem?, List.getElem?_cons_succ, List.getElem?_cons_zero, Option.getD_some, Instr.storeAt, Instr.sureAddr, Sem.run_bind, Sem.run_pure, Result.andThen_ok, hss]
                    refine ⟨(), fun _ _ => rfl, rfl, ⟨⟨Below.setRow H1.out (Nat.le_refl _) _, by rw [setRow_size]; exact hW2⟩, fun x hx hne => (setRow_other _ _ _ _ hne).trans (H3.out x hx hne)⟩, ?_⟩
                    dsimp only
                    rw [show (L 12 || (12 == 12)) = true by simp, show ∀ x y, ifA true x y = x from fun _ _ => rfl]
                    exact setRow_heap _ _ _ _ _ _ hrow
                  all_goals go_simp
                  all_goals refine ⟨(), fun _ _ => rfl, by first | rfl | (rw [IntWalk.i64_in _ (by omega)]; rfl), ⟨⟨H1.out, hW2⟩, H3.out⟩, ?_⟩
                  all_goals dsimp only
                  all_goals rw [HE12.out _ (by decide)]
                  all_goals exact H4.out
                case htail =>
                  intro L x W hL hW
                  obtain ⟨⟨⟨hW1, hW2⟩, hW3⟩, hW4⟩ := hW
                  rw [hL 12 (by omega), show ∀ x y, ifA true x y = x from fun _ _ => rfl] at hW4
                  simp only [List.drop_succ_cons, List.drop_zero]
                  have hG := (hW3 g hx3 hne1).trans L3.out
                  have pc := cell_of_row W g 0 _ _ _ hG
                  have pf := frozen_of_row W g 0 _ _ hG
                  have M0 := Lib.hid ((Below.heap_setCell W ⟨g, 0, none⟩ (.int .i64 (st.co - (nn : Int) * pr)) w.heap.size (by show w.heap.size ≠ g; omega)).trans hW4)
                  have M1 := Lib.hid (show (W.setCell ⟨g, 0, none⟩ (.int .i64 (st.co - (nn : Int) * pr))).heap[g]? = some (.cells #[.int .i64 (st.co - (nn : Int) * pr)] 3 (0, 0)) from heap_setCell_same W g 0 _ _ _ hG)
                  have M3 := Lib.hid ((Below.heap_setCell W ⟨g, 0, none⟩ (.int .i64 (st.co - (nn : Int) * pr)) bi (by show bi ≠ g; omega)).trans ((hW3 bi hx1 (by omega)).trans L1.out))
                  have M4 := Lib.hid ((Below.heap_setCell W ⟨g, 0, none⟩ (.int .i64 (st.co - (nn : Int) * pr)) (bi + 1) (by show bi + 1 ≠ g; omega)).trans ((hW3 (bi + 1) hx4 (by omega)).trans L4.out))
                  have MB := Lib.hid (Below.setCell hW1 (by show w.heap.size ≤ g; omega) (.int .i64 (st.co - (nn : Int) * pr)) : Below w.heap.size w (W.setCell ⟨g, 0, none⟩ (.int .i64 (st.co - (nn : Int) * pr))))
                  have MP := Lib.hid (JP7.out.keep (W' := W.setCell ⟨g, 0, none⟩ (.int .i64 (st.co - (nn : Int) * pr))) fun x h1 h2 h3 => by
                    have hxg : x ≠ g := by
                      rcases h3 with rfl | ⟨y, hy, rfl⟩
                      · omega
                      · have := GR.out y hy; omega
                    have hxw : x ≠ w.heap.size := by
                      rcases h3 with rfl | ⟨y, hy, rfl⟩
                      · omega
                      · exact HNE.out y hy
                    exact (Below.heap_setCell _ _ _ _ hxg).trans (hW3 x h2 hxw))
                  clear hW1 hW2 hW3 hW4 hG ki kf kc kp hL
                  have hsj : stJ m fl k (j + 1) = ⟨aftM st.m k f nn, st.co - nn * pr, fun x y => if x = k ∧ y = f then (nn : Int) else st.pl x y⟩ := by rw [hsucc.out, HPR.out]; exact HSTP.out
                  have HSJ := Lib.hid hsj
                  clear hsj hstp
                  have hfk := H8.out k
                  gi_wp2
                  clear pc pf
                  generalize W.setCell ⟨g, 0, none⟩ (.int .i64 (st.co - (nn : Int) * pr)) = w8 at *
                  go_wp2
                  go_roundw
                  case rel =>
                    refine ⟨j + 1, by omega, by go_num, ?_, ?_, ?_, MB.out, M3.out, M4.out⟩
                    · rw [HSJ.out]; exact M0.out
                    · rw [HSJ.out]; exact M1.out
                    · rw [HSJ.out]; exact MP.out
                  case measure => (simp [intOf] <;> omega)
              · rw [hz] at heq
                have hend := hbr.out hz
                have HEND := Lib.hid hend
                clear hend hbr hz
                go_wp2
                rw [Exit.noGoto_ret]
                go_ret
                refine ⟨⟨P, R, rfl, ?_⟩, IB.out.alloc IB.out.size _⟩
                rw [HEND.out]
                exact I2.out.below ((Below.refl _ _).alloc (Nat.le_refl _) _)
            · obtain rfl : j = (fl k).length := by omega
              have hnext := Lib.hid (stJ_end m fl k)
              have I0 := Lib.hid h0
              have I1 := Lib.hid h1
              have I2 := Lib.hid h2
              have IB := Lib.hid hb
              clear h0 h1 h2 h3 h4 hb
              go_wp2
              go_roundw
              case rel => exact ⟨k + 1, by omega, by go_num, by rw [← hnext.out]; exact I0.out, by rw [← hnext.out]; exact I1.out, by rw [← hnext.out]; exact I2.out, IB.out⟩
              case measure => (simp [intOf] <;> omega)
        · obtain rfl : k = p := by omega
          clear h0 h1 h2 hb
          go_wp2
          rw [Exit.noGoto_ret]
          go_ret
          exact ⟨⟨P, R, rfl, H2.out⟩, HB.out⟩
end Go.Proofs.Ytjkefoijhphknaa
