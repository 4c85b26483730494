/- What the cheapest plan of a market costs. Condition: a market within bounds, its rents listed by their numbers. -/
import Derived.Test.YtjkefoijhphknaaMkLack
namespace Go.Proofs.Ytjkefoijhphknaa
open Go.RowKit Go.IntWalk
attribute [local go_sem] run_index_ar

/-- What of a rent is left, looking at the first sets. -/
def lvS (m : Mk) (F : Nat → Int) (i : Nat) : Nat → Int
  | 0 => m.left i
  | s + 1 => if touch (m.who i) s then min (lvS m F i s) (F s) else lvS m F i s
def subS (m : Mk) (F : Nat → Int) (i : Nat) (lv : Int) (k : Nat) : Nat → Int := fun s => if s < k then (if touch (m.who i) s then F s - lv else F s) else F s
theorem subS_zero (m : Mk) (F : Nat → Int) (i : Nat) (lv : Int) : subS m F i lv 0 = F := by funext s; unfold subS; rw [if_neg (by omega)]
theorem subS_true {m : Mk} {F : Nat → Int} {i : Nat} {lv : Int} {k : Nat} (h : touch (m.who i) k = true) : (fun s => if s = k then F k - lv else subS m F i lv k s) = subS m F i lv (k + 1) := by
  funext s
  unfold subS
  by_cases e : s = k
  · subst e
    rw [if_pos rfl, if_pos (by omega), if_pos h]
  · rw [if_neg e]
    by_cases e2 : s < k
    · rw [if_pos e2, if_pos (show s < k + 1 by omega)]
    · rw [if_neg e2, if_neg (show ¬ s < k + 1 by omega)]
theorem subS_false {m : Mk} {F : Nat → Int} {i : Nat} {lv : Int} {k : Nat} (h : touch (m.who i) k = false) : subS m F i lv k = subS m F i lv (k + 1) := by
  funext s
  unfold subS
  by_cases e : s = k
  · subst e
    rw [if_neg (by omega), if_pos (by omega), if_neg (by rw [h]; simp)]
  · by_cases e2 : s < k
    · rw [if_pos e2, if_pos (show s < k + 1 by omega)]
    · rw [if_neg e2, if_neg (show ¬ s < k + 1 by omega)]
theorem subS_at (m : Mk) (F : Nat → Int) (i : Nat) (lv : Int) (k : Nat) : subS m F i lv k k = F k := by unfold subS; rw [if_neg (by omega)]
def Mk.price (m : Mk) (i : Nat) : Int := (m.lots[i]?.map (·.price)).getD 0
theorem Mk.price_get {m : Mk} {i : Nat} (h : i < m.lots.length) : m.price i = (m.lots[i]).price := by unfold Mk.price; rw [List.getElem?_eq_getElem h]; rfl
def Mk.dr (m : Mk) (j : Nat) : Nat := (m.dear[j]?).getD 0
theorem Mk.dr_get {m : Mk} {j : Nat} (h : j < m.dear.length) : m.dr j = m.dear[j] := by unfold Mk.dr; rw [List.getElem?_eq_getElem h]; rfl
/-- What is left to spare, and the cost, after the first of the rents by their prices. -/
def coF (m : Mk) : Nat → Nat → Int
  | 0 => spI m
  | j + 1 => subS m (coF m j) (m.dr j) (lvS m (coF m j) (m.dr j) 256) 256
def coC (m : Mk) : Nat → Int
  | 0 => 0
  | j + 1 => coC m j + (m.left (m.dr j) - lvS m (coF m j) (m.dr j) 256) * m.price (m.dr j)
def costI (m : Mk) : Int := coC m m.dear.length

structure MkOk2 (m : Mk) : Prop where
  ok : MkOk m
  dlen : m.dear.length ≤ 8
  dlt : ∀ i ∈ m.dear, i < m.lots.length
theorem lvS_bnd {m : Mk} (h : MkOk m) {F : Nat → Int} {B : Int} (hB : 23040 ≤ B) (hF : ∀ s, s < 256 → -B ≤ F s ∧ F s ≤ B) (i : Nat) : ∀ s, s ≤ 256 → -B ≤ lvS m F i s ∧ lvS m F i s ≤ 23040
  | 0, _ => by have := h.left i; unfold lvS; omega
  | s + 1, hs => by
    have ih := lvS_bnd h hB hF i s (by omega)
    have := hF s (by omega)
    unfold lvS
    split <;> omega
theorem coF_bnd {m : Mk} (h : MkOk m) : ∀ j, j ≤ 8 → ∀ s, s < 256 → -(400000 * 2 ^ j) ≤ coF m j s ∧ coF m j s ≤ 400000 * 2 ^ j
  | 0, _, s, _ => by have := spI_bnd h s; unfold coF; omega
  | j + 1, hj, s, hs => by
    have ih := coF_bnd h j (by omega)
    have hp : (1 : Int) ≤ 2 ^ j := by have := Nat.one_le_two_pow (n := j); exact_mod_cast this
    have h1 := lvS_bnd h (F := coF m j) (B := 400000 * 2 ^ j) (by omega) ih (m.dr j) 256 (by omega)
    have h2 := ih s hs
    have h3 : (2 : Int) ^ (j + 1) = 2 * 2 ^ j := by rw [Int.pow_succ, Int.mul_comm]
    unfold coF subS
    rw [h3, if_pos hs]
    split <;> omega
theorem pow_le8 {j : Nat} (h : j ≤ 8) : (2 : Int) ^ j ≤ 256 := by
  have : j = 0 ∨ j = 1 ∨ j = 2 ∨ j = 3 ∨ j = 4 ∨ j = 5 ∨ j = 6 ∨ j = 7 ∨ j = 8 := by omega
  rcases this with rfl | rfl | rfl | rfl | rfl | rfl | rfl | rfl | rfl <;> decide
theorem coF_b {m : Mk} (h : MkOk m) {j : Nat} (hj : j ≤ 8) {s : Nat} (hs : s < 256) : -102400000 ≤ coF m j s ∧ coF m j s ≤ 102400000 := by
  have := coF_bnd h j hj s hs
  have := pow_le8 hj
  omega
theorem coS_b {m : Mk} (h : MkOk2 m) {j : Nat} (hj : j < m.dear.length) : 0 ≤ m.price (m.dr j) ∧ m.price (m.dr j) ≤ 100000 := by
  have h1 : m.dr j < m.lots.length := by rw [Mk.dr_get hj]; exact h.dlt _ (List.getElem_mem hj)
  rw [Mk.price_get h1]
  exact h.ok.price _ (List.getElem_mem h1)
theorem term_b {a p : Int} (h1 : -200000000 ≤ a) (h2 : a ≤ 200000000) (h3 : 0 ≤ p) (h4 : p ≤ 100000) : -20000000000000 ≤ a * p ∧ a * p ≤ 20000000000000 := by
  have e1 := Int.mul_le_mul_of_nonneg_right h2 h3
  have e2 := Int.mul_le_mul_of_nonneg_right h1 h3
  omega
theorem coC_b {m : Mk} (h : MkOk2 m) : ∀ j, j ≤ m.dear.length → -(20000000000000 * (j : Int)) ≤ coC m j ∧ coC m j ≤ 20000000000000 * j
  | 0, _ => by simp [coC]
  | j + 1, hj => by
    have ih := coC_b h j (by omega)
    have hd := h.dlen
    have h1 := lvS_bnd h.ok (F := coF m j) (B := 102400000) (by omega) (fun s hs => coF_b h.ok (show j ≤ 8 by omega) hs) (m.dr j) 256 (by omega)
    have h2 := h.ok.left (m.dr j)
    have h3 := coS_b h (show j < m.dear.length by omega)
    have h4 := term_b (a := m.left (m.dr j) - lvS m (coF m j) (m.dr j) 256) (by omega) (by omega) h3.1 h3.2
    unfold coC
    push_cast
    omega

set_option maxRecDepth 100000 in
set_option maxHeartbeats 8000000 in
theorem cost_any (m : Mk) (A1 : Option Addr) (c1 : Nat) (A2 : Option Addr) (c2 : Nat) (w : World) (hm : MkOk2 m) (r1 : Rd w w.heap.size A1 lotV 4 m.lots) (r2 : Rd w w.heap.size A2 nnV 1 m.dear) :
    Calls Try.prog 59 #[.agg (mkA m A1 c1 A2 c2)] w fun e w' => e = .returned (.int .i64 (costI m)) ∧ Below w.heap.size w w' := by
  have b0 : Below w.heap.size w (w.alloc (.cells (mkA m A1 c1 A2 c2) 114)) := by (repeat' (first | (with_reducible exact Below.refl _ _) | (with_reducible refine Below.alloc ?_ ?_ _) | (with_reducible refine Below.drew ?_) | (with_reducible refine Below.drewN_ ?_ _) | (with_reducible refine Below.setCell ?_ ?_ _) | (with_reducible refine Below.setRow ?_ ?_ _) | (with_reducible refine Below.via ?_ (by with_reducible assumption) ?_) | go_size))
  have CS := Lib.hid (spare_any m A1 c1 A2 c2 (w.alloc (.cells (mkA m A1 c1 A2 c2) 114)) hm.ok ((r1.below b0).more b0.size))
  have HI : Hid ((Try.prog.info? 114).map (·.size) = some (mkA m A1 c1 A2 c2).size) := Lib.hid (by kernel_rfl)
  have row := Lib.hid (heap_alloc_new w (.cells (mkA m A1 c1 A2 c2) 114))
  have HM := Lib.hid hm
  have R1 := Lib.hid r1
  have R2 := Lib.hid r2
  have HZ := Lib.hid arZero
  have hs1 : (arV fun _ => (0 : Int)).size = (arV (spI m)).size := by rw [arV_size, arV_size]
  have HS1 := Lib.hid hs1
  clear hm r1 r2 hs1
  have T1 : Hid True := Lib.hid trivial
  have T2 : Hid True := Lib.hid trivial
  go_enter Try.func59, Try.ntmps59
  go_upto_region 2 with (first | (refine wpList_store_row rfl 166 (.tmp 3) (.tmp 12) rfl w1.heap.size (arV (spI m)) rfl rfl 166 Try.zeroCells166 (heap_alloc_new w1 _) (infoAr _) (by rw [HZ.out]; exact HS1.out) (arV_one _) ?_; have _t := T2; clear T2 _t) | (have _t := T1; refine wpList_load_row rfl 114 (.tmp 1) rfl w.heap.size rfl 114 (mkA m A1 c1 A2 c2) (0, 0) _ row.out Try.underlying114 rfl HI.out ?_; clear T1 _t) | (go_at_call 105; refine CS.out.mono ?_; rintro e w1 ⟨rfl, hb1⟩; have hz1 := hb1.size))
  have hs0 : w.heap.size < w1.heap.size := by simp at hz1; omega
  obtain ⟨g, hg⟩ : ∃ g, w1.heap.size = g := ⟨_, rfl⟩
  obtain ⟨w2, hw2⟩ : ∃ w2, (w1.alloc (Obj.cells Try.zeroCells166 166)).setRow w1.heap.size (arV (spI m)) = w2 := ⟨_, rfl⟩
  have g0 : w2.heap[w.heap.size]? = some (.cells (mkA m A1 c1 A2 c2) 114 (0, 0)) := by
    rw [← hw2]
    simp only [World.setRow, Array.getElem?_modify]
    rw [if_neg (by omega)]
    exact (Below.heap_alloc _ _ _ hs0).trans ((hb1.block _ (by simp)).trans row.out)
  have g1 : w2.heap[g]? = some (.cells (arV (coF m 0)) 166 (0, 0)) := by rw [← hw2, ← hg]; exact setRow_heap _ _ _ _ _ _ (heap_alloc_new w1 _)
  have g2 : Below w.heap.size w w2 := by rw [← hw2]; exact Below.setRow ((b0.trans (hb1.mono b0.size)).alloc (by omega) _) (by omega) _
  rw [hw2, hg]
  have hgl : w.heap.size < g := by omega
  have G0 := Lib.hid g0
  have G1 := Lib.hid g1
  have G2 := Lib.hid g2
  have kd : w2.cell? ⟨w.heap.size, 1, none⟩ = some (.slice A2 m.dear.length c2) := cell_of_row w2 w.heap.size 1 _ _ _ g0
  clear hw2 hg hs0 hz1 hb1 b0 CS row HS1 HZ g0 g1 g2
  have hdl := Lib.hid HM.out.dlen
  go_wp2
  clear kd
  go_loopw [4, 16] (fun v4 v16 W => ∃ j : Nat, j ≤ m.dear.length ∧ v16 = .int .i64 j ∧ v4 = .int .i64 (coC m j) ∧ W.heap[w.heap.size]? = some (.cells (mkA m A1 c1 A2 c2) 114 (0, 0)) ∧ W.heap[g]? = some (.cells (arV (coF m j)) 166 (0, 0)) ∧ Below w.heap.size w W) (fun _ i _ => m.dear.length - (intOf i).toNat)
  case atStart => exact ⟨0, by omega, rfl, rfl, G0.out, G1.out, G2.out⟩
  case round =>
    obtain ⟨j, hj, rfl, rfl, h0, h1, hb⟩ := hrel
    clear G0 G1 G2
    by_cases hlt : j < m.dear.length
    · have hj8 : j ≤ 8 := by have := hdl.out; omega
      have hI : m.dr j < m.lots.length := by rw [Mk.dr_get hlt]; exact HM.out.dlt _ (List.getElem_mem hlt)
      have hI8 : m.dr j < 8 := by have := HM.out.ok.len; omega
      have hpr := coS_b HM.out hlt
      have hcb := coC_b HM.out j hj
      have hFb := Lib.hid (fun s (hs : s < 256) => coF_b HM.out.ok hj8 hs)
      have hlb := lvS_bnd HM.out.ok (F := coF m j) (B := 102400000) (by omega) hFb.out (m.dr j)
      have hLB := Lib.hid hlb
      have hlv0 : m.left (m.dr j) = lvS m (coF m j) (m.dr j) 0 := rfl
      have hnext : coF m (j + 1) = subS m (coF m j) (m.dr j) (lvS m (coF m j) (m.dr j) 256) 256 := rfl
      have hcost : coC m (j + 1) = coC m j + (m.left (m.dr j) - lvS m (coF m j) (m.dr j) 256) * m.price (m.dr j) := rfl
      have hlw : m.price (m.dr j) = (m.lots[m.dr j]).price ∧ m.who (m.dr j) = (m.lots[m.dr j]).whose := ⟨Mk.price_get hI, Mk.who_get hI⟩
      have hle := HM.out.ok.left (m.dr j)
      have kl : wr.cell? ⟨w.heap.size, 10 + m.dr j, none⟩ = some (.int .i64 (m.left (m.dr j))) := (cell_of_row wr w.heap.size (10 + m.dr j) _ _ _ h0).trans (mkA_left m A1 c1 A2 c2 hI8)
      obtain ⟨b2, o2, rfl, hbl2, hcell2⟩ := (R2.out.below hb).at_ hlt
      have p0 := hcell2 0 _ rfl
      rw [← Mk.dr_get hlt] at p0
      simp only [Nat.add_zero, Nat.mul_one] at p0
      obtain ⟨b, o, rfl, hbl, hcell⟩ := (R1.out.below hb).at_ hI
      have q1 := hcell 1 _ rfl
      have q3 := hcell 3 _ rfl
      rw [← hlw.1] at q1
      rw [← hlw.2] at q3
      clear hcell hcell2 hlw hlb
      have HNX := Lib.hid hnext
      have HCO := Lib.hid hcost
      have HL0 := Lib.hid hlv0
      clear hnext hcost hlv0
      have hjI : (j : Int) < (m.dear.length : Int) := by omega
      generalize hi : m.dr j = i at *
      have hiI : (i : Int) < 8 := by omega
      have hiN : (i : Int) < (m.lots.length : Int) := by omega
      generalize hp : m.price i = pr at *
      generalize hle2 : m.left i = le at *
      generalize hco : coC m j = co at *
      generalize hFF : coF m j = F at *
      generalize hwh : m.who i = wh at *
      have EI := Lib.hid hi
      have EP := Lib.hid hp
      have EL := Lib.hid hle2
      have EC := Lib.hid hco
      have EF := Lib.hid hFF
      have EW := Lib.hid hwh
      have k0 : wr.cell? ⟨w.heap.size, 0, none⟩ = some (.slice (some ⟨b, o, none⟩) m.lots.length c1) := cell_of_row wr w.heap.size 0 _ _ _ h0
      have HQ := Lib.hid (fun (W : World) (hW : Below w.heap.size w W) => And.intro ((hW.cell (p := ⟨b, o + i * 4 + 1, none⟩) hbl).trans ((hb.cell (p := ⟨b, o + i * 4 + 1, none⟩) hbl).symm.trans q1)) ((hW.cell (p := ⟨b, o + i * 4 + 3, none⟩) hbl).trans ((hb.cell (p := ⟨b, o + i * 4 + 3, none⟩) hbl).symm.trans q3)))
      have H0 := Lib.hid h0
      have H1 := Lib.hid h1
      have HB := Lib.hid hb
      clear hi hp hle2 hco hFF hwh h0 h1 hb q1
      go_upto_region 6 with (fail)
      clear p0
      go_wp2_with (refine wpList_load_row rfl 166 (.tmp 3) rfl g rfl 166 (arV F) (0, 0) _ H1.out Try.underlying166 rfl (infoAr _) ?_)
      go_loopw [7, 25] (fun v7 v25 W => ∃ s : Nat, s ≤ 256 ∧ v25 = .int .i64 s ∧ v7 = .int .i64 (lvS m F i s) ∧ wr = W) (fun _ i _ => 256 - (intOf i).toNat)
      case atStart => exact ⟨0, by omega, rfl, by rw [← HL0.out], rfl⟩
      case round =>
        obtain ⟨s, hs, rfl, rfl, rfl⟩ := hrel
        by_cases hsl : s < 256
        · have hsI : (s : Int) < 256 := by omega
          have hnx : lvS m F i (s + 1) = if touch wh s then min (lvS m F i s) (F s) else lvS m F i s := by rw [← EW.out]; rfl
          have HX := Lib.hid hnx
          clear hnx
          have b1 := hLB.out s hs
          have b3 := hFb.out s hsl
          generalize hv : lvS m F i s = v at *
          have HV := Lib.hid hv
          clear hv
          cases ht : touch wh s
          · have ht' := ht
            unfold touch at ht'
            have HT := Lib.hid ht
            clear ht
            go_wp2
            go_roundw
            case rel => exact ⟨s + 1, by omega, by go_num, by rw [HX.out, HT.out]; rfl, trivial⟩
            case measure => (simp [intOf] <;> omega)
          · have ht' := ht
            unfold touch at ht'
            have HT := Lib.hid ht
            clear ht
            by_cases hmn : F s < v
            · go_wp2
              go_roundw
              case rel => exact ⟨s + 1, by omega, by go_num, by rw [HX.out, HT.out, if_pos rfl, show min v (F s) = F s by omega], trivial⟩
              case measure => (simp [intOf] <;> omega)
            · go_wp2
              go_roundw
              case rel => exact ⟨s + 1, by omega, by go_num, by rw [HX.out, HT.out, if_pos rfl, show min v (F s) = v by omega], trivial⟩
              case measure => (simp [intOf] <;> omega)
        · obtain rfl : s = 256 := by omega
          have b1 := hLB.out 256 (by omega)
          generalize hlv : lvS m F i 256 = lv at *
          have HLV := Lib.hid hlv
          have hT := term_b (a := le - lv) (by omega) (by omega) hpr.1 hpr.2
          clear hlv k0 q3
          go_wp2
          go_loopw [42] (fun v42 W => ∃ s : Nat, s ≤ 256 ∧ v42 = .int .i64 s ∧ W.heap[w.heap.size]? = some (.cells (mkA m (some ⟨b, o, none⟩) c1 (some ⟨b2, o2, none⟩) c2) 114 (0, 0)) ∧ W.heap[g]? = some (.cells (arV (subS m F i lv s)) 166 (0, 0)) ∧ Below w.heap.size w W) (fun i _ => 256 - (intOf i).toNat)
          case atStart => exact ⟨0, by omega, rfl, H0.out, by rw [subS_zero]; exact H1.out, HB.out⟩
          case round =>
            clear H0 H1 HB kl
            obtain ⟨s, hs, rfl, h0, h1, hb⟩ := hrel
            have hgw : g < wr.heap.size := (Array.getElem?_eq_some_iff.1 h1).1
            have hwg : w.heap.size ≠ g := by omega
            obtain ⟨q1, q3⟩ := HQ.out wr hb
            by_cases hsl : s < 256
            · have hsI : (s : Int) < 256 := by omega
              have k0 : wr.cell? ⟨w.heap.size, 0, none⟩ = some (.slice (some ⟨b, o, none⟩) m.lots.length c1) := cell_of_row wr w.heap.size 0 _ _ _ h0
              have ka : wr.cell? ⟨g, s, none⟩ = some (.int .i64 (F s)) := (cell_of_row wr _ s _ _ _ h1).trans ((arV_get _ hsl).trans (by rw [subS_at]))
              have fa : wr.frozen? ⟨g, s, none⟩ = false := frozen_of_row wr _ s _ _ h1
              have b3 := hFb.out s hsl
              have H0 := Lib.hid h0
              have H1 := Lib.hid h1
              have HB := Lib.hid hb
              clear h0 h1 hb q1
              cases ht : touch wh s
              · have hx : subS m F i lv s = subS m F i lv (s + 1) := subS_false (by rw [EW.out]; exact ht)
                have HX := Lib.hid hx
                have ht' := ht
                unfold touch at ht'
                clear ht hx
                go_wp2
                go_roundw
                case rel => exact ⟨s + 1, by omega, by go_num, H0.out, by rw [← HX.out]; exact H1.out, HB.out⟩
                case measure => (simp [intOf] <;> omega)
              · have hx : (fun x => if x = s then F s - lv else subS m F i lv s x) = subS m F i lv (s + 1) := subS_true (by rw [EW.out]; exact ht)
                have HX := Lib.hid hx
                have ht' := ht
                unfold touch at ht'
                clear ht hx
                go_wp2
                go_roundw
                case rel =>
                  refine ⟨s + 1, by omega, by go_num, ?_, ?_, ?_⟩
                  · exact (Below.heap_setCell _ _ _ _ hwg).trans H0.out
                  · refine (heap_setCell_same _ g s _ _ _ H1.out).trans ?_
                    rw [arV_set, HX.out]
                  · exact Below.setCell HB.out (by show w.heap.size ≤ g; omega) _
                case measure => (simp [intOf] <;> omega)
            · obtain rfl : s = 256 := by omega
              have k0 : wr.cell? ⟨w.heap.size, 0, none⟩ = some (.slice (some ⟨b, o, none⟩) m.lots.length c1) := cell_of_row wr w.heap.size 0 _ _ _ h0
              have kl : wr.cell? ⟨w.heap.size, 10 + i, none⟩ = some (.int .i64 le) := (cell_of_row wr w.heap.size (10 + i) _ _ _ h0).trans ((mkA_left m _ c1 _ c2 hI8).trans (by rw [EL.out]))
              have H0 := Lib.hid h0
              have H1 := Lib.hid h1
              have HB := Lib.hid hb
              clear h0 h1 hb q3
              go_upto_region 18 with (fail)
              go_quiet (fail)
              go_wp2
              go_roundw
              case rel => exact ⟨j + 1, by omega, by go_num, by rw [HCO.out], H0.out, by rw [HNX.out]; exact H1.out, Below.drewN_ HB.out _⟩
              case measure => (simp [intOf] <;> omega)
    · obtain rfl : j = m.dear.length := by omega
      go_wp2
      go_ret
      exact ⟨rfl, hb⟩
end Go.Proofs.Ytjkefoijhphknaa
