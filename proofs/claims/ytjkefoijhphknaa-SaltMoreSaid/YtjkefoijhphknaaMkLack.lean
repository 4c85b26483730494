/- The first set of the fewest fields that lack minutes. Condition: a market within bounds. -/
import Derived.Test.YtjkefoijhphknaaMkSpare
namespace Go.Proofs.Ytjkefoijhphknaa
open Go.RowKit Go.IntWalk
attribute [local go_sem] run_index_ar

/-- What inOrder says of two sets. -/
def ordI (s t : Nat) : Int := if cmpI (popI s : Nat) (popI t : Nat) ≠ 0 then cmpI (popI s : Nat) (popI t : Nat) else cmpI (rv8 t : Nat) (rv8 s : Nat)

set_option maxRecDepth 100000 in
set_option maxHeartbeats 4000000 in
theorem inOrder_any (s t g c : Nat) (w : World) (hs : s < 256) (ht : t < 256) (h0 : w.cell? ⟨g, 0, none⟩ = some (.func (.func 107) #[] #[])) (h1 : w.cell? ⟨g, 1, none⟩ = some (.func (.func 108) #[] #[])) :
    Calls Try.prog 106 #[.int .i64 (s : Int), .int .i64 (t : Int), .slice (some ⟨g, 0, none⟩) 2 c] w fun e w' => e = .returned (.int .i64 (ordI s t)) ∧ w = w' := by
  have CF := Lib.hid (fun W => fewer_any s t W hs ht)
  have CG := Lib.hid (fun W => first_any s t W hs ht)
  have ho : ordI s t = if cmpI (popI s : Nat) (popI t : Nat) ≠ 0 then cmpI (popI s : Nat) (popI t : Nat) else cmpI (rv8 t : Nat) (rv8 s : Nat) := rfl
  generalize ordI s t = r at ho ⊢
  generalize cmpI (popI s : Nat) (popI t : Nat) = a at *
  generalize cmpI (rv8 t : Nat) (rv8 s : Nat) = b at *
  have HO := Lib.hid ho
  clear ho hs ht
  go_enter Try.func106, Try.ntmps106
  go_wp2
  go_loopw [12] (fun v W => ∃ k : Nat, k ≤ 2 ∧ v = .int .i64 k ∧ w = W ∧ (1 ≤ k → a = 0) ∧ (2 ≤ k → b = 0)) (fun i _ => 2 - (intOf i).toNat)
  case atStart => exact ⟨0, by omega, rfl, rfl, by omega, by omega⟩
  case round =>
    obtain ⟨k, hk, rfl, rfl, ha, hb⟩ := hrel
    have hk3 : k = 0 ∨ k = 1 ∨ k = 2 := by omega
    rcases hk3 with rfl | rfl | rfl
    · clear ha hb
      by_cases h2 : a = 0
      · subst h2
        go_wp2_with (go_at_call 107; refine (CF.out _).mono ?_; rintro e w' ⟨rfl, rfl⟩)
        go_roundw
        case rel => exact ⟨1, by omega, by simp, by simp, by simp, by omega⟩
        case measure => simp [intOf]
      · have HA := Lib.hid h2
        go_wp2_with (go_at_call 107; refine (CF.out _).mono ?_; rintro e w' ⟨rfl, rfl⟩)
        go_ret
        exact ⟨by rw [HO.out, if_pos HA.out]; rfl, rfl⟩
    · have ha0 := ha (by omega)
      subst ha0
      clear ha hb
      by_cases h2 : b = 0
      · subst h2
        go_wp2_with (go_at_call 108; refine (CG.out _).mono ?_; rintro e w' ⟨rfl, rfl⟩)
        go_roundw
        case rel => exact ⟨2, by omega, by simp, by simp, by simp, by simp⟩
        case measure => simp [intOf]
      · go_wp2_with (go_at_call 108; refine (CG.out _).mono ?_; rintro e w' ⟨rfl, rfl⟩)
        go_ret
        exact ⟨by rw [HO.out]; simp, rfl⟩
    · have ha0 := ha (by omega)
      have hb0 := hb (by omega)
      subst ha0
      subst hb0
      clear ha hb
      go_wp2
      go_ret
      exact ⟨by rw [HO.out]; simp, rfl⟩

/-- The first set of the fewest fields below k that lack minutes: 0 if there is none. -/
def lkS (m : Mk) : Nat → Nat
  | 0 => 0
  | s + 1 => if spI m s < 0 ∧ (lkS m s = 0 ∨ ordI s (lkS m s) < 0) then s else lkS m s
theorem lkS_lt (m : Mk) : ∀ k, k ≤ 256 → lkS m k < 256
  | 0, _ => by unfold lkS; omega
  | k + 1, h => by
    have := lkS_lt m k (by omega)
    unfold lkS
    split <;> omega

set_option maxRecDepth 100000 in
set_option maxHeartbeats 4000000 in
theorem lack_any (m : Mk) (A1 : Option Addr) (c1 : Nat) (A2 : Option Addr) (c2 : Nat) (w : World) (hm : MkOk m) (r1 : Rd w w.heap.size A1 lotV 4 m.lots) :
    Calls Try.prog 57 #[.agg (mkA m A1 c1 A2 c2)] w fun e w' => e = .returned (.tuple #[.int .i64 (lkS m 256 : Nat), .bool (decide (lkS m 256 ≠ 0))]) ∧ Below w.heap.size w w' := by
  have b0 : Below w.heap.size w (w.alloc (.cells (mkA m A1 c1 A2 c2) 114)) := by (repeat' (first | (with_reducible exact Below.refl _ _) | (with_reducible refine Below.alloc ?_ ?_ _) | (with_reducible refine Below.drew ?_) | (with_reducible refine Below.drewN_ ?_ _) | (with_reducible refine Below.setCell ?_ ?_ _) | (with_reducible refine Below.setRow ?_ ?_ _) | (with_reducible refine Below.via ?_ (by with_reducible assumption) ?_) | go_size))
  have CS := Lib.hid (spare_any m A1 c1 A2 c2 (w.alloc (.cells (mkA m A1 c1 A2 c2) 114)) hm ((r1.below b0).more b0.size))
  have HI : Hid ((Try.prog.info? 114).map (·.size) = some (mkA m A1 c1 A2 c2).size) := Lib.hid (by kernel_rfl)
  have row := Lib.hid (heap_alloc_new w (.cells (mkA m A1 c1 A2 c2) 114))
  have BND := Lib.hid (fun s => spI_bnd hm s)
  clear hm r1
  go_enter Try.func57, Try.ntmps57
  go_wp2_with (first | (refine wpList_load_row rfl 114 (.tmp 1) rfl w.heap.size rfl 114 (mkA m A1 c1 A2 c2) (0, 0) _ row.out Try.underlying114 rfl HI.out ?_) | (go_at_call 105; refine CS.out.mono ?_; rintro e w1 ⟨rfl, hb1⟩; have hz1 := hb1.size))
  have HB1 := Lib.hid (b0.trans (hb1.mono b0.size))
  clear hb1 hz1 b0
  go_loopw [4, 9] (fun v4 v9 W => ∃ s : Nat, s ≤ 256 ∧ v9 = .int .i64 s ∧ v4 = .int .i64 (lkS m s : Nat) ∧ Below w.heap.size w W) (fun _ i _ => 256 - (intOf i).toNat)
  case atStart => exact ⟨0, by omega, rfl, rfl, HB1.out⟩
  case round =>
    obtain ⟨s, hs, rfl, rfl, hb⟩ := hrel
    by_cases hlt : s < 256
    · have hsI : (s : Int) < 256 := by omega
      have h3 := lkS_lt m s hs
      have hst : lkS m (s + 1) = if spI m s < 0 ∧ (lkS m s = 0 ∨ ordI s (lkS m s) < 0) then s else lkS m s := rfl
      have bb := BND.out s
      by_cases hn : spI m s < 0
      · by_cases h0 : lkS m s = 0
        · have hst2 : lkS m (s + 1) = s := by rw [hst, if_pos ⟨hn, .inl h0⟩]
          have HST := Lib.hid hst2
          clear hst hst2
          go_wp2
          go_roundw
          case rel => exact ⟨s + 1, by omega, by go_num, by rw [HST.out], hb⟩
          case measure => (simp [intOf] <;> omega)
        · have h0B : (((lkS m s : Nat) : Int) == 0) = false := by simp; exact h0
          have b1 : Below w.heap.size w (wr.alloc (.cells #[.func (.func 107) #[] #[], .func (.func 108) #[] #[]] 169)) := hb.alloc hb.size _
          have CO := Lib.hid (inOrder_any s (lkS m s) wr.heap.size 2 (wr.alloc (.cells #[.func (.func 107) #[] #[], .func (.func 108) #[] #[]] 169)) hlt h3 (by simp) (by simp))
          by_cases ho : ordI s (lkS m s) < 0
          · have hst2 : lkS m (s + 1) = s := by rw [hst, if_pos ⟨hn, .inr ho⟩]
            have HST := Lib.hid hst2
            clear hst hst2 h0
            generalize lkS m s = t at *
            go_wp2_with (go_at_call 106; refine CO.out.mono ?_; rintro e w' ⟨rfl, rfl⟩)
            go_roundw
            case rel => exact ⟨s + 1, by omega, by go_num, by rw [HST.out], b1⟩
            case measure => (simp [intOf] <;> omega)
          · have hst2 : lkS m (s + 1) = lkS m s := by rw [hst, if_neg (fun h => h.2.elim h0 ho)]
            have HST := Lib.hid hst2
            clear hst hst2 h0
            generalize hlk : lkS m s = t at *
            go_wp2_with (go_at_call 106; refine CO.out.mono ?_; rintro e w' ⟨rfl, rfl⟩)
            go_roundw
            case rel => exact ⟨s + 1, by omega, by go_num, by rw [HST.out], b1⟩
            case measure => (simp [intOf] <;> omega)
      · have hst2 : lkS m (s + 1) = lkS m s := by rw [hst, if_neg (fun h => hn h.1)]
        have HST := Lib.hid hst2
        clear hst hst2
        generalize hlk : lkS m s = t at *
        go_wp2
        go_roundw
        case rel => exact ⟨s + 1, by omega, by go_num, by rw [HST.out], hb⟩
        case measure => (simp [intOf] <;> omega)
    · obtain rfl : s = 256 := by omega
      go_wp2
      go_ret2
      refine ⟨?_, hb⟩
      have : (((lkS m 256 : Nat) : Int) != 0) = decide (lkS m 256 ≠ 0) := by
        by_cases h : lkS m 256 = 0
        · simp [h]
        · simp [h]
      simp [this]
end Go.Proofs.Ytjkefoijhphknaa
