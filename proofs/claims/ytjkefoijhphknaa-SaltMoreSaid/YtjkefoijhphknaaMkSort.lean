/- Rents sorted by their prices: the closure that open hands to the sort, and the sort. Condition: rents that can be read. -/
import Derived.Test.YtjkefoijhphknaaMkOrd
import Derived.Shelf.SlSortCmp.NoneTotal
import Derived.Shelf.Lay
import Derived.Ground.SlsfProg
namespace Go.Proofs.Ytjkefoijhphknaa
open Go.RowKit Go.IntWalk Go.Shelf Go.Sort
shelf_lay_g SlLaysF.n6 Slsf 6 at Try 102 as Try.sortInt

theorem cell_alloc_d (w : World) (o : Obj) (q : Nat) (a : Addr) (h : a.block < w.heap.size) : ((w.alloc o).drewN q).cell? a = w.cell? a := by
  show (w.alloc o).cell? a = w.cell? a
  exact Below.cell (p := a) ((Below.refl _ _).alloc (Nat.le_refl _) _) h

set_option maxRecDepth 100000 in
set_option maxHeartbeats 4000000 in
theorem open2_any (a b p c rb ro B G : Nat) (pr : Nat → Int) (w : World) (ha : a < p) (hb : b < p) (kG : w.cell? ⟨G, 0, none⟩ = some (.func (.func 100) #[] #[.pointer (some ⟨B, 0, none⟩)])) (k0 : w.cell? ⟨B, 0, none⟩ = some (.slice (some ⟨rb, ro, none⟩) p c))
    (kp : ∀ i, i < p → w.cell? ⟨rb, ro + i * 3 + 1, none⟩ = some (.int .i64 (pr i))) (hB : B < w.heap.size) (hr : rb < w.heap.size) :
    Calls Try.prog 103 #[.int .i64 (a : Int), .int .i64 (b : Int), .pointer (some ⟨G, 0, none⟩)] w fun e w' => e = .returned (.int .i64 (dearI pr a b)) ∧ ∃ q os, w' = grow (w.drewN q) os := by
  have hc := (inOrderI_any a b (cmpI (pr b) (pr a)) _ w.heap.size 2 B (w.alloc (.cells #[.func (.func 100) #[] #[.pointer (some ⟨B, 0, none⟩)], .func (.func 101) #[] #[]] 134)) (by simp) (by simp)
    (fun q => open1_any a b p c rb ro B (pr a) (pr b) _ ha hb ((cell_alloc_d _ _ _ _ hB).trans k0) ((cell_alloc_d _ _ _ _ hr).trans (kp a ha)) ((cell_alloc_d _ _ _ _ hr).trans (kp b hb))) rfl)
  change Calls _ _ _ _ (fun e w' => e = .returned (.int .i64 (dearI pr a b)) ∧ _) at hc
  generalize dearI pr a b = r at hc ⊢
  have HC := Lib.hid hc
  clear hc
  go_enter Try.func103, Try.ntmps103
  go_wp2_with (go_at_call 104; refine HC.out.mono ?_; rintro e w' ⟨rfl, q, rfl⟩)
  go_ret
  exact ⟨rfl, q, #[_], rfl⟩

theorem swo_dear (pr : Nat → Int) (n : Nat) : SWO (ltOf fun x y : Fin (n + 1) => dearI pr x.1 y.1) where
  irrefl x := by unfold ltOf; rw [dear_lt]; unfold dLt; simp
  trans x y z h1 h2 := by unfold ltOf at *; rw [dear_lt] at *; unfold dLt at *; simp only [decide_eq_true_eq] at *; omega
  ntrans x y z h1 h2 := by unfold ltOf at *; rw [dear_lt] at *; unfold dLt at *; simp only [decide_eq_false_iff_not] at *; omega
theorem total_dear (pr : Nat → Int) (n : Nat) (x y : Fin (n + 1)) (h1 : ltOf (fun x y : Fin (n + 1) => dearI pr x.1 y.1) x y = false) (h2 : ltOf (fun x y : Fin (n + 1) => dearI pr x.1 y.1) y x = false) : x = y := by
  unfold ltOf at *
  rw [dear_lt] at *
  unfold dLt at *
  simp only [decide_eq_false_iff_not] at *
  exact Fin.ext (by omega)

theorem sort_any (pr : Nat → Int) (n rb ro c B G blk cap : Nat) (w : World) (hn : n < 1000) (kG : w.cell? ⟨G, 0, none⟩ = some (.func (.func 100) #[] #[.pointer (some ⟨B, 0, none⟩)])) (k0 : w.cell? ⟨B, 0, none⟩ = some (.slice (some ⟨rb, ro, none⟩) (n + 1 : Nat) c))
    (kp : ∀ i, i < n + 1 → w.cell? ⟨rb, ro + i * 3 + 1, none⟩ = some (.int .i64 (pr i))) (hG : G < w.heap.size) (hB : B < w.heap.size) (hr : rb < w.heap.size) (hblk : blk < w.heap.size) (nG : G ≠ blk) (nB : B ≠ blk) (nr : rb ≠ blk)
    (hH : Holds (idV n) w blk 0 (idsA n)) :
    Calls Try.prog 102 #[.slice (some ⟨blk, 0, none⟩) (n + 1 : Nat) cap, .func (.func 103) #[] #[.pointer (some ⟨G, 0, none⟩)]] w fun e w' =>
      e = .returned (.tuple #[]) ∧ ∃ m os, w' = sortWorld (idV n) w blk 0 m (dearF pr n).toArray os := by
  have eg : ∀ args w, (callFunc 103 args).run Try.prog w = .ok (.enter 103 args) w := enters_of Try.func103 (by kernel_rfl) rfl
  have hcmp : CmpLays1 Try.prog 103 #[.pointer (some ⟨G, 0, none⟩)] (idV n) (fun x y => dearI pr x.1 y.1) blk 0 (idsA n).size w := by
    intro m os dk hs x y
    have hsz : (sortWorld (idV n) w blk 0 m dk os).heap.size = w.heap.size + os.size := by simp [sortWorld, grow]
    have hc : ∀ a : Addr, a.block < w.heap.size → a.block ≠ blk → (sortWorld (idV n) w blk 0 m dk os).cell? a = w.cell? a := fun a h1 h2 => by
      unfold sortWorld
      rw [cell?_grow _ _ _ (by simpa using h1), cell?_putRow_other _ _ _ _ _ _ (.inl h2)]
      rfl
    generalize sortWorld (idV n) w blk 0 m dk os = W at *
    exact open2_any x.1 y.1 (n + 1) c rb ro B G pr W x.2 y.2 ((hc _ hG nG).trans kG) ((hc _ hB nB).trans k0) (fun i hi => (hc _ hr nr).trans (kp i hi)) (by omega) (by omega)
  have h := Any.slices_SortFunc_total Try.sortInt (idV n) (fun _ => rfl) (fun x y => dearI pr x.1 y.1) (swo_dear pr n) 103 #[.pointer (some ⟨G, 0, none⟩)] blk 0 cap (idsA n) w eg hcmp hH hblk (by rw [idsA_size]; omega) (total_dear pr n)
  rw [idsA_size] at h
  have e : (fun x y : Fin (n + 1) => !(ltOf (fun x y : Fin (n + 1) => dearI pr x.1 y.1)) y x) = fun x y => !(dLt pr y.1 x.1) := by
    funext x y
    unfold ltOf
    rw [dear_lt]
  rw [e] at h
  exact h
end Go.Proofs.Ytjkefoijhphknaa
