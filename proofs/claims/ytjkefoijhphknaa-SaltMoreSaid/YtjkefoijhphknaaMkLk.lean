/- salt.Lack of valid needs and rents. -/
import Derived.Test.YtjkefoijhphknaaMkOpen
namespace Go.Proofs.Ytjkefoijhphknaa
open Go.RowKit Go.IntWalk

/-- What Lack answers of a market whose first lacking set is s. -/
def LackPost (s : Nat) (w : World) (e : Ending) (w' : World) : Prop :=
  (∃ A c, e = .returned (if s = 0 then .tuple #[.slice none 0 0, .int .i64 6] else .tuple #[.slice A (fldsN s 8).length c, .int .i64 0]) ∧ (s ≠ 0 → Rd w' w'.heap.size A nnV 1 (fldsN s 8))) ∧ Below w.heap.size w w'

set_option maxRecDepth 100000 in
set_option maxHeartbeats 4000000 in
theorem Lack_good (xs : List Int) (rs : List Re) (A1 : Option Addr) (c1 : Nat) (A2 : Option Addr) (c2 : Nat) (w : World) (r1 : Rd w w.heap.size A1 inV 1 xs) (r2 : Rd w w.heap.size A2 reV 3 rs) (rf : ReAt w w.heap.size rs) (hl1 : xs.length ≤ 8) (hl2 : rs.length ≤ 8)
    (hok1 : needsB xs = true) (hok2 : rentsB xs.length rs = true) :
    Calls Try.prog 29 #[.slice A1 xs.length c1, .slice A2 rs.length c2] w (LackPost (lkS (openM xs rs) 256) w) := by
  have HO := Lib.hid (open_good xs rs A1 c1 A2 c2 w r1 r2 rf hl1 hl2 hok1 hok2)
  have HM := Lib.hid (openM_ok hok1 hok2)
  have hls : lkS (openM xs rs) 256 < 256 := lkS_lt _ _ (Nat.le_refl _)
  clear r1 r2 rf hok1 hok2
  have HLK := Lib.hid (fun A1 c1 A2 c2 (W : World) (r : Rd W W.heap.size A1 lotV 4 (openM xs rs).lots) => lack_any (openM xs rs) A1 c1 A2 c2 W HM.out.ok r)
  generalize openM xs rs = m at *
  have HF := Lib.hid (fun W => fields_any (lkS m 256) W hls)
  generalize lkS m 256 = s at *
  go_enter Try.func29, Try.ntmps29
  go_upto_region 2 with (first | (go_at_call 56; refine HO.out.mono ?_; rintro e w1 ⟨⟨B1, d1, B2, d2, rfl, q1, q2⟩, hb1⟩) | (refine wpList_store_row rfl 114 (.tmp 6) (.tmp 14) rfl w1.heap.size (mkA m B1 d1 B2 d2) rfl rfl 114 (mkA mkZ none 0 none 0) (heap_alloc_new w1 _) (infoMk _ _ _ _ _) rfl (mkA_one _ _ _ _ _) ?_))
  obtain ⟨w2, hw2⟩ : ∃ w2, w1.alloc (.cells (mkA m B1 d1 B2 d2) 114) = w2 := ⟨_, rfl⟩
  have b2 : Below w1.heap.size w1 w2 := by rw [← hw2]; (repeat' (first | (with_reducible exact Below.refl _ _) | (with_reducible refine Below.alloc ?_ ?_ _) | (with_reducible refine Below.drew ?_) | (with_reducible refine Below.drewN_ ?_ _) | (with_reducible refine Below.setCell ?_ ?_ _) | (with_reducible refine Below.setRow ?_ ?_ _) | (with_reducible refine Below.via ?_ (by with_reducible assumption) ?_) | go_size))
  have e2 : w2.heap[w1.heap.size]? = some (.cells (mkA m B1 d1 B2 d2) 114 (0, 0)) := by rw [← hw2]; exact heap_alloc_new _ _
  have E2 := Lib.hid e2
  have HL := Lib.hid (HLK.out B1 d1 B2 d2 w2 ((q1.below b2).more b2.size))
  have BB := Lib.hid (hb1.trans (b2.mono hb1.size))
  rw [World.setRow_alloc_new, hw2]
  clear e2 hw2 b2 q1 q2 hb1
  have hz2 := BB.out.size
  by_cases hs : s = 0
  · have hd : decide (s ≠ 0) = false := by simp [hs]
    have HD := Lib.hid hd
    have HS := Lib.hid hs
    clear hd hs
    go_wp2_with (first | (refine wpList_load_row rfl 114 (.tmp 6) rfl w1.heap.size rfl 114 (mkA m B1 d1 B2 d2) (0, 0) _ E2.out Try.underlying114 rfl (infoMk _ _ _ _ _) ?_) | (go_at_call 57; refine HL.out.mono ?_; rintro e w3 ⟨rfl, hb3⟩; rw [HD.out]))
    go_ret2
    exact ⟨⟨none, 0, by rw [if_pos HS.out]; rfl, fun h => absurd HS.out h⟩, BB.out.trans (hb3.mono hz2)⟩
  · have hd : decide (s ≠ 0) = true := by simp [hs]
    have HD := Lib.hid hd
    have HS := Lib.hid hs
    clear hd hs
    go_wp2_with (first | (refine wpList_load_row rfl 114 (.tmp 6) rfl w1.heap.size rfl 114 (mkA m B1 d1 B2 d2) (0, 0) _ E2.out Try.underlying114 rfl (infoMk _ _ _ _ _) ?_) | (go_at_call 57; refine HL.out.mono ?_; rintro e w3 ⟨rfl, hb3⟩; rw [HD.out]) | (go_at_call 63; refine (HF.out _).mono ?_; rintro e w4 ⟨⟨A, c, rfl, rd4⟩, hb4⟩))
    go_ret2
    exact ⟨⟨A, c, by rw [if_neg HS.out]; rfl, fun _ => rd4⟩, (BB.out.trans (hb3.mono hz2)).trans (hb4.mono (by have := hb3.size; omega))⟩

theorem openM_fld {xs : List Int} {rs : List Re} {w : World} (rf : ReAt w w.heap.size rs) (h : rentsB xs.length rs = true) : FldAt w (openM xs rs) (flR rs) xs.length := fun k l hl => by
  have hl' : (rs.map loOf)[k]? = some l := hl
  rw [List.getElem?_map] at hl'
  cases e : rs[k]? with
  | none => rw [e] at hl'; cases hl'
  | some r =>
    rw [e] at hl'
    injection hl' with hl'
    have hr := (rentsB_spec h).2 r (List.mem_of_getElem? e)
    have hfl : flR rs k = flN r := by unfold flR; rw [e]; rfl
    rw [hfl, ← hl']
    exact ⟨by show r.fl.length = (flN r).length; unfold flN; rw [List.length_map], rd_fl (rf r (List.mem_of_getElem? e)).1 (fun x hx => ((fldsB_spec (by omega) hr.2.2).1 x hx).1), (flN_lt hr.2.2).1⟩
end Go.Proofs.Ytjkefoijhphknaa
