/- aflajlaw01.span, falaj, crooked, and ready: what they return, in any memory. Condition of ready: the survey's slices read below the heap's end. -/
import Derived.Test.YtaoonfmcimkmhaaOwn
import Derived.Test.YtaoonfmcimkmhaaLevHts
import Derived.Test.YtaoonfmcimkmhaaLevAfter
import Derived.Test.YtaoonfmcimkmhaaRefCheck
import Derived.Test.YtaoonfmcimkmhaaRefTwin
import Derived.Deep.Cut
import Derived.Test.YtaoonfmcimkmhaaWidMath
import Derived.Test.YtaoonfmcimkmhaaClash
import Derived.Test.YtaoonfmcimkmhaaSays
import Derived.Test.YtaoonfmcimkmhaaRuns
import Derived.Test.YtaoonfmcimkmhaaLevFall
import Derived.Test.YtaoonfmcimkmhaaLevSlope
set_option linter.unusedVariables false
set_option linter.unusedSimpArgs false
namespace Go.Proofs.Ytaoonfmcimkmhaa
open Go.RowKit

set_option maxRecDepth 100000 in
theorem span_any (x y : Int) (w : World) :
    Calls Try.prog 39 #[.int .i64 x, .int .i64 y] w fun e w' => e = .returned (.agg #[.int .i64 x, .int .i64 y]) ∧ Below w.heap.size w w' := by
  go_enter Try.func39, Try.ntmps39
  go_wp2
  go_returns
  exact ⟨rfl, by (repeat' (first | (with_reducible exact Below.refl _ _) | (with_reducible refine Below.alloc ?_ ?_ _) | (with_reducible refine Below.drew ?_) | (with_reducible refine Below.drewN_ ?_ _) | (with_reducible refine Below.setCell ?_ ?_ _) | (with_reducible refine Below.setRow ?_ ?_ _) | (with_reducible refine Below.via ?_ (by with_reducible assumption) ?_) | go_size))⟩

/-- The survey of the examples; its shot 2 says from a to b. -/
def exS (a b : Int) : Sv := ⟨4, [⟨0, 1, -110, -100⟩, ⟨1, 2, -55, -45⟩, ⟨0, 2, a, b⟩, ⟨3, 2, 20, 30⟩], [⟨0, 1000, 1000⟩], [⟨0, 2, 50000, 51000⟩]⟩
def exSh (a b : Int) : Array Value := #[.int .i64 0, .int .i64 1, .int .i64 (-110), .int .i64 (-100), .int .i64 1, .int .i64 2, .int .i64 (-55), .int .i64 (-45), .int .i64 0, .int .i64 2, .int .i64 a, .int .i64 b, .int .i64 3, .int .i64 2, .int .i64 20, .int .i64 30]
def exMk : Array Value := #[.int .i64 0, .int .i64 1000, .int .i64 1000]
def exTh : Array Value := #[.int .i64 0, .int .i64 2, .int .i64 50000, .int .i64 51000]

theorem rd_row {α : Type} {enc : α → List Value} {sz : Nat} (he : ∀ x, (enc x).length = sz) {w : World} {g : Nat} {cs : Array Value} {t : TypeId} {fr : Nat × Nat} (h : w.heap[g]? = some (.cells cs t fr)) (l : List α) (hcs : cs = (flat enc l).toArray) :
    Rd w w.heap.size (some ⟨g, 0, none⟩) enc sz l := fun _ => by
  refine ⟨g, 0, rfl, (Array.getElem?_eq_some_iff.1 h).1, fun k x hx j v hv => ?_⟩
  have h1 := flat_get he l k x hx j v hv
  have h2 := cell_of_row w g (0 + k * sz + j) _ _ _ h
  rw [h2, hcs, Nat.zero_add]
  simpa using h1

set_option maxRecDepth 100000 in
set_option maxHeartbeats 2000000 in
/-- falaj: three new rows. -/
theorem falaj_rows (w : World) :
    Calls Try.prog 68 #[] w fun e w' => (∃ g1 g2 g3, e = .returned (.agg #[.int .i64 4, .slice (some ⟨g1, 0, none⟩) 4 4, .slice (some ⟨g2, 0, none⟩) 1 1, .slice (some ⟨g3, 0, none⟩) 1 1]) ∧
      w.heap.size ≤ g1 ∧ g1 < g2 ∧ g2 < g3 ∧ w'.heap[g1]? = some (.cells (exSh (-160) (-150)) 78 (0, 0)) ∧ w'.heap[g2]? = some (.cells exMk 75 (0, 0)) ∧ w'.heap[g3]? = some (.cells exTh 72 (0, 0))) ∧ Below w.heap.size w w' := by
  have t1 : True := trivial
  have t2 : True := trivial
  have t3 : True := trivial
  have t4 : True := trivial
  have t5 : True := trivial
  have t6 : True := trivial
  have G := Lib.hid (heap_alloc_new w (Obj.cells #[Value.int IntKind.i64 0, Value.slice none 0 0, Value.slice none 0 0, Value.slice none 0 0] 26))
  go_enter Try.func68, Try.ntmps68
  go_wp2_with (go_at_call 39; first
    | (have _t := t1; clear t1 _t; refine (span_any _ _ _).mono ?_; rintro e w1 ⟨rfl, h1⟩; have hz1 := h1.size; simp only [World.size_alloc] at hz1; replace G := Lib.hid ((h1.block _ (by simp)).trans G.out))
    | (have _t := t2; clear t2 _t; refine (span_any _ _ _).mono ?_; rintro e w2 ⟨rfl, h2⟩; have hz2 := h2.size; replace G := Lib.hid ((h2.block _ (by omega)).trans G.out))
    | (have _t := t3; clear t3 _t; refine (span_any _ _ _).mono ?_; rintro e w3 ⟨rfl, h3⟩; have hz3 := h3.size; replace G := Lib.hid ((h3.block _ (by omega)).trans G.out))
    | (have _t := t4; clear t4 _t; refine (span_any _ _ _).mono ?_; rintro e w4 ⟨rfl, h4⟩; have hz4 := h4.size; replace G := Lib.hid ((h4.block _ (by omega)).trans G.out))
    | (have _t := t5; clear t5 _t; refine (span_any _ _ _).mono ?_; rintro e w5 ⟨rfl, h5⟩; have hz5 := h5.size; simp only [World.size_alloc] at hz5; have G1 := Lib.hid ((h5.block _ (by simp)).trans (heap_alloc_new _ _)); replace G := Lib.hid ((h5.block _ (by simp; omega)).trans ((Below.heap_alloc _ _ _ (by omega)).trans G.out)))
    | (have _t := t6; clear t6 _t; refine (span_any _ _ _).mono ?_; rintro e w6 ⟨rfl, h6⟩; have hz6 := h6.size; simp only [World.size_alloc] at hz6; have G2 := Lib.hid ((h6.block _ (by simp)).trans (heap_alloc_new _ _)); replace G1 := Lib.hid ((h6.block _ (by simp; omega)).trans ((Below.heap_alloc _ _ _ (by omega)).trans G1.out)); replace G := Lib.hid ((h6.block _ (by simp; omega)).trans ((Below.heap_alloc _ _ _ (by omega)).trans G.out)); have k0 := cell_of_row w6 _ 0 _ _ _ G.out; have k1 := cell_of_row w6 _ 1 _ _ _ G.out; have k2 := cell_of_row w6 _ 2 _ _ _ G.out; have k3 := cell_of_row w6 _ 3 _ _ _ G.out; have f0 := frozen_of_row w6 _ 0 _ _ G.out; have f1 := frozen_of_row w6 _ 1 _ _ G.out; have f2 := frozen_of_row w6 _ 2 _ _ G.out; have f3 := frozen_of_row w6 _ 3 _ _ G.out; simp only [List.getElem?_toArray, List.getElem?_cons_zero, List.getElem?_cons_succ] at k0 k1 k2 k3; have hlt : w.heap.size < w6.heap.size := by omega))
  obtain ⟨w7, hw7⟩ : ∃ w7, ((((w6.setCell ⟨w.heap.size, 0, none⟩ (.int .i64 4)).setCell ⟨w.heap.size, 1, none⟩ (.slice (some ⟨w4.heap.size, 0, none⟩) 4 4)).setCell ⟨w.heap.size, 2, none⟩ (.slice (some ⟨w5.heap.size, 0, none⟩) 1 1)).setCell ⟨w.heap.size, 3, none⟩ (.slice (some ⟨w6.heap.size, 0, none⟩) 1 1)) = w7 := ⟨_, rfl⟩
  rw [hw7]
  have R0 := heap_set4 (a := .int .i64 4) (b := .slice (some ⟨w4.heap.size, 0, none⟩) 4 4) (c := .slice (some ⟨w5.heap.size, 0, none⟩) 1 1) (d := .slice (some ⟨w6.heap.size, 0, none⟩) 1 1) G.out
  have R1 : w7.heap[w4.heap.size]? = some (.cells (exSh (-160) (-150)) 78 (0, 0)) := by
    rw [← hw7, Below.heap_setCell _ _ _ _ (by dsimp only; omega), Below.heap_setCell _ _ _ _ (by dsimp only; omega), Below.heap_setCell _ _ _ _ (by dsimp only; omega), Below.heap_setCell _ _ _ _ (by dsimp only; omega)]
    exact G1.out
  have R2 : w7.heap[w5.heap.size]? = some (.cells exMk 75 (0, 0)) := by
    rw [← hw7, Below.heap_setCell _ _ _ _ (by dsimp only; omega), Below.heap_setCell _ _ _ _ (by dsimp only; omega), Below.heap_setCell _ _ _ _ (by dsimp only; omega), Below.heap_setCell _ _ _ _ (by dsimp only; omega)]
    exact G2.out
  have hs7 : w7.heap.size = w6.heap.size := by rw [← hw7]; simp
  have hb7 : Below w.heap.size w w7 := by rw [← hw7]; (repeat' (first | (with_reducible exact Below.refl _ _) | (with_reducible refine Below.alloc ?_ ?_ _) | (with_reducible refine Below.drew ?_) | (with_reducible refine Below.drewN_ ?_ _) | (with_reducible refine Below.setCell ?_ ?_ _) | (with_reducible refine Below.setRow ?_ ?_ _) | (with_reducible refine Below.via ?_ (by with_reducible assumption) ?_) | go_size))
  rw [hw7] at R0
  have R3 : (w7.alloc (Obj.cells #[.int .i64 0, .int .i64 2, .int .i64 50000, .int .i64 51000] 72)).heap[w6.heap.size]? = some (.cells exTh 72 (0, 0)) := by rw [← hs7]; exact heap_alloc_new _ _
  clear hw7
  refine bodyPost_ret (results_cell_row Try.results68 _ _ w.heap.size 26 #[.int .i64 4, .slice (some ⟨w4.heap.size, 0, none⟩) 4 4, .slice (some ⟨w5.heap.size, 0, none⟩) 1 1, .slice (some ⟨w6.heap.size, 0, none⟩) 1 1] (0, 0) _ rfl ((Below.heap_alloc _ _ _ (by omega)).trans R0) Try.underlying26 rfl infoSurvey) rfl ?_
  exact ⟨⟨_, _, _, rfl, by omega, by omega, by omega, (Below.heap_alloc _ _ _ (by omega)).trans R1, (Below.heap_alloc _ _ _ (by omega)).trans R2, R3⟩, by (repeat' (first | (with_reducible exact Below.refl _ _) | (with_reducible refine Below.alloc ?_ ?_ _) | (with_reducible refine Below.drew ?_) | (with_reducible refine Below.drewN_ ?_ _) | (with_reducible refine Below.setCell ?_ ?_ _) | (with_reducible refine Below.setRow ?_ ?_ _) | (with_reducible refine Below.via ?_ (by with_reducible assumption) ?_) | go_size))⟩

theorem exSh_rd {w : World} {g : Nat} {a b : Int} (h : w.heap[g]? = some (.cells (exSh a b) 78 (0, 0))) : Rd w w.heap.size (some ⟨g, 0, none⟩) shV 4 (exS a b).shots := rd_row shV_len h _ rfl
theorem exMk_rd {w : World} {g : Nat} {a b : Int} (h : w.heap[g]? = some (.cells exMk 75 (0, 0))) : Rd w w.heap.size (some ⟨g, 0, none⟩) mkV 3 (exS a b).marks := rd_row mkV_len h _ rfl
theorem exTh_rd {w : World} {g : Nat} {a b : Int} (h : w.heap[g]? = some (.cells exTh 72 (0, 0))) : Rd w w.heap.size (some ⟨g, 0, none⟩) shV 4 (exS a b).threads := rd_row shV_len h _ rfl

/-- A survey in new memory that reads as the given one. -/
def NewSv (s : Sv) (w : World) (e : Ending) (w' : World) : Prop := (∃ B1 B2 B3, e = .returned (.agg #[.int .i64 s.n, .slice B1 s.shots.length s.shots.length, .slice B2 s.marks.length s.marks.length, .slice B3 s.threads.length s.threads.length]) ∧
  Rd w' w'.heap.size B1 shV 4 s.shots ∧ Rd w' w'.heap.size B2 mkV 3 s.marks ∧ Rd w' w'.heap.size B3 shV 4 s.threads) ∧ Below w.heap.size w w'

theorem falaj_any (w : World) : Calls Try.prog 68 #[] w (NewSv (exS (-160) (-150)) w) :=
  (falaj_rows w).mono fun e w' ⟨⟨g1, g2, g3, he, _, _, _, q1, q2, q3⟩, hb⟩ => ⟨⟨_, _, _, he, exSh_rd q1, exMk_rd q2, exTh_rd q3⟩, hb⟩

set_option maxRecDepth 100000 in
set_option maxHeartbeats 2000000 in
theorem crooked_any (w : World) : Calls Try.prog 69 #[] w (NewSv (exS (-180) (-170)) w) := by
  have G := Lib.hid (heap_alloc_new w (Obj.cells #[Value.int IntKind.i64 0, Value.slice none 0 0, Value.slice none 0 0, Value.slice none 0 0] 26))
  go_enter Try.func69, Try.ntmps69
  go_upto_region 2 with (go_at_call 68; refine (falaj_rows _).mono ?_; rintro e w1 ⟨⟨g1, g2, g3, rfl, q0, q1, q2, r1, r2, r3⟩, h1⟩; have hz1 := h1.size; simp only [World.size_alloc] at hz1 q0; replace G := Lib.hid ((h1.block _ (by simp)).trans G.out))
  obtain ⟨w2, hw2⟩ : ∃ w2, w1.alloc (Obj.cells #[.int .i64 4, .slice (some ⟨g1, 0, none⟩) 4 4, .slice (some ⟨g2, 0, none⟩) 1 1, .slice (some ⟨g3, 0, none⟩) 1 1] 26) = w2 := ⟨_, rfl⟩
  obtain ⟨b, hbn⟩ : ∃ b, w1.heap.size = b := ⟨_, rfl⟩
  rw [hw2, hbn]
  have l1 := (Array.getElem?_eq_some_iff.1 r1).1
  have l2 := (Array.getElem?_eq_some_iff.1 r2).1
  have l3 := (Array.getElem?_eq_some_iff.1 r3).1
  have S0 : w2.heap[b]? = some (.cells #[.int .i64 4, .slice (some ⟨g1, 0, none⟩) 4 4, .slice (some ⟨g2, 0, none⟩) 1 1, .slice (some ⟨g3, 0, none⟩) 1 1] 26 (0, 0)) := by rw [← hw2, ← hbn]; exact heap_alloc_new _ _
  have S1 := (Below.heap_alloc w1 (Obj.cells #[.int .i64 4, .slice (some ⟨g1, 0, none⟩) 4 4, .slice (some ⟨g2, 0, none⟩) 1 1, .slice (some ⟨g3, 0, none⟩) 1 1] 26) _ l1).trans r1
  have S2 := (Below.heap_alloc w1 (Obj.cells #[.int .i64 4, .slice (some ⟨g1, 0, none⟩) 4 4, .slice (some ⟨g2, 0, none⟩) 1 1, .slice (some ⟨g3, 0, none⟩) 1 1] 26) _ l2).trans r2
  have S3 := (Below.heap_alloc w1 (Obj.cells #[.int .i64 4, .slice (some ⟨g1, 0, none⟩) 4 4, .slice (some ⟨g2, 0, none⟩) 1 1, .slice (some ⟨g3, 0, none⟩) 1 1] 26) _ l3).trans r3
  have S4 := (Below.heap_alloc w1 (Obj.cells #[.int .i64 4, .slice (some ⟨g1, 0, none⟩) 4 4, .slice (some ⟨g2, 0, none⟩) 1 1, .slice (some ⟨g3, 0, none⟩) 1 1] 26) w.heap.size (by omega)).trans G.out
  have hb2 : Below w.heap.size w w2 := by rw [← hw2]; (repeat' (first | (with_reducible exact Below.refl _ _) | (with_reducible refine Below.alloc ?_ ?_ _) | (with_reducible refine Below.drew ?_) | (with_reducible refine Below.drewN_ ?_ _) | (with_reducible refine Below.setCell ?_ ?_ _) | (with_reducible refine Below.setRow ?_ ?_ _) | (with_reducible refine Below.via ?_ (by with_reducible assumption) ?_) | go_size))
  have hz2 : w2.heap.size = b + 1 := by rw [← hw2, ← hbn]; simp
  rw [hw2] at S1 S2 S3 S4
  have HS1 := Lib.hid S1
  have HS2 := Lib.hid S2
  have HS3 := Lib.hid S3
  have HS4 := Lib.hid S4
  have HS0 := Lib.hid S0
  have c1 : w2.cell? ⟨b, 1, none⟩ = some (.slice (some ⟨g1, 0, none⟩) 4 4) := cell_of_row w2 b 1 _ _ _ S0
  have HN := Lib.hid hbn
  have HZ := Lib.hid hz2
  have lw : w.heap.size < b := by omega
  rw [hbn] at l1 l2 l3
  clear S0 S1 S2 S3 S4 hw2 h1 hz1 r1 r2 r3 G hbn hz2
  refine (wpIn_wide (n := 3)).1 ?_
  refine wpIn_region_planA (by kernel_rfl) 5 (by kernel_rfl) (by omega)
    (fun i => (#[.pointer (some ⟨b, 1, none⟩), .slice (some ⟨g1, 0, none⟩) 4 4, .agg #[.int .i64 (-180), .int .i64 (-170)], .pointer (some ⟨g1, 8, none⟩), .pointer (some ⟨g1, 10, none⟩)] : Array Value).getD i undef)
    (fun W => Below w2.heap.size w2 W) _ _ ?aF ?hA ?hS ?hstep ?htail
  case hA => simp [putTo, putIf, dstAt, Act.put, List.range_succ]; rfl
  case hS => exact (Below.refl _ _).drew
  case hstep =>
    intro i o hi ho W hS
    refine ⟨fun _ _ => trivial, ?_⟩
    have y1 := (hS.cell (p := ⟨b, 1, none⟩) (by dsimp only; have := HZ.out; omega)).trans c1
    have hi' : i = 0 ∨ i = 1 ∨ i = 2 ∨ i = 3 ∨ i = 4 := by omega
    rcases hi' with rfl | rfl | rfl | rfl | rfl
    all_goals (simp only [List.getElem?_toArray, List.getElem?_cons_succ, List.getElem?_cons_zero, Option.some.injEq] at ho; subst ho)
    case inr.inr.inl =>
      go_simp
      refine ⟨by simp, callsIn_wide.2 ((span_any _ _ W).mono ?_)⟩
      rintro e w' ⟨rfl, hb⟩
      exact ⟨_, rfl, rfl, hS.trans (hb.mono hS.size)⟩
    all_goals go_simp
    all_goals exact ⟨rfl, hS⟩
  case htail =>
    intro W hS
    simp only [List.drop_succ_cons, List.drop_zero]
    have zz := HZ.out
    have E1 := (hS.block g1 (by omega)).trans HS1.out
    have E2 := (hS.block g2 (by omega)).trans HS2.out
    have E3 := (hS.block g3 (by omega)).trans HS3.out
    have E4 := (hS.block w.heap.size (by omega)).trans HS4.out
    have E0 := (hS.block b (by omega)).trans HS0.out
    have zW := hS.size
    have hbW := hb2.trans (hS.mono (by omega))
    have k10 : W.cell? ⟨g1, 10, none⟩ = some (.int .i64 (-160)) := cell_of_row W g1 10 _ _ _ E1
    have k11 : W.cell? ⟨g1, 11, none⟩ = some (.int .i64 (-150)) := cell_of_row W g1 11 _ _ _ E1
    have f10 := frozen_of_row W g1 10 _ _ E1
    have f11 := frozen_of_row W g1 11 _ _ E1
    have F1 := Lib.hid E1
    have F2 := Lib.hid E2
    have F3 := Lib.hid E3
    have F4 := Lib.hid E4
    have F0 := Lib.hid E0
    clear E1 E2 E3 E4 E0 zz
    gi_wp2_with fail
    have N1 : ((W.setCell ⟨g1, 10, none⟩ (.int .i64 (-180))).setCell ⟨g1, 11, none⟩ (.int .i64 (-170))).heap[g1]? = some (.cells (exSh (-180) (-170)) 78 (0, 0)) := by
      rw [heap_setCell_same _ g1 11 _ _ _ (heap_setCell_same W g1 10 _ _ _ F1.out)]
      rfl
    obtain ⟨w3, hw3⟩ : ∃ w3, ((W.setCell ⟨g1, 10, none⟩ (.int .i64 (-180))).setCell ⟨g1, 11, none⟩ (.int .i64 (-170))) = w3 := ⟨_, rfl⟩
    have M2 := (show w3.heap[g2]? = W.heap[g2]? from by rw [← hw3, Below.heap_setCell _ _ _ _ (by dsimp only; omega), Below.heap_setCell _ _ _ _ (by dsimp only; omega)]).trans F2.out
    have M3 := (show w3.heap[g3]? = W.heap[g3]? from by rw [← hw3, Below.heap_setCell _ _ _ _ (by dsimp only; omega), Below.heap_setCell _ _ _ _ (by dsimp only; omega)]).trans F3.out
    have M4 := (show w3.heap[w.heap.size]? = W.heap[w.heap.size]? from by rw [← hw3, Below.heap_setCell _ _ _ _ (by dsimp only; omega), Below.heap_setCell _ _ _ _ (by dsimp only; omega)]).trans F4.out
    have M0 := (show w3.heap[b]? = W.heap[b]? from by rw [← hw3, Below.heap_setCell _ _ _ _ (by dsimp only; omega), Below.heap_setCell _ _ _ _ (by dsimp only; omega)]).trans F0.out
    have hb3 : Below w.heap.size w w3 := by rw [← hw3]; exact (hbW.setCell (by dsimp only; omega) _).setCell (by dsimp only; omega) _
    rw [hw3] at N1 ⊢
    have HN1 := Lib.hid N1
    have HM2 := Lib.hid M2
    have HM3 := Lib.hid M3
    have HM4 := Lib.hid M4
    clear hw3 N1 M2 M3 F1 F2 F3 F4 F0 k10 k11 f10 f11 hbW c1
    have j0 := cell_of_row w3 b 0 _ _ _ M0
    have j1 := cell_of_row w3 b 1 _ _ _ M0
    have j2 := cell_of_row w3 b 2 _ _ _ M0
    have j3 := cell_of_row w3 b 3 _ _ _ M0
    have k0 := cell_of_row w3 w.heap.size 0 _ _ _ M4
    have k1 := cell_of_row w3 w.heap.size 1 _ _ _ M4
    have k2 := cell_of_row w3 w.heap.size 2 _ _ _ M4
    have k3 := cell_of_row w3 w.heap.size 3 _ _ _ M4
    have f0 := frozen_of_row w3 w.heap.size 0 _ _ M4
    have f1 := frozen_of_row w3 w.heap.size 1 _ _ M4
    have f2 := frozen_of_row w3 w.heap.size 2 _ _ M4
    have f3 := frozen_of_row w3 w.heap.size 3 _ _ M4
    simp only [List.getElem?_toArray, List.getElem?_cons_zero, List.getElem?_cons_succ] at j0 j1 j2 j3 k0 k1 k2 k3
    clear M0 M4
    go_wp2
    refine bodyPost_ret (results_cell_row Try.results69 _ _ w.heap.size 26 #[.int .i64 4, .slice (some ⟨g1, 0, none⟩) 4 4, .slice (some ⟨g2, 0, none⟩) 1 1, .slice (some ⟨g3, 0, none⟩) 1 1] (0, 0) _ rfl (heap_set4 HM4.out) Try.underlying26 rfl infoSurvey) rfl ?_
    have e1 : ∀ (g : Nat) (v0 v1 v2 v3 : Value), g ≠ w.heap.size → ((((w3.setCell ⟨w.heap.size, 0, none⟩ v0).setCell ⟨w.heap.size, 1, none⟩ v1).setCell ⟨w.heap.size, 2, none⟩ v2).setCell ⟨w.heap.size, 3, none⟩ v3).heap[g]? = w3.heap[g]? := fun g v0 v1 v2 v3 hg => by
      rw [Below.heap_setCell _ _ _ _ hg, Below.heap_setCell _ _ _ _ hg, Below.heap_setCell _ _ _ _ hg, Below.heap_setCell _ _ _ _ hg]
    exact ⟨⟨_, _, _, rfl, exSh_rd ((e1 _ _ _ _ _ (by omega)).trans HN1.out), exMk_rd (a := -180) (b := -170) ((e1 _ _ _ _ _ (by omega)).trans HM2.out), exTh_rd (a := -180) (b := -170) ((e1 _ _ _ _ _ (by omega)).trans HM3.out)⟩, by (repeat' (first | (with_reducible exact Below.refl _ _) | (with_reducible refine Below.alloc ?_ ?_ _) | (with_reducible refine Below.drew ?_) | (with_reducible refine Below.drewN_ ?_ _) | (with_reducible refine Below.setCell ?_ ?_ _) | (with_reducible refine Below.setRow ?_ ?_ _) | (with_reducible refine Below.via ?_ (by with_reducible assumption) ?_) | go_size))⟩

set_option maxRecDepth 100000 in
set_option maxHeartbeats 2000000 in
/-- ready: whether the survey is valid (which is never great). -/
theorem ready_any (s : Sv) (c1 c2 c3 : Nat) (A1 A2 A3 : Option Addr) (w : World)
    (r1 : Rd w w.heap.size A1 shV 4 s.shots) (r2 : Rd w w.heap.size A2 mkV 3 s.marks) (r3 : Rd w w.heap.size A3 shV 4 s.threads) :
    Calls Try.prog 36 #[.agg #[.int .i64 s.n, .slice A1 s.shots.length c1, .slice A2 s.marks.length c2, .slice A3 s.threads.length c3]] w fun e w' => e = .returned (.bool (svOk s)) ∧ Below w.heap.size w w' := by
  have hb0 : Below w.heap.size w (w.alloc (Obj.cells #[Value.int IntKind.i64 s.n, Value.slice A1 s.shots.length c1, Value.slice A2 s.marks.length c2, Value.slice A3 s.threads.length c3] 26)) := by (repeat' (first | (with_reducible exact Below.refl _ _) | (with_reducible refine Below.alloc ?_ ?_ _) | (with_reducible refine Below.drew ?_) | (with_reducible refine Below.drewN_ ?_ _) | (with_reducible refine Below.setCell ?_ ?_ _) | (with_reducible refine Below.setRow ?_ ?_ _) | (with_reducible refine Below.via ?_ (by with_reducible assumption) ?_) | go_size))
  have R1 := Lib.hid ((r1.below hb0).more hb0.size)
  have R2 := Lib.hid ((r2.below hb0).more hb0.size)
  have R3 := Lib.hid ((r3.below hb0).more hb0.size)
  clear r1 r2 r3
  have hG := Lib.hid (fun W => (great_any s.n s.shots.length s.marks.length s.threads.length c1 c2 c3 A1 A2 A3 W))
  cases hgr : (decide (90 < s.shots.length) || decide (30 < s.marks.length) || decide (50 < s.threads.length))
  · rw [hgr] at hG
    have hE : svOk s = decide (svErr s = 0) := by unfold svErr; cases svOk s <;> rfl
    have hE2 : (svErr s == (0 : Int)) = svOk s := by unfold svErr; cases svOk s <;> rfl
    have HE2 := Lib.hid hE2
    clear hgr hE hE2
    go_enter Try.func36, Try.ntmps36
    go_wp2_with (first
      | (go_at_call 14; refine (hG.out _).mono ?_; rintro e w1 ⟨rfl, hb1⟩; obtain ⟨hc1, hf1⟩ := bcell hb1; have hz1 := hb1.size; simp at hz1; have hlt : w.heap.size < w1.heap.size := by omega)
      | (go_at_call 21; refine (rcheck_any s c1 c2 c3 A1 A2 A3 w1 ((R1.out.below hb1).more hb1.size) ((R2.out.below hb1).more hb1.size) ((R3.out.below hb1).more hb1.size)).mono ?_; rintro e w2 ⟨rfl, hb2⟩))
    go_ret
    exact ⟨by simp [HE2.out], by (repeat' (first | (with_reducible exact Below.refl _ _) | (with_reducible refine Below.alloc ?_ ?_ _) | (with_reducible refine Below.drew ?_) | (with_reducible refine Below.drewN_ ?_ _) | (with_reducible refine Below.setCell ?_ ?_ _) | (with_reducible refine Below.setRow ?_ ?_ _) | (with_reducible refine Below.via ?_ (by with_reducible assumption) ?_) | go_size))⟩
  · rw [hgr] at hG
    have hok : svOk s = false := by
      cases h : svOk s
      · rfl
      · obtain ⟨⟨_, _, g1, g2, g3⟩, _⟩ := svOk_spec h
        simp only [Bool.or_eq_true, decide_eq_true_eq] at hgr
        omega
    rw [hok]
    clear hgr hok
    go_enter Try.func36, Try.ntmps36
    go_wp2_with (first
      | (go_at_call 14; refine (hG.out _).mono ?_; rintro e w1 ⟨rfl, hb1⟩))
    go_ret
    exact ⟨rfl, by (repeat' (first | (with_reducible exact Below.refl _ _) | (with_reducible refine Below.alloc ?_ ?_ _) | (with_reducible refine Below.drew ?_) | (with_reducible refine Below.drewN_ ?_ _) | (with_reducible refine Below.setCell ?_ ?_ _) | (with_reducible refine Below.setRow ?_ ?_ _) | (with_reducible refine Below.via ?_ (by with_reducible assumption) ?_) | go_size))⟩

end Go.Proofs.Ytaoonfmcimkmhaa

/- The two surveys of the chapter's examples, and what each function of level answers of them. No condition. -/
namespace Go.Proofs.Ytaoonfmcimkmhaa

def falS : Sv := exS (-160) (-150)
def crkS : Sv := exS (-180) (-170)
theorem falS_ok : svOk falS = true := by decide +kernel
theorem crkS_ok : svOk crkS = true := by decide +kernel

theorem exS_iff (a b : Int) (o : Nat → Bool) (w : Int) (h : Nat → Int) : FitSv (exS a b) o w h ↔
    ((-10000000 ≤ h 0 - h 4 ∧ h 0 - h 4 ≤ 10000000) ∧ (-10000000 ≤ h 1 - h 4 ∧ h 1 - h 4 ≤ 10000000) ∧ (-10000000 ≤ h 2 - h 4 ∧ h 2 - h 4 ≤ 10000000) ∧ (-10000000 ≤ h 3 - h 4 ∧ h 3 - h 4 ≤ 10000000)) ∧
    (o 0 = false → -110 - w ≤ h 1 - h 0 ∧ h 1 - h 0 ≤ -100 + w) ∧ (o 1 = false → -55 - w ≤ h 2 - h 1 ∧ h 2 - h 1 ≤ -45 + w) ∧
    (o 2 = false → a - w ≤ h 2 - h 0 ∧ h 2 - h 0 ≤ b + w) ∧ (o 3 = false → 20 - w ≤ h 2 - h 3 ∧ h 2 - h 3 ≤ 30 + w) ∧ (o 4 = false → 1000 - w ≤ h 0 - h 4 ∧ h 0 - h 4 ≤ 1000 + w) := by
  constructor
  · intro hf
    exact ⟨⟨hf.1 0 (show 0 < 4 by decide), hf.1 1 (show 1 < 4 by decide), hf.1 2 (show 2 < 4 by decide), hf.1 3 (show 3 < 4 by decide)⟩, hf.2 0 (show 0 < 5 by decide), hf.2 1 (show 1 < 5 by decide), hf.2 2 (show 2 < 5 by decide), hf.2 3 (show 3 < 5 by decide), hf.2 4 (show 4 < 5 by decide)⟩
  · rintro ⟨⟨w0, w1, w2, w3⟩, r0, r1, r2, r3, r4⟩
    refine ⟨fun i hi => ?_, fun k hk ho => ?_⟩
    · have hi4 : i < 4 := hi
      match i, hi4 with
      | 0, _ => exact w0
      | 1, _ => exact w1
      | 2, _ => exact w2
      | 3, _ => exact w3
    · have hk5 : k < 5 := hk
      match k, hk5, ho with
      | 0, _, ho => exact r0 ho
      | 1, _, ho => exact r1 ho
      | 2, _, ho => exact r2 ho
      | 3, _, ho => exact r3 ho
      | 4, _, ho => exact r4 ho

/-- A greatest difference is known by a bound of all fits, and one fit that reaches it. -/
theorem wkD_at {s : Sv} {o : Nat → Bool} {w : Int} (hok : svOk s = true) (hw0 : 0 ≤ w) (hw2 : w ≤ 20000000) {a b : Nat} {e : Int} (ha : a < s.n.toNat + 1) (hb : b < s.n.toNat + 1)
    (g : Nat → Int) (hg : FitSv s o w g) (hge : g b - g a = e) (hup : ∀ h, FitSv s o w h → h b - h a ≤ e) : (wkD s o w).1 a b = e := by
  obtain ⟨h1, h2⟩ := wkD_of_fit hok hw0 hw2 hg
  obtain ⟨_, h3, h4⟩ := wkD_spec hok hw0 hw2 h1
  have h5 := h2 a b ha hb
  have h6 : (wkD s o w).1 a b - (wkD s o w).1 a a ≤ e := hup _ (h4 a ha)
  have h7 := h3 a ha
  omega

/-- Heights of the examples: of the points 0 to 3, and of the ground. -/
def gl (l : List Int) (i : Nat) : Int := l.getD i 0
set_option maxRecDepth 100000 in
theorem fal_at {a b : Nat} {e : Int} (ha : a < 5) (hb : b < 5) (l : List Int) (hg : FitSv falS (fun _ => false) 0 (gl l)) (hge : gl l b - gl l a = e) (hup : ∀ h, FitSv falS (fun _ => false) 0 h → h b - h a ≤ e) : (svD falS).1 a b = e :=
  wkD_at falS_ok (by omega) (by omega) (show a < 4 + 1 from ha) (show b < 4 + 1 from hb) (gl l) hg hge hup
theorem fal_fit (h : Nat → Int) : FitSv falS (fun _ => false) 0 h ↔
    ((-10000000 ≤ h 0 - h 4 ∧ h 0 - h 4 ≤ 10000000) ∧ (-10000000 ≤ h 1 - h 4 ∧ h 1 - h 4 ≤ 10000000) ∧ (-10000000 ≤ h 2 - h 4 ∧ h 2 - h 4 ≤ 10000000) ∧ (-10000000 ≤ h 3 - h 4 ∧ h 3 - h 4 ≤ 10000000)) ∧
    (-110 ≤ h 1 - h 0 ∧ h 1 - h 0 ≤ -100) ∧ (-55 ≤ h 2 - h 1 ∧ h 2 - h 1 ≤ -45) ∧ (-160 ≤ h 2 - h 0 ∧ h 2 - h 0 ≤ -150) ∧ (20 ≤ h 2 - h 3 ∧ h 2 - h 3 ≤ 30) ∧ (1000 ≤ h 0 - h 4 ∧ h 0 - h 4 ≤ 1000) := by
  unfold falS
  rw [exS_iff]
  simp only [Int.sub_zero, Int.add_zero, forall_const]
/-- Three fits that reach all that is asked. -/
theorem fit_a : FitSv falS (fun _ => false) 0 (gl [1000, 900, 850, 830, 0]) := (fal_fit _).2 (by decide +kernel)
theorem fit_b : FitSv falS (fun _ => false) 0 (gl [1000, 890, 840, 810, 0]) := (fal_fit _).2 (by decide +kernel)
theorem fit_c : FitSv falS (fun _ => false) 0 (gl [1000, 895, 850, 825, 0]) := (fal_fit _).2 (by decide +kernel)
theorem fit_d : FitSv falS (fun _ => false) 0 (gl [1000, 900, 845, 820, 0]) := (fal_fit _).2 (by decide +kernel)
theorem fit_e : FitSv falS (fun _ => false) 0 (gl [1000, 895, 845, 825, 0]) := (fal_fit _).2 (by decide +kernel)

theorem fal_true : (svD falS).2 = true := (wkD_iff falS_ok (by omega) (by omega)).2 ⟨_, fit_a⟩
theorem fal_04 : (svD falS).1 0 4 = -1000 := fal_at (by omega) (by omega) _ fit_a (by decide) fun h hf => by have := (fal_fit h).1 hf; omega
theorem fal_40 : (svD falS).1 4 0 = 1000 := fal_at (by omega) (by omega) _ fit_a (by decide) fun h hf => by have := (fal_fit h).1 hf; omega
theorem fal_14 : (svD falS).1 1 4 = -890 := fal_at (by omega) (by omega) _ fit_b (by decide) fun h hf => by have := (fal_fit h).1 hf; omega
theorem fal_41 : (svD falS).1 4 1 = 900 := fal_at (by omega) (by omega) _ fit_a (by decide) fun h hf => by have := (fal_fit h).1 hf; omega
theorem fal_24 : (svD falS).1 2 4 = -840 := fal_at (by omega) (by omega) _ fit_b (by decide) fun h hf => by have := (fal_fit h).1 hf; omega
theorem fal_42 : (svD falS).1 4 2 = 850 := fal_at (by omega) (by omega) _ fit_a (by decide) fun h hf => by have := (fal_fit h).1 hf; omega
theorem fal_34 : (svD falS).1 3 4 = -810 := fal_at (by omega) (by omega) _ fit_b (by decide) fun h hf => by have := (fal_fit h).1 hf; omega
theorem fal_43 : (svD falS).1 4 3 = 830 := fal_at (by omega) (by omega) _ fit_a (by decide) fun h hf => by have := (fal_fit h).1 hf; omega
theorem fal_12 : (svD falS).1 1 2 = -45 := fal_at (by omega) (by omega) _ fit_c (by decide) fun h hf => by have := (fal_fit h).1 hf; omega
theorem fal_21 : (svD falS).1 2 1 = 55 := fal_at (by omega) (by omega) _ fit_d (by decide) fun h hf => by have := (fal_fit h).1 hf; omega
theorem fal_03 : (svD falS).1 0 3 = -170 := fal_at (by omega) (by omega) _ fit_a (by decide) fun h hf => by have := (fal_fit h).1 hf; omega
theorem fal_30 : (svD falS).1 3 0 = 190 := fal_at (by omega) (by omega) _ fit_b (by decide) fun h hf => by have := (fal_fit h).1 hf; omega
theorem fal_02 : (svD falS).1 0 2 = -150 := fal_at (by omega) (by omega) _ fit_a (by decide) fun h hf => by have := (fal_fit h).1 hf; omega
theorem fal_20 : (svD falS).1 2 0 = 160 := fal_at (by omega) (by omega) _ fit_b (by decide) fun h hf => by have := (fal_fit h).1 hf; omega
theorem fal_01 : (svD falS).1 0 1 = -100 := fal_at (by omega) (by omega) _ fit_a (by decide) fun h hf => by have := (fal_fit h).1 hf; omega
theorem fal_10 : (svD falS).1 1 0 = 110 := fal_at (by omega) (by omega) _ fit_b (by decide) fun h hf => by have := (fal_fit h).1 hf; omega
theorem fal_23 : (svD falS).1 2 3 = -20 := fal_at (by omega) (by omega) _ fit_a (by decide) fun h hf => by have := (fal_fit h).1 hf; omega
theorem fal_32 : (svD falS).1 3 2 = 30 := fal_at (by omega) (by omega) _ fit_b (by decide) fun h hf => by have := (fal_fit h).1 hf; omega

set_option maxRecDepth 100000 in
theorem fal_heights : lvHeights falS = ([(1000, 1000), (890, 900), (840, 850), (810, 830)], 0) := by
  have h : htsList falS = [(-(svD falS).1 0 4, (svD falS).1 4 0), (-(svD falS).1 1 4, (svD falS).1 4 1), (-(svD falS).1 2 4, (svD falS).1 4 2), (-(svD falS).1 3 4, (svD falS).1 4 3)] := rfl
  unfold lvHeights
  rw [falS_ok, fal_true, h, fal_04, fal_40, fal_14, fal_41, fal_24, fal_42, fal_34, fal_43]
  rfl
set_option maxRecDepth 100000 in
theorem fal_fall (a b : Int) (x y : Nat) (hx : (inB 4 a && inB 4 b) = true) (ha : a.toNat = x) (hb : b.toNat = y) : lvFall falS a b = ((-(svD falS).1 x y, (svD falS).1 y x), 0) := by
  unfold lvFall
  rw [falS_ok, fal_true, if_neg (by simp), if_neg (by rw [show falS.n = 4 from rfl, hx]; simp), if_neg (by simp), ha, hb]
theorem fal_fall12 : lvFall falS 1 2 = ((45, 55), 0) := by rw [fal_fall 1 2 1 2 rfl rfl rfl, fal_12, fal_21]; rfl
theorem fal_fall21 : lvFall falS 2 1 = ((-55, -45), 0) := by rw [fal_fall 2 1 2 1 rfl rfl rfl, fal_12, fal_21]
theorem fal_fall03 : lvFall falS 0 3 = ((170, 190), 0) := by rw [fal_fall 0 3 0 3 rfl rfl rfl, fal_03, fal_30]; rfl
theorem fal_fall02 : lvFall falS 0 2 = ((150, 160), 0) := by rw [fal_fall 0 2 0 2 rfl rfl rfl, fal_02, fal_20]; rfl
theorem fal_loop : lvLoop falS [0, 1, 2] = ((-15, 15), 0) := by decide +kernel
set_option maxRecDepth 100000 in
theorem fal_runs : lvRuns falS [0, 1, 2, 3] = ([2, 2, 2], 0) := by
  have h : runsOf (svD falS).1 [0, 1, 2, 3] = [aboveB (-(svD falS).1 0 1) ((svD falS).1 1 0), aboveB (-(svD falS).1 1 2) ((svD falS).1 2 1), aboveB (-(svD falS).1 2 3) ((svD falS).1 3 2)] := rfl
  unfold lvRuns
  rw [falS_ok, fal_true, h, fal_01, fal_10, fal_12, fal_21, fal_23, fal_32]
  rfl

set_option maxRecDepth 100000 in
theorem fal_slope : lvSlope falS 0 = ((2, 4), 0) := by
  have h : thrAt falS 0 = some ⟨0, 2, 50000, 51000⟩ := rfl
  unfold lvSlope
  rw [falS_ok, h, if_neg (by simp)]
  dsimp only
  rw [fal_fall02]
  decide +kernel

/-- Crooked: no heights fit, nor with an error of 1; with one of 2 they do. -/
theorem crk_no (w : Int) (hw : w ≤ 1) (o : Nat → Bool) (h0 : o 0 = false) (h1 : o 1 = false) (h2 : o 2 = false) (h : Nat → Int) : ¬ FitSv crkS o w h := by
  intro hf
  unfold crkS at hf
  rw [exS_iff] at hf
  obtain ⟨_, r0, r1, r2, _, _⟩ := hf
  have r0 := r0 h0
  have r1 := r1 h1
  have r2 := r2 h2
  omega
theorem crk_fit {w : Int} {o : Nat → Bool} (l : List Int) (hb : ((-10000000 ≤ gl l 0 - gl l 4 ∧ gl l 0 - gl l 4 ≤ 10000000) ∧ (-10000000 ≤ gl l 1 - gl l 4 ∧ gl l 1 - gl l 4 ≤ 10000000) ∧ (-10000000 ≤ gl l 2 - gl l 4 ∧ gl l 2 - gl l 4 ≤ 10000000) ∧ (-10000000 ≤ gl l 3 - gl l 4 ∧ gl l 3 - gl l 4 ≤ 10000000)) ∧
    (o 0 = false → -110 - w ≤ gl l 1 - gl l 0 ∧ gl l 1 - gl l 0 ≤ -100 + w) ∧ (o 1 = false → -55 - w ≤ gl l 2 - gl l 1 ∧ gl l 2 - gl l 1 ≤ -45 + w) ∧
    (o 2 = false → -180 - w ≤ gl l 2 - gl l 0 ∧ gl l 2 - gl l 0 ≤ -170 + w) ∧ (o 3 = false → 20 - w ≤ gl l 2 - gl l 3 ∧ gl l 2 - gl l 3 ≤ 30 + w) ∧ (o 4 = false → 1000 - w ≤ gl l 0 - gl l 4 ∧ gl l 0 - gl l 4 ≤ 1000 + w)) (hw0 : 0 ≤ w) (hw2 : w ≤ 20000000) : (wkD crkS o w).2 = true :=
  (wkD_iff crkS_ok hw0 hw2).2 ⟨gl l, (exS_iff _ _ _ _ _).2 hb⟩
theorem crk_unfit {w : Int} {o : Nat → Bool} (hw0 : 0 ≤ w) (hw : w ≤ 1) (h0 : o 0 = false) (h1 : o 1 = false) (h2 : o 2 = false) : (wkD crkS o w).2 = false := by
  cases h : (wkD crkS o w).2
  · rfl
  · obtain ⟨g, hg⟩ := (wkD_iff crkS_ok hw0 (by omega)).1 h
    exact absurd hg (crk_no w hw o h0 h1 h2 g)
theorem crk_wid : ∀ m : Nat, m ≤ 20000000 → (wkD crkS (fun _ => false) (m : Int)).2 = decide (2 ≤ m) := fun m hm => by
  by_cases h : 2 ≤ m
  · rw [decide_eq_true h]
    have h2 : (wkD crkS (fun _ => false) 2).2 = true := crk_fit [1000, 888, 832, 807, 0] (by decide +kernel) (by omega) (by omega)
    obtain ⟨g, hg⟩ := (wkD_iff crkS_ok (by omega) (by omega)).1 h2
    exact (wkD_iff crkS_ok (by omega) (by omega)).2 ⟨g, fitSv_mono (by omega) hg⟩
  · rw [decide_eq_false h]
    exact crk_unfit (by omega) (by omega) rfl rfl rfl
theorem fal_wid : ∀ m : Nat, m ≤ 20000000 → (wkD falS (fun _ => false) (m : Int)).2 = decide (0 ≤ m) := fun m hm => by
  rw [decide_eq_true (Nat.zero_le _)]
  exact (wkD_iff falS_ok (by omega) (by omega)).2 ⟨_, fitSv_mono (by omega) fit_a⟩
theorem crk_clash : lvClash crkS = ([0, 1, 2], 0) := by
  have f0 : fitB crkS (upB (clOut (fitB crkS) 0) 0 true) = true := crk_fit [1000, 880, 830, 805, 0] (by decide +kernel) (by omega) (by omega)
  obtain ⟨o1, l1⟩ := clOut_yes f0
  have f1 : fitB crkS (upB (clOut (fitB crkS) 1) 1 true) = true := by
    rw [o1]
    exact crk_fit [1000, 895, 825, 800, 0] (by decide +kernel) (by omega) (by omega)
  obtain ⟨o2, l2⟩ := clOut_yes f1
  have f2 : fitB crkS (upB (clOut (fitB crkS) 2) 2 true) = true := by
    rw [o2, o1]
    exact crk_fit [1000, 895, 845, 820, 0] (by decide +kernel) (by omega) (by omega)
  obtain ⟨o3, l3⟩ := clOut_yes f2
  have f3 : fitB crkS (upB (clOut (fitB crkS) 3) 3 true) = false := by
    rw [o3, o2, o1]
    exact crk_unfit (by omega) (by omega) rfl rfl rfl
  obtain ⟨o4, l4⟩ := clOut_no f3
  have f4 : fitB crkS (upB (clOut (fitB crkS) 4) 4 true) = false := by
    rw [o4, o3, o2, o1]
    exact crk_unfit (by omega) (by omega) rfl rfl rfl
  obtain ⟨o5, l5⟩ := clOut_no f4
  rw [lvClash_some crkS_ok (crk_unfit (by omega) (by omega) rfl rfl rfl)]
  show (clL (fitB crkS) 5, (0 : Int)) = _
  rw [l5, l4, l3, l2, l1]
  rfl

end Go.Proofs.Ytaoonfmcimkmhaa
