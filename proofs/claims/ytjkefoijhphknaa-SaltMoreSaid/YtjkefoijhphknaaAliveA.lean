/- The chapter's examples of layer 6, made in memory. No condition. -/
import Derived.Test.YtjkefoijhphknaaLists
import Derived.Test.YtjkefoijhphknaaMkEx
import Derived.Test.YtjkefoijhphknaaMkPl
import Derived.Test.YtjkefoijhphknaaSaRefC
set_option linter.unusedSimpArgs false
set_option linter.unusedVariables false
namespace Go.Proofs.Ytjkefoijhphknaa
open Go.RowKit

theorem rd_keep {α : Type} {w w' : World} {A : Option Addr} {enc : α → List Value} {sz : Nat} {l : List α} (h : Rd w w.heap.size A enc sz l) (hb : Below w.heap.size w w') : Rd w' w'.heap.size A enc sz l := (h.below hb).more hb.size
theorem row_keep {w w' : World} {g : Nat} {o : Obj} (h : w.heap[g]? = some o) (hb : Below w.heap.size w w') : w'.heap[g]? = some o := (hb.block g (Array.getElem?_eq_some_iff.1 h).1).trans h
theorem below_keep {B : Nat} {w w' w'' : World} (h : Below B w w') (hB : B ≤ w'.heap.size) (hb : Below w'.heap.size w' w'') : Below B w w'' := h.trans (hb.mono hB)
theorem rd_row {α : Type} {enc : α → List Value} {sz : Nat} (he : ∀ x, (enc x).length = sz) {w : World} {g : Nat} {cs : Array Value} {t : TypeId} {fr : Nat × Nat} (h : w.heap[g]? = some (.cells cs t fr)) (l : List α) (hcs : cs = (flat enc l).toArray) :
    Rd w w.heap.size (some ⟨g, 0, none⟩) enc sz l := fun _ => by
  refine ⟨g, 0, rfl, (Array.getElem?_eq_some_iff.1 h).1, fun k x hx j v hv => ?_⟩
  have h1 := flat_get he l k x hx j v hv
  have h2 := cell_of_row w g (0 + k * sz + j) _ _ _ h
  rw [h2, hcs, Nat.zero_add]
  simpa using h1

theorem rd_nn {w : World} {B : Nat} {A : Option Addr} {l : List Nat} (h : Rd w B A nnV 1 l) : Rd w B A inV 1 (l.map (fun n : Nat => (n : Int))) := fun hne => by
  obtain ⟨b, o, rfl, hb, hc⟩ := h (by simpa using hne)
  refine ⟨b, o, rfl, hb, fun k x hx j v hv => ?_⟩
  rw [List.getElem?_map] at hx
  cases e : l[k]? with
  | none => rw [e] at hx; cases hx
  | some n =>
    rw [e] at hx
    injection hx with hx
    subst hx
    exact hc k n e j v hv
set_option maxRecDepth 100000 in
theorem span_any (x y : Int) (w : World) :
    Calls Try.prog 38 #[.int .i64 x, .int .i64 y] w fun e w' => e = .returned (.agg #[.int .i64 x, .int .i64 y]) ∧ Below w.heap.size w w' := by
  go_enter Try.func38, Try.ntmps38
  go_wp2
  go_returns
  exact ⟨rfl, by (repeat' (first | (with_reducible exact Below.refl _ _) | (with_reducible refine Below.alloc ?_ ?_ _) | (with_reducible refine Below.drew ?_) | (with_reducible refine Below.drewN_ ?_ _) | (with_reducible refine Below.setCell ?_ ?_ _) | (with_reducible refine Below.setRow ?_ ?_ _) | (with_reducible refine Below.via ?_ (by with_reducible assumption) ?_) | go_size))⟩

def exSo : So := ⟨5000, 6000, 6000, 10000, 100, 200, 900, 1000, 0, 300⟩
def exSoA : Array Value := #[.int .i64 5000, .int .i64 6000, .int .i64 6000, .int .i64 10000, .int .i64 100, .int .i64 200, .int .i64 900, .int .i64 1000, .int .i64 0, .int .i64 300]
theorem infoSoil10 : (Try.prog.info? 25).map (·.size) = some exSoA.size := by kernel_rfl
theorem exSoA_one : exSoA.all (·.oneCell') = true := by simp [exSoA, Value.oneCell']
set_option maxRecDepth 100000 in
set_option maxHeartbeats 2000000 in
theorem field_any (w : World) :
    Calls Try.prog 68 #[] w fun e w' => e = .returned (.agg exSoA) ∧ Below w.heap.size w w' := by
  have t1 : Hid True := Lib.hid trivial
  have t2 : Hid True := Lib.hid trivial
  have t3 : Hid True := Lib.hid trivial
  have t4 : Hid True := Lib.hid trivial
  have G := Lib.hid (heap_alloc_new w (Obj.cells #[Value.int IntKind.i64 0, Value.int IntKind.i64 0, Value.int IntKind.i64 0, Value.int IntKind.i64 0, Value.int IntKind.i64 0, Value.int IntKind.i64 0, Value.int IntKind.i64 0, Value.int IntKind.i64 0, Value.int IntKind.i64 0, Value.int IntKind.i64 0] 25))
  have hz0 : (w.alloc (Obj.cells #[Value.int IntKind.i64 0, Value.int IntKind.i64 0, Value.int IntKind.i64 0, Value.int IntKind.i64 0, Value.int IntKind.i64 0, Value.int IntKind.i64 0, Value.int IntKind.i64 0, Value.int IntKind.i64 0, Value.int IntKind.i64 0, Value.int IntKind.i64 0] 25)).heap.size = w.heap.size + 1 := by simp
  have HZ0 := Lib.hid hz0
  clear hz0
  go_enter Try.func68, Try.ntmps68
  go_wp2_with (first
    | (go_at_call 38; first
    | (have _t := t1; clear t1 _t; refine (span_any _ _ _).mono ?_; rintro e w1 ⟨rfl, h1⟩; have hz1 := h1.size; rw [HZ0.out] at hz1; replace G := Lib.hid ((h1.block _ (by simp)).trans G.out))
    | (have _t := t2; clear t2 _t; refine (span_any _ _ _).mono ?_; rintro e w2 ⟨rfl, h2⟩; have hz2 := h2.size; replace G := Lib.hid ((h2.block _ (by omega)).trans G.out))
    | (have _t := t3; clear t3 _t; refine (span_any _ _ _).mono ?_; rintro e w3 ⟨rfl, h3⟩; have hz3 := h3.size; replace G := Lib.hid ((h3.block _ (by omega)).trans G.out))
    | (have _t := t4; clear t4 _t; refine (span_any _ _ _).mono ?_; rintro e w4 ⟨rfl, h4⟩; have hz4 := h4.size; replace G := Lib.hid ((h4.block _ (by omega)).trans G.out)))
    | (refine wpList_store_row rfl 25 (.tmp 0) (.tmp 5) rfl w.heap.size exSoA rfl rfl 25 #[Value.int IntKind.i64 0, Value.int IntKind.i64 0, Value.int IntKind.i64 0, Value.int IntKind.i64 0, Value.int IntKind.i64 0, Value.int IntKind.i64 0, Value.int IntKind.i64 0, Value.int IntKind.i64 0, Value.int IntKind.i64 0, Value.int IntKind.i64 0] G.out infoSoil10 rfl exSoA_one ?_))
  have row : (w4.setRow w.heap.size exSoA).heap[w.heap.size]? = some (.cells exSoA 25 (0, 0)) := setRow_heap _ _ _ _ _ _ G.out
  refine bodyPost_ret (results_cell_row Try.results68 _ _ w.heap.size 25 exSoA (0, 0) _ rfl row Try.underlying25 rfl infoSoil10) rfl ?_
  have hb : Below w.heap.size w w4 := by (repeat' (first | (with_reducible exact Below.refl _ _) | (with_reducible refine Below.alloc ?_ ?_ _) | (with_reducible refine Below.drew ?_) | (with_reducible refine Below.drewN_ ?_ _) | (with_reducible refine Below.setCell ?_ ?_ _) | (with_reducible refine Below.setRow ?_ ?_ _) | (with_reducible refine Below.via ?_ (by with_reducible assumption) ?_) | go_size))
  exact ⟨rfl, Below.setRow hb (Nat.le_refl _) _⟩

set_option maxRecDepth 100000 in
theorem needs_any (w : World) :
    Calls Try.prog 69 #[] w fun e w' => (∃ A, e = .returned (.slice A 3 3) ∧ Rd w' w'.heap.size A inV 1 exN) ∧ Below w.heap.size w w' := by
  go_enter Try.func69, Try.ntmps69
  go_wp2
  go_returns
  exact ⟨⟨_, rfl, rd_row (enc := inV) (sz := 1) (fun _ => rfl) (heap_alloc_new w (Obj.cells #[.int .i64 30, .int .i64 20, .int .i64 10] 3)) exN rfl⟩, by (repeat' (first | (with_reducible exact Below.refl _ _) | (with_reducible refine Below.alloc ?_ ?_ _) | (with_reducible refine Below.drew ?_) | (with_reducible refine Below.drewN_ ?_ _) | (with_reducible refine Below.setCell ?_ ?_ _) | (with_reducible refine Below.setRow ?_ ?_ _) | (with_reducible refine Below.via ?_ (by with_reducible assumption) ?_) | go_size))⟩

set_option maxRecDepth 100000 in
theorem rents_any (n : Int) (w : World) :
    Calls Try.prog 70 #[.int .i64 n] w fun e w' => (∃ A B C, e = .returned (.slice A 2 2) ∧ Rd w' w'.heap.size A reV 3 (exR n B C 2 2) ∧ ReAt w' w'.heap.size (exR n B C 2 2)) ∧ Below w.heap.size w w' := by
  go_enter Try.func70, Try.ntmps70
  go_wp2
  go_returns
  refine ⟨⟨_, some ⟨w.heap.size, 0, none⟩, some ⟨w.heap.size + 1, 0, none⟩, rfl, ?_, fun r hr => ?_⟩, by (repeat' (first | (with_reducible exact Below.refl _ _) | (with_reducible refine Below.alloc ?_ ?_ _) | (with_reducible refine Below.drew ?_) | (with_reducible refine Below.drewN_ ?_ _) | (with_reducible refine Below.setCell ?_ ?_ _) | (with_reducible refine Below.setRow ?_ ?_ _) | (with_reducible refine Below.via ?_ (by with_reducible assumption) ?_) | go_size))⟩
  · have h2 := heap_alloc_new ((w.alloc (Obj.cells #[.int .i64 0, .int .i64 1] 3)).alloc (Obj.cells #[.int .i64 1, .int .i64 2] 3)) (Obj.cells #[.int .i64 n, .int .i64 5, .slice (some ⟨w.heap.size, 0, none⟩) 2 2, .int .i64 40, .int .i64 3, .slice (some ⟨w.heap.size + 1, 0, none⟩) 2 2] 89)
    have e : ((w.alloc (Obj.cells #[.int .i64 0, .int .i64 1] 3)).alloc (Obj.cells #[.int .i64 1, .int .i64 2] 3)).heap.size = w.heap.size + 1 + 1 := by simp
    rw [e] at h2
    exact rd_row reV_len h2 (exR n (some ⟨w.heap.size, 0, none⟩) (some ⟨w.heap.size + 1, 0, none⟩) 2 2) rfl
  · have h0 : (((w.alloc (Obj.cells #[.int .i64 0, .int .i64 1] 3)).alloc (Obj.cells #[.int .i64 1, .int .i64 2] 3)).alloc (Obj.cells #[.int .i64 n, .int .i64 5, .slice (some ⟨w.heap.size, 0, none⟩) 2 2, .int .i64 40, .int .i64 3, .slice (some ⟨w.heap.size + 1, 0, none⟩) 2 2] 89)).heap[w.heap.size]? = some (Obj.cells #[.int .i64 0, .int .i64 1] 3) :=
      (Below.heap_alloc _ _ _ (by simp; omega)).trans ((Below.heap_alloc _ _ _ (by simp)).trans (heap_alloc_new _ _))
    have h1 : (((w.alloc (Obj.cells #[.int .i64 0, .int .i64 1] 3)).alloc (Obj.cells #[.int .i64 1, .int .i64 2] 3)).alloc (Obj.cells #[.int .i64 n, .int .i64 5, .slice (some ⟨w.heap.size, 0, none⟩) 2 2, .int .i64 40, .int .i64 3, .slice (some ⟨w.heap.size + 1, 0, none⟩) 2 2] 89)).heap[w.heap.size + 1]? = some (Obj.cells #[.int .i64 1, .int .i64 2] 3) :=
      (Below.heap_alloc _ _ _ (by simp)).trans (heap_alloc2_new _ _ _)
    unfold exR at hr
    rcases List.mem_cons.1 hr with rfl | hr
    · exact ⟨rd_row (enc := inV) (sz := 1) (fun _ => rfl) h0 _ rfl, by simp⟩
    · rcases List.mem_cons.1 hr with rfl | hr
      · exact ⟨rd_row (enc := inV) (sz := 1) (fun _ => rfl) h1 _ rfl, by simp⟩
      · cases hr

theorem ex_after1 (w : World) : Calls Try.prog 12 #[.agg exSoA, .agg #[.int .i64 10000, .int .i64 10000], .int .i64 2] w fun e w' =>
    (∃ A c, e = .returned (.tuple #[.slice A 2 c, .int .i64 0]) ∧ Rd w' w'.heap.size A spV 2 [((6000 : Int), (8300 : Int)), (7000, 10600)]) ∧ Below w.heap.size w w' := by
  have h := After_any exSo 10000 10000 2 w
  unfold AfterPost at h
  rw [show saAfter exSo 10000 10000 2 = ([((6000 : Int), (8300 : Int)), (7000, 10600)], 0) by decide +kernel] at h
  exact h
theorem ex_after2 (w : World) : Calls Try.prog 12 #[.agg exSoA, .agg #[.int .i64 12000, .int .i64 13000], .int .i64 1] w fun e w' =>
    (∃ A c, e = .returned (.tuple #[.slice A 1 c, .int .i64 0]) ∧ Rd w' w'.heap.size A spV 2 [((3300 : Int), (6900 : Int))]) ∧ Below w.heap.size w w' := by
  have h := After_any exSo 12000 13000 1 w
  unfold AfterPost at h
  rw [show saAfter exSo 12000 13000 1 = ([((3300 : Int), (6900 : Int))], 0) by decide +kernel] at h
  exact h
theorem ex_need (w : World) : Calls Try.prog 14 #[.agg exSoA] w fun e w' => e = .returned (.tuple #[.int .i64 13286, .int .i64 0]) ∧ Below w.heap.size w w' := by
  have h := Need_any exSo w
  rw [show saNeed exSo = (13286, 0) by decide +kernel] at h
  exact h
theorem ex_lack (A B C D : Option Addr) (w : World) (r1 : Rd w w.heap.size A inV 1 exN) (r2 : Rd w w.heap.size B reV 3 (exR 25 C D 2 2)) (rf : ReAt w w.heap.size (exR 25 C D 2 2)) :
    Calls Try.prog 29 #[.slice A 3 3, .slice B 2 2] w fun e w' => (∃ A c, e = .returned (.tuple #[.slice A 1 c, .int .i64 0]) ∧ Rd w' w'.heap.size A nnV 1 [0]) ∧ Below w.heap.size w w' := by
  have h := Lack_good exN (exR 25 C D 2 2) A 3 B 2 w r1 r2 rf (by decide) (by simp [exR]) ex_needs (ex_rents 25 (by omega) (by omega) C D 2 2)
  rw [exM_eq, ex_lk25] at h
  refine h.mono ?_
  rintro e w' ⟨⟨A, c, rfl, h1⟩, h2⟩
  exact ⟨⟨A, c, rfl, h1 (by decide)⟩, h2⟩
def exP (a b : Option Addr) : List Hd := [⟨a, 3, [30, 0, 0]⟩, ⟨b, 3, [0, 20, 10]⟩]
theorem ex_rows (V : World) : Rd (((V.alloc (Obj.cells #[.int .i64 30, .int .i64 0, .int .i64 0] 3)).alloc (Obj.cells #[.int .i64 0, .int .i64 20, .int .i64 10] 3)).alloc (Obj.cells #[.slice (some ⟨V.heap.size, 0, none⟩) 3 3, .slice (some ⟨V.heap.size + 1, 0, none⟩) 3 3] 41))
    (((V.alloc (Obj.cells #[.int .i64 30, .int .i64 0, .int .i64 0] 3)).alloc (Obj.cells #[.int .i64 0, .int .i64 20, .int .i64 10] 3)).alloc (Obj.cells #[.slice (some ⟨V.heap.size, 0, none⟩) 3 3, .slice (some ⟨V.heap.size + 1, 0, none⟩) 3 3] 41)).heap.size
    (some ⟨V.heap.size + 1 + 1, 0, none⟩) hdV 1 (exP (some ⟨V.heap.size, 0, none⟩) (some ⟨V.heap.size + 1, 0, none⟩)) ∧
    HdAt (((V.alloc (Obj.cells #[.int .i64 30, .int .i64 0, .int .i64 0] 3)).alloc (Obj.cells #[.int .i64 0, .int .i64 20, .int .i64 10] 3)).alloc (Obj.cells #[.slice (some ⟨V.heap.size, 0, none⟩) 3 3, .slice (some ⟨V.heap.size + 1, 0, none⟩) 3 3] 41))
    (((V.alloc (Obj.cells #[.int .i64 30, .int .i64 0, .int .i64 0] 3)).alloc (Obj.cells #[.int .i64 0, .int .i64 20, .int .i64 10] 3)).alloc (Obj.cells #[.slice (some ⟨V.heap.size, 0, none⟩) 3 3, .slice (some ⟨V.heap.size + 1, 0, none⟩) 3 3] 41)).heap.size
    (exP (some ⟨V.heap.size, 0, none⟩) (some ⟨V.heap.size + 1, 0, none⟩)) := by
  refine ⟨?_, fun r hr => ?_⟩
  · have h2 := heap_alloc_new ((V.alloc (Obj.cells #[.int .i64 30, .int .i64 0, .int .i64 0] 3)).alloc (Obj.cells #[.int .i64 0, .int .i64 20, .int .i64 10] 3)) (Obj.cells #[.slice (some ⟨V.heap.size, 0, none⟩) 3 3, .slice (some ⟨V.heap.size + 1, 0, none⟩) 3 3] 41)
    have e : ((V.alloc (Obj.cells #[.int .i64 30, .int .i64 0, .int .i64 0] 3)).alloc (Obj.cells #[.int .i64 0, .int .i64 20, .int .i64 10] 3)).heap.size = V.heap.size + 1 + 1 := by simp
    rw [e] at h2
    exact rd_row (enc := hdV) (sz := 1) (fun _ => rfl) h2 (exP (some ⟨V.heap.size, 0, none⟩) (some ⟨V.heap.size + 1, 0, none⟩)) rfl
  · have h0 : (((V.alloc (Obj.cells #[.int .i64 30, .int .i64 0, .int .i64 0] 3)).alloc (Obj.cells #[.int .i64 0, .int .i64 20, .int .i64 10] 3)).alloc (Obj.cells #[.slice (some ⟨V.heap.size, 0, none⟩) 3 3, .slice (some ⟨V.heap.size + 1, 0, none⟩) 3 3] 41)).heap[V.heap.size]? = some (Obj.cells #[.int .i64 30, .int .i64 0, .int .i64 0] 3) :=
      (Below.heap_alloc _ _ _ (by simp; omega)).trans ((Below.heap_alloc _ _ _ (by simp)).trans (heap_alloc_new _ _))
    have h1 : (((V.alloc (Obj.cells #[.int .i64 30, .int .i64 0, .int .i64 0] 3)).alloc (Obj.cells #[.int .i64 0, .int .i64 20, .int .i64 10] 3)).alloc (Obj.cells #[.slice (some ⟨V.heap.size, 0, none⟩) 3 3, .slice (some ⟨V.heap.size + 1, 0, none⟩) 3 3] 41)).heap[V.heap.size + 1]? = some (Obj.cells #[.int .i64 0, .int .i64 20, .int .i64 10] 3) :=
      (Below.heap_alloc _ _ _ (by simp)).trans (heap_alloc2_new _ _ _)
    unfold exP at hr
    rcases List.mem_cons.1 hr with rfl | hr
    · exact ⟨rd_row (enc := inV) (sz := 1) (fun _ => rfl) h0 _ rfl, by simp⟩
    · rcases List.mem_cons.1 hr with rfl | hr
      · exact ⟨rd_row (enc := inV) (sz := 1) (fun _ => rfl) h1 _ rfl, by simp⟩
      · cases hr
abbrev exW (V : World) : World := ((V.alloc (Obj.cells #[.int .i64 30, .int .i64 0, .int .i64 0] 3)).alloc (Obj.cells #[.int .i64 0, .int .i64 20, .int .i64 10] 3)).alloc (Obj.cells #[.slice (some ⟨V.heap.size, 0, none⟩) 3 3, .slice (some ⟨V.heap.size + 1, 0, none⟩) 3 3] 41)
theorem exW_b {B : Nat} {w V : World} (h : Below B w V) (hB : B ≤ V.heap.size) : Below B w (exW V) ∧ B ≤ (exW V).heap.size := ⟨((h.alloc hB _).alloc (by simp; omega) _).alloc (by simp; omega) _, by simp; omega⟩
theorem ex_planC (A B C D : Option Addr) (w : World) (r1 : Rd w w.heap.size A inV 1 exN) (r2 : Rd w w.heap.size B reV 3 (exR 40 C D 2 2)) (rf : ReAt w w.heap.size (exR 40 C D 2 2)) :
    Calls Try.prog 27 #[.slice A 3 3, .slice B 2 2] w fun e w' => (∃ A a b, e = .returned (.tuple #[.slice A 2 2, .int .i64 240, .int .i64 0]) ∧ Rd w' w'.heap.size A hdV 1 (exP a b) ∧ HdAt w' w'.heap.size (exP a b)) ∧ Below w.heap.size w w' := by
  have h := Plan_good exN (exR 40 C D 2 2) A 3 B 2 w r1 r2 rf (by decide) (by simp [exR]) ex_needs (ex_rents 40 (by omega) (by omega) C D 2 2) (by rw [exM_eq]; exact ex_lk40 C D 2 2) (by rw [exM_eq, exF_eq]; exact ex_mono C D 2 2)
  rw [exM_eq, exF_eq] at h
  refine h.mono ?_
  rintro e w' ⟨⟨P, R, rfl, h1⟩, h2⟩
  rw [ex_cost]
  have hp := ex_plan C D 2 2
  obtain ⟨hP, hR, _, _, _, _⟩ := h1
  have hlen : (exM 40 C D 2 2).lots.length = 2 := rfl
  rw [hlen] at hP hR ⊢
  have hR0 := hR 0 (by omega)
  have hR1 := hR 1 (by omega)
  rw [hp] at hR0 hR1
  refine ⟨⟨some ⟨P, 0, none⟩, some ⟨R 0, 0, none⟩, some ⟨R 1, 0, none⟩, rfl, rd_row (enc := hdV) (sz := 1) (fun _ => rfl) hP (exP (some ⟨R 0, 0, none⟩) (some ⟨R 1, 0, none⟩)) ?_, fun r hr => ?_⟩, h2⟩
  · rfl
  · unfold exP at hr
    rcases List.mem_cons.1 hr with rfl | hr
    · exact ⟨rd_row (enc := inV) (sz := 1) (fun _ => rfl) hR0 _ rfl, by simp⟩
    · rcases List.mem_cons.1 hr with rfl | hr
      · exact ⟨rd_row (enc := inV) (sz := 1) (fun _ => rfl) hR1 _ rfl, by simp⟩
      · cases hr
end Go.Proofs.Ytjkefoijhphknaa
