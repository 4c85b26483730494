/- salt.After of any soil, water and cycles. No condition. -/
import Derived.Test.YtjkefoijhphknaaSaAfter
import Derived.Test.YtjkefoijhphknaaSaRef
import Derived.Deep.Cut
import Derived.Deep.CutRange
namespace Go.Proofs.Ytjkefoijhphknaa
open Go.RowKit Go.Shelf Go.IntWalk
attribute [local go_sem] Oper.semAt_some

/-- What After answers: the salts, and the error. -/
def saAfter (s : So) (wl wh n : Int) : List (Int × Int) × Int :=
  if soOk s = false then ([], 60) else if (so1 wl wh 1000000000 && soIn n 0 100) = false then ([], 2) else (aftS s wl wh n.toNat, 0)
def AfterPost (s : So) (wl wh n : Int) (w : World) (e : Ending) (w' : World) : Prop :=
  (∃ A c, e = .returned (.tuple #[.slice A (saAfter s wl wh n).1.length c, .int .i64 (saAfter s wl wh n).2]) ∧ Rd w' w'.heap.size A spV 2 (saAfter s wl wh n).1) ∧ Below w.heap.size w w'

/-- What lies at a slice's own block. -/
theorem Own.row {α : Type} {w : World} {base : Nat} {e : TypeId} {v : Value} {enc : α → List Value} {sz : Nat} {l : List α} (h : Own w base e v enc sz l) {g : Nat} (hv : v.ownBlock = some g) : base ≤ g ∧ ∃ cur, w.heap[g]? = some (.cells cur e (0, 0)) := by
  rcases h.2 with ⟨rfl, h0⟩ | ⟨g', cap, cur, rfl, hb, hg, _⟩
  · cases hv
  · injection hv with hv
    subst hv
    exact ⟨hb, cur, hg⟩
/-- A slice of one's own stays through the turn of a block that holds no cells, or cells of another type. -/
theorem Own.other {α : Type} {w w' : World} {base : Nat} {e t : TypeId} {v : Value} {enc : α → List Value} {sz : Nat} {l : List α} {row : Option Nat} (h : Own w base e v enc sz l) (hg : w.grownBy w' row) (ht : e ≠ t)
    (hr : ∀ r, row = some r → ∃ o : Obj, w.heap[r]? = some o ∧ (o.isCells = false ∨ ∃ c fr, o = .cells c t fr)) : Own w' base e v enc sz l := by
  refine h.keep hg ?_
  cases hv : v.ownBlock with
  | none => exact .inl rfl
  | some g =>
    refine .inr fun e2 => ?_
    obtain ⟨_, cur, hc⟩ := h.row hv
    obtain ⟨o, ho, h2⟩ := hr g e2.symm
    rw [hc] at ho
    injection ho with ho
    subst ho
    rcases h2 with h2 | ⟨c, fr, h2⟩
    · simp [Obj.isCells] at h2
    · injection h2 with _ h2 _
      exact ht h2
theorem row_other {w w' : World} {t t' : TypeId} {row : Option Nat} {b : Nat} {c : Array Value} {fr : Nat × Nat} (h : w.heap[b]? = some (.cells c t fr)) (hg : w.grownBy w' row) (ht : t ≠ t')
    (hr : ∀ r, row = some r → ∃ o : Obj, w.heap[r]? = some o ∧ (o.isCells = false ∨ ∃ c fr, o = .cells c t' fr)) : w'.heap[b]? = some (.cells c t fr) := by
  refine (hg.block b (Array.getElem?_eq_some_iff.1 h).1 (fun e => ?_)).trans h
  obtain ⟨o, ho, h2⟩ := hr b e.symm
  rw [h] at ho
  injection ho with ho
  subst ho
  rcases h2 with h2 | ⟨c, fr, h2⟩
  · simp [Obj.isCells] at h2
  · injection h2 with _ h2 _
    exact ht h2
/-- A round that appends to a slice in a box keeps what holds no cells, and cells of another type. -/
theorem round_keep {α : Type} {w2 w5 : World} {base G : Nat} {v v' : Value} {enc : α → List Value} {sz : Nat} {l : List α} {news : Obj} (hbox : w2.heap[G]? = some (.cells #[v] 26 (0, 0))) (hO : Own w2 base 23 v enc sz l)
    (hg : (w2.alloc news).grownBy w5 v.ownBlock) {b : Nat} {o : Obj} (ho : w2.heap[b]? = some o) (hc : o.isCells = false ∨ ∃ c fr, o = .cells c 96 fr) : (w5.setCell ⟨G, 0, none⟩ v').heap[b]? = some o := by
  have hb : b < w2.heap.size := (Array.getElem?_eq_some_iff.1 ho).1
  have h1 : b ≠ G := fun e => by
    subst e
    rw [hbox] at ho
    injection ho with ho
    subst ho
    rcases hc with h2 | ⟨c, fr, h2⟩
    · simp [Obj.isCells] at h2
    · injection h2 with _ h2 _
      exact absurd h2 (by decide)
  have h2 : some b ≠ v.ownBlock := fun e => by
    obtain ⟨_, cur, hc2⟩ := hO.row e.symm
    rw [hc2] at ho
    injection ho with ho
    subst ho
    rcases hc with h2 | ⟨c, fr, h2⟩
    · simp [Obj.isCells] at h2
    · injection h2 with _ h2 _
      exact absurd h2 (by decide)
  refine (Below.heap_setCell _ _ _ _ h1).trans ((hg.block b (by simp; omega) (fun e => h2 e)).trans ((Below.heap_alloc _ _ _ hb).trans ho))

set_option maxRecDepth 100000 in
set_option maxHeartbeats 4000000 in
theorem After_bad (s : So) (wl wh n : Int) (w : World) (h : soOk s = false) :
    Calls Try.prog 12 #[.agg #[.int .i64 s.saL, .int .i64 s.saH, .int .i64 s.lim, .int .i64 s.crop, .int .i64 s.miL, .int .i64 s.miH, .int .i64 s.waL, .int .i64 s.waH, .int .i64 s.riL, .int .i64 s.riH], .agg #[.int .i64 wl, .int .i64 wh], .int .i64 n] w (AfterPost s wl wh n w) := by
  have hv : saAfter s wl wh n = ([], 60) := by unfold saAfter; rw [if_pos h]
  unfold AfterPost
  rw [hv]
  have HC := Lib.hid (scheck_any s)
  rw [h] at HC
  clear hv h
  go_enter Try.func12, Try.ntmps12
  go_wp2_with (go_at_call 16; refine (HC.out _).mono ?_; rintro e w' ⟨rfl, hb1⟩; obtain ⟨hc1, hf1⟩ := bcell hb1; have hz1 := hb1.size; (try simp at hz1); (try have hy1 : w.heap.size < w'.heap.size := by omega))
  go_ret2
  exact ⟨⟨none, 0, rfl, fun h => absurd h (by simp)⟩, by (repeat' (first | (with_reducible exact Below.refl _ _) | (with_reducible refine Below.alloc ?_ ?_ _) | (with_reducible refine Below.drew ?_) | (with_reducible refine Below.drewN_ ?_ _) | (with_reducible refine Below.setCell ?_ ?_ _) | (with_reducible refine Below.setRow ?_ ?_ _) | (with_reducible refine Below.via ?_ (by with_reducible assumption) ?_) | go_size))⟩

set_option maxRecDepth 100000 in
set_option maxHeartbeats 4000000 in
theorem After_arg (s : So) (wl wh n : Int) (w : World) (h : soOk s = true) (h2 : (so1 wl wh 1000000000 && soIn n 0 100) = false) :
    Calls Try.prog 12 #[.agg #[.int .i64 s.saL, .int .i64 s.saH, .int .i64 s.lim, .int .i64 s.crop, .int .i64 s.miL, .int .i64 s.miH, .int .i64 s.waL, .int .i64 s.waH, .int .i64 s.riL, .int .i64 s.riH], .agg #[.int .i64 wl, .int .i64 wh], .int .i64 n] w (AfterPost s wl wh n w) := by
  have hv : saAfter s wl wh n = ([], 2) := by unfold saAfter; rw [if_neg (by rw [h]; simp), if_pos h2]
  unfold AfterPost
  rw [hv]
  have HC := Lib.hid (scheck_any s)
  rw [h] at HC
  clear hv h
  cases h3 : so1 wl wh 1000000000
  case' true => (cases h4 : soIn n 0 100; case' true => (rw [h3, h4] at h2; cases h2))
  all_goals
    clear h2
    go_enter Try.func12, Try.ntmps12
    go_wp2_with (first | (go_at_call 16; refine (HC.out _).mono ?_; rintro e w' ⟨rfl, hb1⟩; obtain ⟨hc1, hf1⟩ := bcell hb1; have hz1 := hb1.size; (try simp at hz1); (try have hy1 : w.heap.size < w'.heap.size := by omega)) | (go_at_call 43; refine (within_any _ _ _ _).mono ?_; rintro e w'' ⟨rfl, hb2⟩; have hz2 := hb2.size) | (go_at_call 44; refine (between_any _ _ _ _).mono ?_; rintro e w' ⟨rfl, rfl⟩))
    go_ret2
    exact ⟨⟨none, 0, rfl, fun h => absurd h (by simp)⟩, by (repeat' (first | (with_reducible exact Below.refl _ _) | (with_reducible refine Below.alloc ?_ ?_ _) | (with_reducible refine Below.drew ?_) | (with_reducible refine Below.drewN_ ?_ _) | (with_reducible refine Below.setCell ?_ ?_ _) | (with_reducible refine Below.setRow ?_ ?_ _) | (with_reducible refine Below.via ?_ (by with_reducible assumption) ?_) | go_size))⟩

set_option maxRecDepth 100000 in
set_option maxHeartbeats 4000000 in
theorem After_good (s : So) (wl wh n : Int) (w : World) (h : soOk s = true) (h2 : (so1 wl wh 1000000000 && soIn n 0 100) = true) :
    Calls Try.prog 12 #[.agg #[.int .i64 s.saL, .int .i64 s.saH, .int .i64 s.lim, .int .i64 s.crop, .int .i64 s.miL, .int .i64 s.miH, .int .i64 s.waL, .int .i64 s.waH, .int .i64 s.riL, .int .i64 s.riH], .agg #[.int .i64 wl, .int .i64 wh], .int .i64 n] w (AfterPost s wl wh n w) := by
  have hv : saAfter s wl wh n = (aftS s wl wh n.toNat, 0) := by unfold saAfter; rw [if_neg (by rw [h]; simp), if_neg (by rw [h2]; simp)]
  unfold AfterPost
  rw [hv]
  have HC := Lib.hid (scheck_any s)
  rw [h] at HC
  have hB := SoB.of_ok h
  rw [Bool.and_eq_true] at h2
  obtain ⟨h3, h4⟩ := h2
  have h5 := h3
  have h6 := h4
  simp only [so1, soIn, Bool.and_eq_true, decide_eq_true_eq] at h5 h6
  obtain ⟨⟨y0, y1⟩, y2⟩ := h5
  obtain ⟨N, rfl⟩ := Int.eq_ofNat_of_zero_le h6.1
  have hN : N ≤ 100 := by omega
  rw [show ((N : Int)).toNat = N by simp]
  have HB := Lib.hid hB
  clear hv h hB h6
  refine (callsIn_wide (n := 3)).1 ?_
  refine callsIn_of_wp_marks Try.func12 rfl trivial ?_ rfl
  simp only [Try.ntmps12, List.size_toArray, List.length_cons, List.length_nil, Nat.reduceAdd, Nat.reduceSub, Array.replicate_succ, Array.replicate_zero, List.push_toArray, List.append_toArray, List.nil_append, List.cons_append]
  refine wpIn_wide.2 ?_
  go_upto_region 6 with (first | (go_at_call 16; refine (HC.out _).mono ?_; rintro e w' ⟨rfl, hb1⟩; obtain ⟨hc1, hf1⟩ := bcell hb1; have hz1 := hb1.size; (try simp at hz1); (try have hy1 : w.heap.size < w'.heap.size := by omega)) | (go_at_call 43; refine (within_any _ _ _ _).mono ?_; rintro e w'' ⟨rfl, hb2⟩; have hz2 := hb2.size) | (go_at_call 44; refine (between_any _ _ _ _).mono ?_; rintro e w' ⟨rfl, rfl⟩))
  have hbw : Below w.heap.size w w'' := by (repeat' (first | (with_reducible exact Below.refl _ _) | (with_reducible refine Below.alloc ?_ ?_ _) | (with_reducible refine Below.drew ?_) | (with_reducible refine Below.drewN_ ?_ _) | (with_reducible refine Below.setCell ?_ ?_ _) | (with_reducible refine Below.setRow ?_ ?_ _) | (with_reducible refine Below.via ?_ (by with_reducible assumption) ?_) | go_size))
  have hz1 := hb1.size
  have r1 : w''.heap[w.heap.size]? = some (.cells #[.int .i64 s.saL, .int .i64 s.saH, .int .i64 s.lim, .int .i64 s.crop, .int .i64 s.miL, .int .i64 s.miH, .int .i64 s.waL, .int .i64 s.waH, .int .i64 s.riL, .int .i64 s.riH] 25 (0, 0)) := (hb2.block _ (by simp at hz1; omega)).trans ((hb1.block _ (by simp; omega)).trans ((Below.heap_alloc _ _ _ (by simp)).trans (heap_alloc_new _ _)))
  have r2 : w''.heap[w.heap.size + 1]? = some (.cells #[.int .i64 wl, .int .i64 wh] 23 (0, 0)) := (hb2.block _ (by simp at hz1; omega)).trans ((hb1.block _ (by simp)).trans (heap_alloc2_new _ _ _))
  have hl1 : w.heap.size < w''.heap.size := (Array.getElem?_eq_some_iff.1 r1).1
  have hl2 : w.heap.size + 1 < w''.heap.size := (Array.getElem?_eq_some_iff.1 r2).1
  have k0 := cell_of_row w'' w.heap.size 0 _ _ _ r1
  have k1 := cell_of_row w'' w.heap.size 1 _ _ _ r1
  have k2 := cell_of_row w'' w.heap.size 2 _ _ _ r1
  have k3 := cell_of_row w'' w.heap.size 3 _ _ _ r1
  have k4 := cell_of_row w'' w.heap.size 4 _ _ _ r1
  have k5 := cell_of_row w'' w.heap.size 5 _ _ _ r1
  have k6 := cell_of_row w'' w.heap.size 6 _ _ _ r1
  have k7 := cell_of_row w'' w.heap.size 7 _ _ _ r1
  have k8 := cell_of_row w'' w.heap.size 8 _ _ _ r1
  have k9 := cell_of_row w'' w.heap.size 9 _ _ _ r1
  have v0 := cell_of_row w'' (w.heap.size + 1) 0 _ _ _ r2
  have v1 := cell_of_row w'' (w.heap.size + 1) 1 _ _ _ r2
  simp only [List.getElem?_toArray, List.getElem?_cons_zero, List.getElem?_cons_succ] at k0 k1 k2 k3 k4 k5 k6 k7 k8 k9 v0 v1
  have HBW := Lib.hid hbw
  clear hb1 hb2 hz1 hz2 r1 r2 hbw
  go_wp2_with (go_at_call 45; refine (wafter_any s wl wh (N : Int) _).mono ?_; rintro e w5 ⟨rfl, rfl⟩)
  obtain ⟨G, hG⟩ : ∃ G, w''.heap.size = G := ⟨_, rfl⟩
  obtain ⟨w6, hw6⟩ : ∃ w6, ((w''.alloc (.cells #[.slice none 0 0] 26)).alloc (.cells #[.int .i64 s.saL, .int .i64 s.saH, .int .i64 s.lim, .int .i64 s.crop, .int .i64 s.miL, .int .i64 s.miH, .int .i64 s.waL, .int .i64 s.waH, .int .i64 s.riL, .int .i64 s.riH, .int .i64 wl, .int .i64 wh] 96)).alloc (.cells #[.int .i64 (N : Int)] 3) = w6 := ⟨_, rfl⟩
  have g0 : w6.heap[G]? = some (.cells #[.slice none 0 0] 26 (0, 0)) := by rw [← hw6, ← hG]; exact (Below.heap_alloc _ _ _ (by simp; omega)).trans ((Below.heap_alloc _ _ _ (by simp)).trans (heap_alloc_new _ _))
  have g1 : w6.heap[G + 1]? = some (.cells #[.int .i64 s.saL, .int .i64 s.saH, .int .i64 s.lim, .int .i64 s.crop, .int .i64 s.miL, .int .i64 s.miH, .int .i64 s.waL, .int .i64 s.waH, .int .i64 s.riL, .int .i64 s.riH, .int .i64 wl, .int .i64 wh] 96 (0, 0)) := by rw [← hw6, ← hG]; exact (Below.heap_alloc _ _ _ (by simp)).trans (heap_alloc2_new _ _ _)
  have g2 : w6.heap[G + 1 + 1]? = some (.cells #[.int .i64 (N : Int)] 3 (0, 0)) := by
    rw [← hw6, ← hG]
    have := heap_alloc_new ((w''.alloc (.cells #[.slice none 0 0] 26)).alloc (.cells #[.int .i64 s.saL, .int .i64 s.saH, .int .i64 s.lim, .int .i64 s.crop, .int .i64 s.miL, .int .i64 s.miH, .int .i64 s.waL, .int .i64 s.waH, .int .i64 s.riL, .int .i64 s.riH, .int .i64 wl, .int .i64 wh] 96)) (.cells #[.int .i64 (N : Int)] 3)
    simpa using this
  have hz6 : w6.heap.size = G + 1 + 1 + 1 := by rw [← hw6, ← hG]; simp
  have hb6 : Below w.heap.size w w6 := by rw [← hw6]; exact (((HBW.out.alloc HBW.out.size _).alloc (by simp; omega) _).alloc (by simp; omega) _)
  have hGl : w.heap.size ≤ G := by rw [← hG]; exact HBW.out.size
  simp only [hG]
  rw [hw6]
  clear k0 k1 k2 k3 k4 k5 k6 k7 k8 k9 v0 v1 hl1 hl2 hw6
  refine wp_rangeW (gf := 72) (lb := #[.pointer (some ⟨G + 1, 0, none⟩), .pointer (some ⟨G + 1 + 1, 0, none⟩)]) rfl (enters_of Try.func72 (by kernel_rfl) rfl)
    (after1_seq s wl wh N HB.out y0 y1 y2 hN (G + 1) (G + 1 + 1) w6 g1 g2) kpW_t kpW_b (fun _ => rfl)
    (fun k W => (∃ v, W.heap[G]? = some (.cells #[v] 26 (0, 0)) ∧ Own W (G + 1) 23 v spV 2 (aftS s wl wh k)) ∧ Below w.heap.size w W)
    ?hI ⟨⟨_, g0, Own.nil_ _ _ _ _ _⟩, hb6⟩ ?round ?done
  case hI =>
    rintro k A B row ⟨⟨v, i1, i2⟩, i3⟩ hg hr
    refine ⟨⟨v, row_other i1 hg (by decide) (fun r e => (hr r e).2), i2.other hg (by decide) (fun r e => (hr r e).2)⟩, ?_⟩
    exact i3.trans ⟨hg.os, hg.tape, hg.output, hg.size, fun b hb => hg.block b (by have := i3.size; omega) (fun e => by have := (hr b e.symm).1; omega)⟩
  case round =>
    rintro l k W hl hk ⟨⟨v, i1, i2⟩, i3⟩
    have hzW : G < W.heap.size := (Array.getElem?_eq_some_iff.1 i1).1
    have I1 := Lib.hid i1
    have I2 := Lib.hid i2
    have I3 := Lib.hid i3
    clear i1 i2 i3
    have hx : aftS s wl wh (k + 1) = aftS s wl wh k ++ [((itS s wl wh (k + 1)).saL, (itS s wl wh (k + 1)).saH)] := aftS_succ s wl wh k
    have HX := Lib.hid hx
    have hlen : (aftS s wl wh k).length ≤ 100 := by simp; omega
    clear hx
    dsimp only [wkA]
    generalize itS s wl wh (k + 1) = σ at *
    gi_wp2
    refine ⟨⟨(KeepsOthers.alloc _ _).from _, by simp, fun b c fr h => (Below.heap_alloc _ _ _ (Array.getElem?_eq_some_iff.1 h).1).trans h⟩, ?_⟩
    intro o o' ho hoc
    obtain ⟨WX, hWX⟩ : ∃ WX, W.alloc (.cells #[.int .i64 σ.saL, .int .i64 σ.saH, .int .i64 σ.lim, .int .i64 σ.crop, .int .i64 σ.miL, .int .i64 σ.miH, .int .i64 σ.waL, .int .i64 σ.waH, .int .i64 σ.riL, .int .i64 σ.riH, .int .i64 wl, .int .i64 wh] 96) = WX := ⟨_, rfl⟩
    rw [hWX] at ho ⊢
    have bX : Below W.heap.size W WX := by rw [← hWX]; exact (Below.refl _ W).alloc (Nat.le_refl _) _
    have hX4 : WX.heap[W.heap.size]? = some (.cells #[.int .i64 σ.saL, .int .i64 σ.saH, .int .i64 σ.lim, .int .i64 σ.crop, .int .i64 σ.miL, .int .i64 σ.miH, .int .i64 σ.waL, .int .i64 σ.waH, .int .i64 σ.riL, .int .i64 σ.riH, .int .i64 wl, .int .i64 wh] 96 (0, 0)) := by rw [← hWX]; exact heap_alloc_new _ _
    have j1 := cells_putObj (o' := o') ho hoc ((bX.block _ hzW).trans I1.out)
    have j2 := (I2.out.below bX).other (t := 3) (grownBy_putObj' WX l o') (by decide) (fun r e => by cases e; exact ⟨o, ho, .inl hoc⟩)
    have j3 := (I3.out.trans (bX.mono I3.out.size)).trans ((Below.refl w.heap.size WX).grown (grownBy_putObj' WX l o') (by have := I3.out.size; have := bX.size; omega) (fun k e => by cases e; omega))
    have j4 := cells_putObj (o' := o') ho hoc hX4
    generalize WX.putObj l o' = W2 at j1 j2 j3 j4 ⊢
    clear hWX bX hX4
    clear I1 I2 I3 ho hoc
    have x0 := cell_of_row W2 G 0 _ _ _ j1
    have x1 := cell_of_row W2 W.heap.size 0 _ _ _ j4
    have x2 := cell_of_row W2 W.heap.size 1 _ _ _ j4
    simp only [List.getElem?_toArray, List.getElem?_cons_zero, List.getElem?_cons_succ] at x0 x1 x2
    obtain ⟨i0, hi0, hz0, hz1, hz2⟩ := info_parts infoSpanI
    have I0 := Lib.hid (And.intro hi0 (And.intro hz0 (And.intro hz1 hz2)))
    have J1 := Lib.hid j1
    have J2 := Lib.hid j2
    have J3 := Lib.hid j3
    have hzG : G < W2.heap.size := (Array.getElem?_eq_some_iff.1 j1).1
    clear hi0 hz0 hz1 hz2 j1 j2 j3 j4
    gi_wp2_with (gi_at_builtin; refine wpListIn_append_rd rfl (.tmp 30) (.tmp 34) 26 rfl i0 _ 16 Try.underlying26 I0.out.1 I0.out.2.1 I0.out.2.2.1 I0.out.2.2.2 rfl (by omega) spV_len spV_one rfl (J2.out.below ((Below.refl _ _).alloc (Nat.le_refl _) _)) rfl rfl (Rd.one _ (σ.saL, σ.saH) #[.int .i64 σ.saL, .int .i64 σ.saH] 23 rfl) (by omega) (by omega) (by simp; omega) ?_; intro v' w5 ho5 hg5 hat5; have hx5 := (row_other (t' := 23) ((Below.heap_alloc _ _ _ hzG).trans J1.out) hg5 (by decide) (fun r e => by obtain ⟨_, cur, hc⟩ := (J2.out.below ((Below.refl _ _).alloc (Nat.le_refl _) _)).row e; exact ⟨_, hc, .inr ⟨_, _, rfl⟩⟩)); have c5 := cell_of_row w5 G 0 _ _ _ hx5; have f5 := frozen_of_row w5 G 0 _ _ hx5; simp only [List.getElem?_toArray, List.getElem?_cons_zero] at c5; have HX5 := Lib.hid hx5; clear hx5; obtain ⟨A5, cp5, rfl⟩ := ho5.form; generalize (aftS s wl wh k ++ [(σ.saL, σ.saH)]).length = nl at ho5 ⊢; have HO5 := Lib.hid ho5; clear ho5 hat5; have HG5 := Lib.hid hg5; clear hg5)
    have hrk := fun {b : Nat} {o : Obj} (ho : W2.heap[b]? = some o) hc => round_keep (v' := .slice A5 nl cp5) J1.out J2.out HG5.out (b := b) (o := o) ho hc
    have hzz : W2.heap.size ≤ w5.heap.size := by have := HG5.out.size; simp at this; omega
    refine ⟨⟨by simpa using hzz, fun b o _ ho hc => hrk ho (.inl hc)⟩, ⟨by simpa using hzz, fun b c fr h => hrk h (.inr ⟨_, _, rfl⟩)⟩, ⟨.slice A5 nl cp5, heap_setCell_same w5 G 0 _ _ _ HX5.out, ?_⟩, ?_⟩
    · rw [HX.out]
      exact HO5.out.set_ (p := ⟨G, 0, none⟩) (by show G < G + 1; omega) _
    · refine (J3.out.trans (?_ : Below w.heap.size W2 w5)).setCell (by show w.heap.size ≤ G; exact hGl) _
      refine ((Below.refl w.heap.size W2).alloc J3.out.size _).trans ⟨HG5.out.os, HG5.out.tape, HG5.out.output, HG5.out.size, fun b hb => HG5.out.block b (by have := J3.out.size; simp; omega) (fun e => ?_)⟩
      have := (J2.out.row e.symm).1
      omega
  case done =>
    rintro D W hD ⟨⟨v, i1, i2⟩, i3⟩ hKD
    obtain ⟨A, c, rfl⟩ := i2.form
    have I2 := Lib.hid i2
    have HKD := Lib.hid hKD
    have xn : W.cell? ⟨G, 0, none⟩ = some (.slice A (aftS s wl wh N).length c) := cell_of_row W G 0 _ _ _ i1
    clear i1 i2 hKD
    go_wp2
    refine ⟨by simp, .inl ⟨_, _, rfl, run_takeDeferred HKD.out, ?_⟩⟩
    refine ⟨_, results_tmp2 rfl _ _ _, ⟨⟨A, c, by simp, ?_⟩, ?_⟩⟩
    · exact (I2.out.other (t := 3) (grownBy_putObj' W D _) (by decide) (fun r hr => by injection hr with hr; subst hr; exact ⟨_, HKD.out, .inl rfl⟩)).rd spV_len
    · exact i3.trans (belowK_b (w := w) (Nat.le_refl _) _ D _ _ (by omega) HKD.out rfl rfl)

theorem After_any (s : So) (wl wh n : Int) (w : World) :
    Calls Try.prog 12 #[.agg #[.int .i64 s.saL, .int .i64 s.saH, .int .i64 s.lim, .int .i64 s.crop, .int .i64 s.miL, .int .i64 s.miH, .int .i64 s.waL, .int .i64 s.waH, .int .i64 s.riL, .int .i64 s.riH], .agg #[.int .i64 wl, .int .i64 wh], .int .i64 n] w (AfterPost s wl wh n w) := by
  cases h : soOk s
  · exact After_bad s wl wh n w h
  · cases h2 : (so1 wl wh 1000000000 && soIn n 0 100)
    · exact After_arg s wl wh n w h h2
    · exact After_good s wl wh n w h h2
end Go.Proofs.Ytjkefoijhphknaa
