/- The reference's fall, Heights and Fall answer what level's do, of every survey that reads as plain data. -/
import Derived.Test.YtaoonfmcimkmhaaRefSidesA
import Derived.Test.YtaoonfmcimkmhaaLevMath
import Derived.Test.YtaoonfmcimkmhaaLevFall
import Derived.Test.YtaoonfmcimkmhaaOwn
import Derived.IntWalk
import Derived.Deep.RegionWith
import Derived.Deep.CutRange
namespace Go.Proofs.Ytaoonfmcimkmhaa
open Go.RowKit

/-- What sides answers of all readings of a survey. -/
theorem svD_none {s : Sv} (hok : svOk s = true) (h : fwS (s.n.toNat + 1) (matOf s.n.toNat (fun _ => false) 0 (upto (rdOf s.n.toNat s) (s.shots.length + s.marks.length))) = none) : (svD s).2 = false := by
  have h1 := (fw_fwS (wkMat_zero (out := fun _ => false) (wider := 0) hok (by omega) (by omega))).1
  unfold svD wkD
  rw [h1, h]
  rfl
theorem svD_some {s : Sv} {E : Mat} (hok : svOk s = true) (h : fwS (s.n.toNat + 1) (matOf s.n.toNat (fun _ => false) 0 (upto (rdOf s.n.toNat s) (s.shots.length + s.marks.length))) = some E) : svD s = (E, true) := by
  have h1 := (fw_fwS (wkMat_zero (out := fun _ => false) (wider := 0) hok (by omega) (by omega))).2 E h
  unfold svD wkD
  rw [h1]

/-- sides of a valid survey, with which readings count, and an error. -/
theorem sides_sv (s : Sv) (c1 c2 c3 : Nat) (A1 A2 A3 : Option Addr) (w : World) (hok : svOk s = true)
    (r1 : Rd w w.heap.size A1 shV 4 s.shots) (r2 : Rd w w.heap.size A2 mkV 3 s.marks) (gc cc : Nat) (out : Nat → Bool) (hBo : BoAt w gc (s.shots.length + s.marks.length) (fun k => !out k)) (wider : Int) (hw0 : 0 ≤ wider) (hw2 : wider ≤ 20000000) :
    Calls Try.prog 47 #[.agg #[.int .i64 s.n, .slice A1 s.shots.length c1, .slice A2 s.marks.length c2, .slice A3 s.threads.length c3], .slice (some ⟨gc, 0, none⟩) (s.shots.length + s.marks.length) cc, .int .i64 wider] w fun e w' =>
      SidesPost w (s.n.toNat + 1) (fwS (s.n.toNat + 1) (matOf s.n.toNat out wider (upto (rdOf s.n.toNat s) (s.shots.length + s.marks.length)))) e w' ∧ Below w.heap.size w w' := by
  obtain ⟨⟨h1, h2, h3, h4, _⟩, _⟩ := svOk_spec hok
  exact sides_any s s.n.toNat c1 c2 c3 A1 A2 A3 w (by omega) (by omega) r1 r2 gc cc out hBo wider hw0 hw2 h3 h4 (rdAt_ok hok)

theorem rfall_any (D : Mat) (g m a b c : Nat) (R : Nat → Nat) (B : Nat) (w : World) (hU : RowsUp w B g m m R D) (ha : a < m) (hb : b < m) (n1 : -9223372036854775808 < D a b) (n2 : D a b < 9223372036854775808) :
    Calls Try.prog 51 #[.slice (some ⟨g, 0, none⟩) m c, .int .i64 a, .int .i64 b] w fun e w' => e = .returned (.agg #[.int .i64 (- D a b), .int .i64 (D b a)]) ∧ Below w.heap.size w w' := by
  have d1 := hU.head (k := a) ha ha
  have d2 := hU.head (k := b) hb hb
  have d3 := hU.cell (k := a) (l := b) ha hb
  have d4 := hU.cell (k := b) (l := a) hb ha
  have gl := hU.glt
  have ra := hU.rlt ha
  have rb := hU.rlt hb
  generalize D a b = x at *
  generalize D b a = y at *
  generalize R a = ba at *
  generalize R b = bb at *
  clear hU
  go_enter Try.func51, Try.ntmps51
  go_wp2
  refine wp_region_draw_tail 16 (by kernel_rfl) (by kernel_rfl) (by omega) ?_
  (simp only [List.take_succ_cons, List.take_zero, List.drop_succ_cons, List.drop_zero]); (repeat (go_big_quiet_step (fail))); refine wpQuiet_nil ?_; rintro _ ⟨nq, rfl⟩
  gi_wp2_with fail
  go_wp2
  have hh : ((w.alloc (Obj.cells #[Value.int IntKind.i64 0, Value.int IntKind.i64 0] 36)).drewN nq).heap[w.heap.size]? = some (.cells #[Value.int IntKind.i64 0, Value.int IntKind.i64 0] 36 (0, 0)) := heap_alloc_new w _
  refine bodyPost_ret (results_cell_row Try.results51 _ _ w.heap.size 36 #[Value.int IntKind.i64 (-x), Value.int IntKind.i64 y] (0, 0) _ rfl (heap_set2 hh) Try.underlying36 rfl info36') rfl ⟨rfl, by (repeat' (first | (with_reducible exact Below.refl _ _) | (with_reducible refine Below.alloc ?_ ?_ _) | (with_reducible refine Below.drew ?_) | (with_reducible refine Below.drewN_ ?_ _) | (with_reducible refine Below.setCell ?_ ?_ _) | (with_reducible refine Below.setRow ?_ ?_ _) | (with_reducible refine Below.via ?_ (by with_reducible assumption) ?_) | go_size))⟩

theorem spV_len (x : Int × Int) : (spV x).length = 2 := rfl
theorem spV_one (x : Int × Int) : ∀ u ∈ spV x, u.oneCell' = true := by intro u hu; unfold spV at hu; simp at hu; rcases hu with rfl | rfl <;> rfl
theorem sides_no (s : Sv) (c1 c2 c3 : Nat) (A1 A2 A3 : Option Addr) (w : World) (hok : svOk s = true)
    (r1 : Rd w w.heap.size A1 shV 4 s.shots) (r2 : Rd w w.heap.size A2 mkV 3 s.marks) (gc cc : Nat) (hBo : BoAt w gc (s.shots.length + s.marks.length) (fun _ => true)) (hF : (svD s).2 = false) :
    Calls Try.prog 47 #[.agg #[.int .i64 s.n, .slice A1 s.shots.length c1, .slice A2 s.marks.length c2, .slice A3 s.threads.length c3], .slice (some ⟨gc, 0, none⟩) (s.shots.length + s.marks.length) cc, .int .i64 0] w fun e w' =>
      e = .returned (.tuple #[.slice none 0 0, .bool false]) ∧ Below w.heap.size w w' :=
  (sides_sv s c1 c2 c3 A1 A2 A3 w hok r1 r2 gc cc (fun _ => false) hBo 0 (by omega) (by omega)).mono fun e w' ⟨h, hb⟩ => ⟨(by
    rcases h with ⟨_, h⟩ | ⟨E, g, R, hE, _⟩
    · exact h
    · rw [svD_some hok hE] at hF; cases hF), hb⟩
theorem sides_yes (s : Sv) (c1 c2 c3 : Nat) (A1 A2 A3 : Option Addr) (w : World) (hok : svOk s = true)
    (r1 : Rd w w.heap.size A1 shV 4 s.shots) (r2 : Rd w w.heap.size A2 mkV 3 s.marks) (gc cc : Nat) (hBo : BoAt w gc (s.shots.length + s.marks.length) (fun _ => true)) (D : Mat) (hF : svD s = (D, true)) :
    Calls Try.prog 47 #[.agg #[.int .i64 s.n, .slice A1 s.shots.length c1, .slice A2 s.marks.length c2, .slice A3 s.threads.length c3], .slice (some ⟨gc, 0, none⟩) (s.shots.length + s.marks.length) cc, .int .i64 0] w fun e w' =>
      (∃ g R, e = .returned (.tuple #[.slice (some ⟨g, 0, none⟩) (s.n.toNat + 1) (s.n.toNat + 1), .bool true]) ∧ w.heap.size ≤ g ∧ RowsUp w' g g (s.n.toNat + 1) (s.n.toNat + 1) R D) ∧ Below w.heap.size w w' :=
  (sides_sv s c1 c2 c3 A1 A2 A3 w hok r1 r2 gc cc (fun _ => false) hBo 0 (by omega) (by omega)).mono fun e w' ⟨h, hb⟩ => ⟨(by
    rcases h with ⟨h, _⟩ | ⟨E, g, R, hE, he, hg, hU⟩
    · have := svD_none hok h; rw [hF] at this; cases this
    · have h2 := svD_some hok hE
      rw [hF] at h2
      injection h2 with h2 _
      subst h2
      exact ⟨g, R, he, hg, hU⟩), hb⟩

set_option maxRecDepth 100000 in
set_option maxHeartbeats 2000000 in
theorem rheights_bad (s : Sv) (c1 c2 c3 : Nat) (A1 A2 A3 : Option Addr) (w : World)
    (r1 : Rd w w.heap.size A1 shV 4 s.shots) (r2 : Rd w w.heap.size A2 mkV 3 s.marks) (r3 : Rd w w.heap.size A3 shV 4 s.threads) (hok : svOk s = false) :
    Calls Try.prog 17 #[.agg #[.int .i64 s.n, .slice A1 s.shots.length c1, .slice A2 s.marks.length c2, .slice A3 s.threads.length c3]] w fun e w' =>
      (∃ A c, e = .returned (.tuple #[.slice A (lvHeights s).1.length c, .int .i64 (lvHeights s).2]) ∧ Rd w' w'.heap.size A spV 2 (lvHeights s).1) ∧ Below w.heap.size w w' := by
  have hb0 : Below w.heap.size w (w.alloc (Obj.cells #[Value.int IntKind.i64 s.n, Value.slice A1 s.shots.length c1, Value.slice A2 s.marks.length c2, Value.slice A3 s.threads.length c3] 26)) := by (repeat' (first | (with_reducible exact Below.refl _ _) | (with_reducible refine Below.alloc ?_ ?_ _) | (with_reducible refine Below.drew ?_) | (with_reducible refine Below.drewN_ ?_ _) | (with_reducible refine Below.setCell ?_ ?_ _) | (with_reducible refine Below.setRow ?_ ?_ _) | (with_reducible refine Below.via ?_ (by with_reducible assumption) ?_) | go_size))
  have R1 := Lib.hid ((r1.below hb0).more hb0.size)
  have R2 := Lib.hid ((r2.below hb0).more hb0.size)
  have R3 := Lib.hid ((r3.below hb0).more hb0.size)
  clear r1 r2 r3
  have HC := Lib.hid (rcheck_any s c1 c2 c3 A1 A2 A3 (w.alloc (Obj.cells #[Value.int IntKind.i64 s.n, Value.slice A1 s.shots.length c1, Value.slice A2 s.marks.length c2, Value.slice A3 s.threads.length c3] 26)) R1.out R2.out R3.out)
  have e1 : svErr s = 10 := by unfold svErr; rw [hok]; rfl
  have e2 : lvHeights s = ([], 10) := by unfold lvHeights; rw [if_pos hok]
  rw [e1] at HC
  rw [e2]
  clear e1 e2 hok
  go_enter Try.func17, Try.ntmps17
  go_wp2_with (go_at_call 21; refine HC.out.mono ?_; rintro e w' ⟨rfl, hb1⟩; obtain ⟨hc1, hf1⟩ := bcell hb1; have hz1 := hb1.size; (try simp at hz1); (try have hy1 : w.heap.size < w'.heap.size := by omega))
  go_ret2
  exact ⟨⟨none, 0, rfl, fun h => absurd h (by simp)⟩, by (repeat' (first | (with_reducible exact Below.refl _ _) | (with_reducible refine Below.alloc ?_ ?_ _) | (with_reducible refine Below.drew ?_) | (with_reducible refine Below.drewN_ ?_ _) | (with_reducible refine Below.setCell ?_ ?_ _) | (with_reducible refine Below.setRow ?_ ?_ _) | (with_reducible refine Below.via ?_ (by with_reducible assumption) ?_) | go_size))⟩

set_option maxRecDepth 100000 in
set_option maxHeartbeats 4000000 in
theorem rheights_apart (s : Sv) (c1 c2 c3 : Nat) (A1 A2 A3 : Option Addr) (w : World)
    (r1 : Rd w w.heap.size A1 shV 4 s.shots) (r2 : Rd w w.heap.size A2 mkV 3 s.marks) (r3 : Rd w w.heap.size A3 shV 4 s.threads) (hok : svOk s = true) (hF : (svD s).2 = false) :
    Calls Try.prog 17 #[.agg #[.int .i64 s.n, .slice A1 s.shots.length c1, .slice A2 s.marks.length c2, .slice A3 s.threads.length c3]] w fun e w' =>
      (∃ A c, e = .returned (.tuple #[.slice A (lvHeights s).1.length c, .int .i64 (lvHeights s).2]) ∧ Rd w' w'.heap.size A spV 2 (lvHeights s).1) ∧ Below w.heap.size w w' := by
  obtain ⟨⟨_, _, g3, g4, _⟩, _⟩ := svOk_spec hok
  have hb0 : Below w.heap.size w (w.alloc (Obj.cells #[Value.int IntKind.i64 s.n, Value.slice A1 s.shots.length c1, Value.slice A2 s.marks.length c2, Value.slice A3 s.threads.length c3] 26)) := by (repeat' (first | (with_reducible exact Below.refl _ _) | (with_reducible refine Below.alloc ?_ ?_ _) | (with_reducible refine Below.drew ?_) | (with_reducible refine Below.drewN_ ?_ _) | (with_reducible refine Below.setCell ?_ ?_ _) | (with_reducible refine Below.setRow ?_ ?_ _) | (with_reducible refine Below.via ?_ (by with_reducible assumption) ?_) | go_size))
  have R1 := Lib.hid ((r1.below hb0).more hb0.size)
  have R2 := Lib.hid ((r2.below hb0).more hb0.size)
  have R3 := Lib.hid ((r3.below hb0).more hb0.size)
  have P1 := Lib.hid r1
  have P2 := Lib.hid r2
  clear r1 r2 r3
  have HC := Lib.hid (rcheck_any s c1 c2 c3 A1 A2 A3 (w.alloc (Obj.cells #[Value.int IntKind.i64 s.n, Value.slice A1 s.shots.length c1, Value.slice A2 s.marks.length c2, Value.slice A3 s.threads.length c3] 26)) R1.out R2.out R3.out)
  have e1 : svErr s = 0 := by unfold svErr; rw [hok]; rfl
  have e2 : lvHeights s = ([], 11) := by unfold lvHeights; rw [if_neg (by rw [hok]; simp), if_pos hF]
  rw [e1] at HC
  rw [e2]
  have HSN := Lib.hid (fun (W : World) gc cc (hb : Below w.heap.size w W) hBo => sides_no s c1 c2 c3 A1 A2 A3 W hok ((P1.out.below hb).more hb.size) ((P2.out.below hb).more hb.size) gc cc hBo hF)
  clear e1 e2 hok hF hb0
  go_enter Try.func17, Try.ntmps17
  go_upto_region 3 with (go_at_call 21; refine HC.out.mono ?_; rintro e w' ⟨rfl, hb1⟩; obtain ⟨hc1, hf1⟩ := bcell hb1; have hz1 := hb1.size; (try simp at hz1); (try have hy1 : w.heap.size < w'.heap.size := by omega))
  have hbw : Below w.heap.size w w' := by (repeat' (first | (with_reducible exact Below.refl _ _) | (with_reducible refine Below.alloc ?_ ?_ _) | (with_reducible refine Below.drew ?_) | (with_reducible refine Below.drewN_ ?_ _) | (with_reducible refine Below.setCell ?_ ?_ _) | (with_reducible refine Below.setRow ?_ ?_ _) | (with_reducible refine Below.via ?_ (by with_reducible assumption) ?_) | go_size))
  go_cut [4, 5] from 8 to 47 (fun a b W => a = .slice none 0 0 ∧ b = .bool false ∧ Below w.heap.size w W)
  case first =>
    have m0 : w'.cell? ⟨w.heap.size, 0, none⟩ = some (.int .i64 s.n) := by rw [hc1 _ _ (by simp)]; simp
    have m1 : w'.cell? ⟨w.heap.size, 1, none⟩ = some (.slice A1 s.shots.length c1) := by rw [hc1 _ _ (by simp)]; simp
    have m2 : w'.cell? ⟨w.heap.size, 2, none⟩ = some (.slice A2 s.marks.length c2) := by rw [hc1 _ _ (by simp)]; simp
    have m3 : w'.cell? ⟨w.heap.size, 3, none⟩ = some (.slice A3 s.threads.length c3) := by rw [hc1 _ _ (by simp)]; simp
    clear hc1 hf1 hb1 hz1
    go_region_with (first
      | (go_at_call 48; refine (every_any s.n s.shots.length s.marks.length c1 c2 A1 A2 _ _ (by omega) (by omega)).mono ?_; rintro e w3 ⟨⟨gc, rfl, hgc, hBo⟩, hb3⟩; have n0 := (hb3.cell (p := ⟨w.heap.size, 0, none⟩) hy1).trans m0; have n1 := (hb3.cell (p := ⟨w.heap.size, 1, none⟩) hy1).trans m1; have n2 := (hb3.cell (p := ⟨w.heap.size, 2, none⟩) hy1).trans m2; have n3 := (hb3.cell (p := ⟨w.heap.size, 3, none⟩) hy1).trans m3; have HBO := Lib.hid hBo; clear hBo)
      | (go_at_call 47; refine (HSN.out _ _ _ (hbw.drew.trans (hb3.mono hbw.size)) HBO.out).mono ?_; rintro e w4 ⟨rfl, hb4⟩))
    all_goals
      go_wp2_with fail
      go_meet
      exact ⟨rfl, rfl, (hbw.drew.trans (hb3.mono hbw.size)).trans (hb4.mono (Nat.le_trans hbw.size hb3.size))⟩
  case rest =>
    obtain ⟨rfl, rfl, hb⟩ := hcut
    go_wp2
    go_ret2
    exact ⟨⟨none, 0, rfl, fun h => absurd h (by simp)⟩, hb⟩

set_option maxRecDepth 100000 in
set_option maxHeartbeats 4000000 in
theorem rheights_fine (s : Sv) (c1 c2 c3 : Nat) (A1 A2 A3 : Option Addr) (w : World)
    (r1 : Rd w w.heap.size A1 shV 4 s.shots) (r2 : Rd w w.heap.size A2 mkV 3 s.marks) (r3 : Rd w w.heap.size A3 shV 4 s.threads) (hok : svOk s = true) (D : Mat) (hF : svD s = (D, true)) :
    Calls Try.prog 17 #[.agg #[.int .i64 s.n, .slice A1 s.shots.length c1, .slice A2 s.marks.length c2, .slice A3 s.threads.length c3]] w fun e w' =>
      (∃ A c, e = .returned (.tuple #[.slice A (lvHeights s).1.length c, .int .i64 (lvHeights s).2]) ∧ Rd w' w'.heap.size A spV 2 (lvHeights s).1) ∧ Below w.heap.size w w' := by
  obtain ⟨⟨_, _, g3, g4, _⟩, _⟩ := svOk_spec hok
  have hb0 : Below w.heap.size w (w.alloc (Obj.cells #[Value.int IntKind.i64 s.n, Value.slice A1 s.shots.length c1, Value.slice A2 s.marks.length c2, Value.slice A3 s.threads.length c3] 26)) := by (repeat' (first | (with_reducible exact Below.refl _ _) | (with_reducible refine Below.alloc ?_ ?_ _) | (with_reducible refine Below.drew ?_) | (with_reducible refine Below.drewN_ ?_ _) | (with_reducible refine Below.setCell ?_ ?_ _) | (with_reducible refine Below.setRow ?_ ?_ _) | (with_reducible refine Below.via ?_ (by with_reducible assumption) ?_) | go_size))
  have R1 := Lib.hid ((r1.below hb0).more hb0.size)
  have R2 := Lib.hid ((r2.below hb0).more hb0.size)
  have R3 := Lib.hid ((r3.below hb0).more hb0.size)
  have P1 := Lib.hid r1
  have P2 := Lib.hid r2
  clear r1 r2 r3
  have HC := Lib.hid (rcheck_any s c1 c2 c3 A1 A2 A3 (w.alloc (Obj.cells #[Value.int IntKind.i64 s.n, Value.slice A1 s.shots.length c1, Value.slice A2 s.marks.length c2, Value.slice A3 s.threads.length c3] 26)) R1.out R2.out R3.out)
  have e1 : svErr s = 0 := by unfold svErr; rw [hok]; rfl
  have e2 : lvHeights s = (htsList s, 0) := by unfold lvHeights; rw [if_neg (by rw [hok]; simp), if_neg (by rw [hF]; simp)]
  rw [e1] at HC
  rw [e2]
  have HSN := Lib.hid (fun (W : World) gc cc (hb : Below w.heap.size w W) hBo => sides_yes s c1 c2 c3 A1 A2 A3 W hok ((P1.out.below hb).more hb.size) ((P2.out.below hb).more hb.size) gc cc hBo D hF)
  obtain ⟨⟨n1, n2, _⟩, _⟩ := svOk_spec hok
  obtain ⟨p, hp⟩ := Int.eq_ofNat_of_zero_le (show 0 ≤ s.n by omega)
  have hsm := svD_small hok hF
  have htn : s.n.toNat = p := by omega
  have hln : (htsList s).length = p := by unfold htsList; rw [List.length_map, List.length_range, htn]
  have hget : ∀ k, k < p → (htsList s)[k]? = some (-(D k p), D p k) := fun k hk => by
    unfold htsList
    rw [hF, htn, List.getElem?_map, List.getElem?_range hk]
    rfl
  rw [htn] at HSN hsm
  have hp20 : p ≤ 20 := by omega
  have HSM := Lib.hid hsm
  have HP := Lib.hid hp
  have HLN := Lib.hid hln
  have HGET := Lib.hid hget
  clear e1 e2 hok hF hb0 hsm hp htn hln hget n1 n2
  go_enter Try.func17, Try.ntmps17
  go_upto_region 3 with (go_at_call 21; refine HC.out.mono ?_; rintro e w' ⟨rfl, hb1⟩; obtain ⟨hc1, hf1⟩ := bcell hb1; have hz1 := hb1.size; (try simp at hz1); (try have hy1 : w.heap.size < w'.heap.size := by omega))
  have hbw : Below w.heap.size w w' := by (repeat' (first | (with_reducible exact Below.refl _ _) | (with_reducible refine Below.alloc ?_ ?_ _) | (with_reducible refine Below.drew ?_) | (with_reducible refine Below.drewN_ ?_ _) | (with_reducible refine Below.setCell ?_ ?_ _) | (with_reducible refine Below.setRow ?_ ?_ _) | (with_reducible refine Below.via ?_ (by with_reducible assumption) ?_) | go_size))
  go_cut [4, 5] from 8 to 47 (fun a b W => ∃ g R, a = .slice (some ⟨g, 0, none⟩) (p + 1) (p + 1) ∧ b = .bool true ∧ RowsUp W g g (p + 1) (p + 1) R D ∧ Below w.heap.size w W ∧ W.cell? ⟨w.heap.size, 0, none⟩ = some (.int .i64 (p : Int)) ∧ w.heap.size < W.heap.size)
  case first =>
    have m0 : w'.cell? ⟨w.heap.size, 0, none⟩ = some (.int .i64 s.n) := by rw [hc1 _ _ (by simp)]; simp
    have m1 : w'.cell? ⟨w.heap.size, 1, none⟩ = some (.slice A1 s.shots.length c1) := by rw [hc1 _ _ (by simp)]; simp
    have m2 : w'.cell? ⟨w.heap.size, 2, none⟩ = some (.slice A2 s.marks.length c2) := by rw [hc1 _ _ (by simp)]; simp
    have m3 : w'.cell? ⟨w.heap.size, 3, none⟩ = some (.slice A3 s.threads.length c3) := by rw [hc1 _ _ (by simp)]; simp
    clear hc1 hf1 hb1 hz1
    go_region_with (first
      | (go_at_call 48; refine (every_any s.n s.shots.length s.marks.length c1 c2 A1 A2 _ _ (by omega) (by omega)).mono ?_; rintro e w3 ⟨⟨gc, rfl, hgc, hBo⟩, hb3⟩; have n0 := (hb3.cell (p := ⟨w.heap.size, 0, none⟩) hy1).trans m0; have n1 := (hb3.cell (p := ⟨w.heap.size, 1, none⟩) hy1).trans m1; have n2 := (hb3.cell (p := ⟨w.heap.size, 2, none⟩) hy1).trans m2; have n3 := (hb3.cell (p := ⟨w.heap.size, 3, none⟩) hy1).trans m3; have HBO := Lib.hid hBo; clear hBo)
      | (go_at_call 47; refine (HSN.out _ _ _ (hbw.drew.trans (hb3.mono hbw.size)) HBO.out).mono ?_; rintro e w4 ⟨⟨g, R, rfl, hg4, hU⟩, hb4⟩; have HU := Lib.hid hU; clear hU))
    all_goals
      have HN4 := Lib.hid ((hb4.cell (p := ⟨w.heap.size, 0, none⟩) (by show w.heap.size < _; have := hb3.size; simp at this; omega)).trans n0)
      go_wp2_with fail
      go_meet
      exact ⟨g, R, rfl, rfl, HU.out, (hbw.drew.trans (hb3.mono hbw.size)).trans (hb4.mono (Nat.le_trans hbw.size hb3.size)), by rw [← HP.out]; exact HN4.out, by have h1 := hb3.size; have h2 := hb4.size; simp at h1; omega⟩
  case rest =>
    obtain ⟨g, R, rfl, rfl, hU, hb, m0, hwc⟩ := hcut
    have HU := Lib.hid hU
    have hglt := hU.glt
    clear hU
    clear hc1 hf1 hb1 hz1 hy1 hbw
    obtain ⟨i0, hi0, hz0, hz1, hz2⟩ := info_parts info36
    have I0 := Lib.hid (And.intro hi0 (And.intro hz0 (And.intro hz1 hz2)))
    clear hi0 hz0 hz1 hz2
    go_wp2
    go_loopw [6, 7] (fun v6 v7 W => ∃ k : Nat, k ≤ p ∧ v7 = .int .i64 k ∧ Own W wc.heap.size 36 v6 spV 2 ((htsList s).take k) ∧ Below wc.heap.size wc W) (fun _ i _ => p - (intOf i).toNat)
    case atStart => exact ⟨0, by omega, rfl, Own.nil_ _ _ _ _ _, Below.refl _ _⟩
    case round =>
      obtain ⟨k, hk, rfl, hO, hbk⟩ := hrel
      have HO := Lib.hid hO
      clear hO
      have q0 := (hbk.cell (p := ⟨w.heap.size, 0, none⟩) hwc).trans m0
      by_cases hlt : k < p
      · have hUk := HU.out.below hbk (Nat.le_refl _)
        have hkp : k < p + 1 := by omega
        have hpp : p < p + 1 := by omega
        have d1 := hUk.head (k := k) hkp hkp
        have d2 := hUk.head (k := p) hpp hpp
        have d3 := hUk.cell (k := k) (l := p) hkp hpp
        have d4 := hUk.cell (k := p) (l := k) hpp hkp
        have b1 := HSM.out.2 k p hkp hpp
        have b2 := HSM.out.2 p k hpp hkp
        have hT : (htsList s).take (k + 1) = (htsList s).take k ++ [(-(D k p), D p k)] := by
          rw [List.take_add_one, HGET.out k hlt]; rfl
        have HT := Lib.hid hT
        clear hUk hT
        generalize D k p = x at *
        generalize D p k = y at *
        generalize R k = bk at *
        generalize R p = bp at *
        have hkI : (k : Int) < (p : Int) + 1 := by omega
        have hpI : (p : Int) < (p : Int) + 1 := by omega
        have hlk : ((htsList s).take k).length ≤ 20 := by rw [List.length_take]; omega
        have hneg : IntKind.i64.wrap (-x) = -x := IntWalk.i64_in _ (by omega)
        go_wp2
        refine wp_region_draw_tail0 19 (by kernel_rfl) (by kernel_rfl) (by omega) (by kernel_rfl) (by kernel_rfl) (by kernel_rfl) _ _ rfl rfl rfl (fun _ _ _ h => h) ?_
        (simp only [List.take_succ_cons, List.take_zero, List.drop_succ_cons, List.drop_zero]); (repeat (go_big_quiet_step (fail))); refine wpQuiet_nil ?_; rintro _ ⟨nq, rfl⟩
        gi_wp2_with (gi_at_builtin; refine wpListIn_append_rd rfl (.tmp 26) (.tmp 45) 29 rfl i0 _ 16 Try.underlying29 I0.out.1 I0.out.2.1 I0.out.2.2.1 I0.out.2.2.2 rfl (by omega) spV_len spV_one rfl (HO.out.below ((Below.drewN_ (Below.refl _ _) nq).alloc (Nat.le_refl _) _)) rfl rfl (Rd.one _ (-x, y) #[.int .i64 (-x), .int .i64 y] 36 rfl) (by simp; omega) (by omega) (by simp; have := hbk.size; omega) ?_; intro v' w5 ho5 hg5 hat5)
        have hg6 : World.grownBy _ w5 u6.ownBlock := hg5
        have hb5 : Below wc.heap.size wc w5 := ((Below.drewN_ hbk nq).alloc hbk.size _).trans (below_grown hg6 (by simp; have := hbk.size; omega) (fun b hb => (HO.out.lt b hb).1))
        have HO5 := Lib.hid ho5
        clear ho5 hg5 hg6 hat5
        go_wp2
        go_roundw
        case rel => exact ⟨k + 1, by omega, by go_num, by rw [HT.out]; exact HO5.out, hb5⟩
        case measure => (simp [intOf] <;> omega)
      · have HO6 : Hid (Own wr wc.heap.size 36 u6 spV 2 (htsList s)) := Lib.hid (by have h := HO.out; rw [List.take_of_length_le (by rw [HLN.out]; omega)] at h; exact h)
        go_wp2
        go_ret2
        obtain ⟨A, c, rfl⟩ := HO6.out.form
        exact ⟨⟨A, c, rfl, HO6.out.rd spV_len⟩, hb.trans (hbk.mono (by omega))⟩

theorem rheights_any (s : Sv) (c1 c2 c3 : Nat) (A1 A2 A3 : Option Addr) (w : World)
    (r1 : Rd w w.heap.size A1 shV 4 s.shots) (r2 : Rd w w.heap.size A2 mkV 3 s.marks) (r3 : Rd w w.heap.size A3 shV 4 s.threads) :
    Calls Try.prog 17 #[.agg #[.int .i64 s.n, .slice A1 s.shots.length c1, .slice A2 s.marks.length c2, .slice A3 s.threads.length c3]] w fun e w' =>
      (∃ A c, e = .returned (.tuple #[.slice A (lvHeights s).1.length c, .int .i64 (lvHeights s).2]) ∧ Rd w' w'.heap.size A spV 2 (lvHeights s).1) ∧ Below w.heap.size w w' := by
  cases hok : svOk s
  · exact rheights_bad s c1 c2 c3 A1 A2 A3 w r1 r2 r3 hok
  · obtain ⟨D, b, hR⟩ : ∃ D b, svD s = (D, b) := ⟨_, _, rfl⟩
    cases b
    · exact rheights_apart s c1 c2 c3 A1 A2 A3 w r1 r2 r3 hok (by rw [hR])
    · exact rheights_fine s c1 c2 c3 A1 A2 A3 w r1 r2 r3 hok D hR

end Go.Proofs.Ytaoonfmcimkmhaa
