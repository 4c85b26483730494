/- level.Heights and level.Fall: what they answer of every survey that reads as plain data. -/
import Derived.Test.YtaoonfmcimkmhaaLevDiffs
import Derived.Test.YtaoonfmcimkmhaaLevCheck
import Derived.Deep.Cut
namespace Go.Proofs.Ytaoonfmcimkmhaa
open Go.RowKit

def wkC (v0 v1 v2 v3 : Value) : Array Value := #[v0, v1, v2, v3] ++ (Array.replicate 80 (.bool false) ++ #[.int .i64 0])
theorem wkC_eq (v0 v1 v2 v3 : Value) : (((Try.zeroCells93.setIfInBounds 0 v0).setIfInBounds 1 v1).setIfInBounds 2 v2).setIfInBounds 3 v3 = wkC v0 v1 v2 v3 := by kernel_rfl
theorem wkC_size (v0 v1 v2 v3 : Value) : (wkC v0 v1 v2 v3).size = 85 := by unfold wkC; simp
theorem wkC_one (n : Int) (A1 A2 A3 : Option Addr) (n1 n2 n3 c1 c2 c3 : Nat) : (wkC (.int .i64 n) (.slice A1 n1 c1) (.slice A2 n2 c2) (.slice A3 n3 c3)).all (·.oneCell') = true := by
  rw [Array.all_eq_true_iff_forall_mem]
  intro v hv
  unfold wkC at hv
  simp only [Array.mem_append, Array.mem_replicate, List.mem_toArray, List.mem_cons, List.not_mem_nil, or_false] at hv
  rcases hv with (rfl | rfl | rfl | rfl) | ⟨_, rfl⟩ | rfl <;> rfl
theorem wkC_head (v0 v1 v2 v3 : Value) (k : Nat) (hk : k < 4) : (wkC v0 v1 v2 v3)[k]? = (#[v0, v1, v2, v3] : Array Value)[k]? := by
  unfold wkC
  rw [Array.getElem?_append_left (by simpa using hk)]
theorem wkC_out (v0 v1 v2 v3 : Value) (k : Nat) (hk : k < 80) : (wkC v0 v1 v2 v3)[4 + k]? = some (.bool false) := by
  unfold wkC
  rw [Array.getElem?_append_right (by simp), Array.getElem?_append_left (by simp; omega)]
  simp [hk]
theorem wkC_wid (v0 v1 v2 v3 : Value) : (wkC v0 v1 v2 v3)[84]? = some (.int .i64 0) := by
  unfold wkC
  rw [Array.getElem?_append_right (by simp), Array.getElem?_append_right (by simp)]
  simp
theorem zero93_size : Try.zeroCells93.size = 85 := by kernel_rfl

theorem wkAll_of (w : World) (s : Sv) (c1 c2 c3 : Nat) (A1 A2 A3 : Option Addr) (hok : svOk s = true) (r1 : Rd w w.heap.size A1 shV 4 s.shots) (r2 : Rd w w.heap.size A2 mkV 3 s.marks) :
    WkAll w (wkC (.int .i64 s.n) (.slice A1 s.shots.length c1) (.slice A2 s.marks.length c2) (.slice A3 s.threads.length c3)) s (fun _ => false) 0 :=
  { at_ := { size := wkC_size _ _ _ _, c0 := wkC_head _ _ _ _ 0 (by omega), sh := ⟨A1, c1, wkC_head _ _ _ _ 1 (by omega), r1⟩, mks := ⟨A2, c2, wkC_head _ _ _ _ 2 (by omega), r2⟩ },
    ok := hok, out_ := fun k hk => wkC_out _ _ _ _ k hk, wid := wkC_wid _ _ _ _, w0 := by omega, w2 := by omega }

theorem wkAll_box (w w' : World) (s : Sv) (c1 c2 c3 : Nat) (A1 A2 A3 : Option Addr) (hok : svOk s = true) (r1 : Rd w w.heap.size A1 shV 4 s.shots) (r2 : Rd w w.heap.size A2 mkV 3 s.marks) (hb : Below w.heap.size w w') (o : Obj) :
    WkAll (w'.alloc o) (wkC (.int .i64 s.n) (.slice A1 s.shots.length c1) (.slice A2 s.marks.length c2) (.slice A3 s.threads.length c3)) s (fun _ => false) 0 :=
  have h : Below w.heap.size w (w'.alloc o) := hb.alloc hb.size o
  wkAll_of _ s c1 c2 c3 A1 A2 A3 hok ((r1.below h).more h.size) ((r2.below h).more h.size)

/-- Lists of spans as cells. -/
def spV (x : Int × Int) : List Value := [.int .i64 x.1, .int .i64 x.2]
def spA (l : List (Int × Int)) : Array Value := (l.flatMap spV).toArray

/-- The survey's greatest differences, and whether heights fit. -/
def svD (s : Sv) : (Nat → Nat → Int) × Bool := wkD s (fun _ => false) 0
def htsList (s : Sv) : List (Int × Int) := (List.range s.n.toNat).map fun i => (-((svD s).1 i s.n.toNat), (svD s).1 s.n.toNat i)
theorem svD_small {s : Sv} (hok : svOk s = true) {D : Nat → Nat → Int} (hR : svD s = (D, true)) : Small (s.n.toNat + 1) 300000000000000 D := by
  obtain ⟨⟨n1, n2, _⟩, _⟩ := svOk_spec hok
  have h := wkD_small (s := s) (out := fun _ => false) (wider := 0) (by omega) (by omega) (by omega) (rdAt_ok hok) (by unfold svD at hR; rw [hR])
  unfold svD at hR
  rw [hR] at h
  exact h
/-- A block of spans, of which the first i are those of f, the others 0. -/
def hV (p : Nat) (f : Nat → Int × Int) (i : Nat) : Array Value := Array.ofFn (n := p * 2) fun j => .int .i64 (if j.1 / 2 < i then (if j.1 % 2 = 0 then (f (j.1 / 2)).1 else (f (j.1 / 2)).2) else 0)
theorem hV_size (p : Nat) (f : Nat → Int × Int) (i : Nat) : (hV p f i).size = p * 2 := by simp [hV]
theorem hV_zero (p : Nat) (f : Nat → Int × Int) : madeCells #[.int .i64 0, .int .i64 0] (p * 2) = hV p f 0 := by
  apply Array.ext
  · simp [madeCells, hV]
  · intro j h1 h2
    have hj : j % 2 = 0 ∨ j % 2 = 1 := by omega
    rcases hj with hj | hj <;> simp [madeCells, hV, hj]
theorem hV_step {p : Nat} {f : Nat → Int × Int} {i : Nat} : ((hV p f i).setIfInBounds (i * 2) (.int .i64 (f i).1)).setIfInBounds (i * 2 + 1) (.int .i64 (f i).2) = hV p f (i + 1) := by
  apply Array.ext
  · simp [hV]
  · intro j h1 h2
    have hj : j < p * 2 := by simpa [hV] using h2
    have hs1 : j < (hV p f i).size := by rw [hV_size]; exact hj
    have hs2 : j < ((hV p f i).setIfInBounds (i * 2) (.int .i64 (f i).1)).size := by simpa using hs1
    rw [Array.getElem_setIfInBounds hs2, Array.getElem_setIfInBounds hs1]
    simp only [hV, Array.getElem_ofFn]
    by_cases e1 : i * 2 + 1 = j
    · have d1 : j / 2 = i := by omega
      have d2 : ¬ j % 2 = 0 := by omega
      rw [if_pos e1, if_pos (show j / 2 < i + 1 by omega), if_neg d2, d1]
    · rw [if_neg e1]
      by_cases e2 : i * 2 = j
      · have d1 : j / 2 = i := by omega
        have d2 : j % 2 = 0 := by omega
        rw [if_pos e2, if_pos (show j / 2 < i + 1 by omega), if_pos d2, d1]
      · rw [if_neg e2]
        by_cases e3 : j / 2 < i
        · rw [if_pos e3, if_pos (show j / 2 < i + 1 by omega)]
        · rw [if_neg e3, if_neg (show ¬ j / 2 < i + 1 by omega)]
theorem hV_get {p : Nat} {f : Nat → Int × Int} {j : Nat} (hj : j < p) : (hV p f p)[j * 2]? = some (.int .i64 (f j).1) ∧ (hV p f p)[j * 2 + 1]? = some (.int .i64 (f j).2) := by
  unfold hV
  rw [Array.getElem?_ofFn, Array.getElem?_ofFn, dif_pos (by omega), dif_pos (by omega)]
  have d1 : (j * 2) / 2 = j := by omega
  have d2 : (j * 2) % 2 = 0 := by omega
  have d3 : (j * 2 + 1) / 2 = j := by omega
  have d4 : ¬ (j * 2 + 1) % 2 = 0 := by omega
  simp only [d1, d2, d3, d4, if_pos hj, if_true, if_false]
  exact ⟨trivial, trivial⟩
theorem info36 : (Try.prog.info? 36).map (fun i => (i.zero, i.size, i.bytes)) = some (some (.agg #[.int .i64 0, .int .i64 0]), 2, 16) := by kernel_rfl
theorem mkSpans (p : Nat) (hp : p ≤ 1000) (f : Nat → Int × Int) (w : World) :
    (Instr.makeSlice 29 (.int .i64 (p : Int)) (.int .i64 (p : Int))).run Try.prog w = .ok (.slice (some ⟨w.heap.size, 0, none⟩) p p) (w.alloc (.cells (hV p f 0) 36)) := by
  obtain ⟨i0, hi, hz0, hz1, hz2⟩ := info_parts info36
  have hr := run_make (P := Try.prog) w 29 36 i0 _ Try.underlying29 hi hz0 .i64 .i64 (p : Int) (p : Int) (by omega) (by omega) (by rw [hz2]; omega) (by omega)
  rw [hr, hz1, ← hV_zero p f]
  simp [Value.cells]

/-- What level.Heights answers. -/
def lvHeights (s : Sv) : List (Int × Int) × Int := if svOk s = false then ([], 10) else if (svD s).2 = false then ([], 11) else (htsList s, 0)

set_option maxRecDepth 100000 in
set_option maxHeartbeats 1000000 in
theorem heights_bad (s : Sv) (c1 c2 c3 : Nat) (A1 A2 A3 : Option Addr) (w : World)
    (r1 : Rd w w.heap.size A1 shV 4 s.shots) (r2 : Rd w w.heap.size A2 mkV 3 s.marks) (r3 : Rd w w.heap.size A3 shV 4 s.threads) (hok : svOk s = false) :
    Calls Try.prog 16 #[.agg #[.int .i64 s.n, .slice A1 s.shots.length c1, .slice A2 s.marks.length c2, .slice A3 s.threads.length c3]] w fun e w' =>
      (∃ A c, e = .returned (.tuple #[.slice A (lvHeights s).1.length c, .int .i64 (lvHeights s).2]) ∧ Rd w' w'.heap.size A spV 2 (lvHeights s).1) ∧ Below w.heap.size w w' := by
  have hb0 : Below w.heap.size w (w.alloc (Obj.cells #[Value.int IntKind.i64 s.n, Value.slice A1 s.shots.length c1, Value.slice A2 s.marks.length c2, Value.slice A3 s.threads.length c3] 26)) := by (repeat' (first | (with_reducible exact Below.refl _ _) | (with_reducible refine Below.alloc ?_ ?_ _) | (with_reducible refine Below.drew ?_) | (with_reducible refine Below.drewN_ ?_ _) | (with_reducible refine Below.setCell ?_ ?_ _) | (with_reducible refine Below.setRow ?_ ?_ _) | (with_reducible refine Below.via ?_ (by with_reducible assumption) ?_) | go_size))
  have R1 := Lib.hid ((r1.below hb0).more hb0.size)
  have R2 := Lib.hid ((r2.below hb0).more hb0.size)
  have R3 := Lib.hid ((r3.below hb0).more hb0.size)
  clear r1 r2 r3
  have HC := Lib.hid (lcheck_any s c1 c2 c3 A1 A2 A3 (w.alloc (Obj.cells #[Value.int IntKind.i64 s.n, Value.slice A1 s.shots.length c1, Value.slice A2 s.marks.length c2, Value.slice A3 s.threads.length c3] 26)) R1.out R2.out R3.out)
  have e1 : svErr s = 10 := by unfold svErr; rw [hok]; rfl
  have e2 : lvHeights s = ([], 10) := by unfold lvHeights; rw [if_pos hok]
  rw [e1] at HC
  rw [e2]
  clear e1 e2 hok
  go_enter Try.func16, Try.ntmps16
  go_wp2_with (go_at_call 20; refine HC.out.mono ?_; rintro e w' ⟨rfl, hb1⟩; obtain ⟨hc1, hf1⟩ := bcell hb1; have hz1 := hb1.size; (try simp at hz1); (try have hy1 : w.heap.size < w'.heap.size := by omega))
  go_ret2
  exact ⟨⟨none, 0, rfl, fun h => absurd h (by simp)⟩, by (repeat' (first | (with_reducible exact Below.refl _ _) | (with_reducible refine Below.alloc ?_ ?_ _) | (with_reducible refine Below.drew ?_) | (with_reducible refine Below.drewN_ ?_ _) | (with_reducible refine Below.setCell ?_ ?_ _) | (with_reducible refine Below.setRow ?_ ?_ _) | (with_reducible refine Below.via ?_ (by with_reducible assumption) ?_) | go_size))⟩

set_option maxRecDepth 100000 in
set_option maxHeartbeats 1000000 in
theorem heights_apart (s : Sv) (c1 c2 c3 : Nat) (A1 A2 A3 : Option Addr) (w : World)
    (r1 : Rd w w.heap.size A1 shV 4 s.shots) (r2 : Rd w w.heap.size A2 mkV 3 s.marks) (r3 : Rd w w.heap.size A3 shV 4 s.threads) (hok : svOk s = true) (D : Nat → Nat → Int) (hR : svD s = (D, false)) :
    Calls Try.prog 16 #[.agg #[.int .i64 s.n, .slice A1 s.shots.length c1, .slice A2 s.marks.length c2, .slice A3 s.threads.length c3]] w fun e w' =>
      (∃ A c, e = .returned (.tuple #[.slice A (lvHeights s).1.length c, .int .i64 (lvHeights s).2]) ∧ Rd w' w'.heap.size A spV 2 (lvHeights s).1) ∧ Below w.heap.size w w' := by
  have hb0 : Below w.heap.size w (w.alloc (Obj.cells #[Value.int IntKind.i64 s.n, Value.slice A1 s.shots.length c1, Value.slice A2 s.marks.length c2, Value.slice A3 s.threads.length c3] 26)) := by (repeat' (first | (with_reducible exact Below.refl _ _) | (with_reducible refine Below.alloc ?_ ?_ _) | (with_reducible refine Below.drew ?_) | (with_reducible refine Below.drewN_ ?_ _) | (with_reducible refine Below.setCell ?_ ?_ _) | (with_reducible refine Below.setRow ?_ ?_ _) | (with_reducible refine Below.via ?_ (by with_reducible assumption) ?_) | go_size))
  have R1 := Lib.hid ((r1.below hb0).more hb0.size)
  have R2 := Lib.hid ((r2.below hb0).more hb0.size)
  have R3 := Lib.hid ((r3.below hb0).more hb0.size)
  clear r1 r2 r3
  have HC := Lib.hid (lcheck_any s c1 c2 c3 A1 A2 A3 (w.alloc (Obj.cells #[Value.int IntKind.i64 s.n, Value.slice A1 s.shots.length c1, Value.slice A2 s.marks.length c2, Value.slice A3 s.threads.length c3] 26)) R1.out R2.out R3.out)
  have e1 : svErr s = 0 := by unfold svErr; rw [hok]; rfl
  rw [e1] at HC
  have HOK := Lib.hid hok
  have hst := wkC_one s.n A1 A2 A3 s.shots.length s.marks.length s.threads.length c1 c2 c3
  have hsz := wkC_size (.int .i64 s.n) (.slice A1 s.shots.length c1) (.slice A2 s.marks.length c2) (.slice A3 s.threads.length c3)
  obtain ⟨cs, hcs⟩ : ∃ cs, wkC (.int .i64 s.n) (.slice A1 s.shots.length c1) (.slice A2 s.marks.length c2) (.slice A3 s.threads.length c3) = cs := ⟨_, rfl⟩
  have hcs' : (((Try.zeroCells93.setIfInBounds 0 (.int .i64 s.n)).setIfInBounds 1 (.slice A1 s.shots.length c1)).setIfInBounds 2 (.slice A2 s.marks.length c2)).setIfInBounds 3 (.slice A3 s.threads.length c3) = cs := (wkC_eq _ _ _ _).trans hcs
  rw [hcs] at hst hsz
  have HST := Lib.hid hst
  have HI : Hid ((Try.prog.info? 93).map (·.size) = some cs.size) := by rw [hsz]; exact info93
  have HZ3 : Hid (Try.zeroCells93.size = cs.size) := by rw [hsz]; exact zero93_size
  have HCS := Lib.hid hcs
  clear e1 hok hst hsz hcs
  have hda : ∀ W, WkAll W cs s (fun _ => false) 0 → Calls Try.prog 44 #[.agg cs] W fun e w' => e = .returned (.tuple #[.agg (matV D), .bool false]) ∧ Below W.heap.size W w' := fun W h => by
    have h2 := differences_any cs s _ 0 W h
    unfold svD at hR
    rw [hR] at h2
    exact h2
  have HDA := Lib.hid hda
  have HR := Lib.hid hR
  clear hda hR
  have e2 : lvHeights s = ([], 11) := by unfold lvHeights; rw [if_neg (by rw [HOK.out]; simp), HR.out]; rfl
  rw [e2]
  clear e2
  go_enter Try.func16, Try.ntmps16
  have tok0 : True := trivial
  have tok1 : True := trivial
  go_wp2_with (first | (go_at_call 20; refine HC.out.mono ?_; rintro e w' ⟨rfl, hb1⟩; obtain ⟨hc1, hf1⟩ := bcell hb1; have hz1 := hb1.size; (try simp at hz1); (try have hy1 : w.heap.size < w'.heap.size := by omega); have HW0 := Lib.hid (wkAll_box _ w' s c1 c2 c3 A1 A2 A3 HOK.out R1.out R2.out hb1 (.cells cs 93)); rw [HCS.out] at HW0; have HB5 := Lib.hid (heap_alloc_new w' (.cells cs 93))) | (have _t := tok0; refine wpList_store_row rfl 93 (.tmp 5) (.tmp 16) rfl w'.heap.size cs rfl rfl 93 Try.zeroCells93 (heap_alloc_new _ _) HI.out HZ3.out HST.out ?_; rw [World.setRow_alloc_new]; clear hcs' tok0 _t) | (refine wpList_load_row rfl 93 (.tmp 5) rfl w'.heap.size rfl 93 cs (0, 0) _ HB5.out Try.underlying93 rfl HI.out ?_) | (go_at_call 44; refine (HDA.out _ HW0.out).mono ?_; rintro e w2 ⟨rfl, hb2⟩; have hz2 := hb2.size; simp at hz2) | (have _t := tok1; refine wpList_store_row rfl 96 (.tmp 6) (.tmp 20) rfl w2.heap.size (matV D) rfl rfl 96 Try.zeroCells96 (heap_alloc_new _ _) (info96 D) (zero96_size D) (matV_one D) ?_; rw [World.setRow_alloc_new]; clear tok1 _t))
  go_ret2
  exact ⟨⟨none, 0, rfl, fun h => absurd h (by simp)⟩, by (repeat' (first | (with_reducible exact Below.refl _ _) | (with_reducible refine Below.alloc ?_ ?_ _) | (with_reducible refine Below.drew ?_) | (with_reducible refine Below.drewN_ ?_ _) | (with_reducible refine Below.setCell ?_ ?_ _) | (with_reducible refine Below.setRow ?_ ?_ _) | (with_reducible refine Below.via ?_ (by with_reducible assumption) ?_) | go_size))⟩

set_option maxRecDepth 100000 in
set_option maxHeartbeats 1000000 in
theorem heights_fine (s : Sv) (c1 c2 c3 : Nat) (A1 A2 A3 : Option Addr) (w : World)
    (r1 : Rd w w.heap.size A1 shV 4 s.shots) (r2 : Rd w w.heap.size A2 mkV 3 s.marks) (r3 : Rd w w.heap.size A3 shV 4 s.threads) (hok : svOk s = true) (D : Nat → Nat → Int) (hR : svD s = (D, true)) :
    Calls Try.prog 16 #[.agg #[.int .i64 s.n, .slice A1 s.shots.length c1, .slice A2 s.marks.length c2, .slice A3 s.threads.length c3]] w fun e w' =>
      (∃ A c, e = .returned (.tuple #[.slice A (lvHeights s).1.length c, .int .i64 (lvHeights s).2]) ∧ Rd w' w'.heap.size A spV 2 (lvHeights s).1) ∧ Below w.heap.size w w' := by
  have hb0 : Below w.heap.size w (w.alloc (Obj.cells #[Value.int IntKind.i64 s.n, Value.slice A1 s.shots.length c1, Value.slice A2 s.marks.length c2, Value.slice A3 s.threads.length c3] 26)) := by (repeat' (first | (with_reducible exact Below.refl _ _) | (with_reducible refine Below.alloc ?_ ?_ _) | (with_reducible refine Below.drew ?_) | (with_reducible refine Below.drewN_ ?_ _) | (with_reducible refine Below.setCell ?_ ?_ _) | (with_reducible refine Below.setRow ?_ ?_ _) | (with_reducible refine Below.via ?_ (by with_reducible assumption) ?_) | go_size))
  have R1 := Lib.hid ((r1.below hb0).more hb0.size)
  have R2 := Lib.hid ((r2.below hb0).more hb0.size)
  have R3 := Lib.hid ((r3.below hb0).more hb0.size)
  clear r1 r2 r3
  have HC := Lib.hid (lcheck_any s c1 c2 c3 A1 A2 A3 (w.alloc (Obj.cells #[Value.int IntKind.i64 s.n, Value.slice A1 s.shots.length c1, Value.slice A2 s.marks.length c2, Value.slice A3 s.threads.length c3] 26)) R1.out R2.out R3.out)
  have e1 : svErr s = 0 := by unfold svErr; rw [hok]; rfl
  rw [e1] at HC
  have HOK := Lib.hid hok
  have hst := wkC_one s.n A1 A2 A3 s.shots.length s.marks.length s.threads.length c1 c2 c3
  have hsz := wkC_size (.int .i64 s.n) (.slice A1 s.shots.length c1) (.slice A2 s.marks.length c2) (.slice A3 s.threads.length c3)
  obtain ⟨cs, hcs⟩ : ∃ cs, wkC (.int .i64 s.n) (.slice A1 s.shots.length c1) (.slice A2 s.marks.length c2) (.slice A3 s.threads.length c3) = cs := ⟨_, rfl⟩
  have hcs' : (((Try.zeroCells93.setIfInBounds 0 (.int .i64 s.n)).setIfInBounds 1 (.slice A1 s.shots.length c1)).setIfInBounds 2 (.slice A2 s.marks.length c2)).setIfInBounds 3 (.slice A3 s.threads.length c3) = cs := (wkC_eq _ _ _ _).trans hcs
  rw [hcs] at hst hsz
  have HST := Lib.hid hst
  have HI : Hid ((Try.prog.info? 93).map (·.size) = some cs.size) := by rw [hsz]; exact info93
  have HZ3 : Hid (Try.zeroCells93.size = cs.size) := by rw [hsz]; exact zero93_size
  have HCS := Lib.hid hcs
  clear e1 hok hst hsz hcs
  have hda : ∀ W, WkAll W cs s (fun _ => false) 0 → Calls Try.prog 44 #[.agg cs] W fun e w' => e = .returned (.tuple #[.agg (matV D), .bool true]) ∧ Below W.heap.size W w' := fun W h => by
    have h2 := differences_any cs s _ 0 W h
    unfold svD at hR
    rw [hR] at h2
    exact h2
  have HDA := Lib.hid hda
  have HR := Lib.hid hR
  clear hda hR
  have e2 : lvHeights s = (htsList s, 0) := by unfold lvHeights; rw [if_neg (by rw [HOK.out]; simp), HR.out]; rfl
  rw [e2]
  have hln : (htsList s).length = s.n.toNat := by simp [htsList]
  obtain ⟨⟨n1, n2, _⟩, _⟩ := svOk_spec HOK.out
  obtain ⟨p, hp⟩ := Int.eq_ofNat_of_zero_le (show 0 ≤ s.n by omega)
  have HL := Lib.hid hln
  have HP := Lib.hid hp
  clear e2 hln hp
  go_enter Try.func16, Try.ntmps16
  have tok0 : True := trivial
  have tok1 : True := trivial
  go_upto_region 8 with (first | (go_at_call 20; refine HC.out.mono ?_; rintro e w' ⟨rfl, hb1⟩; obtain ⟨hc1, hf1⟩ := bcell hb1; have hz1 := hb1.size; (try simp at hz1); (try have hy1 : w.heap.size < w'.heap.size := by omega); have HW0 := Lib.hid (wkAll_box _ w' s c1 c2 c3 A1 A2 A3 HOK.out R1.out R2.out hb1 (.cells cs 93)); rw [HCS.out] at HW0; have HB5 := Lib.hid (heap_alloc_new w' (.cells cs 93))) | (have _t := tok0; refine wpList_store_row rfl 93 (.tmp 5) (.tmp 16) rfl w'.heap.size cs rfl rfl 93 Try.zeroCells93 (heap_alloc_new _ _) HI.out HZ3.out HST.out ?_; rw [World.setRow_alloc_new]; clear hcs' tok0 _t) | (refine wpList_load_row rfl 93 (.tmp 5) rfl w'.heap.size rfl 93 cs (0, 0) _ HB5.out Try.underlying93 rfl HI.out ?_) | (go_at_call 44; refine (HDA.out _ HW0.out).mono ?_; rintro e w2 ⟨rfl, hb2⟩; have hz2 := hb2.size; simp at hz2) | (have _t := tok1; refine wpList_store_row rfl 96 (.tmp 6) (.tmp 20) rfl w2.heap.size (matV D) rfl rfl 96 Try.zeroCells96 (heap_alloc_new _ _) (info96 D) (zero96_size D) (matV_one D) ?_; rw [World.setRow_alloc_new]; clear tok1 _t))
  have hsp := svD_small HOK.out HR.out
  have htn : s.n.toNat = p := by have := HP.out; omega
  have hp20 : p ≤ 20 := by have := HP.out; omega
  rw [htn] at hsp
  obtain ⟨w3, hw3⟩ : ∃ w3, w2.alloc (.cells (matV D) 96) = w3 := ⟨_, rfl⟩
  obtain ⟨g, hg⟩ : ∃ g, w2.heap.size = g := ⟨_, rfl⟩
  obtain ⟨Bw, hBw⟩ : ∃ Bw, w'.heap.size = Bw := ⟨_, rfl⟩
  rw [hw3, hg, hBw]
  have hM3 : MatAt w3 g D := by rw [← hw3, ← hg]; exact MatAt.new _ _
  have h31 : w3.heap[Bw]? = some (.cells cs 93 (0, 0)) := by rw [← hw3, ← hBw]; exact (Below.heap_alloc _ _ _ (by omega)).trans ((hb2.block _ (by simp)).trans (heap_alloc_new _ _))
  have hb3 : Below w.heap.size w w3 := by rw [← hw3]; (repeat' (first | (with_reducible exact Below.refl _ _) | (with_reducible refine Below.alloc ?_ ?_ _) | (with_reducible refine Below.drew ?_) | (with_reducible refine Below.drewN_ ?_ _) | (with_reducible refine Below.setCell ?_ ?_ _) | (with_reducible refine Below.setRow ?_ ?_ _) | (with_reducible refine Below.via ?_ (by with_reducible assumption) ?_) | go_size))
  have hz3 : w3.heap.size = g + 1 := by rw [← hw3, ← hg]; simp
  have hgB : Bw < g := by omega
  have hwB : w.heap.size ≤ Bw := by omega
  have h30 : w3.cell? ⟨w.heap.size, 0, none⟩ = some (.int .i64 (p : Int)) := by
    rw [← HP.out, ← hw3, World.cell?_alloc_lt _ _ _ (by show w.heap.size < w2.heap.size; omega), hb2.cell (p := ⟨w.heap.size, 0, none⟩) (by show w.heap.size < _; simp; omega), World.cell?_alloc_lt _ _ _ (by show w.heap.size < w'.heap.size; omega), hb1.cell (p := ⟨w.heap.size, 0, none⟩) (by show w.heap.size < _; simp)]
    simp
  have hk := mkSpans p (by omega) (fun i => (-(D i p), D p i))
  have HSP := Lib.hid hsp
  have HTN := Lib.hid htn
  have HM3 := Lib.hid hM3
  have H31 := Lib.hid h31
  have HZZ3 := Lib.hid hz3
  have hg3 := hM3.lt
  clear hsp htn hM3 h31 hz3 hw3 hg hBw hc1 hf1 hb0 hb1 hb2 hz1 hz2 hy1
  go_wp2
  clear hk
  obtain ⟨h, hh⟩ : ∃ h, w3.heap.size = h := ⟨_, rfl⟩
  obtain ⟨w4, hw4⟩ : ∃ w4, w3.alloc (.cells (hV p (fun i => (-(D i p), D p i)) 0) 36) = w4 := ⟨_, rfl⟩
  rw [hw4, hh]
  have h40 : w4.heap[h]? = some (.cells (hV p (fun i => (-(D i p), D p i)) 0) 36 (0, 0)) := by rw [← hw4, ← hh]; exact heap_alloc_new _ _
  have hb4 : Below h w3 w4 := by rw [← hw4, ← hh]; exact (Below.refl _ _).alloc (Nat.le_refl _) _
  have H40 := Lib.hid h40
  have hgh : g < h := by omega
  clear h40 hw4 hh
  go_loopg [29] p (fun k v W => ∃ i : Nat, i + k = p ∧ v = .int .i64 i ∧ W.heap[h]? = some (.cells (hV p (fun i => (-(D i p), D p i)) i) 36 (0, 0)) ∧ Below h w4 W)
  case atStart => exact ⟨0, by omega, rfl, H40.out, Below.refl _ _⟩
  case round =>
    obtain ⟨i, hik, rfl, hH, hb⟩ := hrel
    have HH := Lib.hid hH
    have HIK := Lib.hid hik
    have hhl : h < wr.heap.size := (Array.getElem?_eq_some_iff.1 hH).1
    clear hH
    by_cases hlt : i < p
    · obtain ⟨k1, hk1⟩ : ∃ k1, gk = k1 + 1 := ⟨gk - 1, by omega⟩
      have HK1 := Lib.hid hk1
      clear hik hk1
      have H5 := Lib.hid ((hb.block Bw (by omega)).trans ((hb4.block Bw (by omega)).trans H31.out))
      have hM5 : MatAt wr g D := (hb.block g hgh).trans ((hb4.block g hgh).trans HM3.out)
      have HM5 := Lib.hid hM5
      clear hM5
      have hbd := HSP.out.2 i p (by omega) (by omega)
      go_wp2_with (first | (refine wpList_load_row rfl 93 (.tmp 5) rfl Bw rfl 93 cs (0, 0) _ H5.out Try.underlying93 rfl HI.out ?_) | (go_at_call 46; refine (ground_any cs p _ (by rw [← HCS.out, ← HP.out]; exact wkC_head _ _ _ _ 0 (by omega))).mono ?_; rintro e w5 ⟨rfl, hb5⟩) | (go_at_call 45; refine (rise_any g p i D _ (HM5.out.below hb5 (by omega)) (by omega) (by omega) (by omega) (by omega)).mono ?_; rintro e w6 ⟨rfl, hb6⟩; have h6 := (hb6.block h (by have := hb5.size; omega)).trans ((hb5.block h hhl).trans HH.out); have z0 := (cell_of_row w6 h (i * 2) _ _ _ h6).trans (Array.getElem?_eq_getElem (by rw [hV_size]; omega)); have z1 := (cell_of_row w6 h (i * 2 + 1) _ _ _ h6).trans (Array.getElem?_eq_getElem (by rw [hV_size]; omega)); have z2 := frozen_of_row w6 h (i * 2) _ _ h6; have z3 := frozen_of_row w6 h (i * 2 + 1) _ _ h6; have H6 := Lib.hid h6; clear h6))
      go_roundg k1
      case rel =>
        refine ⟨i + 1, by have := HIK.out; have := HK1.out; omega, by go_num, ?_, ?_⟩
        · have e1 := heap_setCell_same w6 h (i * 2) _ _ (.int .i64 (-D i p)) H6.out
          have e2 := heap_setCell_same (w6.setCell ⟨h, i * 2, none⟩ (.int .i64 (-D i p))) h (i * 2 + 1) _ _ (.int .i64 (D p i)) e1
          rw [e2]
          have e3 := hV_step (p := p) (f := fun i => (-(D i p), D p i)) (i := i)
          dsimp only at e3
          rw [e3]
        · exact ((hb.trans (hb5.mono (by omega))).trans (hb6.mono (by have := hb5.size; omega))).setCell (Nat.le_refl _) _ |>.setCell (Nat.le_refl _) _
      case measure => have := HK1.out; omega
    · obtain rfl : gk = 0 := by omega
      have hip : i = p := by omega
      clear hik
      have HHp : Hid (wr.heap[h]? = some (.cells (hV p (fun i => (-(D i p), D p i)) p) 36 (0, 0))) := by have h := HH.out; rw [hip] at h; exact h
      clear hip
      go_wp2
      go_ret2
      refine ⟨⟨some ⟨h, 0, none⟩, p, ?_, fun _ => ⟨h, 0, rfl, hhl, fun k x hx j v hv => ?_⟩⟩, ?_⟩
      · rw [HL.out, HTN.out]; rfl
      · have hk : k < p := by have := (List.getElem?_eq_some_iff.1 hx).1; rw [HL.out, HTN.out] at this; exact this
        have hxe : x = (-(D k p), D p k) := by
          unfold htsList at hx
          rw [HR.out, HTN.out] at hx
          rw [List.getElem?_map, List.getElem?_range hk] at hx
          simpa using hx.symm
        subst hxe
        have g1 := hV_get (p := p) (f := fun i => (-(D i p), D p i)) hk
        unfold spV at hv
        rw [Nat.zero_add, cell_of_row _ _ _ _ _ _ HHp.out]
        match j, hv with
        | 0, hv => rw [Nat.add_zero, g1.1]; exact hv
        | 1, hv => rw [g1.2]; exact hv
      · exact (hb3.trans (hb4.mono (by omega))).trans (hb.mono (by omega))

/-- level.Heights answers lvHeights of every survey that reads as plain data. -/
theorem heights_any (s : Sv) (c1 c2 c3 : Nat) (A1 A2 A3 : Option Addr) (w : World)
    (r1 : Rd w w.heap.size A1 shV 4 s.shots) (r2 : Rd w w.heap.size A2 mkV 3 s.marks) (r3 : Rd w w.heap.size A3 shV 4 s.threads) :
    Calls Try.prog 16 #[.agg #[.int .i64 s.n, .slice A1 s.shots.length c1, .slice A2 s.marks.length c2, .slice A3 s.threads.length c3]] w fun e w' =>
      (∃ A c, e = .returned (.tuple #[.slice A (lvHeights s).1.length c, .int .i64 (lvHeights s).2]) ∧ Rd w' w'.heap.size A spV 2 (lvHeights s).1) ∧ Below w.heap.size w w' := by
  cases hok : svOk s
  · exact heights_bad s c1 c2 c3 A1 A2 A3 w r1 r2 r3 hok
  · obtain ⟨D, b, hR⟩ : ∃ D b, svD s = (D, b) := ⟨_, _, rfl⟩
    cases b
    · exact heights_apart s c1 c2 c3 A1 A2 A3 w r1 r2 r3 hok D hR
    · exact heights_fine s c1 c2 c3 A1 A2 A3 w r1 r2 r3 hok D hR

end Go.Proofs.Ytaoonfmcimkmhaa
