/- level.Clash: what it answers of every survey that reads as plain data. Condition: the survey's slices read below the heap's end. -/
import Derived.Test.YtaoonfmcimkmhaaWkO
import Derived.Test.YtaoonfmcimkmhaaLevSingle
import Derived.Test.YtaoonfmcimkmhaaRefEvery
import Derived.Sort.CutIn
set_option linter.unusedVariables false
set_option linter.unusedSimpArgs false
namespace Go.Proofs.Ytaoonfmcimkmhaa
open Go.RowKit Go.Shelf
attribute [local go_sem] Oper.semAt_some

def hidQ (Q : Exit → Act → World → Prop) : Exit → Act → World → Prop := Q
theorem wp_hidQ {P : Program} {c : Code} {Q : Exit → Act → World → Prop} {a : Act} {w : World} (h : Code.wp P c (hidQ Q) a w) : Code.wp P c Q a w := h

set_option maxRecDepth 100000 in
set_option maxHeartbeats 4000000 in
theorem lclash_bad (s : Sv) (c1 c2 c3 : Nat) (A1 A2 A3 : Option Addr) (w : World)
    (r1 : Rd w w.heap.size A1 shV 4 s.shots) (r2 : Rd w w.heap.size A2 mkV 3 s.marks) (r3 : Rd w w.heap.size A3 shV 4 s.threads) (hok : svOk s = false) :
    Calls Try.prog 26 #[.agg #[.int .i64 s.n, .slice A1 s.shots.length c1, .slice A2 s.marks.length c2, .slice A3 s.threads.length c3]] w fun e w' =>
      (∃ A c, e = .returned (.tuple #[.slice A (lvClash s).1.length c, .int .i64 (lvClash s).2]) ∧ Rd w' w'.heap.size A inV 1 (lvClash s).1) ∧ Below w.heap.size w w' := by
  have hb0 : Below w.heap.size w (w.alloc (Obj.cells #[Value.int IntKind.i64 s.n, Value.slice A1 s.shots.length c1, Value.slice A2 s.marks.length c2, Value.slice A3 s.threads.length c3] 26)) := by (repeat' (first | (with_reducible exact Below.refl _ _) | (with_reducible refine Below.alloc ?_ ?_ _) | (with_reducible refine Below.drew ?_) | (with_reducible refine Below.drewN_ ?_ _) | (with_reducible refine Below.setCell ?_ ?_ _) | (with_reducible refine Below.setRow ?_ ?_ _) | (with_reducible refine Below.via ?_ (by with_reducible assumption) ?_) | go_size))
  have R1 := Lib.hid ((r1.below hb0).more hb0.size)
  have R2 := Lib.hid ((r2.below hb0).more hb0.size)
  have R3 := Lib.hid ((r3.below hb0).more hb0.size)
  have P1 := Lib.hid r1
  have P2 := Lib.hid r2
  clear r1 r2 r3
  have HC := Lib.hid (lcheck_any s c1 c2 c3 A1 A2 A3 (w.alloc (Obj.cells #[Value.int IntKind.i64 s.n, Value.slice A1 s.shots.length c1, Value.slice A2 s.marks.length c2, Value.slice A3 s.threads.length c3] 26)) R1.out R2.out R3.out)
  have e1 : svErr s = 10 := by unfold svErr; rw [hok]; rfl
  rw [e1] at HC
  rw [lvClash_bad hok]
  clear e1 hok
  go_enter Try.func26, Try.ntmps26
  go_wp2_with (go_at_call 20; refine HC.out.mono ?_; rintro e w' ⟨rfl, hb1⟩; obtain ⟨hc1, hf1⟩ := bcell hb1; have hz1 := hb1.size; (try simp at hz1); (try have hy1 : w.heap.size < w'.heap.size := by omega))
  go_ret2
  exact ⟨⟨none, 0, rfl, fun h => absurd h (by simp)⟩, by (repeat' (first | (with_reducible exact Below.refl _ _) | (with_reducible refine Below.alloc ?_ ?_ _) | (with_reducible refine Below.drew ?_) | (with_reducible refine Below.drewN_ ?_ _) | (with_reducible refine Below.setCell ?_ ?_ _) | (with_reducible refine Below.setRow ?_ ?_ _) | (with_reducible refine Below.via ?_ (by with_reducible assumption) ?_) | go_size))⟩

set_option maxRecDepth 100000 in
set_option maxHeartbeats 4000000 in
theorem lclash_none (s : Sv) (c1 c2 c3 : Nat) (A1 A2 A3 : Option Addr) (w : World)
    (r1 : Rd w w.heap.size A1 shV 4 s.shots) (r2 : Rd w w.heap.size A2 mkV 3 s.marks) (r3 : Rd w w.heap.size A3 shV 4 s.threads) (hok : svOk s = true) (hf : fitB s (fun _ => false) = true) :
    Calls Try.prog 26 #[.agg #[.int .i64 s.n, .slice A1 s.shots.length c1, .slice A2 s.marks.length c2, .slice A3 s.threads.length c3]] w fun e w' =>
      (∃ A c, e = .returned (.tuple #[.slice A (lvClash s).1.length c, .int .i64 (lvClash s).2]) ∧ Rd w' w'.heap.size A inV 1 (lvClash s).1) ∧ Below w.heap.size w w' := by
  have hb0 : Below w.heap.size w (w.alloc (Obj.cells #[Value.int IntKind.i64 s.n, Value.slice A1 s.shots.length c1, Value.slice A2 s.marks.length c2, Value.slice A3 s.threads.length c3] 26)) := by (repeat' (first | (with_reducible exact Below.refl _ _) | (with_reducible refine Below.alloc ?_ ?_ _) | (with_reducible refine Below.drew ?_) | (with_reducible refine Below.drewN_ ?_ _) | (with_reducible refine Below.setCell ?_ ?_ _) | (with_reducible refine Below.setRow ?_ ?_ _) | (with_reducible refine Below.via ?_ (by with_reducible assumption) ?_) | go_size))
  have R1 := Lib.hid ((r1.below hb0).more hb0.size)
  have R2 := Lib.hid ((r2.below hb0).more hb0.size)
  have R3 := Lib.hid ((r3.below hb0).more hb0.size)
  have P1 := Lib.hid r1
  have P2 := Lib.hid r2
  clear r1 r2 r3
  have HC := Lib.hid (lcheck_any s c1 c2 c3 A1 A2 A3 (w.alloc (Obj.cells #[Value.int IntKind.i64 s.n, Value.slice A1 s.shots.length c1, Value.slice A2 s.marks.length c2, Value.slice A3 s.threads.length c3] 26)) R1.out R2.out R3.out)
  have e1 : svErr s = 0 := by unfold svErr; rw [hok]; rfl
  rw [e1] at HC
  rw [lvClash_none hok hf]
  have HOK := Lib.hid hok
  have hst := wkO_one s.n A1 A2 A3 s.shots.length s.marks.length s.threads.length c1 c2 c3 (fun _ => false)
  have hsz := wkO_size (.int .i64 s.n) (.slice A1 s.shots.length c1) (.slice A2 s.marks.length c2) (.slice A3 s.threads.length c3) (fun _ => false)
  obtain ⟨cs, hcs⟩ : ∃ cs, wkO (.int .i64 s.n) (.slice A1 s.shots.length c1) (.slice A2 s.marks.length c2) (.slice A3 s.threads.length c3) (fun _ => false) = cs := ⟨_, rfl⟩
  have hcs' : (((Try.zeroCells93.setIfInBounds 0 (.int .i64 s.n)).setIfInBounds 1 (.slice A1 s.shots.length c1)).setIfInBounds 2 (.slice A2 s.marks.length c2)).setIfInBounds 3 (.slice A3 s.threads.length c3) = cs := (wkC_eq _ _ _ _).trans ((wkO_none _ _ _ _).trans hcs)
  rw [hcs] at hst hsz
  have HST := Lib.hid hst
  have HI : Hid ((Try.prog.info? 93).map (·.size) = some cs.size) := Lib.hid (by rw [hsz]; exact info93)
  have HZ3 : Hid (Try.zeroCells93.size = cs.size) := Lib.hid (by rw [hsz]; exact zero93_size)
  have HCS := Lib.hid hcs
  have HF := Lib.hid hf
  have HFT := Lib.hid (fun (W : World) (o : Nat → Bool) (hb : Below w.heap.size w W) (b : Bool) (h : fitB s o = b) => (show Calls Try.prog 60 #[.agg (wkO (.int .i64 s.n) (.slice A1 s.shots.length c1) (.slice A2 s.marks.length c2) (.slice A3 s.threads.length c3) o)] W fun e w' => e = .returned (.bool b) ∧ Below W.heap.size W w' by rw [← h]; exact fits_any _ s o 0 W (wkO_all W s c1 c2 c3 A1 A2 A3 hok o ((P1.out.below hb).more hb.size) ((P2.out.below hb).more hb.size))))
  have HFC := Lib.hid (fun (W : World) (hb : Below w.heap.size w W) (b : Bool) (h : fitB s (fun _ => false) = b) => (show Calls Try.prog 60 #[.agg cs] W fun e w' => e = .returned (.bool b) ∧ Below W.heap.size W w' by rw [← hcs]; exact HFT.out W _ hb b h))
  clear e1 hok hst hsz hcs hf
  go_enter Try.func26, Try.ntmps26
  have tok0 : True := trivial
  go_wp2_with (first | (go_at_call 20; refine HC.out.mono ?_; rintro e w' ⟨rfl, hb1⟩; obtain ⟨hc1, hf1⟩ := bcell hb1; have hz1 := hb1.size; (try simp at hz1); (try have hy1 : w.heap.size < w'.heap.size := by omega)) | (have _t := tok0; refine wpList_store_row rfl 93 (.tmp 5) (.tmp 14) rfl w'.heap.size cs rfl rfl 93 Try.zeroCells93 (heap_alloc_new _ _) HI.out HZ3.out HST.out ?_; rw [World.setRow_alloc_new]; clear hcs' tok0 _t) | (refine wpList_load_row rfl 93 (.tmp 5) rfl w'.heap.size rfl 93 cs (0, 0) _ (heap_alloc_new _ _) Try.underlying93 rfl HI.out ?_) | (go_at_call 60; refine (HFC.out _ (by (repeat' (first | (with_reducible exact Below.refl _ _) | (with_reducible refine Below.alloc ?_ ?_ _) | (with_reducible refine Below.drew ?_) | (with_reducible refine Below.drewN_ ?_ _) | (with_reducible refine Below.setCell ?_ ?_ _) | (with_reducible refine Below.setRow ?_ ?_ _) | (with_reducible refine Below.via ?_ (by with_reducible assumption) ?_) | go_size))) true HF.out).mono ?_; rintro e w2 ⟨rfl, hb2⟩))
  go_ret2
  exact ⟨⟨none, 0, rfl, fun h => absurd h (by simp)⟩, by (repeat' (first | (with_reducible exact Below.refl _ _) | (with_reducible refine Below.alloc ?_ ?_ _) | (with_reducible refine Below.drew ?_) | (with_reducible refine Below.drewN_ ?_ _) | (with_reducible refine Below.setCell ?_ ?_ _) | (with_reducible refine Below.setRow ?_ ?_ _) | (with_reducible refine Below.via ?_ (by with_reducible assumption) ?_) | go_size))⟩

theorem own_cap {α : Type} {w : World} {base : Nat} {e : TypeId} {enc : α → List Value} {sz : Nat} {l : List α} {A : Option Addr} {n c : Nat} (h : Own w base e (.slice A n c) enc sz l) : n ≤ c := by
  rcases h.2 with ⟨h1, h0⟩ | ⟨g, cap, cur, h1, hb, hg, h3, _⟩
  · injection h1 with _ e1 e2
    omega
  · injection h1 with _ e1 e2
    omega

set_option maxRecDepth 100000 in
set_option maxHeartbeats 4000000 in
theorem lclash_someC (s : Sv) (c1 c2 c3 : Nat) (A1 A2 A3 : Option Addr) (w : World)
    (r1 : Rd w w.heap.size A1 shV 4 s.shots) (r2 : Rd w w.heap.size A2 mkV 3 s.marks) (r3 : Rd w w.heap.size A3 shV 4 s.threads) (hok : svOk s = true) (hf : fitB s (fun _ => false) = false) :
    Calls Try.prog 26 #[.agg #[.int .i64 s.n, .slice A1 s.shots.length c1, .slice A2 s.marks.length c2, .slice A3 s.threads.length c3]] w fun e w' =>
      (∃ A c, e = .returned (.tuple #[.slice A (lvClash s).1.length c, .int .i64 (lvClash s).2]) ∧ (lvClash s).1.length ≤ c ∧ Rd w' w'.heap.size A inV 1 (lvClash s).1) ∧ Below w.heap.size w w' := by
  have HSP := Lib.hid (svOk_spec hok)
  have hrd := rdAt_ok hok
  have hKw := (wkO_all w s c1 c2 c3 A1 A2 A3 hok (fun _ => false) r1 r2).at_
  have hb0 : Below w.heap.size w (w.alloc (Obj.cells #[Value.int IntKind.i64 s.n, Value.slice A1 s.shots.length c1, Value.slice A2 s.marks.length c2, Value.slice A3 s.threads.length c3] 26)) := by (repeat' (first | (with_reducible exact Below.refl _ _) | (with_reducible refine Below.alloc ?_ ?_ _) | (with_reducible refine Below.drew ?_) | (with_reducible refine Below.drewN_ ?_ _) | (with_reducible refine Below.setCell ?_ ?_ _) | (with_reducible refine Below.setRow ?_ ?_ _) | (with_reducible refine Below.via ?_ (by with_reducible assumption) ?_) | go_size))
  have R1 := Lib.hid ((r1.below hb0).more hb0.size)
  have R2 := Lib.hid ((r2.below hb0).more hb0.size)
  have R3 := Lib.hid ((r3.below hb0).more hb0.size)
  have P1 := Lib.hid r1
  have P2 := Lib.hid r2
  clear r1 r2 r3
  have HC := Lib.hid (lcheck_any s c1 c2 c3 A1 A2 A3 (w.alloc (Obj.cells #[Value.int IntKind.i64 s.n, Value.slice A1 s.shots.length c1, Value.slice A2 s.marks.length c2, Value.slice A3 s.threads.length c3] 26)) R1.out R2.out R3.out)
  have e1 : svErr s = 0 := by unfold svErr; rw [hok]; rfl
  rw [e1] at HC
  rw [lvClash_some hok hf]
  obtain ⟨L, hL⟩ : ∃ L, clL (fitB s) (s.shots.length + s.marks.length) = L := ⟨_, rfl⟩
  rw [hL]
  have HL := Lib.hid hL
  clear hL
  have HOK := Lib.hid hok
  have hst := wkO_one s.n A1 A2 A3 s.shots.length s.marks.length s.threads.length c1 c2 c3 (fun _ => false)
  have hsz := wkO_size (.int .i64 s.n) (.slice A1 s.shots.length c1) (.slice A2 s.marks.length c2) (.slice A3 s.threads.length c3) (fun _ => false)
  obtain ⟨cs, hcs⟩ : ∃ cs, wkO (.int .i64 s.n) (.slice A1 s.shots.length c1) (.slice A2 s.marks.length c2) (.slice A3 s.threads.length c3) (fun _ => false) = cs := ⟨_, rfl⟩
  have hcs' : (((Try.zeroCells93.setIfInBounds 0 (.int .i64 s.n)).setIfInBounds 1 (.slice A1 s.shots.length c1)).setIfInBounds 2 (.slice A2 s.marks.length c2)).setIfInBounds 3 (.slice A3 s.threads.length c3) = cs := (wkC_eq _ _ _ _).trans ((wkO_none _ _ _ _).trans hcs)
  rw [hcs] at hst hsz
  have HST := Lib.hid hst
  have HI : Hid ((Try.prog.info? 93).map (·.size) = some cs.size) := Lib.hid (by rw [hsz]; exact info93)
  have HZ3 : Hid (Try.zeroCells93.size = cs.size) := Lib.hid (by rw [hsz]; exact zero93_size)
  have HCS := Lib.hid hcs
  have HF := Lib.hid hf
  have HFT := Lib.hid (fun (W : World) (o : Nat → Bool) (hb : Below w.heap.size w W) (b : Bool) (h : fitB s o = b) => (show Calls Try.prog 60 #[.agg (wkO (.int .i64 s.n) (.slice A1 s.shots.length c1) (.slice A2 s.marks.length c2) (.slice A3 s.threads.length c3) o)] W fun e w' => e = .returned (.bool b) ∧ Below W.heap.size W w' by rw [← h]; exact fits_any _ s o 0 W (wkO_all W s c1 c2 c3 A1 A2 A3 hok o ((P1.out.below hb).more hb.size) ((P2.out.below hb).more hb.size))))
  have HFC := Lib.hid (fun (W : World) (hb : Below w.heap.size w W) (b : Bool) (h : fitB s (fun _ => false) = b) => (show Calls Try.prog 60 #[.agg cs] W fun e w' => e = .returned (.bool b) ∧ Below W.heap.size W w' by rw [← hcs]; exact HFT.out W _ hb b h))
  clear e1 hok hst hsz hcs hf
  rw [HCS.out] at hKw
  have HKW := Lib.hid hKw
  have HRD := Lib.hid hrd
  clear hKw hrd
  obtain ⟨i0, hi0, hz0, hz1, hz2⟩ := info_parts infoInt
  have I0 := Lib.hid (And.intro hi0 (And.intro hz0 (And.intro hz1 hz2)))
  clear hi0 hz0 hz1 hz2
  refine (callsIn_wide (n := 3)).1 ?_
  refine callsIn_of_wp_marks Try.func26 rfl trivial ?_ rfl
  simp only [Try.ntmps26, List.size_toArray, List.length_cons, List.length_nil, Nat.reduceAdd, Nat.reduceSub, Array.replicate_succ, Array.replicate_zero, List.push_toArray, List.append_toArray, List.nil_append, List.cons_append]
  refine wpIn_wide.2 ?_
  have tok0 : True := trivial
  go_upto_region 5 with (first | (go_at_call 20; refine HC.out.mono ?_; rintro e w' ⟨rfl, hb1⟩; obtain ⟨hc1, hf1⟩ := bcell hb1; have hz1 := hb1.size; (try simp at hz1); (try have hy1 : w.heap.size < w'.heap.size := by omega)) | (have _t := tok0; refine wpList_store_row rfl 93 (.tmp 5) (.tmp 14) rfl w'.heap.size cs rfl rfl 93 Try.zeroCells93 (heap_alloc_new _ _) HI.out HZ3.out HST.out ?_; rw [World.setRow_alloc_new]; clear hcs' tok0 _t))
  go_upto_region 7 with (first | (refine wpList_load_row rfl 93 (.tmp 5) rfl w'.heap.size rfl 93 cs (0, 0) _ (heap_alloc_new _ _) Try.underlying93 rfl HI.out ?_) | (go_at_call 60; refine (HFC.out _ (by (repeat' (first | (with_reducible exact Below.refl _ _) | (with_reducible refine Below.alloc ?_ ?_ _) | (with_reducible refine Below.drew ?_) | (with_reducible refine Below.drewN_ ?_ _) | (with_reducible refine Below.setCell ?_ ?_ _) | (with_reducible refine Below.setRow ?_ ?_ _) | (with_reducible refine Below.via ?_ (by with_reducible assumption) ?_) | go_size))) false HF.out).mono ?_; rintro e w2 ⟨rfl, hb2⟩; have HBW := Lib.hid ((hb2.block w'.heap.size (by simp)).trans (heap_alloc_new _ _)); have hz2 := hb2.size; simp at hz2))
  go_upto_region 8 with fail
  obtain ⟨w2b, hw2b⟩ : ∃ w2b, w2.alloc (.cells #[.slice none 0 0] 46) = w2b := ⟨_, rfl⟩
  rw [hw2b]
  have HL2 := Lib.hid (show w2b.heap[w'.heap.size]? = some (.cells cs 93 (0, 0)) by rw [← hw2b]; exact (Below.heap_alloc _ _ _ (by omega)).trans HBW.out)
  have HWB := Lib.hid hw2b
  clear hw2b
  go_wp2_with (first | (refine wpList_load_row rfl 93 (.tmp 5) rfl w'.heap.size rfl 93 cs (0, 0) _ HL2.out Try.underlying93 rfl HI.out ?_) | (go_at_call 61; refine (readings_any cs _).mono ?_; rintro e w5 ⟨rfl, rfl⟩))
  obtain ⟨w6, hw6⟩ : ∃ w6, w2b.alloc (.cells cs 93) = w6 := ⟨_, rfl⟩
  rw [hw6]
  rw [← HWB.out] at hw6
  obtain ⟨Bn, hBn⟩ : ∃ Bn, w2b.heap.size = Bn := ⟨_, rfl⟩
  rw [hBn]
  obtain ⟨gn, hgn⟩ : ∃ gn, w2.heap.size = gn := ⟨_, rfl⟩
  obtain ⟨gw, hgw⟩ : ∃ gw, w'.heap.size = gw := ⟨_, rfl⟩
  have hBg : Bn = gn + 1 := by rw [← hBn, ← HWB.out, ← hgn]; simp
  have hz6 : w6.heap.size = Bn + 1 := by rw [hBg, ← hw6, ← hgn]; simp
  have hgwn : gw < gn := by omega
  have hwgw : w.heap.size < gw := by omega
  have hb6 : Below w.heap.size w w6 := by rw [← hw6]; (repeat' (first | (with_reducible exact Below.refl _ _) | (with_reducible refine Below.alloc ?_ ?_ _) | (with_reducible refine Below.drew ?_) | (with_reducible refine Below.drewN_ ?_ _) | (with_reducible refine Below.setCell ?_ ?_ _) | (with_reducible refine Below.setRow ?_ ?_ _) | (with_reducible refine Below.via ?_ (by with_reducible assumption) ?_) | go_size))
  have h61 : w6.heap[gw]? = some (.cells cs 93 (0, 0)) := by rw [← hw6, ← hgw]; exact (Below.heap_alloc _ _ _ (by simp; omega)).trans ((Below.heap_alloc _ _ _ (by omega)).trans HBW.out)
  have h62 : w6.heap[gn]? = some (.cells #[.slice none 0 0] 46 (0, 0)) := by rw [← hw6, ← hgn]; exact (Below.heap_alloc _ _ _ (by simp)).trans (heap_alloc_new _ _)
  have h63 : w6.heap[Bn]? = some (.cells cs 93 (0, 0)) := by
    rw [← hw6, ← hBn, HWB.out]
    exact heap_alloc_new _ _
  rw [hgn, hgw]
  have HK6 := Lib.hid (HKW.out.below hb6)
  have H61 := Lib.hid (show w6.heap[gw]? = some (.cells (wkO (.int .i64 s.n) (.slice A1 s.shots.length c1) (.slice A2 s.marks.length c2) (.slice A3 s.threads.length c3) (fun _ => false)) 93 (0, 0)) by rw [HCS.out]; exact h61)
  have H62 := Lib.hid h62
  have H63 := Lib.hid h63
  have HB6 := Lib.hid hb6
  have HZ6 := Lib.hid hz6
  have hBw6 : Bn < w6.heap.size := by omega
  have hnB : gn < Bn := by omega
  clear hBg hz6 h61 h62 h63 hb6 hw6 hgn hgw hBn HL2 HWB HBW hz2 hb2 hb1 hc1 hf1 hz1 hy1 hb0 HKW HC R1 R2 R3 w2b w2 w'
  refine wp_rangeH (gf := 73) (lb := #[.pointer (some ⟨Bn, 0, none⟩)]) rfl (enters_of Try.func73 (by kernel_rfl) rfl)
    (readings_stops (fun x : Rdg s.n.toNat => rdV x.1) (rdOf s.n.toNat s) 2 (by omega) Bn w.heap.size cs s (fun k hk => by unfold rdOf; rw [dif_pos (HRD.out k hk).1]) HSP.out.1.2.2.1 HSP.out.1.2.2.2.1 w6 HB6.out.size H63.out HK6.out)
    kpB_t (kpB_b HB6.out.size hBw6) (fun _ => rfl)
    (fun pre W => ((∃ v, (W.heap[gw]? = some (.cells (wkO (.int .i64 s.n) (.slice A1 s.shots.length c1) (.slice A2 s.marks.length c2) (.slice A3 s.threads.length c3) (clFold (fitB s) (pre.map (·.1.1))).1) 93 (0, 0)) ∧ W.heap[gn]? = some (.cells #[v] 46 (0, 0))) ∧ Own W w6.heap.size 3 v inV 1 (clFold (fitB s) (pre.map (·.1.1))).2) ∧ W.heap[Bn]? = some (.cells cs 93 (0, 0))) ∧ Below w.heap.size w W)
    (fun _ _ _ => False)
    (OwnFrom.and (fun pre X Y row hs hg hr => by obtain ⟨⟨v, ⟨h1, h2⟩, h3⟩, h4⟩ := hs; exact ⟨⟨v, ⟨cells_from hg hr h1, cells_from hg hr h2⟩, own_from hg hr h3⟩, cells_from hg hr h4⟩) (ownFrom_below (Nat.le_refl _) HB6.out.size))
    (fun _ _ _ _ _ hs _ _ => hs)
    ⟨⟨⟨_, ⟨H61.out, H62.out⟩, Own.nil_ _ _ _ _ _⟩, H63.out⟩, HB6.out⟩
    (fun a x a' W => a' = { tmps := ((a.tmps.setIfInBounds 19 (.int .i64 (x.1.1 : Int))).setIfInBounds 20 (.agg #[.int .i64 x.1.2.f, .int .i64 x.1.2.t, .int .i64 x.1.2.lo, .int .i64 x.1.2.hi])).setIfInBounds 7 (.int .i64 (x.1.1 : Int)), defers := [] })
    (fun x a' _ X Y row hs hg hr => hs)
    ?assign ?body ?done ?stop
  case stop =>
    intro D c pre W _ _ h _
    exact h.elim
  case assign =>
    rintro l pre x W K hI hK
    have HK7 := Lib.hid hK
    have HII := Lib.hid hI
    clear hK hI
    dsimp only [rdV]
    gi_wp2
    exact HK7.out _ _ (KeepsFrom.refl _ _) ⟨Below.refl _ _, rfl⟩ HII.out rfl
  case done =>
    rintro D' ys W hD rfl ⟨⟨⟨v, ⟨i1, i2⟩, i3⟩, i4⟩, i5⟩ hKD
    have hmap : (upto (rdOf s.n.toNat s) (s.shots.length + s.marks.length)).map (·.1.1) = List.range (s.shots.length + s.marks.length) := by
      unfold upto
      rw [List.map_map]
      refine (List.map_congr_left (g := id) fun k hk => ?_).trans (List.map_id _)
      have hr := (HRD.out k (List.mem_range.1 hk)).1
      show (rdOf s.n.toNat s k).1.1 = k
      unfold rdOf
      rw [dif_pos hr]
      rfl
    rw [hmap, clFold_range] at i3
    dsimp only at i3
    rw [HL.out] at i3
    obtain ⟨A, c, rfl⟩ := i3.form
    have I3 := Lib.hid i3
    have HKD := Lib.hid hKD
    have xn : W.cell? ⟨gn, 0, none⟩ = some (.slice A L.length c) := cell_of_row W gn 0 _ _ _ i2
    clear i1 i2 i3 i4 hKD hmap
    go_wp2
    refine ⟨by simp, .inl ⟨_, _, rfl, run_takeDeferred HKD.out, ?_⟩⟩
    refine ⟨_, results_tmp2 rfl _ _ _, ⟨A, c, rfl, own_cap I3.out, ?_⟩, ?_⟩
    · exact (own_from (B := 0) (grownBy_putObj' W D' _) (fun r hr => by injection hr with hr; subst hr; exact ⟨by omega, _, HKD.out, rfl⟩) I3.out).rd inV_len'
    · exact i5.trans (belowK_b (w := w) (Nat.le_refl _) _ D' _ _ (by have := HB6.out.size; omega) HKD.out rfl rfl)
  case body =>
    rintro l pre ⟨⟨k, sh⟩, hx⟩ a' W hl hr ⟨⟨⟨v, ⟨i1, i2⟩, i3⟩, i4⟩, i5⟩ rfl hlt
    have hlW : l < W.heap.size := by obtain ⟨r, hr⟩ := hr; exact (Array.getElem?_eq_some_iff.1 hr).1
    have hk80 : k < 80 := by unfold rokB at hx; rw [decide_eq_true_eq] at hx; exact hx.1
    have hkI : (k : Int) < 80 := by omega
    have hlen := clFold_len (fitB s) (pre.map (·.1.1))
    have EST := Lib.hid (show clFold (fitB s) ((pre ++ [(⟨(k, sh), hx⟩ : Rdg s.n.toNat)]).map (·.1.1)) = clStep (fitB s) (clFold (fitB s) (pre.map (·.1.1))) k by rw [List.map_append, List.map_cons, List.map_nil, clFold_snoc])
    rw [List.length_map] at hlen
    have hpre : pre.length ≤ 80 := by have := HSP.out.1; omega
    generalize clFold (fitB s) (pre.map (·.1.1)) = st at *
    obtain ⟨so, sl⟩ := st
    dsimp only at i1 i3 hlen
    have hll : sl.length ≤ 80 := by omega
    have hglw : gw < W.heap.size := (Array.getElem?_eq_some_iff.1 i1).1
    have hnlw : gn < W.heap.size := (Array.getElem?_eq_some_iff.1 i2).1
    have hBlw : Bn < W.heap.size := (Array.getElem?_eq_some_iff.1 i4).1
    have f10 := frozen_of_row W gw (4 + k) _ _ i1
    have x10 := (cell_of_row W gw (4 + k) _ _ _ i1).trans (wkO_out _ _ _ _ _ k hk80)
    have hs1 := heap_setCell_same W gw (4 + k) _ _ (.bool true) i1
    rw [wkO_set _ _ _ _ _ hk80] at hs1
    obtain ⟨W1, hW1⟩ : ∃ W1, W.setCell ⟨gw, 4 + k, none⟩ (.bool true) = W1 := ⟨_, rfl⟩
    rw [hW1] at hs1
    have hoth : ∀ b, b ≠ gw → W1.heap[b]? = W.heap[b]? := fun b hb => by rw [← hW1]; exact heap_setCell_other W _ b _ hb
    have hkf1 : KeepsFrom w6.heap.size W W1 := by rw [← hW1]; exact (KeepsOthers.setCell _ _ _).from _
    have hbl1 : Below w.heap.size W W1 := by rw [← hW1]; exact (Below.refl _ _).setCell (p := ⟨gw, 4 + k, none⟩) (by show _ ≤ gw; omega) _
    have hw11 : W1.heap.size ≤ W.heap.size ∧ W.heap.size ≤ W1.heap.size := by rw [← hW1]; simp
    have H1 := Lib.hid hs1
    have N1 := Lib.hid ((hoth gn (by omega)).trans i2)
    have B1' := Lib.hid ((hoth Bn (by omega)).trans i4)
    have O1 : Hid (Own W1 w6.heap.size 3 v inV 1 sl) := Lib.hid (by rw [← hW1]; exact i3.set_ (p := ⟨gw, 4 + k, none⟩) (by show gw < _; omega) _)
    have HWW := Lib.hid hW1
    have HIo := Lib.hid (show (Try.prog.info? 93).map (·.size) = some (wkO (.int .i64 s.n) (.slice A1 s.shots.length c1) (.slice A2 s.marks.length c2) (.slice A3 s.threads.length c3) (upB so k true)).size by rw [wkO_size]; exact info93)
    have hb51 : Below w.heap.size w W1 := i5.trans hbl1
    have I4S := Lib.hid i4.symm
    clear hs1 hoth hW1 i1 i2 i3 i4 hr
    gi_upto_region 11 with fail
    rw [HWW.out]
    clear f10 x10 HWW
    cases hF : fitB s (upB so k true)
    · have HF1 := Lib.hid hF
      have ES := Lib.hid (EST.out.trans (show clStep (fitB s) (so, sl) k = (upB so k true, sl) by unfold clStep; dsimp only; rw [if_neg (by rw [hF]; simp)]))
      clear hF EST
      gi_wp2_with (first | (refine wpListIn_load_row rfl 93 (.tmp 5) rfl gw rfl 93 _ (0, 0) _ H1.out Try.underlying93 rfl HIo.out ?_) | (refine And.intro (show Fence.wide.fn 60 from trivial) ?_; refine (CallsIn.inRound l (callsIn_wide.2 (HFT.out W1 _ hb51 false HF1.out))).mono ?_; rintro e w2 ⟨rfl, hb2⟩))
      refine ⟨hkf1.trans (kf_below hb2), ⟨hbl1.trans (hb2.mono (by omega)), (hb2.block Bn (by omega)).trans (B1'.out.trans ?_)⟩, ⟨⟨v, ⟨?_, (hb2.block gn (by omega)).trans N1.out⟩, ?_⟩, (hb2.block Bn (by omega)).trans B1'.out⟩, hb51.trans (hb2.mono (by omega))⟩
      · exact I4S.out
      · rw [ES.out]
        exact (hb2.block gw (by omega)).trans H1.out
      · rw [ES.out]
        exact O1.out.below hb2
    · have HF1 := Lib.hid hF
      have ES := Lib.hid (EST.out.trans (show clStep (fitB s) (so, sl) k = (upB (upB so k true) k false, sl ++ [(k : Int)]) by unfold clStep; dsimp only; rw [if_pos hF]))
      clear hF EST
      gi_upto_region 13 with (first | (refine wpListIn_load_row rfl 93 (.tmp 5) rfl gw rfl 93 _ (0, 0) _ H1.out Try.underlying93 rfl HIo.out ?_) | (refine And.intro (show Fence.wide.fn 60 from trivial) ?_; refine (CallsIn.inRound l (callsIn_wide.2 (HFT.out W1 _ hb51 true HF1.out))).mono ?_; rintro e w2 ⟨rfl, hb2⟩; have R2w := (hb2.block gw (by omega)).trans H1.out; have f12 := frozen_of_row w2 gw (4 + k) _ _ R2w; have x12 := (cell_of_row w2 gw (4 + k) _ _ _ R2w).trans (wkO_out _ _ _ _ _ k hk80); have RW2 := Lib.hid R2w; clear R2w))
      have hs3 := heap_setCell_same w2 gw (4 + k) _ _ (.bool false) RW2.out
      rw [wkO_set _ _ _ _ _ hk80] at hs3
      obtain ⟨W3, hW3⟩ : ∃ W3, w2.setCell ⟨gw, 4 + k, none⟩ (.bool false) = W3 := ⟨_, rfl⟩
      rw [hW3]
      rw [hW3] at hs3
      have hoth3 : ∀ b, b ≠ gw → W3.heap[b]? = w2.heap[b]? := fun b hb => by rw [← hW3]; exact heap_setCell_other w2 _ b _ hb
      have hkf3 : KeepsFrom w6.heap.size W W3 := by rw [← hW3]; exact (hkf1.trans (kf_below hb2)).trans ((KeepsOthers.setCell _ _ _).from _)
      have hbl3 : Below w.heap.size W W3 := by rw [← hW3]; exact (hbl1.trans (hb2.mono (by omega))).setCell (p := ⟨gw, 4 + k, none⟩) (by show _ ≤ gw; omega) _
      have hz2 := hb2.size
      have hz3 : W3.heap.size ≤ w2.heap.size ∧ w2.heap.size ≤ W3.heap.size := by rw [← hW3]; simp
      have H3 := Lib.hid hs3
      have N3 := Lib.hid ((hoth3 gn (by omega)).trans ((hb2.block gn (by omega)).trans N1.out))
      have B3 := Lib.hid ((hoth3 Bn (by omega)).trans ((hb2.block Bn (by omega)).trans B1'.out))
      have O2 := Lib.hid (O1.out.below hb2)
      have O3 : Hid (Own W3 w6.heap.size 3 v inV 1 sl) := Lib.hid (by rw [← hW3]; exact O2.out.set_ (p := ⟨gw, 4 + k, none⟩) (by show gw < _; omega) _)
      clear hs3 hoth3 hW3 f12 x12 RW2 O2 hb2
      have xn : W3.cell? ⟨gn, 0, none⟩ = some v := cell_of_row W3 gn 0 _ _ _ N3.out
      gi_wp2_with (gi_at_builtin; refine wpListIn_append_rd rfl (.tmp 29) (.tmp 31) 46 rfl i0 _ 8 Try.underlying46 I0.out.1 I0.out.2.1 I0.out.2.2.1 I0.out.2.2.2 rfl (by omega) inV_len' inV_one' rfl (O3.out.below ((Below.refl _ _).alloc (Nat.le_refl _) _)) rfl rfl (Rd.one _ (k : Int) #[.int .i64 k] 3 rfl) (by first | omega | (simp <;> omega)) (by omega) (by first | omega | (simp <;> omega)) ?_; intro v' w4 ho4 hg4 hat4; obtain ⟨AV, cV, hV⟩ := ho4.form; generalize (sl ++ [(k : Int)]).length = nV at hV; subst hV; (have hg5 : World.grownBy (W3.alloc (.cells #[.int .i64 (k : Int)] 3)) w4 v.ownBlock := hg4); (have hne : v.ownBlock ≠ some gn := fun e => absurd (O3.out.lt gn e).1 (by omega)); (have hn4 := (hg5.block gn (by simp <;> omega) (fun e => hne e.symm)).trans ((Below.heap_alloc _ _ _ (by omega)).trans N3.out)); have fz := frozen_of_row w4 gn 0 _ _ hn4; (have xz : w4.cell? ⟨gn, 0, none⟩ = some v := cell_of_row w4 gn 0 _ _ _ hn4); have HN4 := Lib.hid hn4; have HO4 := Lib.hid ho4; have HG5 := Lib.hid hg5; clear ho4 hg4 hg5 hat4 hn4 hne)
      have hz4 := HG5.out.size
      simp at hz4
      have hw4o : ∀ b, b < W3.heap.size → v.ownBlock ≠ some b → w4.heap[b]? = W3.heap[b]? := fun b h1 h2 => (HG5.out.block b (by simp <;> omega) (fun e => h2 e.symm)).trans (Below.heap_alloc _ _ _ h1)
      have hnon : ∀ b, b < w6.heap.size → v.ownBlock ≠ some b := fun b hb e => absurd (O3.out.lt b e).1 (by omega)
      have hkf4 : KeepsFrom w6.heap.size W (w4.setCell ⟨gn, 0, none⟩ (.slice AV nV cV)) := ((hkf3.trans ((KeepsOthers.alloc _ _).from _)).trans (kf_grown HG5.out (O3.out.below ((Below.refl _ _).alloc (Nat.le_refl _) _)).cells_)).trans ((KeepsOthers.setCell _ _ _).from _)
      have hbl4 : Below w.heap.size W (w4.setCell ⟨gn, 0, none⟩ (.slice AV nV cV)) := (((hbl3.alloc (by omega) _).trans (below_grown HG5.out (by simp <;> omega) (fun b hb => by have := (O3.out.lt b hb).1; omega)))).setCell (p := ⟨gn, 0, none⟩) (by show _ ≤ gn; omega) _
      have hfin : ∀ b, b ≠ gn → (w4.setCell ⟨gn, 0, none⟩ (.slice AV nV cV)).heap[b]? = w4.heap[b]? := fun b hb => heap_setCell_other w4 _ b _ hb
      refine ⟨hkf4, ⟨hbl4, (hfin Bn (by omega)).trans ((hw4o Bn (by omega) (hnon Bn hBw6)).trans (B3.out.trans I4S.out))⟩, ⟨⟨.slice AV nV cV, ⟨?_, ?_⟩, ?_⟩, (hfin Bn (by omega)).trans ((hw4o Bn (by omega) (hnon Bn hBw6)).trans B3.out)⟩, i5.trans hbl4⟩
      · rw [ES.out]
        exact (hfin gw (by omega)).trans ((hw4o gw (by omega) (hnon gw (by omega))).trans H3.out)
      · exact heap_setCell_same w4 gn 0 _ _ _ HN4.out
      · rw [ES.out]
        exact HO4.out.set_ (p := ⟨gn, 0, none⟩) (by show gn < _; omega) _


set_option maxRecDepth 100000 in
set_option maxHeartbeats 4000000 in
theorem lclash_some (s : Sv) (c1 c2 c3 : Nat) (A1 A2 A3 : Option Addr) (w : World)
    (r1 : Rd w w.heap.size A1 shV 4 s.shots) (r2 : Rd w w.heap.size A2 mkV 3 s.marks) (r3 : Rd w w.heap.size A3 shV 4 s.threads) (hok : svOk s = true) (hf : fitB s (fun _ => false) = false) :
    Calls Try.prog 26 #[.agg #[.int .i64 s.n, .slice A1 s.shots.length c1, .slice A2 s.marks.length c2, .slice A3 s.threads.length c3]] w fun e w' =>
      (∃ A c, e = .returned (.tuple #[.slice A (lvClash s).1.length c, .int .i64 (lvClash s).2]) ∧ Rd w' w'.heap.size A inV 1 (lvClash s).1) ∧ Below w.heap.size w w' :=
  (lclash_someC s c1 c2 c3 A1 A2 A3 w r1 r2 r3 hok hf).mono fun e w' ⟨⟨A, c, h1, _, h2⟩, hb⟩ => ⟨⟨A, c, h1, h2⟩, hb⟩

theorem lclash_any (s : Sv) (c1 c2 c3 : Nat) (A1 A2 A3 : Option Addr) (w : World)
    (r1 : Rd w w.heap.size A1 shV 4 s.shots) (r2 : Rd w w.heap.size A2 mkV 3 s.marks) (r3 : Rd w w.heap.size A3 shV 4 s.threads) :
    Calls Try.prog 26 #[.agg #[.int .i64 s.n, .slice A1 s.shots.length c1, .slice A2 s.marks.length c2, .slice A3 s.threads.length c3]] w fun e w' =>
      (∃ A c, e = .returned (.tuple #[.slice A (lvClash s).1.length c, .int .i64 (lvClash s).2]) ∧ Rd w' w'.heap.size A inV 1 (lvClash s).1) ∧ Below w.heap.size w w' := by
  cases hok : svOk s
  · exact lclash_bad s c1 c2 c3 A1 A2 A3 w r1 r2 r3 hok
  · cases hf : fitB s (fun _ => false)
    · exact lclash_some s c1 c2 c3 A1 A2 A3 w r1 r2 r3 hok hf
    · exact lclash_none s c1 c2 c3 A1 A2 A3 w r1 r2 r3 hok hf

end Go.Proofs.Ytaoonfmcimkmhaa
