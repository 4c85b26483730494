/- aflajref01.Loop: what it answers of every survey that reads as plain data, and of every list of numbers. Conditions: the slices read below the heap's end, and the list isn't longer than 1,000,000,000. -/
import Derived.Test.YtbolfjlfpkgfiaaRefSays
import Derived.Test.YtbolfjlfpkgfiaaFloatY
import Derived.Test.YtbolfjlfpkgfiaaLevLoop
import Derived.Test.YtbolfjlfpkgfiaaRefCheck
set_option linter.unusedVariables false
set_option linter.unusedSimpArgs false
namespace Go.Proofs.Ytbolfjlfpkgfiaa
open Go.RowKit
attribute [local go_sem] wx_cell wx_frozen

theorem resRLoop (tmps : Array Value) (W : World) (g : Nat) (x y : Value) (e : Value) (h1 : tmps.getD 4 undef = .pointer (some ⟨g, 0, none⟩)) (h2 : tmps.getD 5 undef = e) (hM : W.heap[g]? = some (.cells #[x, y] 36 (0, 0))) :
    (results Try.f25 tmps).run Try.prog W = .ok (.tuple #[.agg #[x, y], e]) W := by
  rw [results_cell_tmp Try.results25, h1, h2]
  simp only [asAddr, Sem.run_pure, Result.andThen_ok]
  rw [run_loadVar_row W g _ _ #[x, y] (0, 0) _ hM Try.underlying36 rfl info36']
  rfl

set_option maxRecDepth 100000 in
set_option maxHeartbeats 8000000 in
theorem rloop_bad (s : Sv) (xs : List Int) (cp c1 c2 c3 : Nat) (AP A1 A2 A3 : Option Addr) (w : World)
    (r1 : Rd w w.heap.size A1 shV 4 s.shots) (r2 : Rd w w.heap.size A2 mkV 3 s.marks) (r3 : Rd w w.heap.size A3 shV 4 s.threads) (rp : Rd w w.heap.size AP inV 1 xs) (hl9 : xs.length ≤ 1000000000) (hok : svOk s = false) :
    Calls Try.prog 25 #[.agg #[.int .i64 s.n, .slice A1 s.shots.length c1, .slice A2 s.marks.length c2, .slice A3 s.threads.length c3], .slice AP xs.length cp] w fun e w' =>
      e = .returned (.tuple #[.agg #[.int .i64 (lvLoop s xs).1.1, .int .i64 (lvLoop s xs).1.2], .int .i64 (lvLoop s xs).2]) ∧ Below w.heap.size w w' := by
  have hb0 : Below w.heap.size w ((w.alloc (Obj.cells #[Value.int IntKind.i64 s.n, Value.slice A1 s.shots.length c1, Value.slice A2 s.marks.length c2, Value.slice A3 s.threads.length c3] 26)).alloc (Obj.cells #[Value.int IntKind.i64 0, Value.int IntKind.i64 0] 36)) := by (repeat' (first | (with_reducible exact Below.refl _ _) | (with_reducible refine Below.alloc ?_ ?_ _) | (with_reducible refine Below.drew ?_) | (with_reducible refine Below.drewN_ ?_ _) | (with_reducible refine Below.setCell ?_ ?_ _) | (with_reducible refine Below.setRow ?_ ?_ _) | (with_reducible refine Below.via ?_ (by with_reducible assumption) ?_) | go_size))
  have R1 := Lib.hid ((r1.below hb0).more hb0.size)
  have R2 := Lib.hid ((r2.below hb0).more hb0.size)
  have R3 := Lib.hid ((r3.below hb0).more hb0.size)
  have P1 := Lib.hid r1
  have RP := Lib.hid rp
  clear r1 r2 r3 rp
  have HC := Lib.hid (rcheck_any s c1 c2 c3 A1 A2 A3 ((w.alloc (Obj.cells #[Value.int IntKind.i64 s.n, Value.slice A1 s.shots.length c1, Value.slice A2 s.marks.length c2, Value.slice A3 s.threads.length c3] 26)).alloc (Obj.cells #[Value.int IntKind.i64 0, Value.int IntKind.i64 0] 36)) R1.out R2.out R3.out)
  have G0 := Lib.hid (heap_alloc2_new w (Obj.cells #[Value.int IntKind.i64 s.n, Value.slice A1 s.shots.length c1, Value.slice A2 s.marks.length c2, Value.slice A3 s.threads.length c3] 26) (Obj.cells #[Value.int IntKind.i64 0, Value.int IntKind.i64 0] 36))
  have e1 : svErr s = 10 := by unfold svErr; rw [hok]; rfl
  rw [e1] at HC
  rw [lvLoop_bad hok]
  clear e1 hok
  go_enter Try.func25, Try.ntmps25
  go_wp2_with (go_at_call 21; refine HC.out.mono ?_; rintro e w1 ⟨rfl, hb1⟩; obtain ⟨hc1, hf1⟩ := bcell hb1; have hz1 := hb1.size; (try simp at hz1); (have hy1 : w.heap.size < w1.heap.size := by omega); (have hy2 : w.heap.size + 1 < w1.heap.size := by omega); have GX := Lib.hid ((hb1.block (w.heap.size + 1) (by simp <;> omega)).trans G0.out))
  refine bodyPost_ret (resRLoop _ _ (w.heap.size + 1) (.int .i64 0) (.int .i64 0) (.int .i64 10) rfl rfl ?_) rfl ?_
  · exact heap_set2 GX.out
  · exact ⟨rfl, by (repeat' (first | (with_reducible exact Below.refl _ _) | (with_reducible refine Below.alloc ?_ ?_ _) | (with_reducible refine Below.drew ?_) | (with_reducible refine Below.drewN_ ?_ _) | (with_reducible refine Below.setCell ?_ ?_ _) | (with_reducible refine Below.setRow ?_ ?_ _) | (with_reducible refine Below.via ?_ (by with_reducible assumption) ?_) | go_size))⟩

set_option maxRecDepth 100000 in
set_option maxHeartbeats 8000000 in
theorem rloop_len (s : Sv) (xs : List Int) (cp c1 c2 c3 : Nat) (AP A1 A2 A3 : Option Addr) (w : World)
    (r1 : Rd w w.heap.size A1 shV 4 s.shots) (r2 : Rd w w.heap.size A2 mkV 3 s.marks) (r3 : Rd w w.heap.size A3 shV 4 s.threads) (rp : Rd w w.heap.size AP inV 1 xs) (hl9 : xs.length ≤ 1000000000) (hok : svOk s = true) (hlp : loopB s.n xs = false) (hin : inR 2 20 (xs.length : Int) = false) :
    Calls Try.prog 25 #[.agg #[.int .i64 s.n, .slice A1 s.shots.length c1, .slice A2 s.marks.length c2, .slice A3 s.threads.length c3], .slice AP xs.length cp] w fun e w' =>
      e = .returned (.tuple #[.agg #[.int .i64 (lvLoop s xs).1.1, .int .i64 (lvLoop s xs).1.2], .int .i64 (lvLoop s xs).2]) ∧ Below w.heap.size w w' := by
  have hb0 : Below w.heap.size w ((w.alloc (Obj.cells #[Value.int IntKind.i64 s.n, Value.slice A1 s.shots.length c1, Value.slice A2 s.marks.length c2, Value.slice A3 s.threads.length c3] 26)).alloc (Obj.cells #[Value.int IntKind.i64 0, Value.int IntKind.i64 0] 36)) := by (repeat' (first | (with_reducible exact Below.refl _ _) | (with_reducible refine Below.alloc ?_ ?_ _) | (with_reducible refine Below.drew ?_) | (with_reducible refine Below.drewN_ ?_ _) | (with_reducible refine Below.setCell ?_ ?_ _) | (with_reducible refine Below.setRow ?_ ?_ _) | (with_reducible refine Below.via ?_ (by with_reducible assumption) ?_) | go_size))
  have R1 := Lib.hid ((r1.below hb0).more hb0.size)
  have R2 := Lib.hid ((r2.below hb0).more hb0.size)
  have R3 := Lib.hid ((r3.below hb0).more hb0.size)
  have P1 := Lib.hid r1
  have RP := Lib.hid rp
  clear r1 r2 r3 rp
  have HC := Lib.hid (rcheck_any s c1 c2 c3 A1 A2 A3 ((w.alloc (Obj.cells #[Value.int IntKind.i64 s.n, Value.slice A1 s.shots.length c1, Value.slice A2 s.marks.length c2, Value.slice A3 s.threads.length c3] 26)).alloc (Obj.cells #[Value.int IntKind.i64 0, Value.int IntKind.i64 0] 36)) R1.out R2.out R3.out)
  have G0 := Lib.hid (heap_alloc2_new w (Obj.cells #[Value.int IntKind.i64 s.n, Value.slice A1 s.shots.length c1, Value.slice A2 s.marks.length c2, Value.slice A3 s.threads.length c3] 26) (Obj.cells #[Value.int IntKind.i64 0, Value.int IntKind.i64 0] 36))
  have e1 : svErr s = 0 := by unfold svErr; rw [hok]; rfl
  rw [e1] at HC
  rw [lvLoop_arg hok hlp]
  clear e1 hok hlp
  go_enter Try.func25, Try.ntmps25
  go_wp2_with (first | (go_at_call 21; refine HC.out.mono ?_; rintro e w1 ⟨rfl, hb1⟩; obtain ⟨hc1, hf1⟩ := bcell hb1; have hz1 := hb1.size; (try simp at hz1); (have hy1 : w.heap.size < w1.heap.size := by omega); (have hy2 : w.heap.size + 1 < w1.heap.size := by omega); have GX := Lib.hid ((hb1.block (w.heap.size + 1) (by simp <;> omega)).trans G0.out)) | (go_at_call 50; refine (rwithin_any _ _ _ _).mono ?_; rintro e w1' ⟨rfl, rfl⟩))
  refine bodyPost_ret (resRLoop _ _ (w.heap.size + 1) (.int .i64 0) (.int .i64 0) (.int .i64 2) rfl rfl ?_) rfl ?_
  · exact heap_set2 GX.out
  · exact ⟨rfl, by (repeat' (first | (with_reducible exact Below.refl _ _) | (with_reducible refine Below.alloc ?_ ?_ _) | (with_reducible refine Below.drew ?_) | (with_reducible refine Below.drewN_ ?_ _) | (with_reducible refine Below.setCell ?_ ?_ _) | (with_reducible refine Below.setRow ?_ ?_ _) | (with_reducible refine Below.via ?_ (by with_reducible assumption) ?_) | go_size))⟩

set_option maxRecDepth 100000 in
set_option maxHeartbeats 8000000 in
theorem rloop_main (s : Sv) (xs : List Int) (cp c1 c2 c3 : Nat) (AP A1 A2 A3 : Option Addr) (w : World)
    (r1 : Rd w w.heap.size A1 shV 4 s.shots) (r2 : Rd w w.heap.size A2 mkV 3 s.marks) (r3 : Rd w w.heap.size A3 shV 4 s.threads) (rp : Rd w w.heap.size AP inV 1 xs) (hl9 : xs.length ≤ 1000000000) (hok : svOk s = true) (hin : inR 2 20 (xs.length : Int) = true) :
    Calls Try.prog 25 #[.agg #[.int .i64 s.n, .slice A1 s.shots.length c1, .slice A2 s.marks.length c2, .slice A3 s.threads.length c3], .slice AP xs.length cp] w fun e w' =>
      e = .returned (.tuple #[.agg #[.int .i64 (lvLoop s xs).1.1, .int .i64 (lvLoop s xs).1.2], .int .i64 (lvLoop s xs).2]) ∧ Below w.heap.size w w' := by
  have hb0 : Below w.heap.size w ((w.alloc (Obj.cells #[Value.int IntKind.i64 s.n, Value.slice A1 s.shots.length c1, Value.slice A2 s.marks.length c2, Value.slice A3 s.threads.length c3] 26)).alloc (Obj.cells #[Value.int IntKind.i64 0, Value.int IntKind.i64 0] 36)) := by (repeat' (first | (with_reducible exact Below.refl _ _) | (with_reducible refine Below.alloc ?_ ?_ _) | (with_reducible refine Below.drew ?_) | (with_reducible refine Below.drewN_ ?_ _) | (with_reducible refine Below.setCell ?_ ?_ _) | (with_reducible refine Below.setRow ?_ ?_ _) | (with_reducible refine Below.via ?_ (by with_reducible assumption) ?_) | go_size))
  have R1 := Lib.hid ((r1.below hb0).more hb0.size)
  have R2 := Lib.hid ((r2.below hb0).more hb0.size)
  have R3 := Lib.hid ((r3.below hb0).more hb0.size)
  have P1 := Lib.hid r1
  have RP := Lib.hid rp
  clear r1 r2 r3 rp
  have HC := Lib.hid (rcheck_any s c1 c2 c3 A1 A2 A3 ((w.alloc (Obj.cells #[Value.int IntKind.i64 s.n, Value.slice A1 s.shots.length c1, Value.slice A2 s.marks.length c2, Value.slice A3 s.threads.length c3] 26)).alloc (Obj.cells #[Value.int IntKind.i64 0, Value.int IntKind.i64 0] 36)) R1.out R2.out R3.out)
  have G0 := Lib.hid (heap_alloc2_new w (Obj.cells #[Value.int IntKind.i64 s.n, Value.slice A1 s.shots.length c1, Value.slice A2 s.marks.length c2, Value.slice A3 s.threads.length c3] 26) (Obj.cells #[Value.int IntKind.i64 0, Value.int IntKind.i64 0] 36))
  have e1 : svErr s = 0 := by unfold svErr; rw [hok]; rfl
  rw [e1] at HC
  obtain ⟨⟨n1, n2, g3, g4, g5⟩, _⟩ := svOk_spec hok
  have hin2 : 2 ≤ xs.length ∧ xs.length ≤ 20 := by
    unfold inR at hin
    simp only [Bool.and_eq_true, decide_eq_true_eq] at hin
    omega
  obtain ⟨ln2, ln20⟩ := hin2
  have HARG := Lib.hid (fun hlp => lvLoop_arg (xs := xs) hok hlp)
  have HOK := Lib.hid hok
  have HSB := Lib.hid (svOk_shB hok)
  have HBD := Lib.hid (fun k => sumTo_bd hok xs k)
  have HSAY := Lib.hid (fun (a b : Int) (hab : a ≠ b) (W : World) (hb : Below w.heap.size w W) => says_any s a b c1 c2 c3 A1 A2 A3 W hok hab ((P1.out.below hb).more hb.size))
  obtain ⟨LR, hLR⟩ : ∃ LR, lvLoop s xs = LR := ⟨_, rfl⟩
  obtain ⟨⟨u1, u2⟩, u3⟩ := LR
  rw [hLR]
  have HLR := Lib.hid hLR
  clear e1 hok hLR
  go_enter Try.func25, Try.ntmps25
  go_upto_region 7 with (first | (go_at_call 21; refine HC.out.mono ?_; rintro e w1 ⟨rfl, hb1⟩; obtain ⟨hc1, hf1⟩ := bcell hb1; have hz1 := hb1.size; (try simp at hz1); (have hy1 : w.heap.size < w1.heap.size := by omega); (have hy2 : w.heap.size + 1 < w1.heap.size := by omega); have GX := Lib.hid ((hb1.block (w.heap.size + 1) (by simp <;> omega)).trans G0.out)) | (go_at_call 50; refine (rwithin_any _ _ _ _).mono ?_; rintro e w1' ⟨rfl, rfl⟩))
  have s0 : w1.cell? ⟨w.heap.size, 0, none⟩ = some (.int .i64 s.n) := by rw [hc1 _ _ (by simp; omega)]; simp
  have s1 : w1.cell? ⟨w.heap.size, 1, none⟩ = some (.slice A1 s.shots.length c1) := by rw [hc1 _ _ (by simp; omega)]; simp
  have s2 : w1.cell? ⟨w.heap.size, 2, none⟩ = some (.slice A2 s.marks.length c2) := by rw [hc1 _ _ (by simp; omega)]; simp
  have s3 : w1.cell? ⟨w.heap.size, 3, none⟩ = some (.slice A3 s.threads.length c3) := by rw [hc1 _ _ (by simp; omega)]; simp
  have GX2 := Lib.hid GX.out
  have hb02 : Below w.heap.size w w1 := by (repeat' (first | (with_reducible exact Below.refl _ _) | (with_reducible refine Below.alloc ?_ ?_ _) | (with_reducible refine Below.drew ?_) | (with_reducible refine Below.drewN_ ?_ _) | (with_reducible refine Below.setCell ?_ ?_ _) | (with_reducible refine Below.setRow ?_ ?_ _) | (with_reducible refine Below.via ?_ (by with_reducible assumption) ?_) | go_size))
  have RP0 := Lib.hid RP.out
  clear hc1 hf1 hb1 hz1 hb0 R1 R2 R3 P1 RP HC G0 GX
  go_loopw [7] (fun v7 W => ∃ k : Nat, k ≤ xs.length ∧ v7 = .int .i64 k ∧ (∀ j, j < k → stepB s.n xs j = true) ∧ Below w1.heap.size w1 W) (fun v7 _ => xs.length - (intOf v7).toNat)
  case atStart => exact ⟨0, by omega, rfl, fun j hj => by omega, Below.refl _ _⟩
  case round =>
    obtain ⟨k, hk, rfl, hall, hb⟩ := hrel
    have HA := Lib.hid hall
    clear hall
    have m0 := (hb.cell (p := ⟨w.heap.size, 0, none⟩) (by show w.heap.size < _; omega)).trans s0
    have m1 := (hb.cell (p := ⟨w.heap.size, 1, none⟩) (by show w.heap.size < _; omega)).trans s1
    have m2 := (hb.cell (p := ⟨w.heap.size, 2, none⟩) (by show w.heap.size < _; omega)).trans s2
    have m3 := (hb.cell (p := ⟨w.heap.size, 3, none⟩) (by show w.heap.size < _; omega)).trans s3
    have hb0r : Below w.heap.size w wr := hb02.trans (hb.mono (by omega))
    have HG := Lib.hid ((hb.block (w.heap.size + 1) (by omega)).trans GX2.out)
    have g0 := cell_of_row wr (w.heap.size + 1) 0 _ _ _ HG.out
    have g1 := cell_of_row wr (w.heap.size + 1) 1 _ _ _ HG.out
    have fg0 := frozen_of_row wr (w.heap.size + 1) 0 _ _ HG.out
    have fg1 := frozen_of_row wr (w.heap.size + 1) 1 _ _ HG.out
    simp at g0 g1
    have hszr := hb.size
    have hwr : w.heap.size < wr.heap.size := by omega
    have hwr1 : w.heap.size + 1 < wr.heap.size := by omega
    by_cases hlt : k < xs.length
    · clear s0 s1 s2 s3
      have hmod : (k + 1) % xs.length < xs.length := Nat.mod_lt _ (by omega)
      obtain ⟨bp, op, hAP, hbl, hcell⟩ := (RP0.out.below hb0r).at_ hlt
      have q0 := hcell 0 _ rfl
      obtain ⟨bp', op', hAP', hbl', hcell'⟩ := (RP0.out.below hb0r).at_ hmod
      have q1 := hcell' 0 _ rfl
      rw [hAP] at hAP'
      injection hAP' with hAP'
      injection hAP' with hp1 hp2 _
      subst hp1 hp2
      simp only [Nat.add_zero, Nat.mul_one] at q0 q1
      clear hcell hcell' hbl'
      have hblr : bp < wr.heap.size := Nat.lt_of_lt_of_le hbl (by have := hb0r.size; omega)
      have hg0 : xs.getD k 0 = xs[k] := by rw [List.getD_eq_getElem?_getD, List.getElem?_eq_getElem hlt]; rfl
      have hg1 : xs.getD ((k + 1) % xs.length) 0 = xs[(k + 1) % xs.length] := by rw [List.getD_eq_getElem?_getD, List.getElem?_eq_getElem hmod]; rfl
      rw [← hg0] at q0
      rw [← hg1] at q1
      clear hg0 hg1
      have ht : ((k : Int) + 1).tmod (xs.length : Int) = (((k + 1) % xs.length : Nat) : Int) := by rw [Int.tmod_eq_emod_of_nonneg (by omega)]; push_cast; rfl
      have ht2 : ((k : Int) + 1) % (xs.length : Int) = (((k + 1) % xs.length : Nat) : Int) := by push_cast; rfl
      have hz : ((xs.length : Int) == 0) = false := by rw [beq_eq_false_iff_ne]; omega
      have hxne : ¬ xs = [] := fun e => by rw [e] at hlt; simp at hlt
      have HSTP := Lib.hid (show stepB s.n xs k = diffB s.n (xs.getD k 0) (xs.getD ((k + 1) % xs.length) 0) from rfl)
      subst hAP
      generalize xs.getD k 0 = px at *
      generalize xs.getD ((k + 1) % xs.length) 0 = nx at *
      generalize hj : (k + 1) % xs.length = jn at *
      clear hj
      go_upto_region 9 with fail
      refine wp_region_calm (by kernel_rfl) (by kernel_rfl) ?_
      repeat (go_big_quiet_step ((go_at_call 54; exact calm_of (rtwo_any _ _ _ _ _ _ _ (by omega) (by omega)))))
      refine wpQuiet_nil ?_; rintro _ ⟨dx, rfl⟩
      obtain ⟨wy, hwy⟩ : ∃ wy, wx _ dx = wy := ⟨_, rfl⟩; have hby := wx_below _ dx; rw [hwy] at hby ⊢
      have hbg := hb.trans (hby.mono hb.size)
      have HGY := Lib.hid ((hby.block (w.heap.size + 1) (by have := hb.size; omega)).trans HG.out)
      have g0' := cell_of_row wy (w.heap.size + 1) 0 _ _ _ HGY.out
      have g1' := cell_of_row wy (w.heap.size + 1) 1 _ _ _ HGY.out
      have fg0' := frozen_of_row wy (w.heap.size + 1) 0 _ _ HGY.out
      have fg1' := frozen_of_row wy (w.heap.size + 1) 1 _ _ HGY.out
      simp at g0' g1'
      have hbw : Below w.heap.size w wy := hb0r.trans (hby.mono hb0r.size)
      clear g0 g1 fg0 fg1 m0 m1 m2 m3 q0 q1 hwy
      cases hd : diffB s.n px nx
      · have HR := Lib.hid ((HARG.out (by
          unfold loopB
          rw [show (List.range xs.length).all (stepB s.n xs) = false from by rw [List.all_eq_false]; exact ⟨k, List.mem_range.2 hlt, by rw [HSTP.out, hd]; simp⟩]
          simp)).symm.trans HLR.out)
        clear hd
        go_wp2
        refine bodyPost_ret (resRLoop _ _ (w.heap.size + 1) (.int .i64 0) (.int .i64 0) (.int .i64 2) rfl rfl ?_) rfl ?_
        · exact heap_set2 HGY.out
        · have h := HR.out
          injection h with h1 h2
          injection h1 with h1 h3
          subst h1 h2 h3
          exact ⟨rfl, by (repeat' (first | (with_reducible exact Below.refl _ _) | (with_reducible refine Below.alloc ?_ ?_ _) | (with_reducible refine Below.drew ?_) | (with_reducible refine Below.drewN_ ?_ _) | (with_reducible refine Below.setCell ?_ ?_ _) | (with_reducible refine Below.setRow ?_ ?_ _) | (with_reducible refine Below.via ?_ (by with_reducible assumption) ?_) | go_size))⟩
      · have HN : Hid (∀ j, j < k + 1 → stepB s.n xs j = true) := Lib.hid (fun j hj => by
          by_cases h : j < k
          · exact HA.out j h
          · rw [show j = k by omega, HSTP.out, hd])
        clear hd
        go_wp2
        go_roundw
        case rel => exact ⟨k + 1, by omega, by go_num, HN.out, hbg⟩
        case measure => (simp [intOf] <;> omega)
    · have hkN : k = xs.length := by omega
      have hlp : loopB s.n xs = true := by
        unfold loopB
        rw [decide_eq_true ln2, decide_eq_true ln20]
        simp only [Bool.true_and, List.all_eq_true, List.mem_range]
        exact fun j hj => HA.out j (by omega)
      have HRn := Lib.hid (fun (k : Nat) (hk : k < xs.length) hn => lvLoop_none HOK.out hlp hk hn)
      have HRs := Lib.hid (fun hn => lvLoop_said HOK.out hlp hn)
      have HIN := Lib.hid (fun (k : Nat) (hk : k < xs.length) => stp_in hlp hk)
      clear hkN hlp HA HARG s0 s1 s2 s3 GX2 hb02 hk hb hszr
      go_upto_region 12 with fail
      clear hlt
      obtain ⟨wa, hwa⟩ : ∃ wa, wa = wr := ⟨_, rfl⟩
      subst hwa
      have s0 := m0
      have s1 := m1
      have s2 := m2
      have s3 := m3
      have GX2 := HG
      have hb02 := hb0r
      have hwa0 := hwr
      have hwa1 := hwr1
      clear m0 m1 m2 m3 HG hb0r g0 g1 fg0 fg1 hwr hwr1
      go_loopw [8] (fun v8 W => ∃ k : Nat, k ≤ xs.length ∧ v8 = .int .i64 k ∧ (∀ j, j < k → 0 < (stpOf s xs j).2) ∧ Below wa.heap.size wa W) (fun v8 _ => xs.length - (intOf v8).toNat)
      case atStart => exact ⟨0, by omega, rfl, fun j hj => by omega, Below.refl _ _⟩
      case round =>
        obtain ⟨k, hk, rfl, hall, hb⟩ := hrel
        have HA := Lib.hid hall
        clear hall
        have m0 := (hb.cell (p := ⟨w.heap.size, 0, none⟩) (by show w.heap.size < _; omega)).trans s0
        have m1 := (hb.cell (p := ⟨w.heap.size, 1, none⟩) (by show w.heap.size < _; omega)).trans s1
        have m2 := (hb.cell (p := ⟨w.heap.size, 2, none⟩) (by show w.heap.size < _; omega)).trans s2
        have m3 := (hb.cell (p := ⟨w.heap.size, 3, none⟩) (by show w.heap.size < _; omega)).trans s3
        have hb0r : Below w.heap.size w wr := hb02.trans (hb.mono (by omega))
        have HG := Lib.hid ((hb.block (w.heap.size + 1) (by omega)).trans GX2.out)
        have g0 := cell_of_row wr (w.heap.size + 1) 0 _ _ _ HG.out
        have g1 := cell_of_row wr (w.heap.size + 1) 1 _ _ _ HG.out
        have fg0 := frozen_of_row wr (w.heap.size + 1) 0 _ _ HG.out
        have fg1 := frozen_of_row wr (w.heap.size + 1) 1 _ _ HG.out
        simp at g0 g1
        have hszr := hb.size
        have hwr : w.heap.size < wr.heap.size := by omega
        have hwr1 : w.heap.size + 1 < wr.heap.size := by omega
        by_cases hlt : k < xs.length
        · clear s0 s1 s2 s3
          have hmod : (k + 1) % xs.length < xs.length := Nat.mod_lt _ (by omega)
          obtain ⟨bp, op, hAP, hbl, hcell⟩ := (RP0.out.below hb0r).at_ hlt
          have q0 := hcell 0 _ rfl
          obtain ⟨bp', op', hAP', hbl', hcell'⟩ := (RP0.out.below hb0r).at_ hmod
          have q1 := hcell' 0 _ rfl
          rw [hAP] at hAP'
          injection hAP' with hAP'
          injection hAP' with hp1 hp2 _
          subst hp1 hp2
          simp only [Nat.add_zero, Nat.mul_one] at q0 q1
          clear hcell hcell' hbl'
          have hblr : bp < wr.heap.size := Nat.lt_of_lt_of_le hbl (by have := hb0r.size; omega)
          have hg0 : xs.getD k 0 = xs[k] := by rw [List.getD_eq_getElem?_getD, List.getElem?_eq_getElem hlt]; rfl
          have hg1 : xs.getD ((k + 1) % xs.length) 0 = xs[(k + 1) % xs.length] := by rw [List.getD_eq_getElem?_getD, List.getElem?_eq_getElem hmod]; rfl
          rw [← hg0] at q0
          rw [← hg1] at q1
          clear hg0 hg1
          have ht : ((k : Int) + 1).tmod (xs.length : Int) = (((k + 1) % xs.length : Nat) : Int) := by rw [Int.tmod_eq_emod_of_nonneg (by omega)]; push_cast; rfl
          have ht2 : ((k : Int) + 1) % (xs.length : Int) = (((k + 1) % xs.length : Nat) : Int) := by push_cast; rfl
          have hz : ((xs.length : Int) == 0) = false := by rw [beq_eq_false_iff_ne]; omega
          have hxne : ¬ xs = [] := fun e => by rw [e] at hlt; simp at hlt
          have hin5 := HIN.out k hlt
          have hbd := syFold_bd (xs.getD k 0) (xs.getD ((k + 1) % xs.length) 0) s.shots HSB.out
          have HST := Lib.hid (show stpOf s xs k = syFold (xs.getD k 0) (xs.getD ((k + 1) % xs.length) 0) s.shots from rfl)
          have HSY := Lib.hid (HSAY.out (xs.getD k 0) (xs.getD ((k + 1) % xs.length) 0) hin5.2.2.2.2)
          subst hAP
          generalize syFold (xs.getD k 0) (xs.getD ((k + 1) % xs.length) 0) s.shots = sy at *
          generalize xs.getD k 0 = px at *
          generalize xs.getD ((k + 1) % xs.length) 0 = nx at *
          generalize hj : (k + 1) % xs.length = jn at *
          clear hj
          obtain ⟨⟨lo, hi⟩, n⟩ := sy
          dsimp only at hbd HSY
          have hk1 : IntKind.i64.wrap ((k : Int) + 1) = (k : Int) + 1 := IntWalk.i64_in _ (by omega)
          go_upto_region 14 with fail
          refine (wpIn_wide (n := 3)).1 ?_
          refine wpIn_region_planYA (X := Nat) (by kernel_rfl) 19 (by kernel_rfl) (by kernel_rfl) (by omega)
            (fun x i => if i = 16 then .pointer (some ⟨x, 0, none⟩) else (#[.agg #[.int .i64 s.n, .slice A1 s.shots.length c1, .slice A2 s.marks.length c2, .slice A3 s.threads.length c3], .slice (some ⟨bp, op, none⟩) xs.length cp, .int .i64 k, .pointer (some ⟨bp, op + k, none⟩), .int .i64 px, .slice (some ⟨bp, op, none⟩) xs.length cp, .int .i64 k, .int .i64 ((k : Int) + 1), .int .i64 xs.length, .int .i64 (jn : Int), .pointer (some ⟨bp, op + jn, none⟩), .int .i64 nx, .tuple #[.agg #[.int .i64 lo, .int .i64 hi], .int .i64 (n : Int)], .tuple #[.agg #[.int .i64 lo, .int .i64 hi], .int .i64 (n : Int)], .agg #[.int .i64 lo, .int .i64 hi], .int .i64 (n : Int), undef, undef, .int .i64 (n : Int)] : Array Value).getD i undef)
            (fun L x W => Below wr.heap.size wr W ∧ (L 16 = true → wr.heap.size ≤ x ∧ W.heap[x]? = some (.cells (if L 17 then #[.int .i64 lo, .int .i64 hi] else #[.int .i64 0, .int .i64 0]) 36 (0, 0)))) _ _ 0 ?aF ?hA ?hS ?hstep ?htail
          case hA => intro x; simp [putTo, putIf, dstAt, Act.put, List.range_succ]; rfl
          case hS => exact fun L hL => ⟨(Below.refl _ _).drew, fun h => by rw [hL] at h; cases h⟩
          case hstep =>
            intro i o' hi ho L x W hL hcl hdep hW
            obtain ⟨hW, hW11⟩ := hW
            have HW11 := Lib.hid hW11
            clear hW11
            refine ⟨fun _ _ => trivial, ?_⟩
            have p0 := (hW.cell (p := ⟨w.heap.size, 0, none⟩) hwr).trans m0
            have p1 := (hW.cell (p := ⟨w.heap.size, 1, none⟩) hwr).trans m1
            have p2 := (hW.cell (p := ⟨w.heap.size, 2, none⟩) hwr).trans m2
            have p3 := (hW.cell (p := ⟨w.heap.size, 3, none⟩) hwr).trans m3
            have p4 := (hW.cell (p := ⟨bp, op + k, none⟩) hblr).trans q0
            have p5 := (hW.cell (p := ⟨bp, op + jn, none⟩) hblr).trans q1
            have hi' : i = 0 ∨ i = 1 ∨ i = 2 ∨ i = 3 ∨ i = 4 ∨ i = 5 ∨ i = 6 ∨ i = 7 ∨ i = 8 ∨ i = 9 ∨ i = 10 ∨ i = 11 ∨ i = 12 ∨ i = 13 ∨ i = 14 ∨ i = 15 ∨ i = 16 ∨ i = 17 ∨ i = 18 := by omega
            rcases hi' with rfl | rfl | rfl | rfl | rfl | rfl | rfl | rfl | rfl | rfl | rfl | rfl | rfl | rfl | rfl | rfl | rfl | rfl | rfl
            all_goals (simp only [List.getElem?_toArray, List.getElem?_cons_succ, List.getElem?_cons_zero, Option.some.injEq] at ho; subst ho)
            case inr.inr.inr.inr.inr.inr.inr.inr.inr.inr.inr.inr.inl =>
              go_simp
              refine ⟨by simp, callsIn_wide.2 ((HSY.out W (hb0r.trans (hW.mono hb0r.size))).mono ?_)⟩
              rintro e w' ⟨rfl, hb'⟩
              refine ⟨_, rfl, x, fun _ _ => rfl, rfl, hW.trans (hb'.mono hW.size), fun h => ?_⟩
              have h2 := HW11.out (by simpa using h)
              exact ⟨h2.1, by simpa using (hb'.block x (Array.getElem?_eq_some_iff.1 h2.2).1).trans h2.2⟩
            case inr.inr.inr.inr.inr.inr.inr.inr.inr.inr.inr.inr.inr.inr.inr.inr.inl =>
              have h12 : L 17 = false := by
                cases h : L 17
                · rfl
                · have h2 := hcl 17 _ h rfl { on := 16, ground := Ground.data } (by simp) rfl
                  rw [hL] at h2
                  cases h2
              go_simp
              refine ⟨W.heap.size, fun j hj => ?_, rfl, hW.alloc hW.size _, fun _ => ⟨hW.size, ?_⟩⟩
              · by_cases e : j = 16
                · rw [e, hL] at hj; cases hj
                · dsimp only; rw [if_neg e, if_neg e]
              · have e : (L 17 || (17 == 16)) = false := by rw [h12]; rfl
                dsimp only
                rw [if_neg (by rw [e]; simp)]
                exact heap_alloc_new _ _
            case inr.inr.inr.inr.inr.inr.inr.inr.inr.inr.inr.inr.inr.inr.inr.inr.inr.inl =>
              have h11 : L 16 = true := hdep { on := 16, ground := Ground.data } (by simp) rfl
              obtain ⟨hx1, hx2⟩ := HW11.out h11
              rw [hL] at hx2
              simp only [Bool.false_eq_true, if_false] at hx2
              have HX2 := Lib.hid hx2
              have y0 := cell_of_row W x 0 _ _ _ hx2
              have y1 := cell_of_row W x 1 _ _ _ hx2
              have f0 := frozen_of_row W x 0 _ _ hx2
              have f1 := frozen_of_row W x 1 _ _ hx2
              simp at y0 y1
              clear hx2
              go_simp
              refine ⟨x, fun _ _ => rfl, rfl, Below.setCell (Below.setCell hW hx1 _) hx1 _, fun _ => ⟨hx1, ?_⟩⟩
              rw [if_pos (by simp)]
              exact heap_set2 HX2.out
            all_goals go_simp
            all_goals exact ⟨x, fun _ _ => rfl, rfl, hW, fun h => by simpa using HW11.out (by simpa using h)⟩
          case htail =>
            intro L x W hL hW
            obtain ⟨hbW, hW⟩ := hW
            obtain ⟨hx1, hx2⟩ := hW (hL 16 (by omega))
            rw [if_pos (hL 17 (by omega))] at hx2
            clear hW hL
            have y0 := cell_of_row W x 0 _ _ _ hx2
            have y1 := cell_of_row W x 1 _ _ _ hx2
            have HGW := Lib.hid ((hbW.block (w.heap.size + 1) hwr1).trans HG.out)
            have g0' := cell_of_row W (w.heap.size + 1) 0 _ _ _ HGW.out
            have g1' := cell_of_row W (w.heap.size + 1) 1 _ _ _ HGW.out
            have fg0' := frozen_of_row W (w.heap.size + 1) 0 _ _ HGW.out
            have fg1' := frozen_of_row W (w.heap.size + 1) 1 _ _ HGW.out
            simp at y0 y1 g0' g1'
            have hbw : Below w.heap.size w W := hb0r.trans (hbW.mono hb0r.size)
            clear g0 g1 fg0 fg1 m0 m1 m2 m3 q0 q1 hx2
            have hbg : Below wa.heap.size wa W := hb.trans (hbW.mono hb.size)
            by_cases hn : n = 0
            · have HR := Lib.hid ((HRn.out k hlt (by rw [HST.out]; exact hn)).symm.trans HLR.out)
              subst hn
              gi_wp2_with fail
              go_wp2
              refine bodyPost_ret (resRLoop _ _ (w.heap.size + 1) (.int .i64 0) (.int .i64 0) (.int .i64 6) rfl rfl ?_) rfl ?_
              · exact heap_set2 HGW.out
              · have h := HR.out
                injection h with h1 h2
                injection h1 with h1 h3
                subst h1 h2 h3
                exact ⟨rfl, by (repeat' (first | (with_reducible exact Below.refl _ _) | (with_reducible refine Below.alloc ?_ ?_ _) | (with_reducible refine Below.drew ?_) | (with_reducible refine Below.drewN_ ?_ _) | (with_reducible refine Below.setCell ?_ ?_ _) | (with_reducible refine Below.setRow ?_ ?_ _) | (with_reducible refine Below.via ?_ (by with_reducible assumption) ?_) | go_size))⟩
            · have HA2 := Lib.hid (show ∀ j, j < k + 1 → 0 < (stpOf s xs j).2 from fun j hj => by
                by_cases e : j < k
                · exact HA.out j e
                · rw [show j = k by omega, HST.out]
                  show 0 < n
                  omega)
              have hn0 : ((n : Int) == 0) = false := by rw [beq_eq_false_iff_ne]; omega
              gi_wp2_with fail
              go_wp2
              go_roundw
              case rel => exact ⟨k + 1, by omega, by go_num, HA2.out, hbg⟩
              case measure => (simp [intOf] <;> omega)
        · have HAL2 := Lib.hid (show ∀ j, j < xs.length → 0 < (stpOf s xs j).2 from fun j hj => HA.out j (by omega))
          have HR0 := Lib.hid (fun (h : (List.range xs.length).all (fun k => decide ((stpOf s xs k).1.1 ≤ (stpOf s xs k).1.2)) = false) => (show ((0, 0), 11) = ((u1, u2), u3) by have h2 := (HRs.out HAL2.out).symm.trans HLR.out; rw [if_pos h] at h2; exact h2))
          have HR1 := Lib.hid (fun (h : ordB s xs xs.length = true) => (show (sumTo s xs xs.length, (0 : Int)) = ((u1, u2), u3) by have h2 := (HRs.out HAL2.out).symm.trans HLR.out; rw [if_neg (by intro h3; unfold ordB at h; rw [h3] at h; cases h)] at h2; exact h2))
          clear HRs HAL2 HRn HA s0 s1 s2 s3 GX2 hb02 hk hb hszr
          go_upto_region 19 with fail
          clear hlt
          obtain ⟨wb, hwb⟩ : ∃ wb, wr.alloc (.cells #[.int .i64 0, .int .i64 0] 36) = wb := ⟨_, rfl⟩
          obtain ⟨gs, hgs⟩ : ∃ gs, wr.heap.size = gs := ⟨_, rfl⟩
          rw [hwb, hgs]
          have hbab : Below wr.heap.size wr wb := by rw [← hwb]; exact (Below.refl _ _).alloc (Nat.le_refl _) _
          have s0 := (hbab.cell (p := ⟨w.heap.size, 0, none⟩) hwr).trans m0
          have s1 := (hbab.cell (p := ⟨w.heap.size, 1, none⟩) hwr).trans m1
          have s2 := (hbab.cell (p := ⟨w.heap.size, 2, none⟩) hwr).trans m2
          have s3 := (hbab.cell (p := ⟨w.heap.size, 3, none⟩) hwr).trans m3
          have GX2 := Lib.hid ((hbab.block (w.heap.size + 1) hwr1).trans HG.out)
          have GS2 := Lib.hid (show wb.heap[gs]? = some (.cells #[.int .i64 0, .int .i64 0] 36 (0, 0)) by rw [← hwb, ← hgs]; exact heap_alloc_new _ _)
          have hb02 := hb0r.trans (hbab.mono hb0r.size)
          have hgw : w.heap.size + 1 < gs := by omega
          have hgl : gs < wb.heap.size := by rw [← hwb, ← hgs]; simp
          clear hbab hwb hgs m0 m1 m2 m3 HG hb0r g0 g1 fg0 fg1 hwr hwr1
          go_loopw [12] (fun v12 W => ∃ k : Nat, k ≤ xs.length ∧ v12 = .int .i64 k ∧ ordB s xs k = true ∧ W.heap[gs]? = some (.cells #[.int .i64 (sumTo s xs k).1, .int .i64 (sumTo s xs k).2] 36 (0, 0)) ∧ Below gs wb W) (fun v12 _ => xs.length - (intOf v12).toNat)
          case atStart => exact ⟨0, by omega, rfl, rfl, GS2.out, Below.refl gs wb⟩
          case round =>
            obtain ⟨k, hk, rfl, hord, hS, hb⟩ := hrel
            have HORD := Lib.hid hord
            have HS := Lib.hid hS
            have hsz : gs < wr.heap.size := (Array.getElem?_eq_some_iff.1 hS).1
            clear hord hS
            have m0 := (hb.cell (p := ⟨w.heap.size, 0, none⟩) (by show w.heap.size < _; omega)).trans s0
            have m1 := (hb.cell (p := ⟨w.heap.size, 1, none⟩) (by show w.heap.size < _; omega)).trans s1
            have m2 := (hb.cell (p := ⟨w.heap.size, 2, none⟩) (by show w.heap.size < _; omega)).trans s2
            have m3 := (hb.cell (p := ⟨w.heap.size, 3, none⟩) (by show w.heap.size < _; omega)).trans s3
            have hb0r : Below w.heap.size w wr := hb02.trans (hb.mono (by omega))
            have HG := Lib.hid ((hb.block (w.heap.size + 1) (by omega)).trans GX2.out)
            have g0 := cell_of_row wr (w.heap.size + 1) 0 _ _ _ HG.out
            have g1 := cell_of_row wr (w.heap.size + 1) 1 _ _ _ HG.out
            have fg0 := frozen_of_row wr (w.heap.size + 1) 0 _ _ HG.out
            have fg1 := frozen_of_row wr (w.heap.size + 1) 1 _ _ HG.out
            simp at g0 g1
            have hszr := hb.size
            have hwr : w.heap.size < wr.heap.size := by omega
            have hwr1 : w.heap.size + 1 < wr.heap.size := by omega
            by_cases hlt : k < xs.length
            · clear s0 s1 s2 s3
              have hmod : (k + 1) % xs.length < xs.length := Nat.mod_lt _ (by omega)
              obtain ⟨bp, op, hAP, hbl, hcell⟩ := (RP0.out.below hb0r).at_ hlt
              have q0 := hcell 0 _ rfl
              obtain ⟨bp', op', hAP', hbl', hcell'⟩ := (RP0.out.below hb0r).at_ hmod
              have q1 := hcell' 0 _ rfl
              rw [hAP] at hAP'
              injection hAP' with hAP'
              injection hAP' with hp1 hp2 _
              subst hp1 hp2
              simp only [Nat.add_zero, Nat.mul_one] at q0 q1
              clear hcell hcell' hbl'
              have hblr : bp < wr.heap.size := Nat.lt_of_lt_of_le hbl (by have := hb0r.size; omega)
              have hg0 : xs.getD k 0 = xs[k] := by rw [List.getD_eq_getElem?_getD, List.getElem?_eq_getElem hlt]; rfl
              have hg1 : xs.getD ((k + 1) % xs.length) 0 = xs[(k + 1) % xs.length] := by rw [List.getD_eq_getElem?_getD, List.getElem?_eq_getElem hmod]; rfl
              rw [← hg0] at q0
              rw [← hg1] at q1
              clear hg0 hg1
              have ht : ((k : Int) + 1).tmod (xs.length : Int) = (((k + 1) % xs.length : Nat) : Int) := by rw [Int.tmod_eq_emod_of_nonneg (by omega)]; push_cast; rfl
              have ht2 : ((k : Int) + 1) % (xs.length : Int) = (((k + 1) % xs.length : Nat) : Int) := by push_cast; rfl
              have hz : ((xs.length : Int) == 0) = false := by rw [beq_eq_false_iff_ne]; omega
              have hxne : ¬ xs = [] := fun e => by rw [e] at hlt; simp at hlt
              have hin5 := HIN.out k hlt
              have hbd := syFold_bd (xs.getD k 0) (xs.getD ((k + 1) % xs.length) 0) s.shots HSB.out
              have HST := Lib.hid (show stpOf s xs k = syFold (xs.getD k 0) (xs.getD ((k + 1) % xs.length) 0) s.shots from rfl)
              have HSY := Lib.hid (HSAY.out (xs.getD k 0) (xs.getD ((k + 1) % xs.length) 0) hin5.2.2.2.2)
              have hbd2 := HBD.out k
              have HOS := Lib.hid (ordB_succ s xs k)
              have HSS := Lib.hid (show sumTo s xs (k + 1) = ((sumTo s xs k).1 + (stpOf s xs k).1.1, (sumTo s xs k).2 + (stpOf s xs k).1.2) from rfl)
              generalize sumTo s xs k = su at *
              obtain ⟨su1, su2⟩ := su
              dsimp only at hbd2 HSS HS
              subst hAP
              generalize syFold (xs.getD k 0) (xs.getD ((k + 1) % xs.length) 0) s.shots = sy at *
              generalize xs.getD k 0 = px at *
              generalize xs.getD ((k + 1) % xs.length) 0 = nx at *
              generalize hj : (k + 1) % xs.length = jn at *
              clear hj
              obtain ⟨⟨lo, hi⟩, n⟩ := sy
              dsimp only at hbd HSY
              have hk1 : IntKind.i64.wrap ((k : Int) + 1) = (k : Int) + 1 := IntWalk.i64_in _ (by omega)
              go_upto_region 21 with fail
              refine (wpIn_wide (n := 3)).1 ?_
              refine wpIn_region_planYA (X := Nat) (by kernel_rfl) 19 (by kernel_rfl) (by kernel_rfl) (by omega)
                (fun x i => if i = 16 then .pointer (some ⟨x, 0, none⟩) else (#[.agg #[.int .i64 s.n, .slice A1 s.shots.length c1, .slice A2 s.marks.length c2, .slice A3 s.threads.length c3], .slice (some ⟨bp, op, none⟩) xs.length cp, .int .i64 k, .pointer (some ⟨bp, op + k, none⟩), .int .i64 px, .slice (some ⟨bp, op, none⟩) xs.length cp, .int .i64 k, .int .i64 ((k : Int) + 1), .int .i64 xs.length, .int .i64 (jn : Int), .pointer (some ⟨bp, op + jn, none⟩), .int .i64 nx, .tuple #[.agg #[.int .i64 lo, .int .i64 hi], .int .i64 (n : Int)], .tuple #[.agg #[.int .i64 lo, .int .i64 hi], .int .i64 (n : Int)], .agg #[.int .i64 lo, .int .i64 hi], .int .i64 (n : Int), undef, undef, .int .i64 (n : Int)] : Array Value).getD i undef)
                (fun L x W => Below wr.heap.size wr W ∧ (L 16 = true → wr.heap.size ≤ x ∧ W.heap[x]? = some (.cells (if L 17 then #[.int .i64 lo, .int .i64 hi] else #[.int .i64 0, .int .i64 0]) 36 (0, 0)))) _ _ 0 ?aF3 ?hA3 ?hS3 ?hstep3 ?htail3
              case hA3 => intro x; simp [putTo, putIf, dstAt, Act.put, List.range_succ]; rfl
              case hS3 => exact fun L hL => ⟨(Below.refl _ _).drew, fun h => by rw [hL] at h; cases h⟩
              case hstep3 =>
                intro i o' hi ho L x W hL hcl hdep hW
                obtain ⟨hW, hW11⟩ := hW
                have HW11 := Lib.hid hW11
                clear hW11
                refine ⟨fun _ _ => trivial, ?_⟩
                have p0 := (hW.cell (p := ⟨w.heap.size, 0, none⟩) hwr).trans m0
                have p1 := (hW.cell (p := ⟨w.heap.size, 1, none⟩) hwr).trans m1
                have p2 := (hW.cell (p := ⟨w.heap.size, 2, none⟩) hwr).trans m2
                have p3 := (hW.cell (p := ⟨w.heap.size, 3, none⟩) hwr).trans m3
                have p4 := (hW.cell (p := ⟨bp, op + k, none⟩) hblr).trans q0
                have p5 := (hW.cell (p := ⟨bp, op + jn, none⟩) hblr).trans q1
                have hi' : i = 0 ∨ i = 1 ∨ i = 2 ∨ i = 3 ∨ i = 4 ∨ i = 5 ∨ i = 6 ∨ i = 7 ∨ i = 8 ∨ i = 9 ∨ i = 10 ∨ i = 11 ∨ i = 12 ∨ i = 13 ∨ i = 14 ∨ i = 15 ∨ i = 16 ∨ i = 17 ∨ i = 18 := by omega
                rcases hi' with rfl | rfl | rfl | rfl | rfl | rfl | rfl | rfl | rfl | rfl | rfl | rfl | rfl | rfl | rfl | rfl | rfl | rfl | rfl
                all_goals (simp only [List.getElem?_toArray, List.getElem?_cons_succ, List.getElem?_cons_zero, Option.some.injEq] at ho; subst ho)
                case inr.inr.inr.inr.inr.inr.inr.inr.inr.inr.inr.inr.inl =>
                  go_simp
                  refine ⟨by simp, callsIn_wide.2 ((HSY.out W (hb0r.trans (hW.mono hb0r.size))).mono ?_)⟩
                  rintro e w' ⟨rfl, hb'⟩
                  refine ⟨_, rfl, x, fun _ _ => rfl, rfl, hW.trans (hb'.mono hW.size), fun h => ?_⟩
                  have h2 := HW11.out (by simpa using h)
                  exact ⟨h2.1, by simpa using (hb'.block x (Array.getElem?_eq_some_iff.1 h2.2).1).trans h2.2⟩
                case inr.inr.inr.inr.inr.inr.inr.inr.inr.inr.inr.inr.inr.inr.inr.inr.inl =>
                  have h12 : L 17 = false := by
                    cases h : L 17
                    · rfl
                    · have h2 := hcl 17 _ h rfl { on := 16, ground := Ground.data } (by simp) rfl
                      rw [hL] at h2
                      cases h2
                  go_simp
                  refine ⟨W.heap.size, fun j hj => ?_, rfl, hW.alloc hW.size _, fun _ => ⟨hW.size, ?_⟩⟩
                  · by_cases e : j = 16
                    · rw [e, hL] at hj; cases hj
                    · dsimp only; rw [if_neg e, if_neg e]
                  · have e : (L 17 || (17 == 16)) = false := by rw [h12]; rfl
                    dsimp only
                    rw [if_neg (by rw [e]; simp)]
                    exact heap_alloc_new _ _
                case inr.inr.inr.inr.inr.inr.inr.inr.inr.inr.inr.inr.inr.inr.inr.inr.inr.inl =>
                  have h11 : L 16 = true := hdep { on := 16, ground := Ground.data } (by simp) rfl
                  obtain ⟨hx1, hx2⟩ := HW11.out h11
                  rw [hL] at hx2
                  simp only [Bool.false_eq_true, if_false] at hx2
                  have HX2 := Lib.hid hx2
                  have y0 := cell_of_row W x 0 _ _ _ hx2
                  have y1 := cell_of_row W x 1 _ _ _ hx2
                  have f0 := frozen_of_row W x 0 _ _ hx2
                  have f1 := frozen_of_row W x 1 _ _ hx2
                  simp at y0 y1
                  clear hx2
                  go_simp
                  refine ⟨x, fun _ _ => rfl, rfl, Below.setCell (Below.setCell hW hx1 _) hx1 _, fun _ => ⟨hx1, ?_⟩⟩
                  rw [if_pos (by simp)]
                  exact heap_set2 HX2.out
                all_goals go_simp
                all_goals exact ⟨x, fun _ _ => rfl, rfl, hW, fun h => by simpa using HW11.out (by simpa using h)⟩
              case htail3 =>
                intro L x W hL hW
                obtain ⟨hbW, hW⟩ := hW
                obtain ⟨hx1, hx2⟩ := hW (hL 16 (by omega))
                rw [if_pos (hL 17 (by omega))] at hx2
                clear hW hL
                have y0 := cell_of_row W x 0 _ _ _ hx2
                have y1 := cell_of_row W x 1 _ _ _ hx2
                have HGW := Lib.hid ((hbW.block (w.heap.size + 1) hwr1).trans HG.out)
                have g0' := cell_of_row W (w.heap.size + 1) 0 _ _ _ HGW.out
                have g1' := cell_of_row W (w.heap.size + 1) 1 _ _ _ HGW.out
                have fg0' := frozen_of_row W (w.heap.size + 1) 0 _ _ HGW.out
                have fg1' := frozen_of_row W (w.heap.size + 1) 1 _ _ HGW.out
                simp at y0 y1 g0' g1'
                have hbw : Below w.heap.size w W := hb0r.trans (hbW.mono hb0r.size)
                clear g0 g1 fg0 fg1 m0 m1 m2 m3 q0 q1 hx2
                have HSW := Lib.hid ((hbW.block gs hsz).trans HS.out)
                have z0 := cell_of_row W gs 0 _ _ _ HSW.out
                have z1 := cell_of_row W gs 1 _ _ _ HSW.out
                have fz0 := frozen_of_row W gs 0 _ _ HSW.out
                have fz1 := frozen_of_row W gs 1 _ _ HSW.out
                simp at z0 z1
                have hbg : Below gs wb W := hb.trans (hbW.mono (by omega))
                by_cases hlh : lo ≤ hi
                · have w1' : IntKind.i64.wrap (su1 + lo) = su1 + lo := IntWalk.i64_in _ (by omega)
                  have w2' : IntKind.i64.wrap (su2 + hi) = su2 + hi := IntWalk.i64_in _ (by omega)
                  have HO2 := Lib.hid (show ordB s xs (k + 1) = true by rw [HOS.out, HORD.out, HST.out]; simpa using hlh)
                  clear HOS
                  gi_wp2_with fail
                  go_wp2
                  go_roundw
                  case rel => exact ⟨k + 1, by omega, by go_num, HO2.out, by rw [HSS.out, HST.out]; exact heap_set2 HSW.out, Below.setCell (Below.setCell hbg (Nat.le_refl _) _) (Nat.le_refl _) _⟩
                  case measure => (simp [intOf] <;> omega)
                · have HR := Lib.hid (HR0.out (by rw [List.all_eq_false]; exact ⟨k, List.mem_range.2 hlt, by rw [HST.out]; simpa using hlh⟩))
                  gi_wp2_with fail
                  go_wp2
                  refine bodyPost_ret (resRLoop _ _ (w.heap.size + 1) (.int .i64 0) (.int .i64 0) (.int .i64 11) rfl rfl ?_) rfl ?_
                  · exact heap_set2 HGW.out
                  · have h := HR.out
                    injection h with h1 h2
                    injection h1 with h1 h3
                    subst h1 h2 h3
                    exact ⟨rfl, by (repeat' (first | (with_reducible exact Below.refl _ _) | (with_reducible refine Below.alloc ?_ ?_ _) | (with_reducible refine Below.drew ?_) | (with_reducible refine Below.drewN_ ?_ _) | (with_reducible refine Below.setCell ?_ ?_ _) | (with_reducible refine Below.setRow ?_ ?_ _) | (with_reducible refine Below.via ?_ (by with_reducible assumption) ?_) | go_size))⟩
            · have hkN : k = xs.length := by omega
              have z0 := cell_of_row wr gs 0 _ _ _ HS.out
              have z1 := cell_of_row wr gs 1 _ _ _ HS.out
              simp at z0 z1
              subst hkN
              generalize sumTo s xs xs.length = su at *
              have HR := Lib.hid (HR1.out HORD.out)
              clear HORD HR1
              go_wp2
              refine bodyPost_ret (resRLoop _ _ (w.heap.size + 1) (.int .i64 su.1) (.int .i64 su.2) (.int .i64 0) rfl rfl ?_) rfl ?_
              · exact heap_set2 HG.out
              · have h := HR.out
                injection h with h1 h2
                subst h2
                rw [h1]
                exact ⟨rfl, by (repeat' (first | (with_reducible exact Below.refl _ _) | (with_reducible refine Below.alloc ?_ ?_ _) | (with_reducible refine Below.drew ?_) | (with_reducible refine Below.drewN_ ?_ _) | (with_reducible refine Below.setCell ?_ ?_ _) | (with_reducible refine Below.setRow ?_ ?_ _) | (with_reducible refine Below.via ?_ (by with_reducible assumption) ?_) | go_size))⟩

theorem rloop_any (s : Sv) (xs : List Int) (cp c1 c2 c3 : Nat) (AP A1 A2 A3 : Option Addr) (w : World)
    (r1 : Rd w w.heap.size A1 shV 4 s.shots) (r2 : Rd w w.heap.size A2 mkV 3 s.marks) (r3 : Rd w w.heap.size A3 shV 4 s.threads) (rp : Rd w w.heap.size AP inV 1 xs) (hl9 : xs.length ≤ 1000000000) :
    Calls Try.prog 25 #[.agg #[.int .i64 s.n, .slice A1 s.shots.length c1, .slice A2 s.marks.length c2, .slice A3 s.threads.length c3], .slice AP xs.length cp] w fun e w' =>
      e = .returned (.tuple #[.agg #[.int .i64 (lvLoop s xs).1.1, .int .i64 (lvLoop s xs).1.2], .int .i64 (lvLoop s xs).2]) ∧ Below w.heap.size w w' := by
  cases hok : svOk s
  · exact rloop_bad s xs cp c1 c2 c3 AP A1 A2 A3 w r1 r2 r3 rp hl9 hok
  · cases hin : inR 2 20 (xs.length : Int)
    · refine rloop_len s xs cp c1 c2 c3 AP A1 A2 A3 w r1 r2 r3 rp hl9 hok ?_ hin
      cases hlp : loopB s.n xs
      · rfl
      · have h := loop_len hlp
        unfold inR at hin
        simp only [Bool.and_eq_false_iff, decide_eq_false_iff_not] at hin
        omega
    · exact rloop_main s xs cp c1 c2 c3 AP A1 A2 A3 w r1 r2 r3 rp hl9 hok hin

end Go.Proofs.Ytbolfjlfpkgfiaa
