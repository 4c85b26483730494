/- Whether the salt is at most the limit after a cycle: the closure of SaltNeed. Condition: a valid soil, water in bounds. -/
import Derived.Test.YtjkefoijhphknaaSaLw
import Derived.Test.YtjkefoijhphknaaSaNeedM
import Derived.Test.YtjkefoijhphknaaAlive
set_option linter.unusedSimpArgs false
set_option linter.unusedVariables false
namespace Go.Proofs.Ytjkefoijhphknaa
open Go.RowKit Go.IntWalk
attribute [local go_sem] wx_cell wx_frozen

theorem saAfter_one {s : So} (h : soOk s = true) {x : Int} (x0 : 0 ≤ x) (x1 : x ≤ 1000000000) : saAfter s x x 1 = ([saS (cyc s x x)], 0) := by
  have h2 : (so1 x x 1000000000 && soIn 1 0 100) = true := by simp [so1, soIn]; omega
  unfold saAfter
  rw [if_neg (by rw [h]; simp), if_neg (by rw [h2]; simp)]
  rfl
theorem infoSoil (s : So) : (Try.prog.info? 25).map (·.size) = some (soA s).size := by kernel_rfl

set_option maxRecDepth 100000 in
set_option maxHeartbeats 4000000 in
theorem fine_any (s : So) (B : Nat) (x : Int) (w : World) (hrow : w.heap[B]? = some (.cells (soA s) 25 (0, 0))) (h : soOk s = true) (x0 : 0 ≤ x) (x1 : x ≤ 1000000000) :
    Calls Try.prog 37 #[.int .i64 x, .pointer (some ⟨B, 0, none⟩)] w fun e w' => e = .returned (.bool (decide ((cyc s x x).saH ≤ s.lim))) ∧ Below w.heap.size w w' := by
  have CA := Lib.hid (fun W => After_any s x x 1 W)
  unfold AfterPost at CA
  rw [saAfter_one h x0 x1] at CA
  have SP := Lib.hid span_any
  obtain ⟨b, hb⟩ : ∃ b, decide ((cyc s x x).saH ≤ s.lim) = b := ⟨_, rfl⟩
  have HB := Lib.hid hb
  rw [hb]
  unfold saS at CA
  generalize (cyc s x x).saL = lo at *
  generalize (cyc s x x).saH = hi at *
  have ROW := Lib.hid hrow
  have hlt : B < w.heap.size := (Array.getElem?_eq_some_iff.1 hrow).1
  clear hrow hb h
  go_enter Try.func37, Try.ntmps37
  go_upto_region 1 with (fail)
  refine (wpIn_wide (n := 3)).1 ?_
  refine wpIn_region_planYA (X := Option Addr × Nat) (by kernel_rfl) 10 (by decide +kernel) (by decide +kernel) (by omega)
    (fun u i => if i = 4 then .tuple #[.slice u.1 1 u.2, .int .i64 0] else if i = 5 then .tuple #[.slice u.1 1 u.2, .int .i64 0] else if i = 6 then .slice u.1 1 u.2 else if i = 8 then .slice u.1 1 u.2 else (#[.agg (soA s), .int .i64 x, .int .i64 x, .agg #[.int .i64 x, .int .i64 x], undef, undef, undef, .int .i64 0, undef, .int .i64 0] : Array Value).getD i undef)
    (fun L u W => Below w.heap.size w W ∧ (L 4 = true → Rd W W.heap.size u.1 spV 2 [(lo, hi)])) _ _ (none, 0) ?aF ?hA ?hS ?hstep ?htail
  case hA => intro x; simp [putTo, putIf, dstAt, Act.put, List.range_succ]; rfl
  case hS => exact fun L hL => ⟨(Below.refl _ _).drew, fun h => by rw [hL] at h; cases h⟩
  case hstep =>
    intro i o' hi' ho L u W hL hcl hdep hW
    obtain ⟨hW1, hW2⟩ := hW
    have H2 := Lib.hid hW2
    have hzW := hW1.size
    have hld := run_loadVar_row (P := Try.prog) W B 25 25 (soA s) (0, 0) _ ((hW1.block B hlt).trans ROW.out) Try.underlying25 rfl (infoSoil s)
    clear hW2
    refine ⟨fun _ _ => trivial, ?_⟩
    match i, hi', ho with
    | 0, _, ho => simp only [List.getElem?_toArray, List.getElem?_cons_succ, List.getElem?_cons_zero, Option.some.injEq] at ho; subst ho; simp only [execOp, Act.eval, List.getElem?_toArray, Array.getD_eq_getD_getElem?, List.getElem?_cons_succ, List.getElem?_cons_zero, Option.getD_some, Instr.loadAt, Instr.sureAddr, Sem.run_bind, Sem.run_pure, Result.andThen_ok, hld]; exact ⟨u, fun _ _ => rfl, by first | rfl | simp, hW1, fun h => H2.out (by simpa using h)⟩
    | 1, _, ho => simp only [List.getElem?_toArray, List.getElem?_cons_succ, List.getElem?_cons_zero, Option.some.injEq] at ho; subst ho; go_simp; exact ⟨u, fun _ _ => rfl, by first | rfl | simp, hW1, fun h => H2.out (by simpa using h)⟩
    | 2, _, ho => simp only [List.getElem?_toArray, List.getElem?_cons_succ, List.getElem?_cons_zero, Option.some.injEq] at ho; subst ho; go_simp; exact ⟨u, fun _ _ => rfl, by first | rfl | simp, hW1, fun h => H2.out (by simpa using h)⟩
    | 3, _, ho =>
      simp only [List.getElem?_toArray, List.getElem?_cons_succ, List.getElem?_cons_zero, Option.some.injEq] at ho; subst ho
      go_simp
      refine ⟨by simp, callsIn_wide.2 ((SP.out x x W).mono ?_)⟩
      rintro e w' ⟨rfl, hb⟩
      exact ⟨_, rfl, u, fun _ _ => rfl, rfl, hW1.trans (hb.mono hzW), fun h => rd_keep (H2.out (by simpa using h)) hb⟩
    | 4, _, ho =>
      simp only [List.getElem?_toArray, List.getElem?_cons_succ, List.getElem?_cons_zero, Option.some.injEq] at ho; subst ho
      go_simp
      refine ⟨by simp, callsIn_wide.2 ((CA.out W).mono ?_)⟩
      rintro e w' ⟨⟨A, c, rfl, hr⟩, hb⟩
      refine ⟨_, rfl, (A, c), fun j hj => ?_, rfl, hW1.trans (hb.mono hzW), fun _ => hr⟩
      have h4 : j ≠ 4 := fun e => by rw [e, hL] at hj; cases hj
      have h5 : j ≠ 5 := fun e => by
        rw [e] at hj
        have h0 := hcl 5 _ hj rfl { on := 4, ground := Ground.data } (by simp) rfl
        rw [hL] at h0
        cases h0
      have h6 : j ≠ 6 := fun e => by
        rw [e] at hj
        have h0 := hcl 6 _ hj rfl { on := 5, ground := Ground.data } (by simp) rfl
        have h0 := hcl 5 _ h0 rfl { on := 4, ground := Ground.data } (by simp) rfl
        rw [hL] at h0
        cases h0
      have h8 : j ≠ 8 := fun e => by
        rw [e] at hj
        have h0 := hcl 8 _ hj rfl { on := 6, ground := Ground.data } (by simp) rfl
        have h0 := hcl 6 _ h0 rfl { on := 5, ground := Ground.data } (by simp) rfl
        have h0 := hcl 5 _ h0 rfl { on := 4, ground := Ground.data } (by simp) rfl
        rw [hL] at h0
        cases h0
      dsimp only
      rw [if_neg h4, if_neg h5, if_neg h6, if_neg h8, if_neg h4, if_neg h5, if_neg h6, if_neg h8]
    | 5, _, ho => simp only [List.getElem?_toArray, List.getElem?_cons_succ, List.getElem?_cons_zero, Option.some.injEq] at ho; subst ho; go_simp; exact ⟨u, fun _ _ => rfl, by first | rfl | simp, hW1, fun h => H2.out (by simpa using h)⟩
    | 6, _, ho => simp only [List.getElem?_toArray, List.getElem?_cons_succ, List.getElem?_cons_zero, Option.some.injEq] at ho; subst ho; go_simp; exact ⟨u, fun _ _ => rfl, by first | rfl | simp, hW1, fun h => H2.out (by simpa using h)⟩
    | 7, _, ho => simp only [List.getElem?_toArray, List.getElem?_cons_succ, List.getElem?_cons_zero, Option.some.injEq] at ho; subst ho; go_simp; exact ⟨u, fun _ _ => rfl, by first | rfl | simp, hW1, fun h => H2.out (by simpa using h)⟩
    | 8, _, ho => simp only [List.getElem?_toArray, List.getElem?_cons_succ, List.getElem?_cons_zero, Option.some.injEq] at ho; subst ho; go_simp; exact ⟨u, fun _ _ => rfl, by first | rfl | simp, hW1, fun h => H2.out (by simpa using h)⟩
    | 9, _, ho => simp only [List.getElem?_toArray, List.getElem?_cons_succ, List.getElem?_cons_zero, Option.some.injEq] at ho; subst ho; go_simp; exact ⟨u, fun _ _ => rfl, by first | rfl | simp, hW1, fun h => H2.out (by simpa using h)⟩
    | k + 10, hk, _ => omega
  case htail =>
    intro L u W hL hW
    obtain ⟨A, c⟩ := u
    obtain ⟨hW1, hW2⟩ := hW
    have hr := hW2 (hL 4 (by omega))
    obtain ⟨g, o, hA, hg, hc⟩ := hr (by simp)
    dsimp only at hA
    subst hA
    have q1 := hc 0 _ rfl 1 _ rfl
    simp only [Nat.zero_mul, Nat.add_zero] at q1
    have k2 : W.cell? ⟨B, 2, none⟩ = some (.int .i64 s.lim) := cell_of_row W B 2 _ _ _ ((hW1.block B hlt).trans ROW.out)
    have hB := Nat.lt_of_lt_of_le hlt hW1.size
    have HW1 := Lib.hid hW1
    clear hW1 hW2 hc hr hL
    simp only [List.drop_succ_cons, List.drop_nil, List.drop_zero]
    gi_wp2
    go_wp2
    refine wp_region_calm (by kernel_rfl) (by kernel_rfl) ?_
    repeat (go_big_quiet_step (fail))
    refine wpQuiet_nil ?_; rintro _ ⟨dx, rfl⟩
    obtain ⟨wy, hwy⟩ : ∃ wy, wx _ dx = wy := ⟨_, rfl⟩; have hby := wx_below _ dx; rw [hwy] at hby ⊢
    go_wp2
    go_ret
    exact ⟨by rw [← HB.out]; rfl, HW1.out.trans (hby.mono HW1.out.size)⟩
end Go.Proofs.Ytjkefoijhphknaa
