/- salt.Plan of valid needs and rents, if no fields lack minutes. Condition: at each step what may be given at most is found by halving. -/
import Derived.Test.YtjkefoijhphknaaMkLk
set_option linter.unusedSimpArgs false
namespace Go.Proofs.Ytjkefoijhphknaa
open Go.RowKit Go.IntWalk

/-- What Plan answers. -/
def PlanPost (m : Mk) (fl : Nat → List Nat) (q : Nat) (w : World) (e : Ending) (w' : World) : Prop :=
  (∃ P R, e = .returned (.tuple #[.slice (some ⟨P, 0, none⟩) m.lots.length m.lots.length, .int .i64 (costI m), .int .i64 0]) ∧ PlAt w' P m.lots.length q m.lots.length R (stO m fl m.lots.length).pl w.heap.size) ∧ Below w.heap.size w w'
def HasPl (m : Mk) (fl : Nat → List Nat) (q : Nat) (base : Nat) (v : Value) (W : World) : Prop := ∃ P R, v = .slice (some ⟨P, 0, none⟩) m.lots.length m.lots.length ∧ PlAt W P m.lots.length q m.lots.length R (stO m fl m.lots.length).pl base
theorem HasPl.below {m : Mk} {fl : Nat → List Nat} {q base : Nat} {v : Value} {W W' : World} (h : HasPl m fl q base v W) (hb : Below W.heap.size W W') : HasPl m fl q base v W' := by
  obtain ⟨P, R, h1, h2⟩ := h
  exact ⟨P, R, h1, h2.below hb⟩
theorem PlAt.base {W : World} {P p q k : Nat} {R : Nat → Nat} {pl : Nat → Nat → Int} {b b' : Nat} (h : PlAt W P p q k R pl b) (hb : b' ≤ b) : PlAt W P p q k R pl b' :=
  ⟨h.hP, h.hR, Nat.le_trans hb h.bP, fun j hj => Nat.le_trans hb (h.bR j hj), h.inj, h.ne⟩
theorem ReAt.below {w w' : World} {rs : List Re} (h : ReAt w w.heap.size rs) (hb : Below w.heap.size w w') : ReAt w' w'.heap.size rs := fun r hr => ⟨((h r hr).1.below hb).more hb.size, (h r hr).2⟩
theorem miOf_0 {q : Int} {rs : List Re} (h : rentsB q rs = true) (i : Nat) : 0 ≤ miOf rs i := by
  have := miOf_b (rs := rs) (q := q) h i
  omega

set_option maxRecDepth 100000 in
set_option maxHeartbeats 4000000 in
theorem Plan_good (xs : List Int) (rs : List Re) (A1 : Option Addr) (c1 : Nat) (A2 : Option Addr) (c2 : Nat) (w : World) (r1 : Rd w w.heap.size A1 inV 1 xs) (r2 : Rd w w.heap.size A2 reV 3 rs) (rf : ReAt w w.heap.size rs) (hl1 : xs.length ≤ 8) (hl2 : rs.length ≤ 8)
    (hok1 : needsB xs = true) (hok2 : rentsB xs.length rs = true) (hlk : lkS (openM xs rs) 256 = 0) (hmono : MonoAt (openM xs rs) (flR rs)) :
    Calls Try.prog 27 #[.slice A1 xs.length c1, .slice A2 rs.length c2] w (PlanPost (openM xs rs) (flR rs) xs.length w) := by
  have HO := Lib.hid (open_good xs rs A1 c1 A2 c2 w r1 r2 rf hl1 hl2 hok1 hok2)
  have HM := Lib.hid (openM_ok hok1 hok2)
  have hl0 : ∀ i, 0 ≤ (openM xs rs).left i := fun i => miOf_0 hok2 i
  have hn0 : ∀ i, 0 ≤ (openM xs rs).needs i := fun i => ((needsB_spec hok1).2 i).1
  have HPL := Lib.hid (fun A1 c1 A2 c2 (W : World) (hW : Below w.heap.size w W) (r : Rd W W.heap.size A1 lotV 4 (openM xs rs).lots) (r2 : Rd W W.heap.size A2 nnV 1 (openM xs rs).dear) =>
    mplan_any (openM xs rs) (flR rs) xs.length A1 c1 A2 c2 W HM.out hl0 hn0 hl1 (fun k => Nat.le_trans (flR_len hok2 k) hl1) hmono (openM_fld (rf.below hW) hok2) r r2)
  have HCO := Lib.hid (fun A1 c1 A2 c2 (W : World) (r : Rd W W.heap.size A1 lotV 4 (openM xs rs).lots) (r2 : Rd W W.heap.size A2 nnV 1 (openM xs rs).dear) => cost_any (openM xs rs) A1 c1 A2 c2 W HM.out r r2)
  have HLK := Lib.hid (fun A1 c1 A2 c2 (W : World) (r : Rd W W.heap.size A1 lotV 4 (openM xs rs).lots) => lack_any (openM xs rs) A1 c1 A2 c2 W HM.out.ok r)
  clear r1 r2 rf hok1 hok2 hl0 hn0 hmono
  rw [hlk] at HLK
  clear hlk
  generalize flR rs = fl at *
  generalize openM xs rs = m at *
  go_enter Try.func27, Try.ntmps27
  go_upto_region 2 with (first | (go_at_call 56; refine HO.out.mono ?_; rintro e w1 ⟨⟨B1, d1, B2, d2, rfl, q1, q2⟩, hb1⟩) | (refine wpList_store_row rfl 114 (.tmp 7) (.tmp 14) rfl w1.heap.size (mkA m B1 d1 B2 d2) rfl rfl 114 (mkA mkZ none 0 none 0) (heap_alloc_new w1 _) (infoMk _ _ _ _ _) rfl (mkA_one _ _ _ _ _) ?_))
  obtain ⟨w2, hw2⟩ : ∃ w2, w1.alloc (.cells (mkA m B1 d1 B2 d2) 114) = w2 := ⟨_, rfl⟩
  obtain ⟨g, hg⟩ : ∃ g, w1.heap.size = g := ⟨_, rfl⟩
  have b2 : Below w1.heap.size w1 w2 := by rw [← hw2]; (repeat' (first | (with_reducible exact Below.refl _ _) | (with_reducible refine Below.alloc ?_ ?_ _) | (with_reducible refine Below.drew ?_) | (with_reducible refine Below.drewN_ ?_ _) | (with_reducible refine Below.setCell ?_ ?_ _) | (with_reducible refine Below.setRow ?_ ?_ _) | (with_reducible refine Below.via ?_ (by with_reducible assumption) ?_) | go_size))
  have e2 : w2.heap[g]? = some (.cells (mkA m B1 d1 B2 d2) 114 (0, 0)) := by rw [← hw2, ← hg]; exact heap_alloc_new _ _
  have E2 := Lib.hid e2
  have Q1 := Lib.hid ((q1.below b2).more b2.size)
  have Q2 := Lib.hid ((q2.below b2).more b2.size)
  have BB := Lib.hid (hb1.trans (b2.mono hb1.size))
  rw [World.setRow_alloc_new, hw2, hg]
  clear e2 hw2 b2 q1 q2 hb1 hg
  have hz2 := BB.out.size
  go_upto_region 7 with (first | (refine wpList_load_row rfl 114 (.tmp 7) rfl g rfl 114 (mkA m B1 d1 B2 d2) (0, 0) _ E2.out Try.underlying114 rfl (infoMk _ _ _ _ _) ?_) | (go_at_call 57; refine (HLK.out B1 d1 B2 d2 w2 Q1.out).mono ?_; rintro e w3 ⟨rfl, hb3⟩))
  have E3 := Lib.hid ((hb3.block g (Array.getElem?_eq_some_iff.1 E2.out).1).trans E2.out)
  have P1 := Lib.hid ((Q1.out.below hb3).more hb3.size)
  have P2 := Lib.hid ((Q2.out.below hb3).more hb3.size)
  have B3 := Lib.hid (BB.out.trans (hb3.mono hz2))
  have hz3 := B3.out.size
  clear hb3 E2 Q1 Q2 BB hz2
  refine (wpIn_wide (n := 3)).1 ?_
  refine wpIn_region_planYA (X := Value) (by kernel_rfl) 9 (by decide +kernel) (by decide +kernel) (by omega)
    (fun x i => if i = 3 then x else if i = 6 then x else (#[.agg (mkA m B1 d1 B2 d2), .slice A1 xs.length c1, .int .i64 (xs.length : Nat), undef, .agg (mkA m B1 d1 B2 d2), .int .i64 (costI m), undef, .int .i64 (costI m), .int .i64 0] : Array Value).getD i undef)
    (fun L x W => Below w3.heap.size w3 W ∧ (L 3 = true → HasPl m fl xs.length w3.heap.size x W)) _ _ undef ?aF ?hA ?hS ?hstep ?htail
  case hA => intro x; simp [putTo, putIf, dstAt, Act.put, List.range_succ]; rfl
  case hS => exact fun L hL => ⟨(Below.refl _ _).drew, fun h => by rw [hL] at h; cases h⟩
  case hstep =>
    intro i o' hi ho L x W hL hcl hdep hW
    obtain ⟨hW1, hW2⟩ := hW
    have H2 := Lib.hid hW2
    have hzW := hW1.size
    have hrow := Lib.hid ((hW1.block g (Array.getElem?_eq_some_iff.1 E3.out).1).trans E3.out)
    have hld := run_loadVar_row (P := Try.prog) W g 114 114 (mkA m B1 d1 B2 d2) (0, 0) _ hrow.out Try.underlying114 rfl (infoMk _ _ _ _ _)
    have hP1 := Lib.hid ((P1.out.below hW1).more hzW)
    have hP2 := Lib.hid ((P2.out.below hW1).more hzW)
    have hBW := Lib.hid (B3.out.trans (hW1.mono hz3))
    clear hW2
    refine ⟨fun _ _ => trivial, ?_⟩
    match i, hi, ho with
    | 0, _, ho => simp only [List.getElem?_toArray, List.getElem?_cons_succ, List.getElem?_cons_zero, Option.some.injEq] at ho; subst ho; simp only [execOp, Act.eval, List.getElem?_toArray, Array.getD_eq_getD_getElem?, List.getElem?_cons_succ, List.getElem?_cons_zero, Option.getD_some, Instr.loadAt, Instr.sureAddr, Sem.run_bind, Sem.run_pure, Result.andThen_ok, hld]; exact ⟨x, fun _ _ => rfl, by first | rfl | simp, hW1, fun h => H2.out (by simpa using h)⟩
    | 1, _, ho => simp only [List.getElem?_toArray, List.getElem?_cons_succ, List.getElem?_cons_zero, Option.some.injEq] at ho; subst ho; go_simp; exact ⟨x, fun _ _ => rfl, by first | rfl | simp, hW1, fun h => H2.out (by simpa using h)⟩
    | 2, _, ho => simp only [List.getElem?_toArray, List.getElem?_cons_succ, List.getElem?_cons_zero, Option.some.injEq] at ho; subst ho; go_simp; exact ⟨x, fun _ _ => rfl, by first | rfl | simp, hW1, fun h => H2.out (by simpa using h)⟩
    | 3, _, ho =>
      simp only [List.getElem?_toArray, List.getElem?_cons_succ, List.getElem?_cons_zero, Option.some.injEq] at ho; subst ho
      go_simp
      refine ⟨by simp, callsIn_wide.2 ((HPL.out B1 d1 B2 d2 W hBW.out hP1.out hP2.out).mono ?_)⟩
      rintro e w' ⟨⟨P, R, rfl, hp⟩, hb⟩
      refine ⟨_, rfl, .slice (some ⟨P, 0, none⟩) m.lots.length m.lots.length, fun j hj => ?_, rfl, hW1.trans (hb.mono hzW), fun _ => ⟨P, R, rfl, hp.base hzW⟩⟩
      have h3 : j ≠ 3 := fun e => by rw [e, hL] at hj; cases hj
      have h6 : j ≠ 6 := fun e => by
        rw [e] at hj
        have h0 := hcl 6 _ hj rfl { on := 3, ground := Ground.data } (by simp) rfl
        rw [hL] at h0
        cases h0
      dsimp only
      rw [if_neg h3, if_neg h6, if_neg h3, if_neg h6]
    | 4, _, ho => simp only [List.getElem?_toArray, List.getElem?_cons_succ, List.getElem?_cons_zero, Option.some.injEq] at ho; subst ho; simp only [execOp, Act.eval, List.getElem?_toArray, Array.getD_eq_getD_getElem?, List.getElem?_cons_succ, List.getElem?_cons_zero, Option.getD_some, Instr.loadAt, Instr.sureAddr, Sem.run_bind, Sem.run_pure, Result.andThen_ok, hld]; exact ⟨x, fun _ _ => rfl, by first | rfl | simp, hW1, fun h => H2.out (by simpa using h)⟩
    | 5, _, ho =>
      simp only [List.getElem?_toArray, List.getElem?_cons_succ, List.getElem?_cons_zero, Option.some.injEq] at ho; subst ho
      go_simp
      refine ⟨by simp, callsIn_wide.2 ((HCO.out B1 d1 B2 d2 W hP1.out hP2.out).mono ?_)⟩
      rintro e w' ⟨rfl, hb⟩
      exact ⟨_, rfl, x, fun _ _ => rfl, rfl, hW1.trans (hb.mono hzW), fun h => (H2.out (by simpa using h)).below hb⟩
    | 6, _, ho => simp only [List.getElem?_toArray, List.getElem?_cons_succ, List.getElem?_cons_zero, Option.some.injEq] at ho; subst ho; go_simp; exact ⟨x, fun _ _ => rfl, by first | rfl | simp, hW1, fun h => H2.out (by simpa using h)⟩
    | 7, _, ho => simp only [List.getElem?_toArray, List.getElem?_cons_succ, List.getElem?_cons_zero, Option.some.injEq] at ho; subst ho; go_simp; exact ⟨x, fun _ _ => rfl, by first | rfl | simp, hW1, fun h => H2.out (by simpa using h)⟩
    | 8, _, ho => simp only [List.getElem?_toArray, List.getElem?_cons_succ, List.getElem?_cons_zero, Option.some.injEq] at ho; subst ho; go_simp; exact ⟨x, fun _ _ => rfl, by first | rfl | simp, hW1, fun h => H2.out (by simpa using h)⟩
    | k + 9, hk, _ => omega
  case htail =>
    intro L x W hL hW
    obtain ⟨hW1, hW2⟩ := hW
    obtain ⟨P, R, rfl, hp⟩ := hW2 (hL 3 (by omega))
    simp only [List.drop_succ_cons, List.drop_nil]
    gi_wp2
    go_wp2
    go_ret3
    exact ⟨⟨P, R, rfl, hp.base hz3⟩, B3.out.trans (hW1.mono hz3)⟩
end Go.Proofs.Ytjkefoijhphknaa
