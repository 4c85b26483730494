/- For every survey and any list of numbers LevelLoops returns true; the arguments read as before. No condition. -/
import Derived.Test.YtbolfjlfpkgfiaaLawLoops
import Derived.Test.YtbolfjlfpkgfiaaOpen
import Derived.ProofKit
import Derived.OpenShut
import Derived.KernelRfl
set_option linter.unusedVariables false
namespace Go.Proofs.Ytbolfjlfpkgfiaa
open Go.ChangeShapes Go.WideShapes Go.ChangeAt Go.RowKit

set_option maxRecDepth 100000 in
theorem open_intsL {H : Type} {ench : TypeId × Value → H} {w : World} {r : Reach} {b0 : Nat} {v : Value} {d : DataW H} {p : List MemPlace} (hv : Value.okWide Try.prog w r b0 46 v) (h : DataW.Trod ench Try.prog w 0 (fun _ => true) true 46 v d p) :
    ∃ A c, ∃ l : List Int, v = .slice A l.length c ∧ Rd w w.heap.size A inV 1 l := by
  obtain ⟨a, len, cap, rfl⟩ := okWide_slice Try.underlying46 hv
  obtain ⟨fuel, hf⟩ := h
  obtain ⟨A, c, l, h1, _, h2⟩ := open_rd (enc := inV) (v := .slice a len cap) Try.underlying46 cInt (fun _ => rfl) (by omega) (fun n cs x h => by
    obtain ⟨z, rfl, _⟩ := DataW.trod_int Try.underlying3 h
    exact ⟨z, rfl⟩) hf
  exact ⟨A, c, l, h1, h2⟩

theorem own_loops : ownKnob Try.prog.godebug = none := by kernel_rfl

set_option maxRecDepth 100000 in
theorem lifted_loops (os : Os) (started : os.Started) (H : Type) (enc : TypeId × Value → H) :
    ReturnsInHanded {} Try.checked os 4 .any (Rows.levelLoopsSpec.pre6 enc Try.prog Try.f4 Rows.levelLoopsRow.domain false)
      (Rows.levelLoopsSpec.post enc Try.prog Try.f4 false true false false) := by
  refine returnsInHanded_of_change (C := Try.checked) own_loops started (by kernel_rfl) Try.func4
    (ChangeSpec.witness6 (enc := enc) (C := Try.checked) false
      ⟨#[], #[.agg #[.int .i64 0, .slice none 0 0, .slice none 0 0, .slice none 0 0], .slice none 0 0], []⟩ 8
      (by kernel_rfl) (by kernel_rfl) (by kernel_rfl) (by kernel_rfl)) ?_
  intro W base args ds gs before hval0 hW hcnd hx
  have hval : ∀ (j : Nat) (t : TypeId) (v : Value), Try.f4.params[j]? = some t → args[j]? = some v → Value.okWide Try.prog W .any base t v := hval0
  obtain ⟨p, q, hA0, hR0⟩ := id hW
  have hA := hA0
  rw [show Try.f4.params.toList = [26, 46] from rfl] at hA
  obtain ⟨v0, vs0, d0, ds0, p0, q0, hv0, hd0, hp0, h0, hA⟩ := trodAll_cons hA
  obtain ⟨v1, vs1, d1, ds1, p1, q1, rfl, rfl, rfl, h1, hA⟩ := trodAll_cons hA
  obtain ⟨rfl, rfl, rfl⟩ := trodAll_nil hA
  subst hd0
  have hargs : args = #[v0, v1] := by cases args; simp_all
  subst hargs
  obtain ⟨s, c1, c2, c3, A1, A2, A3, rfl, r1, r2, r3⟩ := open_survey (hval 0 _ _ rfl rfl) h0
  obtain ⟨AP, cp, xs, rfl, rp⟩ := open_intsL (hval 1 _ _ rfl rfl) h1
  exact (lawLoops_any s xs cp c1 c2 c3 AP A1 A2 A3 W r1 r2 r3 rp).mono fun e W' ⟨he, hb⟩ =>
    ⟨_, he, law_post rfl rfl hW (by decide) rfl hb⟩

theorem over_loops : Rows.levelLoopsRow.holds Try.pinned (OpenSpec.ofChange Rows.levelLoopsSpec) :=
  OpenClaim.holds_of_wide 4 Try.f4 rfl rfl rfl rfl rfl rfl rfl ⟨rfl, rfl, rfl, rfl, rfl⟩ rfl rfl rfl rfl rfl (by kernel_rfl) Try.func4 (by kernel_rfl)
    (of_decide_eq_true (by kernel_rfl)) (by unfold Func.isWrapper; first | (rw [if_pos (by decide +kernel)]; kernel_rfl) | (rw [if_neg (by decide +kernel)]; exact ⟨rfl, rfl⟩))
    (fun os started H enc _ => lifted_loops os started H enc)

theorem levelLoops_holds : Rows.LevelLoopsSaid := over_loops

end Go.Proofs.Ytbolfjlfpkgfiaa
