/- For any survey, any list of numbers LevelLoop returns true; the arguments read as before. No condition. -/
import Derived.Test.YtaoonfmcimkmhaaLawLoop
import Derived.Test.YtaoonfmcimkmhaaOpen
import Derived.ProofKit
import Derived.OpenShut
import Derived.KernelRfl
set_option linter.unusedVariables false
namespace Go.Proofs.Ytaoonfmcimkmhaa
open Go.ChangeShapes Go.WideShapes Go.ChangeAt Go.RowKit

theorem own_it : ownKnob Try.prog.godebug = none := by kernel_rfl

set_option maxRecDepth 100000 in
theorem lifted_it (os : Os) (started : os.Started) (H : Type) (enc : TypeId × Value → H) :
    ReturnsInHanded {} Try.checked os 9 .any (Rows.levelLoopSpec.pre6 enc Try.prog Try.f9 Rows.levelLoopRow.domain false)
      (Rows.levelLoopSpec.post enc Try.prog Try.f9 false true false false) := by
  refine returnsInHanded_of_change (C := Try.checked) own_it started (by kernel_rfl) Try.func9
    (ChangeSpec.witness6 (enc := enc) (C := Try.checked) false
      ⟨#[], #[.agg #[.int .i64 0, .slice none 0 0, .slice none 0 0, .slice none 0 0], .slice none 0 0], []⟩ 8
      (by kernel_rfl) (by kernel_rfl) (by kernel_rfl) (by kernel_rfl)) ?_
  intro W base args ds gs before hval0 hW hcnd hx
  have hval : ∀ (j : Nat) (t : TypeId) (v : Value), Try.f9.params[j]? = some t → args[j]? = some v → Value.okWide Try.prog W .any base t v := hval0
  obtain ⟨p, q, hA0, hR0⟩ := id hW
  have hA := hA0
  rw [show Try.f9.params.toList = [26, 46] from rfl] at hA
  obtain ⟨v0, vs0, d0, ds0, p0, q0, hv0, hd0, hp0, h0, hA⟩ := trodAll_cons hA
  obtain ⟨v1, vs1, d1, ds1, p1, q1, rfl, rfl, rfl, h1, hA⟩ := trodAll_cons hA
  obtain ⟨rfl, rfl, rfl⟩ := trodAll_nil hA
  subst hd0
  have hargs : args = #[v0, v1] := by cases args; simp_all
  subst hargs
  obtain ⟨s, c1, c2, c3, A1, A2, A3, rfl, r1, r2, r3⟩ := open_survey (hval 0 _ _ rfl rfl) h0
  obtain ⟨AP1, cp1, xs1, rfl, rp1⟩ := open_intsA (hval 1 _ _ rfl rfl) h1
  exact (lawLoop_any s xs1 cp1 c1 c2 c3 AP1 A1 A2 A3 W r1 r2 r3 rp1).mono fun e W' ⟨he, hb⟩ =>
    ⟨_, he, law_post rfl rfl hW (by decide) rfl hb⟩

theorem over_it : Rows.levelLoopRow.holds Try.pinned (OpenSpec.ofChange Rows.levelLoopSpec) :=
  OpenClaim.holds_of_wide 9 Try.f9 rfl rfl rfl rfl rfl rfl rfl ⟨rfl, rfl, rfl, rfl, rfl⟩ rfl rfl rfl rfl rfl (by kernel_rfl) Try.func9 (by kernel_rfl)
    (of_decide_eq_true (by kernel_rfl)) (by unfold Func.isWrapper; first | (rw [if_pos (by decide +kernel)]; kernel_rfl) | (rw [if_neg (by decide +kernel)]; exact ⟨rfl, rfl⟩))
    (fun os started H enc _ => lifted_it os started H enc)

theorem levelLoop_holds : Rows.LevelLoopSaid := over_it

end Go.Proofs.Ytaoonfmcimkmhaa
