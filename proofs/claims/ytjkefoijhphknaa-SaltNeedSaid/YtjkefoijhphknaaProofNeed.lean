/- For any soil, any number SaltNeed returns true; the arguments read as before. No condition. -/
import Derived.Test.YtjkefoijhphknaaLawNeed
import Derived.Test.YtjkefoijhphknaaOpenU
import Derived.ProofKit
import Derived.OpenShut
import Derived.KernelRfl
set_option linter.unusedVariables false
namespace Go.Proofs.Ytjkefoijhphknaa
open Go.ChangeShapes Go.WideShapes Go.ChangeAt Go.RowKit

theorem own_it : ownKnob Try.prog.godebug = none := by kernel_rfl

set_option maxRecDepth 100000 in
theorem lifted_it (os : Os) (started : os.Started) (H : Type) (enc : TypeId × Value → H) :
    ReturnsInHanded {} Try.checked os 7 .any (Rows.saltNeedSpec.pre6 enc Try.prog Try.f7 Rows.saltNeedRow.domain false)
      (Rows.saltNeedSpec.post enc Try.prog Try.f7 false true false false) := by
  refine returnsInHanded_of_change (C := Try.checked) own_it started (by kernel_rfl) Try.func7
    (ChangeSpec.witness6 (enc := enc) (C := Try.checked) false
      ⟨#[], #[.agg #[.int .i64 0, .int .i64 0, .int .i64 0, .int .i64 0, .int .i64 0, .int .i64 0, .int .i64 0, .int .i64 0, .int .i64 0, .int .i64 0], .int .u32 0], []⟩ 8
      (by kernel_rfl) (by kernel_rfl) (by kernel_rfl) (by kernel_rfl)) ?_
  intro W base args ds gs before hval0 hW hcnd hx
  have hval : ∀ (j : Nat) (t : TypeId) (v : Value), Try.f7.params[j]? = some t → args[j]? = some v → Value.okWide Try.prog W .any base t v := hval0
  obtain ⟨p, q, hA0, hR0⟩ := id hW
  have hA := hA0
  rw [show Try.f7.params.toList = [25, 72] from rfl] at hA
  obtain ⟨v0, vs0, d0, ds0, p0, q0, hv0, hd0, hp0, h0, hA⟩ := trodAll_cons hA
  obtain ⟨v1, vs1, d1, ds1, p1, q1, rfl, rfl, rfl, h1, hA⟩ := trodAll_cons hA
  obtain ⟨rfl, rfl, rfl⟩ := trodAll_nil hA
  subst hd0
  have hargs : args = #[v0, v1] := by cases args; simp_all
  subst hargs
  obtain ⟨s0, rfl⟩ := open_soil (hval 0 _ _ rfl rfl) h0
  obtain ⟨n1, rfl, hn1⟩ := open_u32 (hval 1 _ _ rfl rfl) h1
  exact (lawNeed_any s0 n1 W hn1.1 hn1.2).mono fun e W' ⟨he, hb⟩ =>
    ⟨_, he, law_post rfl rfl hW (by decide) rfl hb⟩

theorem over_it : Rows.saltNeedRow.holds Try.pinned (OpenSpec.ofChange Rows.saltNeedSpec) :=
  OpenClaim.holds_of_wide 7 Try.f7 rfl rfl rfl rfl rfl rfl rfl ⟨rfl, rfl, rfl, rfl, rfl⟩ rfl rfl rfl rfl rfl (by kernel_rfl) Try.func7 (by kernel_rfl)
    (of_decide_eq_true (by kernel_rfl)) (by unfold Func.isWrapper; first | (rw [if_pos (by decide +kernel)]; kernel_rfl) | (rw [if_neg (by decide +kernel)]; exact ⟨rfl, rfl⟩))
    (fun os started H enc _ => lifted_it os started H enc)

theorem saltNeed_holds : Rows.SaltNeedSaid := over_it

end Go.Proofs.Ytjkefoijhphknaa
