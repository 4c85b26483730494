/- For any soil, any span, any list of numbers SaltMore returns true; the arguments read as before. No condition. -/
import Derived.Test.YtjkefoijhphknaaSaLawMore
import Derived.Test.YtjkefoijhphknaaOpenU
import Derived.ProofKit
import Derived.OpenShut
import Derived.KernelRfl
set_option linter.unusedVariables false
namespace Go.Proofs.Ytjkefoijhphknaa
open Go.ChangeShapes Go.WideShapes Go.ChangeAt Go.RowKit

theorem own_it : ownKnob Try.prog.godebug = none := by kernel_rfl

set_option maxRecDepth 100000 in
theorem lifted_it (os : Os) (started : os.Started) (H : Type) (enc : TypeId × Value → H) :
    ReturnsInHanded {} Try.checked os 8 .any (Rows.saltMoreSpec.pre6 enc Try.prog Try.f8 Rows.saltMoreRow.domain false)
      (Rows.saltMoreSpec.post enc Try.prog Try.f8 false true false false) := by
  refine returnsInHanded_of_change (C := Try.checked) own_it started (by kernel_rfl) Try.func8
    (ChangeSpec.witness6 (enc := enc) (C := Try.checked) false
      ⟨#[], #[.agg #[.int .i64 0, .int .i64 0, .int .i64 0, .int .i64 0, .int .i64 0, .int .i64 0, .int .i64 0, .int .i64 0, .int .i64 0, .int .i64 0], .agg #[.int .i64 0, .int .i64 0], .slice none 0 0], []⟩ 8
      (by kernel_rfl) (by kernel_rfl) (by kernel_rfl) (by kernel_rfl)) ?_
  intro W base args ds gs before hval0 hW hcnd hx
  have hval : ∀ (j : Nat) (t : TypeId) (v : Value), Try.f8.params[j]? = some t → args[j]? = some v → Value.okWide Try.prog W .any base t v := hval0
  obtain ⟨p, q, hA0, hR0⟩ := id hW
  have hA := hA0
  rw [show Try.f8.params.toList = [25, 23, 68] from rfl] at hA
  obtain ⟨v0, vs0, d0, ds0, p0, q0, hv0, hd0, hp0, h0, hA⟩ := trodAll_cons hA
  obtain ⟨v1, vs1, d1, ds1, p1, q1, rfl, rfl, rfl, h1, hA⟩ := trodAll_cons hA
  obtain ⟨v2, vs2, d2, ds2, p2, q2, rfl, rfl, rfl, h2, hA⟩ := trodAll_cons hA
  obtain ⟨rfl, rfl, rfl⟩ := trodAll_nil hA
  subst hd0
  have hargs : args = #[v0, v1, v2] := by cases args; simp_all
  subst hargs
  obtain ⟨s0, rfl⟩ := open_soil (hval 0 _ _ rfl rfl) h0
  obtain ⟨l1, u1, rfl⟩ := open_span (hval 1 _ _ rfl rfl) h1
  obtain ⟨AP2, cp2, xs2, rfl, rp2⟩ := open_u32s (hval 2 _ _ rfl rfl) h2
  exact (lawMore_any s0 l1 u1 xs2 cp2 AP2 W rp2.1 rp2.2).mono fun e W' ⟨he, hb⟩ =>
    ⟨_, he, law_post rfl rfl hW (by decide) rfl hb⟩

theorem over_it : Rows.saltMoreRow.holds Try.pinned (OpenSpec.ofChange Rows.saltMoreSpec) :=
  OpenClaim.holds_of_wide 8 Try.f8 rfl rfl rfl rfl rfl rfl rfl ⟨rfl, rfl, rfl, rfl, rfl⟩ rfl rfl rfl rfl rfl (by kernel_rfl) Try.func8 (by kernel_rfl)
    (of_decide_eq_true (by kernel_rfl)) (by unfold Func.isWrapper; first | (rw [if_pos (by decide +kernel)]; kernel_rfl) | (rw [if_neg (by decide +kernel)]; exact ⟨rfl, rfl⟩))
    (fun os started H enc _ => lifted_it os started H enc)

theorem saltMore_holds : Rows.SaltMoreSaid := over_it

end Go.Proofs.Ytjkefoijhphknaa
