/- For any soil, any span, any byte, any list of numbers SaltTrue returns true; the arguments read as before. No condition. -/
import Derived.Test.YtjkefoijhphknaaLawTrue
import Derived.Test.YtjkefoijhphknaaOpenU
import Derived.ProofKit
import Derived.OpenShut
import Derived.KernelRfl
set_option linter.unusedVariables false
namespace Go.Proofs.Ytjkefoijhphknaa
open Go.ChangeShapes Go.WideShapes Go.ChangeAt Go.RowKit

theorem own_it : ownKnob Try.prog.godebug = none := by kernel_rfl

set_option maxRecDepth 100000 in
theorem lifted_it (os : Os) (started : os.Started) (H : Type) (enc : TypeId × Value → H) :
    ReturnsInHanded {} Try.checked os 6 .any (Rows.saltTrueSpec.pre6 enc Try.prog Try.f6 Rows.saltTrueRow.domain false)
      (Rows.saltTrueSpec.post enc Try.prog Try.f6 false true false false) := by
  refine returnsInHanded_of_change (C := Try.checked) own_it started (by kernel_rfl) Try.func6
    (ChangeSpec.witness6 (enc := enc) (C := Try.checked) false
      ⟨#[], #[.agg #[.int .i64 0, .int .i64 0, .int .i64 0, .int .i64 0, .int .i64 0, .int .i64 0, .int .i64 0, .int .i64 0, .int .i64 0, .int .i64 0], .agg #[.int .i64 0, .int .i64 0], .int .u8 0, .slice none 0 0], []⟩ 8
      (by kernel_rfl) (by kernel_rfl) (by kernel_rfl) (by kernel_rfl)) ?_
  intro W base args ds gs before hval0 hW hcnd hx
  have hval : ∀ (j : Nat) (t : TypeId) (v : Value), Try.f6.params[j]? = some t → args[j]? = some v → Value.okWide Try.prog W .any base t v := hval0
  obtain ⟨p, q, hA0, hR0⟩ := id hW
  have hA := hA0
  rw [show Try.f6.params.toList = [25, 23, 5, 68] from rfl] at hA
  obtain ⟨v0, vs0, d0, ds0, p0, q0, hv0, hd0, hp0, h0, hA⟩ := trodAll_cons hA
  obtain ⟨v1, vs1, d1, ds1, p1, q1, rfl, rfl, rfl, h1, hA⟩ := trodAll_cons hA
  obtain ⟨v2, vs2, d2, ds2, p2, q2, rfl, rfl, rfl, h2, hA⟩ := trodAll_cons hA
  obtain ⟨v3, vs3, d3, ds3, p3, q3, rfl, rfl, rfl, h3, hA⟩ := trodAll_cons hA
  obtain ⟨rfl, rfl, rfl⟩ := trodAll_nil hA
  subst hd0
  have hargs : args = #[v0, v1, v2, v3] := by cases args; simp_all
  subst hargs
  obtain ⟨s0, rfl⟩ := open_soil (hval 0 _ _ rfl rfl) h0
  obtain ⟨l1, u1, rfl⟩ := open_span (hval 1 _ _ rfl rfl) h1
  obtain ⟨n2, rfl, hn2⟩ := open_u8 (hval 2 _ _ rfl rfl) h2
  obtain ⟨AP3, cp3, xs3, rfl, rp3⟩ := open_u32s (hval 3 _ _ rfl rfl) h3
  exact (lawTrue_any s0 l1 u1 n2 xs3 cp3 AP3 W hn2.1 hn2.2 rp3.1 rp3.2).mono fun e W' ⟨he, hb⟩ =>
    ⟨_, he, law_post rfl rfl hW (by decide) rfl hb⟩

theorem over_it : Rows.saltTrueRow.holds Try.pinned (OpenSpec.ofChange Rows.saltTrueSpec) :=
  OpenClaim.holds_of_wide 6 Try.f6 rfl rfl rfl rfl rfl rfl rfl ⟨rfl, rfl, rfl, rfl, rfl⟩ rfl rfl rfl rfl rfl (by kernel_rfl) Try.func6 (by kernel_rfl)
    (of_decide_eq_true (by kernel_rfl)) (by unfold Func.isWrapper; first | (rw [if_pos (by decide +kernel)]; kernel_rfl) | (rw [if_neg (by decide +kernel)]; exact ⟨rfl, rfl⟩))
    (fun os started H enc _ => lifted_it os started H enc)

theorem saltTrue_holds : Rows.SaltTrueSaid := over_it

end Go.Proofs.Ytjkefoijhphknaa
