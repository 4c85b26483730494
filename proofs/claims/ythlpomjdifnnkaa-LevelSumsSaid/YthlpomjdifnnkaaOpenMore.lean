/- Arguments that are read as data: bytes, lists of numbers, shots. No condition. -/
import Derived.Test.YthlpomjdifnnkaaOpen
import Derived.Test.YthlpomjdifnnkaaRefSame
set_option linter.unusedVariables false
namespace Go.Proofs.Ythlpomjdifnnkaa
open Go.ChangeShapes Go.WideShapes Go.ChangeAt Go.RowKit

section
variable {H : Type} {ench : TypeId × Value → H} {w : World}
set_option maxRecDepth 100000 in
theorem open_u8 {r : Reach} {b0 : Nat} {v : Value} {d : DataW H} {p : List MemPlace} (hv : Value.okWide Try.prog w r b0 5 v) (h : DataW.Trod ench Try.prog w 0 (fun _ => true) true 5 v d p) : ∃ n, v = .int .u8 n ∧ 0 ≤ n ∧ n ≤ 255 := by
  obtain ⟨n, rfl, _, _, hwf⟩ := open_int Try.underlying5 hv h
  refine ⟨n, rfl, ?_⟩
  have h1 : IntKind.u8.min = 0 := by decide
  have h2 : IntKind.u8.max = 255 := by decide
  simp [Lit.wf] at hwf
  omega

set_option maxRecDepth 100000 in
theorem open_intsA {r : Reach} {b0 : Nat} {v : Value} {d : DataW H} {p : List MemPlace} (hv : Value.okWide Try.prog w r b0 46 v) (h : DataW.Trod ench Try.prog w 0 (fun _ => true) true 46 v d p) :
    ∃ A c, ∃ l : List Int, v = .slice A l.length c ∧ Rd w w.heap.size A inV 1 l := by
  obtain ⟨a, len, cap, rfl⟩ := okWide_slice Try.underlying46 hv
  obtain ⟨fuel, hf⟩ := h
  obtain ⟨A, c, l, h1, _, h2⟩ := open_rd (enc := inV) (v := .slice a len cap) Try.underlying46 cInt (fun _ => rfl) (by omega) (fun n cs x h => by
    obtain ⟨z, rfl, _⟩ := DataW.trod_int Try.underlying3 h
    exact ⟨z, rfl⟩) hf
  exact ⟨A, c, l, h1, h2⟩
end

end Go.Proofs.Ythlpomjdifnnkaa
