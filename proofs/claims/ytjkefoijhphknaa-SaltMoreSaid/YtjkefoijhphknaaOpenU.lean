/- Arguments of 8 and of 32 bits, read as data. No condition. -/
import Derived.Test.YtjkefoijhphknaaOpen
import Derived.Test.YtjkefoijhphknaaSaLw
set_option linter.unusedVariables false
namespace Go.Proofs.Ytjkefoijhphknaa
open Go.ChangeShapes Go.WideShapes Go.ChangeAt Go.RowKit

section
variable {H : Type} {ench : TypeId × Value → H} {w : World}
set_option maxRecDepth 100000 in
theorem open_u8 {r : Reach} {b0 : Nat} {v : Value} {d : DataW H} {p : List MemPlace} (hv : Value.okWide Try.prog w r b0 5 v) (h : DataW.Trod ench Try.prog w 0 (fun _ => true) true 5 v d p) : ∃ n, v = .int .u8 n ∧ 0 ≤ n ∧ n ≤ 255 := by
  obtain ⟨n, rfl, _, _, hwf⟩ := open_int Try.underlying5 hv h
  refine ⟨n, rfl, ?_⟩
  have h1 : IntKind.u8.min = 0 := by decide
  have h2 : IntKind.u8.max = 255 := by decide
  simp [Lit.wf] at hwf
  omega
set_option maxRecDepth 100000 in
theorem open_u32 {r : Reach} {b0 : Nat} {v : Value} {d : DataW H} {p : List MemPlace} (hv : Value.okWide Try.prog w r b0 72 v) (h : DataW.Trod ench Try.prog w 0 (fun _ => true) true 72 v d p) : ∃ n, v = .int .u32 n ∧ 0 ≤ n ∧ n ≤ 4294967295 := by
  obtain ⟨n, rfl, _, _, hwf⟩ := open_int Try.underlying72 hv h
  refine ⟨n, rfl, ?_⟩
  have h1 : IntKind.u32.min = 0 := by decide
  have h2 : IntKind.u32.max = 4294967295 := by decide
  simp [Lit.wf] at hwf
  omega
/-- A list that can be read is no longer than a machine's numbers go. -/
theorem slice_len {P : Program} {t e : TypeId} (ht : P.underlying t = some (.slice e)) {fuel : Nat} {A : Option Addr} {n c : Nat} {x : DataW H × List MemPlace} (h : DataW.trod ench P w 0 (fun _ => true) true fuel t [.slice A n c] = some x) : n ≤ 9223372036854775807 := by
  rcases Go.Deep.open_slice ht h with ⟨h1, _⟩ | ⟨a, len, cap, m, k, D, Pl, h1, _, hlc, hm, _⟩
  · injection h1 with h1 _
    injection h1 with _ h1 _
    omega
  · injection h1 with h1 _
    injection h1 with _ h1 _
    unfold maxLen at hm
    omega
theorem cU32 : Try.prog.cellsOf 72 = 1 := by kernel_rfl
set_option maxRecDepth 100000 in
theorem open_u32s {r : Reach} {b0 : Nat} {v : Value} {d : DataW H} {p : List MemPlace} (hv : Value.okWide Try.prog w r b0 68 v) (h : DataW.Trod ench Try.prog w 0 (fun _ => true) true 68 v d p) :
    ∃ A c, ∃ l : List U32, v = .slice A l.length c ∧ Rd w w.heap.size A uV 1 l ∧ l.length ≤ 9223372036854775807 := by
  obtain ⟨a, len, cap, rfl⟩ := okWide_slice Try.underlying68 hv
  obtain ⟨fuel, hf⟩ := h
  have hlen := slice_len Try.underlying68 hf
  obtain ⟨A, c, l, h1, _, h2⟩ := open_rd (enc := uV) (v := .slice a len cap) Try.underlying68 cU32 (fun _ => rfl) (by omega) (fun n cs x h => by
    obtain ⟨z, rfl, _, hwf⟩ := DataW.trod_int Try.underlying72 h
    have h1 : IntKind.u32.min = 0 := by decide
    have h2 : IntKind.u32.max = 4294967295 := by decide
    simp [Lit.wf] at hwf
    exact ⟨⟨z, by omega, by omega⟩, rfl⟩) hf
  injection h1 with h3 h4 h5
  subst h3 h5
  refine ⟨a, cap, l, by rw [h4], h2, by omega⟩
end
end Go.Proofs.Ytjkefoijhphknaa
