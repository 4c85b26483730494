/- The market of needs and rents, as plain data; it is within bounds. Condition: valid needs and rents. -/
import Derived.Test.YtjkefoijhphknaaMkOrd
import Derived.Test.YtjkefoijhphknaaMkPlan
namespace Go.Proofs.Ytjkefoijhphknaa
open Go.RowKit

def flN (r : Re) : List Nat := r.fl.map Int.toNat
def loOf (r : Re) : Lo := ⟨r.mins, r.price, r.fA, r.fl.length, r.fc, setF (flN r)⟩
def prOf (rs : List Re) (i : Nat) : Int := (rs[i]?.map (·.price)).getD 0
def miOf (rs : List Re) (i : Nat) : Int := (rs[i]?.map (·.mins)).getD 0
def neOf (xs : List Int) (i : Nat) : Int := xs.getD i 0
def deOf (rs : List Re) : List Nat := match rs with | [] => [] | _ :: l => dearL (prOf rs) l.length
def openM (xs : List Int) (rs : List Re) : Mk := ⟨rs.map loOf, deOf rs, neOf xs, miOf rs⟩

theorem fldsB_spec {q : Int} : ∀ {l : List Int} {nx : Int}, 0 ≤ nx → fldsB q nx l = true → (∀ f ∈ l, 0 ≤ f ∧ f < q) ∧ (l = [] ∨ (l.length : Int) + nx ≤ q)
  | [], nx, _, _ => ⟨fun f hf => by simp at hf, .inl rfl⟩
  | f :: l, nx, h0, h => by
    simp only [fldsB, Bool.and_eq_true, soIn, decide_eq_true_eq] at h
    obtain ⟨⟨h1, h2⟩, h3⟩ := h
    obtain ⟨h4, h5⟩ := fldsB_spec (by omega) h3
    refine ⟨fun g hg => ?_, .inr ?_⟩
    · rcases List.mem_cons.1 hg with rfl | hg
      · omega
      · exact h4 g hg
    · simp only [List.length_cons]
      push_cast
      rcases h5 with rfl | h5
      · simp; omega
      · omega
theorem rentsL_spec {q : Int} : ∀ {rs : List Re} {left : Int}, left ≤ 23040 → rentsL q left rs = true → ∀ r ∈ rs, (0 ≤ r.mins ∧ r.mins ≤ 23040) ∧ (0 ≤ r.price ∧ r.price ≤ 100000) ∧ fldsB q 0 r.fl = true
  | [], _, _, _, r, hr => by simp at hr
  | s :: rs, left, hl, h, r, hr => by
    simp only [rentsL, rentB, Bool.and_eq_true, soIn, decide_eq_true_eq] at h
    obtain ⟨⟨⟨h1, h2⟩, h3, h4⟩, h5⟩ := h
    rcases List.mem_cons.1 hr with rfl | hr
    · exact ⟨⟨h1, by omega⟩, h3, h4⟩
    · exact rentsL_spec (by omega) h5 r hr
theorem rentsB_spec {q : Int} {rs : List Re} (h : rentsB q rs = true) : rs.length ≤ 8 ∧ ∀ r ∈ rs, (0 ≤ r.mins ∧ r.mins ≤ 23040) ∧ (0 ≤ r.price ∧ r.price ≤ 100000) ∧ fldsB q 0 r.fl = true := by
  simp only [rentsB, Bool.and_eq_true, decide_eq_true_eq] at h
  exact ⟨h.2, rentsL_spec (by omega) h.1⟩
theorem needsB_spec {xs : List Int} (h : needsB xs = true) : xs.length ≤ 8 ∧ ∀ i, 0 ≤ neOf xs i ∧ neOf xs i ≤ 23040 := by
  simp only [needsB, Bool.and_eq_true, decide_eq_true_eq, List.all_eq_true, soIn] at h
  refine ⟨h.2, fun i => ?_⟩
  unfold neOf
  rw [List.getD_eq_getElem?_getD]
  cases e : xs[i]? with
  | none => simp
  | some x => exact h.1 x (List.mem_of_getElem? e)
theorem miOf_b {q : Int} {rs : List Re} (h : rentsB q rs = true) (i : Nat) : 0 ≤ miOf rs i ∧ miOf rs i ≤ 23040 := by
  unfold miOf
  cases e : rs[i]? with
  | none => simp
  | some r => exact ((rentsB_spec h).2 r (List.mem_of_getElem? e)).1
theorem flN_lt {q : Nat} {r : Re} (h : fldsB q 0 r.fl = true) : (∀ f ∈ flN r, f < q) ∧ (flN r).length ≤ q := by
  obtain ⟨h1, h2⟩ := fldsB_spec (by omega) h
  unfold flN
  refine ⟨fun f hf => ?_, ?_⟩
  · obtain ⟨x, hx, rfl⟩ := List.mem_map.1 hf
    have := h1 x hx
    omega
  · rw [List.length_map]
    rcases h2 with h2 | h2
    · rw [h2]; simp
    · omega
theorem deOf_len (rs : List Re) : (deOf rs).length = rs.length := by
  cases rs with
  | nil => rfl
  | cons r l => exact dearL_len _ _
theorem deOf_lt {rs : List Re} {i : Nat} (h : i ∈ deOf rs) : i < rs.length := by
  cases rs with
  | nil => simp [deOf] at h
  | cons r l => exact dearL_lt h
theorem openM_ok {xs : List Int} {rs : List Re} (h1 : needsB xs = true) (h2 : rentsB xs.length rs = true) : MkOk2 (openM xs rs) := by
  obtain ⟨n1, n2⟩ := needsB_spec h1
  obtain ⟨r1, r2⟩ := rentsB_spec h2
  refine ⟨⟨?_, fun l hl => ?_, fun l hl => ?_, fun i => ?_, fun i => ?_⟩, ?_, fun i hi => ?_⟩
  · show (rs.map loOf).length ≤ 8
    rw [List.length_map]
    exact r1
  · obtain ⟨r, hr, rfl⟩ := List.mem_map.1 hl
    obtain ⟨f1, _⟩ := flN_lt (r2 r hr).2.2
    exact setF_lt _ 0 (by omega) fun f hf => by have := f1 f hf; omega
  · obtain ⟨r, hr, rfl⟩ := List.mem_map.1 hl
    exact (r2 r hr).2.1
  · have := miOf_b h2 i
    show -23040 ≤ miOf rs i ∧ miOf rs i ≤ 23040
    omega
  · have := n2 i
    show -23040 ≤ neOf xs i ∧ neOf xs i ≤ 23040
    omega
  · show (deOf rs).length ≤ 8
    rw [deOf_len]
    exact r1
  · show i < (rs.map loOf).length
    rw [List.length_map]
    exact deOf_lt hi
/-- The fields of the rents of an opened market can be read. -/
def flR (rs : List Re) (k : Nat) : List Nat := ((rs[k]?).map flN).getD []
theorem flR_len {q : Nat} {rs : List Re} (h : rentsB q rs = true) (k : Nat) : (flR rs k).length ≤ q := by
  unfold flR
  cases e : rs[k]? with
  | none => simp
  | some r => exact (flN_lt ((rentsB_spec h).2 r (List.mem_of_getElem? e)).2.2).2
end Go.Proofs.Ytjkefoijhphknaa
