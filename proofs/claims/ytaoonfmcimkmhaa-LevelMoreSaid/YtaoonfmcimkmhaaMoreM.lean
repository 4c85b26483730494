/- A survey whose readings say more than another one's tells nothing wider: heights, slopes. Conditions stand at each theorem. -/
import Derived.Test.YtaoonfmcimkmhaaThreadM
import Derived.Test.YtaoonfmcimkmhaaTwinIn
set_option linter.unusedVariables false
namespace Go.Proofs.Ytaoonfmcimkmhaa
open Go.RowKit

/-- A survey with another shot in one place. -/
def setSh (s : Sv) (k : Nat) (y : Sh) : Sv := { s with shots := s.shots.set k y }
theorem setSh_ok {s : Sv} (hok : svOk s = true) (k : Nat) {y : Sh} (hy : shOk s.n (-20000000) 20000000 y = true) : svOk (setSh s k y) = true := by
  rw [svOk_iff] at hok ⊢
  obtain ⟨⟨h1, h2, h3, h4, h5⟩, h6, h7, h8⟩ := hok
  refine ⟨⟨h1, h2, by simp [setSh]; exact h3, h4, h5⟩, fun x hx => ?_, h7, h8⟩
  rcases List.mem_or_eq_of_mem_set hx with h | h
  · exact h6 x h
  · rw [h]; exact hy
theorem addSh_iff {s : Sv} (hok : svOk s = true) (hl : s.shots.length < 60) (y : Sh) : svOk (addSh s y) = shOk s.n (-20000000) 20000000 y := by
  cases hy : shOk s.n (-20000000) 20000000 y
  · cases h : svOk (addSh s y)
    · rfl
    · rw [svOk_iff] at h
      have := h.2.1 y (by simp [addSh])
      have e : (addSh s y).n = s.n := rfl
      rw [e, hy] at this
      cases this
  · rw [svOk_iff] at hok ⊢
    obtain ⟨⟨h1, h2, h3, h4, h5⟩, h6, h7, h8⟩ := hok
    refine ⟨⟨h1, h2, by simp [addSh]; omega, h4, h5⟩, fun x hx => ?_, h7, h8⟩
    simp only [addSh, List.mem_append, List.mem_singleton] at hx
    rcases hx with h | h
    · exact h6 x h
    · rw [h]; exact hy

/-- t says all that s says: of the same points and threads. -/
structure Says (s t : Sv) : Prop where
  oks : svOk s = true
  okt : svOk t = true
  n : t.n = s.n
  th : t.threads = s.threads
  fit : ∀ h, FitSv t (fun _ => false) 0 h → FitSv s (fun _ => false) 0 h
theorem says_add {s : Sv} (hok : svOk s = true) {y : Sh} (hy : svOk (addSh s y) = true) : Says s (addSh s y) := ⟨hok, hy, rfl, rfl, fun h hf => ((fit_addSh s y h).1 hf).1⟩
theorem says_self {s : Sv} (hok : svOk s = true) : Says s s := ⟨hok, hok, rfl, rfl, fun h hf => hf⟩
theorem says_set {s : Sv} (hok : svOk s = true) {k : Nat} (hk : k < s.shots.length) {f t lo hi a b : Int} (hx : s.shots[k]? = some ⟨f, t, lo, hi⟩) (h1 : lo ≤ a) (h2 : a ≤ b) (h3 : b ≤ hi) : Says s (setSh s k ⟨f, t, a, b⟩) := by
  have hx2 := (svOk_spec hok).2.1 _ (List.mem_of_getElem? hx)
  have hs := shOk_spec hx2
  dsimp only at hs
  refine ⟨hok, setSh_ok hok k ?_, rfl, rfl, fun h hf => ?_⟩
  · unfold shOk diffB inB spanB
    simp
    omega
  · rw [fitSv_mem] at hf ⊢
    obtain ⟨g1, g2, g3⟩ := hf
    refine ⟨g1, fun x hx3 => ?_, g3⟩
    obtain ⟨j, hj, rfl⟩ := List.getElem_of_mem hx3
    by_cases e : j = k
    · subst e
      have e1 : s.shots[j] = ⟨f, t, lo, hi⟩ := by rw [List.getElem?_eq_getElem hj] at hx; injection hx
      rw [e1]
      have h4 := g2 ⟨f, t, a, b⟩ (by
        simp only [setSh]
        exact List.mem_of_getElem? (List.getElem?_set_self hj))
      unfold Holds at h4 ⊢
      dsimp only at h4 ⊢
      omega
    · refine g2 _ ?_
      simp only [setSh]
      have : (s.shots.set k ⟨f, t, a, b⟩)[j]? = some s.shots[j] := by rw [List.getElem?_set_ne (fun h => e h.symm), List.getElem?_eq_getElem hj]
      exact List.mem_of_getElem? this
theorem says_true {s t : Sv} (h : Says s t) (ht : (svD t).2 = true) : (svD s).2 = true := by
  obtain ⟨g, hg⟩ := (svD_iff h.okt).1 ht
  exact (svD_iff h.oks).2 ⟨g, h.fit g hg⟩
theorem says_le {s t : Sv} (h : Says s t) (ht : (svD t).2 = true) {i j : Nat} (hi : i < s.n.toNat + 1) (hj : j < s.n.toNat + 1) : (svD t).1 i j ≤ (svD s).1 i j := by
  have e : t.n.toNat = s.n.toNat := by rw [h.n]
  have g := h.fit _ (svD_row h.okt ht (a := i) (by rw [e]; exact hi))
  have g2 := svD_of h.oks g hi hj
  have g3 := svD_diag h.okt ht (i := i) (by rw [e]; exact hi)
  (try dsimp only at g2)
  omega
/-- Heights. -/
theorem says_heights {s t : Sv} (h : Says s t) (ht : (svD t).2 = true) : lvHeights t = (htsList t, 0) ∧ lvHeights s = (htsList s, 0) ∧ (htsList t).length = s.n.toNat ∧ (htsList s).length = s.n.toNat ∧
    ∀ i, i < s.n.toNat → ∃ a b p q, (htsList t)[i]? = some (a, b) ∧ (htsList s)[i]? = some (p, q) ∧ p ≤ a ∧ b ≤ q := by
  have e : t.n.toNat = s.n.toNat := by rw [h.n]
  have hs := says_true h ht
  refine ⟨lvHeights_fit h.okt ht, lvHeights_fit h.oks hs, by rw [hts_len, e], hts_len s, fun i hi => ⟨_, _, _, _, hts_at t (by rw [e]; exact hi), hts_at s hi, ?_, ?_⟩⟩
  · rw [e]
    have := says_le h ht (i := i) (j := s.n.toNat) (by omega) (by omega)
    omega
  · rw [e]
    exact says_le h ht (by omega) (by omega)
/-- Slopes. -/
theorem says_slope {s t : Sv} (h : Says s t) (ht : (svD t).2 = true) {k : Nat} (hk : k < s.threads.length) : ∃ a b p q : Int, lvSlope t k = ((a, b), 0) ∧ lvSlope s k = ((p, q), 0) ∧ p ≤ a ∧ b ≤ q := by
  have hs := says_true h ht
  obtain ⟨x, hx⟩ : ∃ x, s.threads[k]? = some x := ⟨_, List.getElem?_eq_getElem hk⟩
  have hx2 : t.threads[k]? = some x := by rw [h.th]; exact hx
  have hb := shOk_spec ((svOk_spec h.oks).2.2.2 x (List.mem_of_getElem? hx))
  have m := slp_mono (F := (thF s x).1) (G := (thF s x).2) (F' := (thF t x).1) (G' := (thF t x).2) (lo := x.lo) (hi := x.hi) (by omega) (by omega)
    (by unfold thF; dsimp only; have := says_le h ht (i := x.f.toNat) (j := x.t.toNat) (by omega) (by omega); omega)
    (by unfold thF; dsimp only; exact says_le h ht (by omega) (by omega))
  exact ⟨_, _, _, _, slope_fit h.okt ht hx2, slope_fit h.oks hs hx, m.1, m.2⟩

/-- A slice of the call's own that lies outside of some blocks. -/
def OwnN {α : Type} (w : World) (lo hi : Nat) (e : TypeId) (v : Value) (enc : α → List Value) (sz : Nat) (l : List α) : Prop := (∃ b, Own w b e v enc sz l) ∧ ∀ k, v.ownBlock = some k → k < lo ∨ hi ≤ k
section
variable {α : Type} {w w' : World} {lo hi : Nat} {e : TypeId} {v : Value} {enc : α → List Value} {sz : Nat} {l : List α}
theorem OwnN.grow (h : OwnN w lo hi e v enc sz l) (hb : Below w.heap.size w w') : OwnN w' lo hi e v enc sz l := by
  obtain ⟨⟨b, h1⟩, h2⟩ := h
  exact ⟨⟨b, h1.below hb⟩, h2⟩
theorem OwnN.other (h : OwnN w lo hi e v enc sz l) {p : Addr} (hp : lo ≤ p.block ∧ p.block < hi) (u : Value) : OwnN (w.setCell p u) lo hi e v enc sz l := by
  obtain ⟨⟨b, h1⟩, h2⟩ := h
  refine ⟨⟨b, h1.keep (row := some p.block) ⟨rfl, rfl, rfl, by simp [World.setCell], fun k hk hne => Below.heap_setCell w p u k (fun e => hne (by rw [e]))⟩ ?_⟩, h2⟩
  cases hv : v.ownBlock with
  | none => exact .inl rfl
  | some k =>
    refine .inr fun e => ?_
    injection e with e
    have := h2 k hv
    omega
theorem OwnN.rd {A : Option Addr} {c n : Nat} (h : OwnN w lo hi e (.slice A n c) enc sz l) (hn : n = l.length) (he : ∀ x, (enc x).length = sz) : Rd w w.heap.size A enc sz l := by
  obtain ⟨⟨b, h1⟩, h2⟩ := h
  exact h1.rd' hn he
theorem OwnB.away {a b : Nat} (h : OwnB w lo hi e v enc sz l) (hd : hi ≤ a ∨ b ≤ lo) : OwnN w a b e v enc sz l := ⟨⟨lo, h.1⟩, fun k hk => by
  have h1 := h.2 k hk
  have h2 := (h.1.lt k hk).1
  omega⟩
end
theorem TwZ.put1 {k1 k2 k3 : Nat} {L1 : List Sh} {L2 : List Mk} {L3 : List Sh} {B2 B3 : Option Addr} {d1 d2 d3 b2 b3 g lo hi : Nat} {w : World} (h : TwZ k1 k2 k3 L1 L2 L3 ⟨some ⟨g, 0, none⟩, B2, B3, d1, d2, d3, b2, b3⟩ lo hi w) {i j : Nat} {x y : Sh} {u : Value}
    (hx : L1[i]? = some x) (hj : j < 4) (hy : shV y = (shV x).set j u) : TwZ k1 k2 k3 (L1.set i y) L2 L3 ⟨some ⟨g, 0, none⟩, B2, B3, d1, d2, d3, b2, b3⟩ lo hi (w.setCell ⟨g, i * 4 + j, none⟩ u) := by
  obtain ⟨⟨h1, h2, h3, h4⟩, h5⟩ := h
  have hi' : i < L1.length := (List.getElem?_eq_some_iff.1 hx).1
  have e : L1[i] = x := (List.getElem?_eq_some_iff.1 hx).2
  have hg := h1.2 g rfl
  dsimp only at h1 h2 h3 h4 hg
  exact ⟨⟨h1.put shV_len hi' hj (by rw [e]; exact hy), h2.other (by dsimp only; omega) u, h3.other (by dsimp only; omega) u, h4⟩, by simpa using h5⟩

/-- A slice that reads as a list, below a block number. -/
def RdZ {α : Type} (B : Nat) (w : World) (A : Option Addr) (enc : α → List Value) (sz : Nat) (l : List α) : Prop := Rd w B A enc sz l ∧ B ≤ w.heap.size
section
variable {α : Type} {B : Nat} {w w' : World} {A : Option Addr} {enc : α → List Value} {sz : Nat} {l : List α}
theorem RdZ.local_ (h : RdZ B w A enc sz l) (hs : w.heap.size ≤ w'.heap.size) (hg : ∀ b, b < B → w'.heap[b]? = w.heap[b]?) : RdZ B w' A enc sz l :=
  ⟨h.1.keep fun b o hb => World.cell?_of_block (w := w) (a := ⟨b, o, none⟩) (hg b hb), Nat.le_trans h.2 hs⟩
theorem RdZ.grow (h : RdZ B w A enc sz l) (hb : Below w.heap.size w w') : RdZ B w' A enc sz l := h.local_ hb.size fun b h1 => hb.block b (Nat.lt_of_lt_of_le h1 h.2)
theorem RdZ.other (h : RdZ B w A enc sz l) {p : Addr} (hp : B ≤ p.block) (u : Value) : RdZ B (w.setCell p u) A enc sz l := h.local_ (by simp) fun b h1 => Below.heap_setCell w p u b (by omega)
theorem RdZ.rd (h : RdZ B w A enc sz l) : Rd w w.heap.size A enc sz l := h.1.more h.2
end

end Go.Proofs.Ytaoonfmcimkmhaa
