/- A survey's twin, whose slices lie between two block numbers; and what stays of it when something else is written. Condition: the survey's slices read below the heap's end, and are not long. -/
import Derived.Test.YtaoonfmcimkmhaaLReach
import Derived.Test.YtaoonfmcimkmhaaTruth
import Derived.Test.YtaoonfmcimkmhaaFloat
set_option linter.unusedVariables false
namespace Go.Proofs.Ytaoonfmcimkmhaa
open Go.RowKit

theorem outs_skip {F : Fence} {n : Nat} {P : Program} (R : Value → World → Prop) (w : World) : Outs F n P R (.ok .skip w) = R undef w := rfl
/-- Nothing is known. -/
def NoF : Prop := True
theorem noF : NoF := trivial
/-- It writes one block of its area. -/
theorem onM_write {τ : Nat → Made → Value} {Φ : (Nat → Made) → Nat → World → Prop} {ar : Nat → Nat} {x : Nat → Made} {i : Nat} {W W' : World} {v : Value} {g : Nat} (hne : ar i ≠ i) (hg : (x (ar i)).lo = g) (hl : (x (ar i)).lo < (x (ar i)).hi)
    (hv : v = τ i ⟨undef, W.heap.size, W'.heap.size⟩) (ho : W'.os = W.os ∧ W'.tape = W.tape ∧ W'.output = W.output) (hs : W'.heap.size = W.heap.size) (hb : ∀ b, b ≠ g → W'.heap[b]? = W.heap[b]?) (h : Φ (upM x i ⟨undef, W.heap.size, W'.heap.size⟩) i W') : OnM τ Φ ar x i W v W' :=
  ⟨⟨undef, W.heap.size, W'.heap.size⟩, hv, rfl, rfl, ⟨ho.1, ho.2.1, ho.2.2, Nat.le_of_eq hs.symm⟩, fun b hb1 hb2 => hb b (fun e2 => by
    rcases hb2 with h1 | h1 | h1
    · exact hne h1
    · omega
    · omega), h⟩
theorem heap_set4_ne {w : World} {g b : Nat} {p q r s : Value} (h : b ≠ g) : ((((w.setCell ⟨g, 0, none⟩ p).setCell ⟨g, 1, none⟩ q).setCell ⟨g, 2, none⟩ r).setCell ⟨g, 3, none⟩ s).heap[b]? = w.heap[b]? := by
  rw [Below.heap_setCell _ _ _ _ h, Below.heap_setCell _ _ _ _ h, Below.heap_setCell _ _ _ _ h, Below.heap_setCell _ _ _ _ h]
/-- A slice of the call's own that lies between two block numbers. -/
def OwnB {α : Type} (w : World) (lo hi : Nat) (e : TypeId) (v : Value) (enc : α → List Value) (sz : Nat) (l : List α) : Prop := Own w lo e v enc sz l ∧ Apart v hi
section
variable {α : Type} {w w' : World} {lo hi : Nat} {e : TypeId} {v : Value} {enc : α → List Value} {sz : Nat} {l : List α}
theorem OwnB.local_ (h : OwnB w lo hi e v enc sz l) (hg : ∀ b, lo ≤ b → b < hi → w'.heap[b]? = w.heap[b]?) : OwnB w' lo hi e v enc sz l := by
  obtain ⟨⟨h1, h2⟩, h3⟩ := h
  refine ⟨⟨h1, ?_⟩, h3⟩
  rcases h2 with h2 | ⟨g, cap, cur, hv, hb, hr, rest⟩
  · exact .inl h2
  · exact .inr ⟨g, cap, cur, hv, hb, (hg g hb (h3 g (by rw [hv]; rfl))).trans hr, rest⟩
theorem OwnB.grow (h : OwnB w lo hi e v enc sz l) (hh : hi ≤ w.heap.size) (hb : Below w.heap.size w w') : OwnB w' lo hi e v enc sz l := h.local_ fun b _ hb2 => hb.block b (by omega)
theorem OwnB.other (h : OwnB w lo hi e v enc sz l) {p : Addr} (hp : p.block < lo ∨ hi ≤ p.block) (u : Value) : OwnB (w.setCell p u) lo hi e v enc sz l := h.local_ fun b h1 h2 => Below.heap_setCell w p u b (by omega)
theorem OwnB.rd {A : Option Addr} {c n : Nat} (h : OwnB w lo hi e (.slice A n c) enc sz l) (hn : n = l.length) (he : ∀ x, (enc x).length = sz) : Rd w w.heap.size A enc sz l := h.1.rd' hn he
theorem OwnB.at_ {A : Option Addr} {c n : Nat} (h : OwnB w lo hi e (.slice A n c) enc sz l) (hl : 0 < l.length) : ∃ g, A = some ⟨g, 0, none⟩ ∧ lo ≤ g ∧ g < hi := by
  obtain ⟨g, h1, h2, _⟩ := h.1.from_ hl
  exact ⟨g, h1, h2, h.2 g (by rw [h1]; rfl)⟩
theorem OwnB.put {g n c : Nat} (h : OwnB w lo hi e (.slice (some ⟨g, 0, none⟩) n c) enc sz l) (he : ∀ x, (enc x).length = sz) {i j : Nat} (hi' : i < l.length) (hj : j < sz) {y : α} {u : Value} (hy : enc y = (enc l[i]).set j u) :
    OwnB (w.setCell ⟨g, i * sz + j, none⟩ u) lo hi e (.slice (some ⟨g, 0, none⟩) n c) enc sz (l.set i y) := ⟨h.1.put he hi' hj hy, h.2⟩
end

/-- Where a twin's slices lie. -/
structure TwP where
  B1 : Option Addr
  B2 : Option Addr
  B3 : Option Addr
  d1 : Nat
  d2 : Nat
  d3 : Nat
  b2 : Nat
  b3 : Nat
def twV (n : Int) (k1 k2 k3 : Nat) (p : TwP) : Value := .agg #[.int .i64 n, .slice p.B1 k1 p.d1, .slice p.B2 k2 p.d2, .slice p.B3 k3 p.d3]
def twC (n : Int) (k1 k2 k3 : Nat) (p : TwP) : Array Value := #[.int .i64 n, .slice p.B1 k1 p.d1, .slice p.B2 k2 p.d2, .slice p.B3 k3 p.d3]
/-- A twin's slices, which read as three lists, between two block numbers. -/
def TwL (k1 k2 k3 : Nat) (L1 : List Sh) (L2 : List Mk) (L3 : List Sh) (p : TwP) (lo hi : Nat) (w : World) : Prop :=
  OwnB w lo p.b2 78 (.slice p.B1 k1 p.d1) shV 4 L1 ∧ OwnB w p.b2 p.b3 75 (.slice p.B2 k2 p.d2) mkV 3 L2 ∧ OwnB w p.b3 hi 72 (.slice p.B3 k3 p.d3) shV 4 L3 ∧ (lo ≤ p.b2 ∧ p.b2 ≤ p.b3 ∧ p.b3 ≤ hi)
section
variable {k1 k2 k3 : Nat} {L1 : List Sh} {L2 : List Mk} {L3 : List Sh} {p : TwP} {lo hi : Nat} {w w' : World}
theorem TwL.local_ (h : TwL k1 k2 k3 L1 L2 L3 p lo hi w) (hg : ∀ b, lo ≤ b → b < hi → w'.heap[b]? = w.heap[b]?) : TwL k1 k2 k3 L1 L2 L3 p lo hi w' := by
  obtain ⟨h1, h2, h3, h4⟩ := h
  exact ⟨h1.local_ fun b a1 a2 => hg b (by omega) (by omega), h2.local_ fun b a1 a2 => hg b (by omega) (by omega), h3.local_ fun b a1 a2 => hg b (by omega) (by omega), h4⟩
theorem TwL.grow (h : TwL k1 k2 k3 L1 L2 L3 p lo hi w) (hh : hi ≤ w.heap.size) (hb : Below w.heap.size w w') : TwL k1 k2 k3 L1 L2 L3 p lo hi w' := h.local_ fun b _ hb2 => hb.block b (by omega)
theorem TwL.other (h : TwL k1 k2 k3 L1 L2 L3 p lo hi w) {a : Addr} (hp : a.block < lo ∨ hi ≤ a.block) (u : Value) : TwL k1 k2 k3 L1 L2 L3 p lo hi (w.setCell a u) := h.local_ fun b h1 h2 => Below.heap_setCell w a u b (by omega)
theorem TwL.r1 (h : TwL k1 k2 k3 L1 L2 L3 p lo hi w) (hn : k1 = L1.length) : Rd w w.heap.size p.B1 shV 4 L1 := h.1.rd hn shV_len
theorem TwL.r2 (h : TwL k1 k2 k3 L1 L2 L3 p lo hi w) (hn : k2 = L2.length) : Rd w w.heap.size p.B2 mkV 3 L2 := h.2.1.rd hn mkV_len
theorem TwL.r3 (h : TwL k1 k2 k3 L1 L2 L3 p lo hi w) (hn : k3 = L3.length) : Rd w w.heap.size p.B3 shV 4 L3 := h.2.2.1.rd hn shV_len
end

/-- As TwL, and what is made later lies apart. -/
def TwZ (k1 k2 k3 : Nat) (L1 : List Sh) (L2 : List Mk) (L3 : List Sh) (p : TwP) (lo hi : Nat) (w : World) : Prop := TwL k1 k2 k3 L1 L2 L3 p lo hi w ∧ hi ≤ w.heap.size
section
variable {k1 k2 k3 : Nat} {L1 : List Sh} {L2 : List Mk} {L3 : List Sh} {p : TwP} {lo hi : Nat} {w w' : World}
theorem TwZ.grow (h : TwZ k1 k2 k3 L1 L2 L3 p lo hi w) (hb : Below w.heap.size w w') : TwZ k1 k2 k3 L1 L2 L3 p lo hi w' := ⟨h.1.grow h.2 hb, Nat.le_trans h.2 hb.size⟩
theorem TwZ.other (h : TwZ k1 k2 k3 L1 L2 L3 p lo hi w) {a : Addr} (hp : a.block < lo ∨ hi ≤ a.block) (u : Value) : TwZ k1 k2 k3 L1 L2 L3 p lo hi (w.setCell a u) := ⟨h.1.other hp u, by simpa using h.2⟩
end
theorem TwZ.put3 {k1 k2 k3 : Nat} {L1 : List Sh} {L2 : List Mk} {L3 : List Sh} {B1 B2 : Option Addr} {d1 d2 d3 b2 b3 g lo hi : Nat} {w : World} (h : TwZ k1 k2 k3 L1 L2 L3 ⟨B1, B2, some ⟨g, 0, none⟩, d1, d2, d3, b2, b3⟩ lo hi w) {i j : Nat} {x y : Sh} {u : Value}
    (hx : L3[i]? = some x) (hj : j < 4) (hy : shV y = (shV x).set j u) : TwZ k1 k2 k3 L1 L2 (L3.set i y) ⟨B1, B2, some ⟨g, 0, none⟩, d1, d2, d3, b2, b3⟩ lo hi (w.setCell ⟨g, i * 4 + j, none⟩ u) := by
  obtain ⟨⟨h1, h2, h3, h4⟩, h5⟩ := h
  have hi' : i < L3.length := (List.getElem?_eq_some_iff.1 hx).1
  have e : L3[i] = x := (List.getElem?_eq_some_iff.1 hx).2
  have hg := (h3.1.lt g rfl).1
  dsimp only at h1 h2 h3 h4 hg
  exact ⟨⟨h1.other (by dsimp only; omega) u, h2.other (by dsimp only; omega) u, h3.put shV_len hi' hj (by rw [e]; exact hy), h4⟩, by simpa using h5⟩
theorem TwZ.put3_all {k1 k2 k3 : Nat} {L1 : List Sh} {L2 : List Mk} {L3 : List Sh} {B1 B2 : Option Addr} {d1 d2 d3 b2 b3 g lo hi : Nat} {w : World} (h : TwZ k1 k2 k3 L1 L2 L3 ⟨B1, B2, some ⟨g, 0, none⟩, d1, d2, d3, b2, b3⟩ lo hi w) {i : Nat} {x : Sh} (hx : L3[i]? = some x) (a b c d : Int) :
    TwZ k1 k2 k3 L1 L2 (L3.set i ⟨a, b, c, d⟩) ⟨B1, B2, some ⟨g, 0, none⟩, d1, d2, d3, b2, b3⟩ lo hi ((((w.setCell ⟨g, i * 4, none⟩ (.int .i64 a)).setCell ⟨g, i * 4 + 1, none⟩ (.int .i64 b)).setCell ⟨g, i * 4 + 2, none⟩ (.int .i64 c)).setCell ⟨g, i * 4 + 3, none⟩ (.int .i64 d)) := by
  have hi' : i < L3.length := (List.getElem?_eq_some_iff.1 hx).1
  have g1 := h.put3 hx (j := 0) (by omega) (y := ⟨a, x.t, x.lo, x.hi⟩) (u := .int .i64 a) rfl
  have g2 := g1.put3 (List.getElem?_set_self hi') (j := 1) (by omega) (y := ⟨a, b, x.lo, x.hi⟩) (u := .int .i64 b) rfl
  rw [List.set_set] at g2
  have g3 := g2.put3 (List.getElem?_set_self hi') (j := 2) (by omega) (y := ⟨a, b, c, x.hi⟩) (u := .int .i64 c) rfl
  rw [List.set_set] at g3
  have g4 := g3.put3 (List.getElem?_set_self hi') (j := 3) (by omega) (y := ⟨a, b, c, d⟩) (u := .int .i64 d) rfl
  rw [List.set_set] at g4
  exact g4
theorem TwZ.put3_two {k1 k2 k3 : Nat} {L1 : List Sh} {L2 : List Mk} {L3 : List Sh} {B1 B2 : Option Addr} {d1 d2 d3 b2 b3 g lo hi : Nat} {w : World} (h : TwZ k1 k2 k3 L1 L2 L3 ⟨B1, B2, some ⟨g, 0, none⟩, d1, d2, d3, b2, b3⟩ lo hi w) {i : Nat} {a b p q : Int} (hx : L3[i]? = some ⟨a, b, p, q⟩) (c d : Int) :
    TwZ k1 k2 k3 L1 L2 (L3.set i ⟨a, b, c, d⟩) ⟨B1, B2, some ⟨g, 0, none⟩, d1, d2, d3, b2, b3⟩ lo hi ((w.setCell ⟨g, i * 4 + 2, none⟩ (.int .i64 c)).setCell ⟨g, i * 4 + 3, none⟩ (.int .i64 d)) := by
  have hi' : i < L3.length := (List.getElem?_eq_some_iff.1 hx).1
  have g3 := h.put3 hx (j := 2) (by omega) (y := ⟨a, b, c, q⟩) (u := .int .i64 c) rfl
  have g4 := g3.put3 (List.getElem?_set_self hi') (j := 3) (by omega) (y := ⟨a, b, c, d⟩) (u := .int .i64 d) rfl
  rw [List.set_set] at g4
  exact g4
theorem row_other {w : World} {b : Nat} {o : Obj} (h : w.heap[b]? = some o) {a : Addr} (hne : b ≠ a.block) (u : Value) : (w.setCell a u).heap[b]? = some o := (Below.heap_setCell w a u b hne).trans h

/-- What Twin yields. -/
def TwF (s : Sv) (v : Value) (lo hi : Nat) (w : World) : Prop := ∃ p : TwP, v = twV s.n s.shots.length s.marks.length s.threads.length p ∧ TwL s.shots.length s.marks.length s.threads.length s.shots s.marks s.threads p lo hi w
theorem TwF.local_ {s : Sv} {v : Value} {lo hi : Nat} {w w' : World} (h : TwF s v lo hi w) (hg : ∀ b, lo ≤ b → b < hi → w'.heap[b]? = w.heap[b]?) : TwF s v lo hi w' := by
  obtain ⟨p, hv, h⟩ := h
  exact ⟨p, hv, h.local_ hg⟩
theorem twin_in (s : Sv) (c1 c2 c3 : Nat) (A1 A2 A3 : Option Addr) (w : World)
    (r1 : Rd w w.heap.size A1 shV 4 s.shots) (r2 : Rd w w.heap.size A2 mkV 3 s.marks) (r3 : Rd w w.heap.size A3 shV 4 s.threads) (l1 : s.shots.length ≤ 1000000) (l2 : s.marks.length ≤ 1000000) (l3 : s.threads.length ≤ 1000000) :
    Calls Try.prog 15 #[.agg #[.int .i64 s.n, .slice A1 s.shots.length c1, .slice A2 s.marks.length c2, .slice A3 s.threads.length c3]] w fun e w' =>
      ∃ v, e = .returned v ∧ TwF s v w.heap.size w'.heap.size w' ∧ Below w.heap.size w w' := by
  refine (twin_own s c1 c2 c3 A1 A2 A3 w r1 r2 r3 l1 l2 l3).mono ?_
  rintro e w' ⟨⟨B1, B2, B3, d1, d2, d3, b1, b2, b3, rfl, o1, o2, o3, h1, h2, h3, h4, a1, a2⟩, hb⟩
  have lift : ∀ {α : Type} {e : TypeId} {v : Value} {enc : α → List Value} {sz : Nat} {l : List α} {b b' : Nat}, Own w' b e v enc sz l → b' ≤ b → Own w' b' e v enc sz l := fun h hb => by
    obtain ⟨g1, g2⟩ := h
    refine ⟨g1, ?_⟩
    rcases g2 with g2 | ⟨g, cap, cur, hv, hb2, rest⟩
    · exact .inl g2
    · exact .inr ⟨g, cap, cur, hv, Nat.le_trans hb hb2, rest⟩
  exact ⟨_, rfl, ⟨⟨B1, B2, B3, d1, d2, d3, b2, b3⟩, rfl, ⟨lift o1 h1, a1⟩, ⟨o2, a2⟩, ⟨o3, fun k hk => (o3.lt k hk).2⟩, Nat.le_trans h1 h2, h3, h4⟩, hb⟩

end Go.Proofs.Ytaoonfmcimkmhaa
