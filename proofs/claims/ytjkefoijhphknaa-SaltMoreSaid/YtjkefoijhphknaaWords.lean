/- Words for memory that all texts of this seat use: what lies below a block stays, and a slice of structs that reads as a list. No condition. -/
import Derived.WalkKit
import Derived.WalkSpells
import Derived.WalkLawsBesides
import Derived.Lib.Hide
import Derived.Handy
import Derived.Deep.Draws
namespace Go.Proofs.Ytjkefoijhphknaa
open Go.RowKit

theorem bcell {W w1 : World} (hb : Below W.heap.size W w1) : (∀ b o, b < W.heap.size → w1.cell? ⟨b, o, none⟩ = W.cell? ⟨b, o, none⟩) ∧ (∀ b o, b < W.heap.size → w1.frozen? ⟨b, o, none⟩ = W.frozen? ⟨b, o, none⟩) :=
  ⟨fun b o h => hb.cell (p := ⟨b, o, none⟩) h, fun b o h => hb.frozen (p := ⟨b, o, none⟩) h⟩

theorem Below.via {a b c : World} {B B' : Nat} (h1 : Below B a b) (h2 : Below B' b c) (hB : B ≤ B') : Below B a c := h1.trans (h2.mono hB)
theorem Below.drewN_ {a w : World} {B : Nat} (h : Below B a w) (n : Nat) : Below B a (w.drewN n) := ⟨h.os, h.tape, h.output, h.size, h.block⟩

theorem Below.setRow {a w : World} {B g : Nat} (h : Below B a w) (hg : B ≤ g) (cs : Array Value) : Below B a (w.setRow g cs) :=
  h.trans ⟨rfl, rfl, rfl, by simp, fun k hk => by simp only [World.setRow, Array.getElem?_modify]; rw [if_neg (by omega)]⟩

/-- The slice header (A, l.length, any capacity) reads in w as the list l, each element as its sz cells, and lies below block B. -/
def Rd {α : Type} (w : World) (B : Nat) (A : Option Addr) (enc : α → List Value) (sz : Nat) (l : List α) : Prop :=
  0 < l.length → ∃ b o, A = some ⟨b, o, none⟩ ∧ b < B ∧ ∀ k x, l[k]? = some x → ∀ j v, (enc x)[j]? = some v → w.cell? ⟨b, o + k * sz + j, none⟩ = some v

theorem Rd.keep {α : Type} {w w' : World} {B : Nat} {A : Option Addr} {enc : α → List Value} {sz : Nat} {l : List α} (h : Rd w B A enc sz l)
    (hk : ∀ b o, b < B → w'.cell? ⟨b, o, none⟩ = w.cell? ⟨b, o, none⟩) : Rd w' B A enc sz l := fun hl => by
  obtain ⟨b, o, hA, hb, hc⟩ := h hl
  exact ⟨b, o, hA, hb, fun k x hx j v hv => (hk b _ hb).trans (hc k x hx j v hv)⟩

theorem Rd.below {α : Type} {w w' : World} {B : Nat} {A : Option Addr} {enc : α → List Value} {sz : Nat} {l : List α} (h : Rd w B A enc sz l)
    (hb : Below B w w') : Rd w' B A enc sz l := h.keep fun b o hB => hb.cell (p := ⟨b, o, none⟩) hB

theorem Rd.more {α : Type} {w : World} {B B' : Nat} {A : Option Addr} {enc : α → List Value} {sz : Nat} {l : List α} (h : Rd w B A enc sz l)
    (hB : B ≤ B') : Rd w B' A enc sz l := fun hl => by
  obtain ⟨b, o, hA, hb, hc⟩ := h hl
  exact ⟨b, o, hA, by omega, hc⟩

theorem Rd.at_ {α : Type} {w : World} {B : Nat} {A : Option Addr} {enc : α → List Value} {sz : Nat} {l : List α} (h : Rd w B A enc sz l) {k : Nat} (hk : k < l.length) :
    ∃ b o, A = some ⟨b, o, none⟩ ∧ b < B ∧ ∀ j v, (enc l[k])[j]? = some v → w.cell? ⟨b, o + k * sz + j, none⟩ = some v := by
  obtain ⟨b, o, hA, hb, hc⟩ := h (by omega)
  exact ⟨b, o, hA, hb, fun j v hv => hc k l[k] (List.getElem?_eq_getElem hk) j v hv⟩

end Go.Proofs.Ytjkefoijhphknaa
