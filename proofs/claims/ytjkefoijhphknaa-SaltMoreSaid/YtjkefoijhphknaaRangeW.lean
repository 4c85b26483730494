/- A range over an iterator that writes a variable of its own between two rounds, and whose loop's body always goes on: what the iterator owes, and what the body. No condition. -/
import Derived.Test.YtjkefoijhphknaaRange
import Derived.RangeFuncWrites
namespace Go.Proofs.Ytjkefoijhphknaa
open Go.RowKit

/-- The contract of an iterator that yields N things, one after the other, and between two rounds makes memory and writes blocks of type t that it made itself. -/
def SeqW (P : Program) (gf : Nat) (lb : Array Value) (encs : Nat → Array Value) (t : TypeId) (N : Nat) (Kp : World → World → Prop) (w : World) : Prop :=
  ∀ (l : Nat) (J : Nat → World → Prop) (W : World), Below w.heap.size w W →
    (∀ k A B row, J k A → A.grownBy B row → (∀ r, row = some r → W.heap.size ≤ r ∧ ∃ c fr, A.heap[r]? = some (.cells c t fr)) → J k B) →
    (∀ k W1, k < N → J k W1 → YieldAt Fence.wide 1 P l (encs k) W1 fun e W' => e = .returned (.bool true) ∧ J (k + 1) W' ∧ Kp W1 W') →
    J 0 W → CallsIn Fence.wide 2 P gf (#[.func (.yield l) #[] #[]] ++ lb) W fun e W' => (∃ v, e = .returned v) ∧ J N W'

theorem wp_rangeW {P : Program} {g : Operand} {ps : Array Tmp} {assign body : Code} {Q : Exit → Act → World → Prop} {a : Act} {w : World}
    {gf : Nat} {lb : Array Value} (hg : a.eval g = .func (.func gf) #[] lb) (eg : ∀ args w, (callFunc gf args).run P w = .ok (.enter gf args) w)
    {encs : Nat → Array Value} {t : TypeId} {N : Nat} {Kp : World → World → Prop} (hseq : SeqW P gf lb encs t N Kp w)
    (hKt : ∀ {A B C : World}, Kp A B → Kp B C → Kp A C) (hKb : ∀ (W : World) (l : Nat) (o o' : Obj), W.heap[l]? = some o → o.isCells = false → Kp W (W.putObj l o')) (hps : ∀ k, (encs k).size = ps.size)
    (I : Nat → World → Prop) (hI : ∀ k A B row, I k A → A.grownBy B row → (∀ r, row = some r → w.heap.size ≤ r ∧ ∃ o : Obj, A.heap[r]? = some o ∧ (o.isCells = false ∨ ∃ c fr, o = .cells c t fr)) → I k B) (h0 : I 0 w)
    (hround : ∀ (l k : Nat) (W : World), w.heap.size ≤ l → k < N → I k W → assign.wpIn (Fence.wide.inRound l) 1 P
      (Exit.then (fun a' W' => (KeepsFrom w.heap.size W W' ∧ Kp W W') ∧ ∀ o o' : Obj, W'.heap[l]? = some o → o.isCells = false →
        body.wpIn (Fence.wide.inRound l) 1 P (fun e _ W3 => e = .normal ∧ KeepsFrom w.heap.size (W'.putObj l o') W3 ∧ Kp (W'.putObj l o') W3 ∧ I (k + 1) W3) a' (W'.putObj l o')) (fun _ _ _ => False))
      { tmps := (ps.zip (encs k)).foldl (fun t (p, v) => t.setIfInBounds p v) a.tmps, defers := [] } W)
    (hdone : ∀ (D : Nat) (W : World), w.heap.size ≤ D → I N W → W.heap[D]? = some (.deferred (some [])) → Q .normal { a with defers := { target := .collected D, args := #[] } :: a.defers } W) :
    (Code.rangeFunc g ps assign body).wp P Q a w := by
  refine (wpIn_wide (n := 3)).1 (wpIn_rangeFunc fun fn hfn => ?_)
  obtain ⟨rec, hrec⟩ : ∃ rec : LoopState → Option Code → Loop, rec = fun st pe => { state := st, pending := pe, fn, tmps := a.tmps, params := ps, assign, body, defers := w.heap.size } := ⟨_, rfl⟩
  obtain ⟨V, hV⟩ : ∃ V, (w.alloc (.deferred (some []))).alloc (.loop (rec .ready none)) = V := ⟨_, rfl⟩
  have hbV : Below w.heap.size w V := by rw [← hV]; exact ((Below.refl _ w).alloc (Nat.le_refl _) _).alloc (by simp) _
  have hzV : V.heap.size = w.heap.size + 1 + 1 := by rw [← hV]; simp
  have hD : V.heap[w.heap.size]? = some (.deferred (some [])) := by rw [← hV]; exact (Below.heap_alloc _ _ _ (by simp)).trans (World.alloc_heap_new w _)
  have hL : V.heap[w.heap.size + 1]? = some (.loop (rec .ready none)) := by rw [← hV]; exact heap_alloc2_new _ _ _
  have hIV : I 0 V := hI 0 w V none h0 ⟨hbV.os, hbV.tape, hbV.output, hbV.size, fun k hk _ => hbV.block k hk⟩ (fun r e => by cases e)
  refine ⟨w.heap.size + 1, [{ target := .collected w.heap.size, args := #[] }], V, { target := .fn (.func gf) lb, args := #[.func (.yield (w.heap.size + 1)) #[] #[]] }, V, gf,
    #[.func (.yield (w.heap.size + 1)) #[] #[]] ++ lb, V, ?_, ?_, fun f' _ => trivial, ?_, fun _ => by omega, ?_⟩
  · rw [← hV, hrec]; exact run_enterLoop_outer _ _ _ _ _
  · simp only [resolve, hg]
    simp [go_sem]
  · simp [invoke, go_sem, eg]
  refine (hseq (w.heap.size + 1) (fun k W => I k W ∧ W.heap[w.heap.size + 1]? = some (.loop (rec .ready none)) ∧ W.heap[w.heap.size]? = some (.deferred (some []))) V hbV ?_ ?_ ⟨hIV, hL, hD⟩).mono ?_
  · -- what the iterator does between two rounds
    rintro k A B row ⟨i1, i2, i3⟩ hg2 hr
    have hne : ∀ b (o : Obj), A.heap[b]? = some o → o.isCells = false → b ≠ row.getD (b + 1) := fun b o ho hc e => by
      cases row with
      | none => simp at e
      | some r =>
        simp at e
        subst e
        obtain ⟨_, c, fr, h⟩ := hr b rfl
        rw [h] at ho
        cases ho
        simp [Obj.isCells] at hc
    have hkeep : ∀ b (o : Obj), A.heap[b]? = some o → o.isCells = false → B.heap[b]? = some o := fun b o ho hc => by
      refine (hg2.block b (Array.getElem?_eq_some_iff.1 ho).1 (fun e => hne b o ho hc (by rw [e.symm]; rfl))).trans ho
    exact ⟨hI k A B row i1 hg2 (fun r e => by obtain ⟨h1, c, fr, h2⟩ := hr r e; exact ⟨by omega, _, h2, .inr ⟨c, fr, rfl⟩⟩), hkeep _ _ i2 rfl, hkeep _ _ i3 rfl⟩
  · -- a round
    rintro k W hk ⟨i1, i2, i3⟩
    have hy := run_yield (P := P) (args := encs k) i2 (by rw [hrec]; exact hps k)
    rw [hrec] at hy
    refine ⟨fn, _, assign, body, hy, roundIn_of_wpIn hfn (wpIn_mono (hround _ k W (by omega) hk i1) ?_)⟩
    intro e a' W' hp
    cases e with
    | normal =>
      obtain ⟨⟨hk1, hk2⟩, hb⟩ := hp
      have j2 := hk1.same _ _ (by omega) i2 rfl
      have j3 := hk1.same _ _ (Nat.le_refl _) i3 rfl
      have jl : w.heap.size + 1 < W'.heap.size := (Array.getElem?_eq_some_iff.1 j2).1
      refine ⟨_, run_beginRound j2 (by rw [hrec]), wpIn_mono (hb _ (.loop { rec .ready none with state := .busy }) j2 rfl) ?_⟩
      rintro e a3 W3 ⟨rfl, hk3, hk4, i4⟩
      have m2 : W3.heap[w.heap.size + 1]? = some (.loop { rec .ready none with state := .busy }) := hk3.same _ _ (by omega) (World.putObj_heap_same jl) rfl
      have m3 : W3.heap[w.heap.size]? = some (.deferred (some [])) := hk3.same _ _ (Nat.le_refl _) ((World.putObj_heap_other (by omega)).trans j3) rfl
      have hend := run_endRound (P := P) none m2
      refine ⟨_, _, hend, rfl, ⟨?_, ?_, (World.putObj_heap_other (by omega)).trans m3⟩, hKt hk2 (hKt (hKt (hKb _ _ _ _ j2 rfl) hk4) (hKb _ _ _ _ m2 rfl))⟩
      · exact hI _ _ _ (some (w.heap.size + 1)) i4 (grownBy_putObj' _ _ _) (fun r e => by cases e; exact ⟨by omega, _, m2, .inl rfl⟩)
      · refine (World.putObj_heap_same (Array.getElem?_eq_some_iff.1 m2).1).trans ?_
        rw [hrec]
        rfl
    | exit id => exact hp.elim
    | goto t => exact hp.elim
    | ret => exact hp.elim
    | panic c => exact hp.elim
    | outgrown => exact hp.elim
  · -- behind the iterator
    rintro e W2 ⟨⟨v, rfl⟩, i1, i2, i3⟩
    have hend := run_endLoop (P := P) i2 (by rw [hrec]; simp)
    rw [hrec] at hend
    exact ⟨none, _, hend, hdone _ _ (Nat.le_refl _) (hI _ _ _ (some (w.heap.size + 1)) i1 (grownBy_putObj' _ _ _) (fun r e => by cases e; exact ⟨by omega, _, i2, .inl rfl⟩)) ((World.putObj_heap_other (by omega)).trans i3)⟩

end Go.Proofs.Ytjkefoijhphknaa
