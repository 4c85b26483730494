/- A slice of the call's own that reads as a list, each element as so many cells; an append onto it, its source nil or not. No condition. -/
import Derived.Test.YtjkefoijhphknaaWords
import Derived.Maps.AppendAt
import Derived.Laws.OwnMore
import Derived.OwnWalk
import Derived.OwnWalkIn
namespace Go.Proofs.Ytjkefoijhphknaa
open Go.RowKit

def flat {α : Type} (enc : α → List Value) (l : List α) : List Value := l.flatMap enc
theorem flat_length {α : Type} {enc : α → List Value} {sz : Nat} (he : ∀ x, (enc x).length = sz) : ∀ l : List α, (flat enc l).length = l.length * sz
  | [] => by simp [flat]
  | x :: l => by
    have := flat_length he l
    unfold flat at this ⊢
    rw [List.flatMap_cons, List.length_append, this, he, List.length_cons, Nat.succ_mul]
    omega
theorem flat_append {α : Type} (enc : α → List Value) (l l' : List α) : flat enc (l ++ l') = flat enc l ++ flat enc l' := by simp [flat]
theorem flat_get {α : Type} {enc : α → List Value} {sz : Nat} (he : ∀ x, (enc x).length = sz) : ∀ (l : List α) (k : Nat) (x : α), l[k]? = some x → ∀ j v, (enc x)[j]? = some v → (flat enc l)[k * sz + j]? = some v
  | [], k, x, h, _, _, _ => by simp at h
  | y :: l, 0, x, h, j, v, hv => by
    simp only [List.getElem?_cons_zero, Option.some.injEq] at h
    subst h
    have hj : j < (enc y).length := (List.getElem?_eq_some_iff.1 hv).1
    unfold flat
    rw [List.flatMap_cons, Nat.zero_mul, Nat.zero_add, List.getElem?_append_left hj]
    exact hv
  | y :: l, k + 1, x, h, j, v, hv => by
    simp only [List.getElem?_cons_succ] at h
    have ih := flat_get he l k x h j v hv
    unfold flat at ih ⊢
    rw [List.flatMap_cons, List.getElem?_append_right (by rw [he, Nat.succ_mul]; omega), he]
    rw [show (k + 1) * sz + j - sz = k * sz + j by rw [Nat.succ_mul]; omega]
    exact ih
theorem flat_at {α : Type} {enc : α → List Value} {sz : Nat} (he : ∀ x, (enc x).length = sz) {l : List α} {i : Nat} {v : Value} (h : (flat enc l)[i]? = some v) :
    ∃ k j x, i = k * sz + j ∧ l[k]? = some x ∧ (enc x)[j]? = some v := by
  have hi : i < l.length * sz := by rw [← flat_length he]; exact (List.getElem?_eq_some_iff.1 h).1
  have hs : 0 < sz := by
    rcases Nat.eq_zero_or_pos sz with e | e
    · rw [e, Nat.mul_zero] at hi; omega
    · exact e
  have hk : i / sz < l.length := (Nat.div_lt_iff_lt_mul hs).2 hi
  have hj : i % sz < (enc l[i / sz]).length := by rw [he]; exact Nat.mod_lt _ hs
  have e1 : i = i / sz * sz + i % sz := by have := Nat.div_add_mod i sz; rw [Nat.mul_comm] at this; exact this.symm
  have h2 := flat_get he l (i / sz) l[i / sz] (List.getElem?_eq_getElem hk) (i % sz) _ (List.getElem?_eq_getElem hj)
  rw [← e1, h] at h2
  exact ⟨i / sz, i % sz, l[i / sz], e1, List.getElem?_eq_getElem hk, by rw [List.getElem?_eq_getElem hj]; exact h2.symm⟩

/-- The slice v, made from block base on, reads as the list l. -/
def Own {α : Type} (w : World) (base : Nat) (e : TypeId) (v : Value) (enc : α → List Value) (sz : Nat) (l : List α) : Prop := w.ownsRow base e sz v l.length (flat enc l)

section
variable {α : Type} {w w' : World} {base : Nat} {e : TypeId} {v : Value} {enc : α → List Value} {sz : Nat} {l : List α}
theorem Own.nil_ (w : World) (base : Nat) (e : TypeId) (enc : α → List Value) (sz : Nat) : Own w base e (.slice none 0 0) enc sz ([] : List α) := World.ownsRow_nil w base e sz
theorem Own.empty (w : World) (base : Nat) (e : TypeId) (enc : α → List Value) (sz : Nat) (hb : base ≤ w.heap.size) : Own (w.alloc (.cells #[] e)) base e (.slice (some ⟨w.heap.size, 0, none⟩) 0 0) enc sz ([] : List α) :=
  World.ownsRow_made w #[] 0 hb (by unfold maxLen; omega) (by simp)
theorem Own.form (h : Own w base e v enc sz l) : ∃ A c, v = .slice A l.length c := by
  rcases h.2 with ⟨rfl, h0⟩ | ⟨g, cap, cur, rfl, _⟩
  · exact ⟨none, 0, by rw [h0]⟩
  · exact ⟨_, _, rfl⟩
theorem Own.rd {A : Option Addr} {c : Nat} (h : Own w base e (.slice A l.length c) enc sz l) (he : ∀ x, (enc x).length = sz) : Rd w w.heap.size A enc sz l := fun hl => by
  rcases h.2 with ⟨h1, h0⟩ | ⟨g, cap, cur, h1, hb, hg, _⟩
  · omega
  · injection h1 with e1 _ _
    subst e1
    refine ⟨g, 0, rfl, (Array.getElem?_eq_some_iff.1 hg).1, fun k x hx j u hu => ?_⟩
    have h2 := World.ownsRow.cells h (g := g) rfl (k * sz + j) u (flat_get he l k x hx j u hu)
    have hadd : (⟨g, 0, none⟩ : Addr).add (k * sz + j) = ⟨g, 0 + k * sz + j, none⟩ := by unfold Addr.add; split <;> simp_all
    rw [hadd] at h2
    exact h2
theorem Own.from_ {A : Option Addr} {c n : Nat} (h : Own w base e (.slice A n c) enc sz l) (hl : 0 < l.length) : ∃ g, A = some ⟨g, 0, none⟩ ∧ base ≤ g ∧ g < w.heap.size := by
  rcases h.2 with ⟨h1, h0⟩ | ⟨g, cap, cur, h1, hb, hg, _⟩
  · omega
  · injection h1 with e1 _ _
    exact ⟨g, e1, hb, (Array.getElem?_eq_some_iff.1 hg).1⟩
theorem Own.keep {row : Option Nat} (h : Own w base e v enc sz l) (hg : w.grownBy w' row) (hne : v.ownBlock = none ∨ v.ownBlock ≠ row) : Own w' base e v enc sz l := World.ownsRow.kept h hg hne
theorem grown_of_below {row : Option Nat} (hb : Below w.heap.size w w') : w.grownBy w' row := ⟨hb.os, hb.tape, hb.output, hb.size, fun k hk _ => hb.block k hk⟩
theorem Own.below (h : Own w base e v enc sz l) (hb : Below w.heap.size w w') : Own w' base e v enc sz l := h.keep (row := none) (grown_of_below hb) (by cases v.ownBlock <;> simp)
theorem Own.lt (h : Own w base e v enc sz l) : ∀ k, v.ownBlock = some k → base ≤ k ∧ k < w.heap.size := World.ownsRow.lt h

theorem Own.set_ (h : Own w base e v enc sz l) {p : Addr} (hp : p.block < base) (u : Value) : Own (w.setCell p u) base e v enc sz l := by
  refine h.keep (row := some p.block) ⟨rfl, rfl, rfl, by simp [World.setCell], fun k hk hne => Below.heap_setCell w p u k (fun e => hne (by rw [e]))⟩ ?_
  cases hv : v.ownBlock with
  | none => exact .inl rfl
  | some k =>
    refine .inr fun e => ?_
    injection e with e
    have := (h.lt k hv).1
    omega
theorem Own.rd' {A : Option Addr} {c n : Nat} (h : Own w base e (.slice A n c) enc sz l) (hn : n = l.length) (he : ∀ x, (enc x).length = sz) : Rd w w.heap.size A enc sz l := by
  subst hn
  exact h.rd he

/-- What an append leaves of the blocks before. -/
theorem below_grown {B : Nat} {v : Value} (hg : w.grownBy w' v.ownBlock) (hB : B ≤ w.heap.size) (hv : ∀ k, v.ownBlock = some k → B ≤ k) : Below B w w' :=
  ⟨hg.os, hg.tape, hg.output, hg.size, fun k hk => hg.block k (by omega) (fun e => by have := hv k e.symm; omega)⟩

theorem below_new_append {w w' : World} {e : TypeId} {n c : Nat} (hg : (w.alloc (.cells #[] e)).grownBy w' (Value.ownBlock (.slice (some ⟨w.heap.size, 0, none⟩) n c))) : Below w.heap.size w w' :=
  ((Below.refl _ _).alloc (Nat.le_refl _) _).trans ⟨hg.os, hg.tape, hg.output, hg.size, fun k hk => hg.block k (by simp; omega) (fun h => by unfold Value.ownBlock at h; injection h with h; dsimp only at h; omega)⟩

theorem run_append_rd {P : Program} {t ty : TypeId} (i : TypeInfo) (z : Value) (bytes : Nat) (ht : P.underlying t = some (.slice e)) (hi : P.info? e = some i) (hz : i.zero = some z)
    (hsize : i.size = sz) (hby : i.bytes = bytes) (hzs : z.cells.size = sz) (hsz : 0 < sz) (he : ∀ x, (enc x).length = sz) (h1 : ∀ x, ∀ u ∈ enc x, u.oneCell' = true)
    (ho : Own w base e v enc sz l) {B : Nat} {A : Option Addr} {m c : Nat} {news : List α} (hm : news.length = m) (hr : Rd w B A enc sz news)
    (h63 : l.length + m ≤ 1000000000) (hbytes : bytes ≤ 1000) (hbase : base ≤ w.heap.size) :
    ∃ v' w', (Builtin.append_ #[t, t] ty #[v, .slice A m c]).run P w = .ok v' w' ∧ Own w' base e v' enc sz (l ++ news) ∧ w.grownBy w' v.ownBlock ∧ (v'.ownBlock = v.ownBlock ∨ v'.ownBlock = some w.heap.size) := by
  subst hm
  cases A with
  | none =>
    have hn : news = [] := by
      rcases Nat.eq_zero_or_pos news.length with h0 | h0
      · exact List.eq_nil_of_length_eq_zero h0
      · obtain ⟨b, o, h, _⟩ := hr h0
        cases h
    subst hn
    refine ⟨v, w, ?_, by simpa using ho, ⟨rfl, rfl, rfl, Nat.le_refl _, fun _ _ _ => rfl⟩, .inl rfl⟩
    rcases ho.2 with ⟨rfl, h0⟩ | ⟨g, cap, cur, rfl, _, _, hnc, _⟩
    · simp [Builtin.append_, run_underlying ht, sizeOf, typeInfo, hi, Builtin.lenOf, Builtin.firstCells]
    · simp [Builtin.append_, run_underlying ht, sizeOf, typeInfo, hi, Builtin.lenOf, Builtin.firstCells, hnc, storeCells]
  | some ad =>
    have hcells : ∀ j u, (flat enc news)[j]? = some u → w.cell? (ad.add j) = some u := fun j u hu => by
      obtain ⟨k, j', x, rfl, hx, hj⟩ := flat_at he hu
      have hk : 0 < news.length := by have := (List.getElem?_eq_some_iff.1 hx).1; omega
      obtain ⟨b, o, hA, _, hc⟩ := hr hk
      injection hA with hA
      subst hA
      have hadd : (⟨b, o, none⟩ : Addr).add (k * sz + j') = ⟨b, o + k * sz + j', none⟩ := by
        unfold Addr.add
        split
        · rename_i h0; simp only [Addr.mk.injEq, and_true, true_and]; omega
        · simp only [Addr.mk.injEq, and_true, true_and]; omega
      rw [hadd]
      exact hc k x hx j' u hj
    have hone : ∀ u ∈ flat enc news, u.oneCell' = true := fun u hu => by
      unfold flat at hu
      rw [List.mem_flatMap] at hu
      obtain ⟨x, _, hx⟩ := hu
      exact h1 x u hx
    have hb2 : (l.length + news.length) * bytes ≤ 140737488355328 := Nat.le_trans (Nat.mul_le_mul h63 hbytes) (by omega)
    obtain ⟨v', w', hrun, h2, h3, _, h5⟩ := run_append_own_at (P := P) w base t ty e i z sz bytes ht hi hz hsize hby hzs hsz v l.length (flat enc l) ho ad news.length c (flat enc news) (flat_length he news) hcells hone (by unfold maxLen; omega) hb2 hbase
    refine ⟨v', w', hrun, ?_, h3, h5⟩
    unfold Own
    rw [List.length_append, flat_append]
    exact h2

theorem step_append_rd {P : Program} {ops : Array Oper} {o : Oper} {a : Act} {K : Act → World → Prop} {Q : Exit → Act → World → Prop} {E : Prop} (hgd : o.guard = none) (s x : Operand) (t : TypeId)
    (hop : o.op = .call { callee := .builtin .append, args := #[s, x], argTypes := #[t, t] }) (i : TypeInfo) (z : Value) (bytes : Nat) (ht : P.underlying t = some (.slice e)) (hi : P.info? e = some i) (hz : i.zero = some z)
    (hsize : i.size = sz) (hby : i.bytes = bytes) (hzs : z.cells.size = sz) (hsz : 0 < sz) (he : ∀ x, (enc x).length = sz) (h1 : ∀ x, ∀ u ∈ enc x, u.oneCell' = true)
    (hs : a.eval s = v) (ho : Own w base e v enc sz l) {B : Nat} {A : Option Addr} {m c : Nat} {news : List α} (hx : a.eval x = .slice A m c) (hm : news.length = m) (hr : Rd w B A enc sz news)
    (h63 : l.length + m ≤ 1000000000) (hbytes : bytes ≤ 1000) (hbase : base ≤ w.heap.size)
    (h : ∀ v' w', Own w' base e v' enc sz (l ++ news) → w.grownBy w' v.ownBlock → (v'.ownBlock = v.ownBlock ∨ v'.ownBlock = some w.heap.size) → K (a.put o.dst v') w') :
    if Region.wanted o (yielded ops a.tmps) = true then Oper.wp P o a w K Q else E := by
  have hw : Region.wanted o (yielded ops a.tmps) = true := by simp [Region.wanted, hgd]
  rw [if_pos hw]
  obtain ⟨v', w', hrun, h2, h3, h4⟩ := run_append_rd (P := P) (ty := o.type) i z bytes ht hi hz hsize hby hzs hsz he h1 ho (c := c) hm hr h63 hbytes hbase
  unfold Oper.wp execOp
  simp only [hop, resolve, invoke, builtin, Sem.run_bind, Sem.run_pure, Result.andThen_ok, List.map_toArray, List.map_cons, List.map_nil, hs, hx, hrun]
  exact h v' w' h2 h3 h4

/-- What lies in a new block reads as a list of one. -/
theorem Rd.one {α : Type} {enc : α → List Value} {sz : Nat} (w : World) (x : α) (cs : Array Value) (t : TypeId) (hcs : cs.toList = enc x) : Rd (w.alloc (.cells cs t)) (w.heap.size + 1) (some ⟨w.heap.size, 0, none⟩) enc sz [x] := fun _ => by
  refine ⟨w.heap.size, 0, rfl, Nat.lt_succ_self _, fun k y hy j v hv => ?_⟩
  cases k with
  | zero =>
    simp only [List.getElem?_cons_zero, Option.some.injEq] at hy
    subst hy
    rw [cell_of_row _ _ _ _ _ _ (heap_alloc_new w (.cells cs t))]
    rw [← hcs] at hv
    simpa using hv
  | succ k => simp at hy

/-- At the operation, for the walk. -/
theorem wpList_append_rd {P : Program} {ops : Array Oper} {rest : List Oper} {o : Oper} {a : Act} {Q : Exit → Act → World → Prop} (hgd : o.guard = none) (s x : Operand) (t : TypeId)
    (hop : o.op = .call { callee := .builtin .append, args := #[s, x], argTypes := #[t, t] }) (i : TypeInfo) (z : Value) (bytes : Nat) (ht : P.underlying t = some (.slice e)) (hi : P.info? e = some i) (hz : i.zero = some z)
    (hsize : i.size = sz) (hby : i.bytes = bytes) (hzs : z.cells.size = sz) (hsz : 0 < sz) (he : ∀ x, (enc x).length = sz) (h1 : ∀ x, ∀ u ∈ enc x, u.oneCell' = true)
    (hs : a.eval s = v) (ho : Own w base e v enc sz l) {B : Nat} {A : Option Addr} {m c : Nat} {news : List α} (hx : a.eval x = .slice A m c) (hm : news.length = m) (hr : Rd w B A enc sz news)
    (h63 : l.length + m ≤ 1000000000) (hbytes : bytes ≤ 1000) (hbase : base ≤ w.heap.size)
    (h : ∀ v' w', Own w' base e v' enc sz (l ++ news) → w.grownBy w' v.ownBlock → (v'.ownBlock = v.ownBlock ∨ v'.ownBlock = some w.heap.size) → wpList P ops Q rest (a.put o.dst v') w') : wpList P ops Q (o :: rest) a w := by
  refine wpList_plain hgd fun K hK => ?_
  obtain ⟨v', w', hr, h2, h3, h4⟩ := run_append_rd (P := P) (ty := o.type) i z bytes ht hi hz hsize hby hzs hsz he h1 ho (c := c) hm hr h63 hbytes hbase
  unfold Oper.wp execOp
  simp only [hop, resolve, invoke, builtin, Sem.run_bind, Sem.run_pure, Result.andThen_ok, List.map_toArray, List.map_cons, List.map_nil, hs, hx, hr]
  exact hK _ _ (h v' w' h2 h3 h4)

/-- The same in a fence. -/
theorem wpListIn_append_rd {F : Fence} {n : Nat} {P : Program} {ops : Array Oper} {rest : List Oper} {o : Oper} {a : Act} {Q : Exit → Act → World → Prop} (hgd : o.guard = none) (s x : Operand) (t : TypeId)
    (hop : o.op = .call { callee := .builtin .append, args := #[s, x], argTypes := #[t, t] }) (i : TypeInfo) (z : Value) (bytes : Nat) (ht : P.underlying t = some (.slice e)) (hi : P.info? e = some i) (hz : i.zero = some z)
    (hsize : i.size = sz) (hby : i.bytes = bytes) (hzs : z.cells.size = sz) (hsz : 0 < sz) (he : ∀ x, (enc x).length = sz) (h1 : ∀ x, ∀ u ∈ enc x, u.oneCell' = true)
    (hs : a.eval s = v) (ho : Own w base e v enc sz l) {B : Nat} {A : Option Addr} {m c : Nat} {news : List α} (hx : a.eval x = .slice A m c) (hm : news.length = m) (hr : Rd w B A enc sz news)
    (h63 : l.length + m ≤ 1000000000) (hbytes : bytes ≤ 1000) (hbase : base ≤ w.heap.size)
    (h : ∀ v' w', Own w' base e v' enc sz (l ++ news) → w.grownBy w' v.ownBlock → (v'.ownBlock = v.ownBlock ∨ v'.ownBlock = some w.heap.size) → wpListIn F n P ops Q rest (a.put o.dst v') w') : wpListIn F n P ops Q (o :: rest) a w := by
  refine wpListIn_plain hgd fun K hK => ?_
  obtain ⟨v', w', hrun, h2, h3, h4⟩ := run_append_rd (P := P) (ty := o.type) i z bytes ht hi hz hsize hby hzs hsz he h1 ho (c := c) hm hr h63 hbytes hbase
  unfold Oper.wpIn
  refine ⟨?_, ?_⟩
  · simp [Oper.about, hop, resolve, Target.leads, Sem.run_pure]
  · rw [Oper.semAt_plain F _ _ (by rw [hop]; intro c hc'; cases hc')]
    simp [execOp, hop, resolve, invoke, builtin, hs, hx, hrun, Result.andThen]
    exact hK _ _ (h v' w' h2 h3 h4)
end

end Go.Proofs.Ytjkefoijhphknaa
