/- The cells of a survey at work, some readings left out; the readings that are named, by a list of tried ones; what keeps a slice of one's own in a range over a function. No condition. -/
import Derived.Test.YtaoonfmcimkmhaaClash
import Derived.Test.YtaoonfmcimkmhaaOwn
import Derived.RangeFuncWrites
import Derived.Laws.Rows
namespace Go.Proofs.Ytaoonfmcimkmhaa
open Go.RowKit

def wkO (v0 v1 v2 v3 : Value) (o : Nat → Bool) : Array Value := #[v0, v1, v2, v3] ++ (Array.ofFn (n := 80) (fun j => Value.bool (o j.1)) ++ #[.int .i64 0])
theorem wkO_size (v0 v1 v2 v3 : Value) (o : Nat → Bool) : (wkO v0 v1 v2 v3 o).size = 85 := by unfold wkO; simp
theorem wkO_head (v0 v1 v2 v3 : Value) (o : Nat → Bool) (k : Nat) (hk : k < 4) : (wkO v0 v1 v2 v3 o)[k]? = (#[v0, v1, v2, v3] : Array Value)[k]? := by
  unfold wkO
  rw [Array.getElem?_append_left (by simpa using hk)]
theorem wkO_out (v0 v1 v2 v3 : Value) (o : Nat → Bool) (k : Nat) (hk : k < 80) : (wkO v0 v1 v2 v3 o)[4 + k]? = some (.bool (o k)) := by
  unfold wkO
  rw [Array.getElem?_append_right (by simp), Array.getElem?_append_left (by simp; omega)]
  simp [hk]
theorem wkO_wid (v0 v1 v2 v3 : Value) (o : Nat → Bool) : (wkO v0 v1 v2 v3 o)[84]? = some (.int .i64 0) := by
  unfold wkO
  rw [Array.getElem?_append_right (by simp), Array.getElem?_append_right (by simp)]
  simp
theorem wkO_ext {v0 v1 v2 v3 : Value} {o : Nat → Bool} {a : Array Value} (hs : a.size = 85) (h0 : ∀ k, k < 4 → a[k]? = (#[v0, v1, v2, v3] : Array Value)[k]?) (h1 : ∀ k, k < 80 → a[4 + k]? = some (.bool (o k))) (h2 : a[84]? = some (.int .i64 0)) : a = wkO v0 v1 v2 v3 o := by
  apply Array.ext_getElem?
  intro i
  by_cases e1 : i < 4
  · rw [h0 i e1, wkO_head _ _ _ _ _ i e1]
  · by_cases e2 : i < 84
    · obtain ⟨k, rfl⟩ : ∃ k, i = 4 + k := ⟨i - 4, by omega⟩
      rw [h1 k (by omega), wkO_out _ _ _ _ _ k (by omega)]
    · by_cases e3 : i = 84
      · subst e3
        rw [h2, wkO_wid]
      · rw [Array.getElem?_eq_none (by omega), Array.getElem?_eq_none (by rw [wkO_size]; omega)]
theorem wkO_none (v0 v1 v2 v3 : Value) : wkC v0 v1 v2 v3 = wkO v0 v1 v2 v3 (fun _ => false) :=
  wkO_ext (wkC_size _ _ _ _) (fun k hk => wkC_head _ _ _ _ k hk) (fun k hk => wkC_out _ _ _ _ k hk) (wkC_wid _ _ _ _)
theorem wkO_set (v0 v1 v2 v3 : Value) (o : Nat → Bool) {k : Nat} (hk : k < 80) (b : Bool) : (wkO v0 v1 v2 v3 o).setIfInBounds (4 + k) (.bool b) = wkO v0 v1 v2 v3 (upB o k b) := by
  refine wkO_ext (by rw [Array.size_setIfInBounds, wkO_size]) (fun j hj => ?_) (fun j hj => ?_) ?_
  · rw [Array.getElem?_setIfInBounds, if_neg (by omega), wkO_head _ _ _ _ _ j hj]
  · rw [Array.getElem?_setIfInBounds]
    unfold upB
    by_cases e : j = k
    · subst e
      rw [if_pos rfl, if_pos (by rw [wkO_size]; omega), if_pos rfl]
    · rw [if_neg (by omega), wkO_out _ _ _ _ _ j hj, if_neg e]
  · rw [Array.getElem?_setIfInBounds, if_neg (by omega), wkO_wid]
theorem wkO_one (n : Int) (A1 A2 A3 : Option Addr) (n1 n2 n3 c1 c2 c3 : Nat) (o : Nat → Bool) : (wkO (.int .i64 n) (.slice A1 n1 c1) (.slice A2 n2 c2) (.slice A3 n3 c3) o).all (·.oneCell') = true := by
  rw [Array.all_eq_true_iff_forall_mem]
  intro v hv
  unfold wkO at hv
  simp only [Array.mem_append, Array.mem_ofFn, List.mem_toArray, List.mem_cons, List.not_mem_nil, or_false] at hv
  rcases hv with (rfl | rfl | rfl | rfl) | ⟨_, rfl⟩ | rfl <;> rfl
theorem wkO_all (w : World) (s : Sv) (c1 c2 c3 : Nat) (A1 A2 A3 : Option Addr) (hok : svOk s = true) (o : Nat → Bool) (r1 : Rd w w.heap.size A1 shV 4 s.shots) (r2 : Rd w w.heap.size A2 mkV 3 s.marks) :
    WkAll w (wkO (.int .i64 s.n) (.slice A1 s.shots.length c1) (.slice A2 s.marks.length c2) (.slice A3 s.threads.length c3) o) s o 0 :=
  { at_ := { size := wkO_size _ _ _ _ _, c0 := wkO_head _ _ _ _ _ 0 (by omega), sh := ⟨A1, c1, wkO_head _ _ _ _ _ 1 (by omega), r1⟩, mks := ⟨A2, c2, wkO_head _ _ _ _ _ 2 (by omega), r2⟩ },
    ok := hok, out_ := fun k hk => wkO_out _ _ _ _ _ k hk, wid := wkO_wid _ _ _ _ _, w0 := by omega, w2 := by omega }

/-- One more reading is tried. -/
def clStep (F : (Nat → Bool) → Bool) (st : (Nat → Bool) × List Int) (k : Nat) : (Nat → Bool) × List Int :=
  if F (upB st.1 k true) then (upB (upB st.1 k true) k false, st.2 ++ [(k : Int)]) else (upB st.1 k true, st.2)
def clFold (F : (Nat → Bool) → Bool) (l : List Nat) : (Nat → Bool) × List Int := l.foldl (clStep F) (fun _ => false, [])
theorem clFold_snoc (F : (Nat → Bool) → Bool) (l : List Nat) (k : Nat) : clFold F (l ++ [k]) = clStep F (clFold F l) k := by unfold clFold; rw [List.foldl_append]; rfl
theorem clFold_range (F : (Nat → Bool) → Bool) : ∀ n, clFold F (List.range n) = (clOut F n, clL F n)
  | 0 => rfl
  | n + 1 => by
    rw [List.range_succ, clFold_snoc, clFold_range F n]
    unfold clStep
    dsimp only
    cases h : F (upB (clOut F n) n true)
    · rw [(clOut_no h).1, (clOut_no h).2, if_neg (by simp)]
    · rw [(clOut_yes h).1, (clOut_yes h).2, if_pos rfl]
theorem clFold_len (F : (Nat → Bool) → Bool) (l : List Nat) : (clFold F l).2.length ≤ l.length := by
  have : ∀ (l : List Nat) (st : (Nat → Bool) × List Int), (l.foldl (clStep F) st).2.length ≤ st.2.length + l.length := by
    intro l
    induction l with
    | nil => intro st; simp
    | cons k l ih =>
      intro st
      rw [List.foldl_cons]
      have h1 := ih (clStep F st k)
      have h2 : (clStep F st k).2.length ≤ st.2.length + 1 := by
        unfold clStep
        split
        · simp
        · dsimp only; omega
      rw [List.length_cons]
      omega
  have h := this l (fun _ => false, [])
  unfold clFold
  simpa using h

/-- A slice of one's own lies in a block of cells. -/
theorem Own.cells_ {α : Type} {w : World} {base : Nat} {e : TypeId} {v : Value} {enc : α → List Value} {sz : Nat} {l : List α} (h : Own w base e v enc sz l) : ∀ k, v.ownBlock = some k → ∃ o, w.heap[k]? = some o ∧ o.isCells = true := by
  intro k hk
  rcases h.2 with ⟨rfl, h0⟩ | ⟨g, cap, cur, rfl, hb, hg, _⟩
  · cases hk
  · unfold Value.ownBlock at hk
    injection hk with hk
    dsimp only at hk
    subst hk
    exact ⟨_, hg, rfl⟩
theorem own_from {α : Type} {W W' : World} {row : Option Nat} {B base : Nat} {e : TypeId} {v : Value} {enc : α → List Value} {sz : Nat} {l : List α} (hg : W.grownBy W' row) (hr : ∀ r, row = some r → B ≤ r ∧ ∃ o : Obj, W.heap[r]? = some o ∧ o.isCells = false)
    (h : Own W base e v enc sz l) : Own W' base e v enc sz l := by
  refine h.keep hg ?_
  cases hv : v.ownBlock with
  | none => exact .inl rfl
  | some k =>
    refine .inr fun e => ?_
    obtain ⟨o, ho, hc⟩ := h.cells_ k hv
    obtain ⟨_, o', ho', hc'⟩ := hr k e.symm
    rw [ho] at ho'
    injection ho' with ho'
    rw [← ho', hc] at hc'
    cases hc'
theorem kf_below {B : Nat} {W W' : World} (hb : Below W.heap.size W W') : KeepsFrom B W W' := ⟨hb.size, fun i _ _ hi _ => (hb.block i (Array.getElem?_eq_some_iff.1 hi).1).trans hi⟩
theorem kf_grown {B : Nat} {W W' : World} {v : Value} (hg : W.grownBy W' v.ownBlock) (hc : ∀ k, v.ownBlock = some k → ∃ o, W.heap[k]? = some o ∧ o.isCells = true) : KeepsFrom B W W' :=
  ⟨hg.size, fun i o _ hi ho => (hg.block i (Array.getElem?_eq_some_iff.1 hi).1 (fun e => by
    obtain ⟨o', h1, h2⟩ := hc i e.symm
    rw [hi] at h1
    injection h1 with h1
    rw [← h1, ho] at h2
    cases h2)).trans hi⟩

/-- The load of a whole row, in a fence. -/
theorem wpListIn_load_row {F : Fence} {n : Nat} {P : Program} {ops : Array Oper} {rest : List Oper} {o : Oper} {a : Act} {w : World} {Q : Exit → Act → World → Prop} (hgd : o.guard = none) (ty : TypeId) (x : Operand) (ho : o.op = .load ty x)
    (g : Nat) (hx : a.eval x = .pointer (some ⟨g, 0, none⟩)) (t : TypeId) (cs : Array Value) (fr : Nat × Nat) (d : TypeDesc) (hg : w.heap[g]? = some (.cells cs t fr))
    (hu : P.underlying ty = some d) (hd : (match d with | .struct _ | .array _ _ => true | _ => false) = true) (hi : (P.info? ty).map (·.size) = some cs.size)
    (h : wpListIn F n P ops Q rest (a.put o.dst (.agg cs)) w) : wpListIn F n P ops Q (o :: rest) a w := by
  refine wpListIn_plain hgd fun K hK => ?_
  unfold Oper.wpIn
  refine ⟨?_, ?_⟩
  · simp [Oper.about, ho]
  · rw [Oper.semAt_plain F _ _ (by rw [ho]; intro c hc'; cases hc')]
    simp only [execOp, ho, hx, Instr.loadAt, Instr.sureAddr, Sem.run_bind, Sem.run_pure, Result.andThen_ok, run_loadVar_row w g t ty cs fr d hg hu hd hi]
    exact hK _ _ h

end Go.Proofs.Ytaoonfmcimkmhaa
