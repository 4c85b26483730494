/- Plans as plain data: the rows of a plan in memory, and how a plan comes about number by number. No condition. -/
import Derived.Test.YtjkefoijhphknaaMkPlanA
import Derived.Test.YtjkefoijhphknaaSaNeed
import Derived.Deep.Slices
import Derived.OwnWalkIn
namespace Go.Proofs.Ytjkefoijhphknaa
open Go.RowKit Go.IntWalk

theorem wpListIn_store_row {F : Fence} {n : Nat} {P : Program} {ops : Array Oper} {rest : List Oper} {o : Oper} {a : Act} {w : World} {Q : Exit → Act → World → Prop} (hgd : o.guard = none) (ty : TypeId) (x y : Operand) (ho : o.op = .store ty x y)
    (g : Nat) (cells : Array Value) (hx : a.eval x = .pointer (some ⟨g, 0, none⟩)) (hy : a.eval y = .agg cells)
    (t : TypeId) (old : Array Value) (hg : w.heap[g]? = some (.cells old t (0, 0))) (hi : (P.info? ty).map (·.size) = some cells.size)
    (hold : old.size = cells.size) (h1 : cells.all (·.oneCell') = true)
    (h : wpListIn F n P ops Q rest (a.put o.dst undef) (w.setRow g cells)) : wpListIn F n P ops Q (o :: rest) a w := by
  refine wpListIn_plain hgd fun K hK => ?_
  unfold Oper.wpIn
  refine ⟨?_, ?_⟩
  · simp [Oper.about, ho]
  · rw [Oper.semAt_plain F _ _ (by rw [ho]; intro c hc'; cases hc')]
    simp only [execOp, ho, hx, hy, Instr.storeAt, Instr.sureAddr, Sem.run_bind, Sem.run_pure, Result.andThen_ok, run_storeVar_row w g t ty old cells hg hi hold h1]
    exact hK _ _ h

/-- A row of numbers, and a row of lists. -/
def ivA (q : Nat) (F : Nat → Int) : Array Value := Array.ofFn (n := q) fun k => .int .i64 (F k.1)
theorem ivA_get {q : Nat} (F : Nat → Int) {i : Nat} (hi : i < q) : (ivA q F)[i]? = some (.int .i64 (F i)) := by unfold ivA; rw [Array.getElem?_ofFn, dif_pos hi]
theorem ivA_set {q : Nat} (F : Nat → Int) (i : Nat) (v : Int) : (ivA q F).setIfInBounds i (.int .i64 v) = ivA q (fun k => if k = i then v else F k) := by
  apply Array.ext
  · simp [ivA]
  · intro k h1 h2
    have hs : k < (ivA q F).size := by simpa using h1
    rw [Array.getElem_setIfInBounds hs]
    simp only [ivA, Array.getElem_ofFn]
    by_cases e : i = k
    · rw [if_pos e, if_pos e.symm]
    · rw [if_neg e, if_neg (fun h => e h.symm)]
def slA (p : Nat) (S : Nat → Value) : Array Value := Array.ofFn (n := p) fun k => S k.1
theorem slA_get {p : Nat} (S : Nat → Value) {i : Nat} (hi : i < p) : (slA p S)[i]? = some (S i) := by unfold slA; rw [Array.getElem?_ofFn, dif_pos hi]
theorem slA_set {p : Nat} (S : Nat → Value) (i : Nat) (v : Value) : (slA p S).setIfInBounds i v = slA p (fun k => if k = i then v else S k) := by
  apply Array.ext
  · simp [slA]
  · intro k h1 h2
    have hs : k < (slA p S).size := by simpa using h1
    rw [Array.getElem_setIfInBounds hs]
    simp only [slA, Array.getElem_ofFn]
    by_cases e : i = k
    · rw [if_pos e, if_pos e.symm]
    · rw [if_neg e, if_neg (fun h => e h.symm)]
theorem info_parts' {o : Option TypeInfo} {z : Value} {a b : Nat} (h : o.map (fun i => (i.zero, i.size, i.bytes)) = some (some z, a, b)) : ∃ i, o = some i ∧ i.zero = some z ∧ i.size = a ∧ i.bytes = b := by
  cases o with
  | none => cases h
  | some i => simp only [Option.map_some, Option.some.injEq, Prod.mk.injEq] at h; exact ⟨i, rfl, h.1, h.2.1, h.2.2⟩
theorem infoInt : (Try.prog.info? 3).map (fun i => (i.zero, i.size, i.bytes)) = some (some (.int .i64 0), 1, 8) := by kernel_rfl
theorem infoInts : (Try.prog.info? 41).map (fun i => (i.zero, i.size, i.bytes)) = some (some (.slice none 0 0), 1, 24) := by kernel_rfl
theorem mkInts (q : Nat) (hq : q ≤ 1000) (w : World) :
    (Instr.makeSlice 41 (.int .i64 (q : Int)) (.int .i64 (q : Int))).run Try.prog w = .ok (.slice (some ⟨w.heap.size, 0, none⟩) q q) (w.alloc (.cells (ivA q fun _ => 0) 3)) := by
  obtain ⟨i0, hi, hz0, hz1, hz2⟩ := info_parts' infoInt
  have hr := run_make (P := Try.prog) w 41 3 i0 _ Try.underlying41 hi hz0 .i64 .i64 (q : Int) (q : Int) (by omega) (by omega) (by rw [hz2]; omega) (by omega)
  rw [hr, hz1]
  have : madeCells (Value.int .i64 0).cells (((q : Int)).toNat * 1) = ivA q fun _ => 0 := by
    apply Array.ext
    · simp [madeCells, ivA]
    · intro j h1 h2
      simp [madeCells, ivA, Value.cells, Nat.mod_one]
  rw [this]
  simp
theorem mkLists (p : Nat) (hp : p ≤ 1000) (w : World) :
    (Instr.makeSlice 57 (.int .i64 (p : Int)) (.int .i64 (p : Int))).run Try.prog w = .ok (.slice (some ⟨w.heap.size, 0, none⟩) p p) (w.alloc (.cells (slA p fun _ => .slice none 0 0) 41)) := by
  obtain ⟨i0, hi, hz0, hz1, hz2⟩ := info_parts' infoInts
  have hr := run_make (P := Try.prog) w 57 41 i0 _ Try.underlying57 hi hz0 .i64 .i64 (p : Int) (p : Int) (by omega) (by omega) (by rw [hz2]; omega) (by omega)
  rw [hr, hz1]
  have : madeCells (Value.slice none 0 0).cells (((p : Int)).toNat * 1) = slA p fun _ => .slice none 0 0 := by
    apply Array.ext
    · simp [madeCells, slA]
    · intro j h1 h2
      simp [madeCells, slA, Value.cells, Nat.mod_one]
  rw [this]
  simp

/-- The rows 0 .. k of a plan lie in blocks of their own, from base on. -/
structure PlAt (W : World) (P p q k : Nat) (R : Nat → Nat) (pl : Nat → Nat → Int) (base : Nat) : Prop where
  hP : W.heap[P]? = some (.cells (slA p fun j => if j < k then .slice (some ⟨R j, 0, none⟩) q q else .slice none 0 0) 41 (0, 0))
  hR : ∀ j, j < k → W.heap[R j]? = some (.cells (ivA q (pl j)) 3 (0, 0))
  bP : base ≤ P
  bR : ∀ j, j < k → base ≤ R j
  inj : ∀ i j, i < k → j < k → i ≠ j → R i ≠ R j
  ne : ∀ j, j < k → R j ≠ P
theorem PlAt.keep {W W' : World} {P p q k : Nat} {R : Nat → Nat} {pl : Nat → Nat → Int} {base : Nat} (h : PlAt W P p q k R pl base) (hb : ∀ b, base ≤ b → b < W.heap.size → (b = P ∨ ∃ j, j < k ∧ b = R j) → W'.heap[b]? = W.heap[b]?) : PlAt W' P p q k R pl base :=
  ⟨(hb P h.bP (Array.getElem?_eq_some_iff.1 h.hP).1 (.inl rfl)).trans h.hP, fun j hj => (hb (R j) (h.bR j hj) (Array.getElem?_eq_some_iff.1 (h.hR j hj)).1 (.inr ⟨j, hj, rfl⟩)).trans (h.hR j hj), h.bP, h.bR, h.inj, h.ne⟩
theorem PlAt.below {W W' : World} {P p q k : Nat} {R : Nat → Nat} {pl : Nat → Nat → Int} {base : Nat} (h : PlAt W P p q k R pl base) (hb : Below W.heap.size W W') : PlAt W' P p q k R pl base := h.keep fun b _ hlt _ => hb.block b hlt
/-- A row more. -/
theorem PlAt.more {W : World} {P p q k : Nat} {R : Nat → Nat} {pl : Nat → Nat → Int} {base : Nat} (h : PlAt W P p q k R pl base) (hbs : base ≤ W.heap.size) (hk : k < p) :
    PlAt ((W.alloc (.cells (ivA q (pl k)) 3)).setCell ⟨P, k, none⟩ (.slice (some ⟨W.heap.size, 0, none⟩) q q)) P p q (k + 1) (fun j => if j = k then W.heap.size else R j) pl base := by
  have hPl : P < W.heap.size := (Array.getElem?_eq_some_iff.1 h.hP).1
  have hRl : ∀ j, j < k → R j < W.heap.size := fun j hj => (Array.getElem?_eq_some_iff.1 (h.hR j hj)).1
  refine ⟨?_, fun j hj => ?_, h.bP, fun j hj => ?_, fun i j hi hj hij => ?_, fun j hj => ?_⟩
  · refine (heap_setCell_same _ P k _ _ _ ((Below.heap_alloc _ _ _ hPl).trans h.hP)).trans ?_
    rw [slA_set]
    congr 3
    funext j
    repeat' split
    all_goals first | rfl | omega
  · by_cases e : j = k
    · subst e
      rw [if_pos rfl]
      refine (Below.heap_setCell _ _ _ _ (by show W.heap.size ≠ P; omega)).trans (heap_alloc_new _ _)
    · rw [if_neg e]
      have hjk : j < k := by omega
      exact (Below.heap_setCell _ _ _ _ (h.ne j hjk)).trans ((Below.heap_alloc _ _ _ (hRl j hjk)).trans (h.hR j hjk))
  · split
    · exact hbs
    · exact h.bR j (by omega)
  · split <;> split
    · omega
    · have := hRl j (by omega); omega
    · have := hRl i (by omega); omega
    · exact h.inj i j (by omega) (by omega) hij
  · split
    · omega
    · exact h.ne j (by omega)
/-- A number is laid into a row. -/
theorem PlAt.put {W : World} {P p q k : Nat} {R : Nat → Nat} {pl : Nat → Nat → Int} {base : Nat} (h : PlAt W P p q k R pl base) {i f : Nat} (hi : i < k) (v : Int) :
    PlAt (W.setCell ⟨R i, f, none⟩ (.int .i64 v)) P p q k R (fun a b => if a = i ∧ b = f then v else pl a b) base := by
  refine ⟨(Below.heap_setCell _ _ _ _ (fun e => h.ne i hi e.symm)).trans h.hP, fun j hj => ?_, h.bP, h.bR, h.inj, h.ne⟩
  by_cases e : j = i
  · subst e
    refine (heap_setCell_same _ (R j) f _ _ _ (h.hR j hj)).trans ?_
    rw [ivA_set]
    congr 3
    funext b
    by_cases e2 : b = f <;> simp [e2]
  · refine (Below.heap_setCell _ _ _ _ (h.inj j i hj hi e)).trans ((h.hR j hj).trans ?_)
    congr 3
    funext b
    simp [e]

/-- The greatest number up to most for which, and for all below it, something is so. -/
def grI (so : Nat → Bool) : Nat → Nat
  | 0 => 0
  | n + 1 => if grI so n = n ∧ so (n + 1) = true then n + 1 else grI so n
theorem grI_eq (so : Nat → Bool) : ∀ (n k : Nat), k ≤ n → (∀ t, t < k → so (t + 1) = true) → (∀ t, k ≤ t → t < n → so (t + 1) = false) → grI so n = k
  | 0, k, hk, _, _ => by unfold grI; omega
  | n + 1, k, hk, h1, h2 => by
    unfold grI
    by_cases e : k = n + 1
    · subst e
      rw [grI_eq so n n (by omega) (fun t ht => h1 t (by omega)) (fun t h3 h4 => by omega), if_pos ⟨rfl, h1 n (by omega)⟩]
    · rw [grI_eq so n k (by omega) h1 (fun t h3 h4 => h2 t h3 (by omega)), if_neg]
      rintro ⟨e2, h3⟩
      subst e2
      rw [h2 k (by omega) (by omega)] at h3
      cases h3
theorem grI_le (so : Nat → Bool) : ∀ n, grI so n ≤ n
  | 0 => by unfold grI; omega
  | n + 1 => by
    have := grI_le so n
    unfold grI
    split <;> omega

/-- A plan under way: what is left, what the rest costs, and the numbers so far. -/
structure PSt where
  (m : Mk) (co : Int) (pl : Nat → Nat → Int)
def zeroN (m : Mk) : Bool := decide (m.needs 0 = 0) && (decide (m.needs 1 = 0) && (decide (m.needs 2 = 0) && (decide (m.needs 3 = 0) && (decide (m.needs 4 = 0) && (decide (m.needs 5 = 0) && (decide (m.needs 6 = 0) && decide (m.needs 7 = 0)))))))
def stpN (st : PSt) (i f : Nat) (pr : Int) : Nat := grI (soB st.m i f st.co pr) (min (st.m.left i) (st.m.needs f)).toNat
def stpS (st : PSt) (i f : Nat) (pr : Int) : PSt :=
  if zeroN st.m = true then st else ⟨aftM st.m i f (stpN st i f pr), st.co - stpN st i f pr * pr, fun a b => if a = i ∧ b = f then (stpN st i f pr : Int) else st.pl a b⟩
def stF (st : PSt) (i : Nat) (pr : Int) (l : List Nat) : PSt := l.foldl (fun st f => stpS st i f pr) st
theorem stF_nil (st : PSt) (i : Nat) (pr : Int) : stF st i pr [] = st := rfl
theorem stF_snoc (st : PSt) (i : Nat) (pr : Int) (l : List Nat) (f : Nat) : stF st i pr (l ++ [f]) = stpS (stF st i pr l) i f pr := by simp [stF]
theorem stF_zero {st : PSt} (h : zeroN st.m = true) (i : Nat) (pr : Int) (l : List Nat) : stF st i pr l = st := by
  induction l with
  | nil => rfl
  | cons f l ih =>
    show stF (stpS st i f pr) i pr l = st
    rw [show stpS st i f pr = st by unfold stpS; rw [if_pos h]]
    exact ih
/-- After the first k rents; fl: their fields. -/
def stO (m : Mk) (fl : Nat → List Nat) : Nat → PSt
  | 0 => ⟨m, costI m, fun _ _ => 0⟩
  | k + 1 => stF (stO m fl k) k (m.price k) (fl k)
theorem stO_zero {m : Mk} {fl : Nat → List Nat} {k : Nat} (h : zeroN (stO m fl k).m = true) : ∀ d, stO m fl (k + d) = stO m fl k
  | 0 => rfl
  | d + 1 => by
    have ih := stO_zero h d
    show stF (stO m fl (k + d)) (k + d) (m.price (k + d)) (fl (k + d)) = _
    rw [ih]
    exact stF_zero h _ _ _

theorem run_equal8 (d : Nat) (n : Nat → Int) (w : World) :
    (Op.equalIn (d + 2) 112 (.agg #[.int .i64 (n 0), .int .i64 (n 1), .int .i64 (n 2), .int .i64 (n 3), .int .i64 (n 4), .int .i64 (n 5), .int .i64 (n 6), .int .i64 (n 7)]) (.agg #[.int .i64 0, .int .i64 0, .int .i64 0, .int .i64 0, .int .i64 0, .int .i64 0, .int .i64 0, .int .i64 0])).run Try.prog w
      = .ok (decide (n 0 = 0) && (decide (n 1 = 0) && (decide (n 2 = 0) && (decide (n 3 = 0) && (decide (n 4 = 0) && (decide (n 5 = 0) && (decide (n 6 = 0) && decide (n 7 = 0)))))))) w := by
  have hu := run_underlying (P := Try.prog) (w := w) Try.underlying112
  have hs : (sizeOf 3).run Try.prog w = .ok 1 w := by simp [Try.sizeOf3]
  rw [Op.equalIn]
  simp only [Sem.run_bind, hu, Result.andThen_ok, hs]
  simp only [Std.Legacy.Range.forIn_eq_forIn_range', Std.Legacy.Range.size, Nat.sub_zero, Nat.div_one, List.range'_succ, List.range'_zero, List.forIn_cons, List.forIn_nil, Nat.mul_one, Nat.reduceAdd, Nat.zero_add]
  by_cases h0 : n 0 = 0
  case neg => simp [part, Try.isAgg3, go_sem, h0]
  case pos =>
    by_cases h1 : n 1 = 0
    case neg => simp [part, Try.isAgg3, go_sem, h0, h1]
    case pos =>
      by_cases h2 : n 2 = 0
      case neg => simp [part, Try.isAgg3, go_sem, h0, h1, h2]
      case pos =>
        by_cases h3 : n 3 = 0
        case neg => simp [part, Try.isAgg3, go_sem, h0, h1, h2, h3]
        case pos =>
          by_cases h4 : n 4 = 0
          case neg => simp [part, Try.isAgg3, go_sem, h0, h1, h2, h3, h4]
          case pos =>
            by_cases h5 : n 5 = 0
            case neg => simp [part, Try.isAgg3, go_sem, h0, h1, h2, h3, h4, h5]
            case pos =>
              by_cases h6 : n 6 = 0
              case neg => simp [part, Try.isAgg3, go_sem, h0, h1, h2, h3, h4, h5, h6]
              case pos =>
                by_cases h7 : n 7 = 0
                case neg => simp [part, Try.isAgg3, go_sem, h0, h1, h2, h3, h4, h5, h6, h7]
                case pos =>
                  simp [part, Try.isAgg3, go_sem, h0, h1, h2, h3, h4, h5, h6, h7]
theorem run_equalN (m : Mk) (w : World) :
    (Op.equalIn 10000 112 (.agg #[.int .i64 (m.needs 0), .int .i64 (m.needs 1), .int .i64 (m.needs 2), .int .i64 (m.needs 3), .int .i64 (m.needs 4), .int .i64 (m.needs 5), .int .i64 (m.needs 6), .int .i64 (m.needs 7)]) (.agg #[.int .i64 0, .int .i64 0, .int .i64 0, .int .i64 0, .int .i64 0, .int .i64 0, .int .i64 0, .int .i64 0])).run Try.prog w
      = .ok (zeroN m) w := run_equal8 9998 m.needs w
end Go.Proofs.Ytjkefoijhphknaa
