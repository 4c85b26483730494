/- What a loop of points says that does not close: no heights fit the shots along it; and a map of pairs of points that the call itself has made. Conditions stand at each theorem. -/
import Derived.Test.YtaoonfmcimkmhaaLReach
import Derived.Test.YtaoonfmcimkmhaaSays
import Derived.Test.YtaoonfmcimkmhaaClash
import Derived.Test.YtaoonfmcimkmhaaRefSame
import Derived.Maps.OwnOps
import Derived.WideKeyPair
set_option linter.unusedVariables false
namespace Go.Proofs.Ytaoonfmcimkmhaa
open Go.RowKit

/-- The point after the one with index i. -/
def nxI (xs : List Int) (i : Nat) : Int := xs.getD ((i + 1) % xs.length) 0
/-- One of the first k steps goes from a to b, or back. -/
def inP (xs : List Int) (k : Nat) (a b : Int) : Bool := (List.range k).any fun i => (xs.getD i 0 == a && nxI xs i == b) || (xs.getD i 0 == b && nxI xs i == a)
theorem inP_zero (xs : List Int) (a b : Int) : inP xs 0 a b = false := rfl
theorem inP_succ (xs : List Int) (k : Nat) (a b : Int) : inP xs (k + 1) a b = (inP xs k a b || ((xs.getD k 0 == a && nxI xs k == b) || (xs.getD k 0 == b && nxI xs k == a))) := by
  unfold inP
  rw [List.range_succ, List.any_append]
  simp
/-- The survey with the shots along the loop alone. -/
def onS (s : Sv) (xs : List Int) : Sv := ⟨s.n, s.shots.filter fun x => inP xs xs.length x.f x.t, [], []⟩
theorem onS_ok {s : Sv} (hok : svOk s = true) (xs : List Int) : svOk (onS s xs) = true := by
  rw [svOk_iff] at hok ⊢
  obtain ⟨⟨h1, h2, h3, h4, h5⟩, h6, h7, h8⟩ := hok
  refine ⟨⟨h1, h2, Nat.le_trans (List.length_filter_le _ _) h3, by simp [onS], by simp [onS]⟩, fun x hx => h6 x (List.mem_filter.1 hx).1, fun x hx => by simp [onS] at hx, fun x hx => by simp [onS] at hx⟩
theorem onS_fit {s : Sv} (xs : List Int) {h : Nat → Int} (hf : FitSv s (fun _ => false) 0 h) : FitSv (onS s xs) (fun _ => false) 0 h := by
  rw [fitSv_mem] at hf ⊢
  obtain ⟨g1, g2, g3⟩ := hf
  exact ⟨g1, fun x hx => g2 x (List.mem_filter.1 hx).1, fun x hx => by simp [onS] at hx⟩

/-- What single shots say along a way holds of heights that fit them. -/
theorem syFold_fit (a b : Int) (h : Nat → Int) (hd : -20000000 ≤ h b.toNat - h a.toNat ∧ h b.toNat - h a.toNat ≤ 20000000) (l : List Sh) : (∀ x ∈ l, (x.f = a ∧ x.t = b ∨ x.f = b ∧ x.t = a) → Holds 0 x h) →
    (syFold a b l).1.1 ≤ h b.toNat - h a.toNat ∧ h b.toNat - h a.toNat ≤ (syFold a b l).1.2 := by
  refine snocInd (P := fun l => (∀ x ∈ l, (x.f = a ∧ x.t = b ∨ x.f = b ∧ x.t = a) → Holds 0 x h) → (syFold a b l).1.1 ≤ h b.toNat - h a.toNat ∧ h b.toNat - h a.toNat ≤ (syFold a b l).1.2) (fun _ => by simp only [syFold, List.foldl_nil]; exact hd) (fun l x ih hh => ?_) l
  have h1 := ih fun y hy => hh y (by simp [hy])
  rw [syFold_snoc]
  unfold syStep
  cases hr : onWay a b x with
  | none => exact h1
  | some r =>
    have hx := hh x (by simp)
    unfold onWay at hr
    unfold Holds at hx
    split at hr
    · rename_i e
      injection hr with hr
      subst hr
      have h2 := hx (.inl e)
      rw [e.1, e.2] at h2
      simp only [cut2]
      omega
    · split at hr
      · rename_i e
        injection hr with hr
        subst hr
        have h2 := hx (.inr e)
        rw [e.1, e.2] at h2
        simp only [cut2]
        omega
      · cases hr

theorem loopB_in {n : Int} {xs : List Int} (h : loopB n xs = true) : (2 ≤ xs.length ∧ xs.length ≤ 20) ∧ ∀ i, i < xs.length → (0 ≤ xs.getD i 0 ∧ xs.getD i 0 < n) ∧ (0 ≤ nxI xs i ∧ nxI xs i < n) := by
  unfold loopB at h
  simp only [Bool.and_eq_true, decide_eq_true_eq, List.all_eq_true, List.mem_range] at h
  obtain ⟨⟨h1, h2⟩, h3⟩ := h
  refine ⟨⟨h1, h2⟩, fun i hi => ?_⟩
  have h4 := h3 i hi
  unfold stepB diffB inB at h4
  simp only [Bool.and_eq_true, decide_eq_true_eq, bne_iff_ne] at h4
  unfold nxI
  omega

/-- A loop's steps are within what is told of each. -/
theorem step_fit {s : Sv} (hok : svOk s = true) {xs : List Int} (hl : loopB s.n xs = true) {h : Nat → Int} (hf : FitSv (onS s xs) (fun _ => false) 0 h) {i : Nat} (hi : i < xs.length) :
    (stpOf s xs i).1.1 ≤ h (nxI xs i).toNat - h (xs.getD i 0).toNat ∧ h (nxI xs i).toNat - h (xs.getD i 0).toNat ≤ (stpOf s xs i).1.2 := by
  obtain ⟨_, hb⟩ := loopB_in hl
  obtain ⟨b1, b2⟩ := hb i hi
  rw [fitSv_mem] at hf
  obtain ⟨g1, g2, _⟩ := hf
  have e : (onS s xs).n = s.n := rfl
  rw [e] at g1
  have w1 := g1 (xs.getD i 0).toNat (by omega)
  have w2 := g1 (nxI xs i).toNat (by omega)
  refine syFold_fit (xs.getD i 0) (nxI xs i) h (by omega) s.shots fun x hx ho => g2 x (List.mem_filter.2 ⟨hx, ?_⟩)
  show inP xs xs.length x.f x.t = true
  unfold inP
  rw [List.any_eq_true]
  refine ⟨i, List.mem_range.2 hi, ?_⟩
  rcases ho with ⟨e1, e2⟩ | ⟨e1, e2⟩
  · have e3 : nxI xs i = x.t := e2.symm
    simp [e1, e3]
  · have e3 : nxI xs i = x.f := e1.symm
    simp [e2, e3]

theorem sum_fit {s : Sv} (hok : svOk s = true) {xs : List Int} (hl : loopB s.n xs = true) {h : Nat → Int} (hf : FitSv (onS s xs) (fun _ => false) 0 h) : ∀ k, k ≤ xs.length →
    (sumTo s xs k).1 ≤ h (xs.getD (k % xs.length) 0).toNat - h (xs.getD 0 0).toNat ∧ h (xs.getD (k % xs.length) 0).toNat - h (xs.getD 0 0).toNat ≤ (sumTo s xs k).2
  | 0, _ => by
    rw [Nat.zero_mod]
    simp [sumTo]
  | k + 1, hk => by
    have ih := sum_fit hok hl hf k (by omega)
    have st := step_fit hok hl hf (i := k) (by omega)
    rw [Nat.mod_eq_of_lt (by omega)] at ih
    unfold nxI at st
    unfold sumTo
    dsimp only
    omega

/-- A loop that does not close: nothing fits. -/
theorem loop_apart {s : Sv} (hok : svOk s = true) {xs : List Int} {p q e : Int} (hv : lvLoop s xs = ((p, q), e)) (hc : e = 11 ∨ e = 0 ∧ (0 < p ∨ q < 0)) : loopB s.n xs = true ∧ (svD s).2 = false ∧ (svD (onS s xs)).2 = false := by
  unfold lvLoop at hv
  rw [hok] at hv
  simp only [Bool.true_eq_false, if_false] at hv
  split at hv
  · injection hv with _ he; omega
  · rename_i hl
    have hl2 : loopB s.n xs = true := by simpa using hl
    have hno : ∀ h, ¬ FitSv (onS s xs) (fun _ => false) 0 h := by
      intro h hf
      split at hv
      · injection hv with _ he; omega
      · split at hv
        · rename_i hall
          rw [List.all_eq_false] at hall
          obtain ⟨i, hi, hni⟩ := hall
          rw [List.mem_range] at hi
          have st := step_fit hok hl2 hf hi
          simp at hni
          omega
        · injection hv with hpq he
          have sm := sum_fit hok hl2 hf xs.length (Nat.le_refl _)
          rw [Nat.mod_self] at sm
          rw [hpq] at sm
          dsimp only at sm
          omega
    refine ⟨hl2, ?_, ?_⟩
    · cases hd : (svD s).2
      · rfl
      · obtain ⟨h, hf⟩ := (svD_iff hok).1 hd
        exact absurd (onS_fit xs hf) (hno h)
    · cases hd : (svD (onS s xs)).2
      · rfl
      · obtain ⟨h, hf⟩ := (svD_iff (onS_ok hok xs)).1 hd
        exact absurd hf (hno h)

/- A map of pairs of numbers that the call itself has made. -/
theorem arrK : Go.WideMaps.ArrKey Try.prog 83 3 2 := ⟨Try.underlying83, by kernel_rfl, by kernel_rfl, by kernel_rfl⟩
theorem arrSz : ∃ m, Try.prog.types.size = m + 1 := ⟨Try.prog.types.size - 1, by kernel_rfl⟩
theorem arrKd : Go.Maps.Keyed Try.prog 83 := Go.Maps.Keyed.of_law arrK.law
def kP (a b : Int) : Lit := .string (keyBytes [.int .i64 a, .int .i64 b])
def wfI (a : Int) : Prop := (Lit.int .i64 a).wf = true
theorem kP_of {a b : Int} (ha : wfI a) (hb : wfI b) : keyOf Try.prog 83 (.agg #[.int .i64 a, .int .i64 b]) = some (kP a b) := Go.WideMaps.keyOf_pair arrK Try.underlying3 arrSz ha hb
theorem kP_inj {a b c d : Int} (ha : wfI a) (hb : wfI b) (hc : wfI c) (hd : wfI d) (h : kP a b = kP c d) : a = c ∧ b = d := by
  have h1 := kP_of ha hb
  rw [h] at h1
  have h2 := arrK.law.inj h1 (kP_of hc hd)
  injection h2 with h2
  simp at h2
  exact h2
theorem wfI_of {a n : Int} (h0 : 0 ≤ a) (h1 : a < n) (hn : n ≤ 20) : wfI a := by
  have e1 : IntKind.i64.min = -9223372036854775808 := by rfl
  have e2 : IntKind.i64.max = 9223372036854775807 := by rfl
  show (decide (IntKind.i64.min ≤ a) && decide (a ≤ IntKind.i64.max)) = true
  rw [e1, e2]
  simp only [Bool.and_eq_true, decide_eq_true_eq]
  omega
/-- Block b is a map that says f of pairs. -/
def PM (w : World) (b n : Nat) (f : Int → Int → Bool) : Prop := ∃ D : DataW Unit, w.ownsMap Try.prog 83 (plainElem Try.prog 4) b n D ∧ ∀ a c, wfI a → wfI c → D.atKey (kP a c) (.lit (.bool false)) = .lit (.bool (f a c))
theorem PM_made (w : World) : PM (w.alloc (.map #[] 0)) w.heap.size 0 (fun _ _ => false) := ⟨_, World.ownsMap_made w _ _ _, fun a c _ _ => rfl⟩
theorem PM.kept {w w' : World} {b n : Nat} {f : Int → Int → Bool} {row : Option Nat} (h : PM w b n f) (hg : w.grownBy w' row) (hne : some b ≠ row) : PM w' b n f := by
  obtain ⟨D, h1, h2⟩ := h
  exact ⟨D, h1.kept hg hne, h2⟩
theorem PM.lt {w : World} {b n : Nat} {f : Int → Int → Bool} (h : PM w b n f) : b < w.heap.size := by
  obtain ⟨D, h1, _⟩ := h
  exact h1.lt
theorem PM.below {w w' : World} {b n : Nat} {f : Int → Int → Bool} (h : PM w b n f) (hb : Below w.heap.size w w') : PM w' b n f := h.kept (row := none) (grown_of_below hb) (by simp)
theorem PM.local_ {w w' : World} {b n : Nat} {f : Int → Int → Bool} (h : PM w b n f) (e : w'.heap[b]? = w.heap[b]?) : PM w' b n f := by
  obtain ⟨D, ⟨es, clock, hb, rest⟩, h2⟩ := h
  exact ⟨D, ⟨es, clock, e.trans hb, rest⟩, h2⟩
theorem PM.put {w w' : World} {b n : Nat} {f : Int → Int → Bool} {D : DataW Unit} (h2 : ∀ a c, wfI a → wfI c → D.atKey (kP a c) (.lit (.bool false)) = .lit (.bool (f a c))) (hD : Go.Maps.IsMap D) {x y : Int} (hx : wfI x) (hy : wfI y)
    (h1 : w'.ownsMap Try.prog 83 (plainElem Try.prog 4) b n (D.put (kP x y) (.lit (.bool true)))) : PM w' b n (fun a c => f a c || (x == a && y == c)) := by
  refine ⟨_, h1, fun a c ha hc => ?_⟩
  by_cases e : x = a ∧ y = c
  · obtain ⟨rfl, rfl⟩ := e
    rw [Go.Maps.atKey_put_same hD (show WideAt.IsKeyLit (kP x y) from trivial)]
    simp
  · have hne : kP a c ≠ kP x y := fun h => by
      obtain ⟨e1, e2⟩ := kP_inj ha hc hx hy h
      exact e ⟨e1.symm, e2.symm⟩
    rw [Go.Maps.atKey_put_other hne, h2 a c ha hc]
    have : (x == a && y == c) = false := by
      by_cases e1 : x = a
      · have : ¬ y = c := fun e2 => e ⟨e1, e2⟩
        simp [this]
      · simp [e1]
    show _ = DataW.lit (Lit.bool (f a c || (x == a && y == c)))
    rw [this, Bool.or_false]
set_option maxRecDepth 100000 in
/-- The look-up. -/
theorem PM.look {w : World} {b n : Nat} {f : Int → Int → Bool} (h : PM w b n f) {x y : Int} (hx : wfI x) (hy : wfI y) : (Instr.lookup 82 (.map (some b)) (.agg #[.int .i64 x, .int .i64 y]) false).run Try.prog w = .ok (.bool (f x y)) w := by
  obtain ⟨D, h1, h2⟩ := h
  obtain ⟨v, ps, hr, hv⟩ := h1.lookup arrKd Try.underlying82 (z := .bool false) (by rfl) (plainElem_bool Try.underlying4 false) (kP_of hx hy)
  rw [h2 x y hx hy] at hv
  rw [hr]
  unfold plainElem at hv
  rw [Try.underlying4] at hv
  cases v <;> simp at hv
  rw [hv.1]

end Go.Proofs.Ytaoonfmcimkmhaa
