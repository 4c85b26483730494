/- Plans as in XFloatY, for regions whose operations are guarded: all guards hold; the tail's forerunners are looked for at first hand. No condition. -/
import Derived.Test.YthlpomjdifnnkaaFloatY
namespace Go.Proofs.Ythlpomjdifnnkaa
open Go.RowKit

/-- As planOkG, but a forerunner at first hand is found at once. -/
def planOkD (ops : Array Oper) (m : Nat) : Bool :=
  decide (m ≤ ops.size) &&
  ((List.range m).all fun i => match ops[i]? with | none => false | some o => opOkG ops m i o) &&
  ((List.range ops.size).all fun i => match ops[i]? with | none => false | some o => o.after.all fun e => !Region.binds .any e || decide (e.on < i)) &&
  ((List.range ops.size).all fun i => decide (i < m) || (List.range i).all fun j => match ops[i]? with | none => false | some o => o.after.any fun e => Region.binds .any e && e.on == j)
theorem reach_of_direct {ops : Array Oper} {i j f : Nat} {o : Oper} (ho : ops[i]? = some o) (h : (o.after.any fun e => Region.binds .any e && e.on == j) = true) : reachB ops (f + 1) i j = true := by
  unfold reachB
  rw [ho]
  dsimp only
  rw [Array.any_eq_true] at h ⊢
  obtain ⟨k, hk, h1⟩ := h
  exact ⟨k, hk, by simp only [Bool.and_eq_true] at h1; simp [h1.1, h1.2]⟩
theorem planOkD_spec {ops : Array Oper} {m : Nat} (h : planOkD ops m = true) : PlanOkG ops (fun _ => false) m := by
  unfold planOkD at h
  simp only [Bool.and_eq_true, decide_eq_true_eq, List.all_eq_true, List.mem_range] at h
  obtain ⟨⟨⟨h1, h2⟩, h3⟩, h4⟩ := h
  refine ⟨h1, fun i o hi ho => ?_, fun i o ho e he hb => ?_, fun i hm hi j hj => .inr ?_⟩
  · have := h2 i hi
    rw [ho] at this
    exact this
  · have hi : i < ops.size := (Array.getElem?_eq_some_iff.1 ho).1
    have := h3 i hi
    rw [ho] at this
    have := Array.all_eq_true_iff_forall_mem.1 this e he
    simpa [hb] using this
  · have h5 := h4 i hi
    simp only [Bool.or_eq_true, decide_eq_true_eq, List.all_eq_true, List.mem_range] at h5
    rcases h5 with h5 | h5
    · omega
    · have h6 := h5 j hj
      have ho : ops[i]? = some ops[i] := Array.getElem?_eq_getElem hi
      rw [ho] at h6
      obtain ⟨n, hn⟩ : ∃ n, ops.size = n + 1 := ⟨ops.size - 1, by omega⟩
      rw [hn]
      exact reach_of_direct ho h6

section
variable {F : Fence} {n : Nat} {P : Program} {ops : Array Oper} {Q : Exit → Act → World → Prop}
theorem wpIn_region_planYG {X : Type} (hm : P.follows .mixedOrders = true) {id : Nat} (m : Nat) (hok : planOkD ops m = true) (hpos : 0 < m) (σ : X → Nat → Value) (S : (Nat → Bool) → X → World → Prop) (a0 : Act) (w0 : World) (x0 : X) (aF : X → Act)
    (hA : ∀ x, putTo ops (σ x) (fun _ => true) (List.range m) a0 = aF x) (hS : ∀ L, (∀ i, L i = false) → S L x0 w0.drew)
    (hG : ∀ x, (List.range m).all (fun i => (ops[i]?).all fun o => Region.wanted o (yielded ops (aF x).tmps)) = true)
    (hstep : ∀ i o, i < m → ops[i]? = some o → ∀ L x w, L i = false → closedL ops L → (∀ e ∈ o.after, Region.binds .any e = true → L e.on = true) → S L x w → (∀ f, o.about P w (aF x).eval = some f → F.fn f) ∧ Outs F n P (OnX σ S L x i) ((execOp (aF x).eval o).run P w))
    (htail : ∀ L x w, (∀ k, k < m → L k = true) → S L x w → wpListIn F n P ops Q (ops.toList.drop m) (aF x) w) :
    (Code.region id ops true).wpIn F n P Q a0 w0 := by
  have hok' := planOkD_spec hok
  have hL : ∀ i, LB (Array.replicate ops.size false) i = false := fun i => by
    unfold LB
    by_cases h : i < ops.size <;> simp [h]
  refine wpIn_region_any hm (plan_anyY (σ := σ) (S := S) (a0 := a0) hok' (fun i o hi ho L x w hL hc hd hw => ?_) (fun L x w hL hw => ?_) ops.size _ a0 _ ⟨fun i o h => (by rw [hL i] at h; cases h), by simp, .inl ⟨⟨0, hpos, hL 0⟩, fun i _ => hL i, x0, hS _ hL, ?_⟩⟩ (fun _ h => by cases h) ?_)
  · obtain ⟨h1, h2⟩ := hstep i o hi ho L x w hL hc hd hw
    have h3 := hG x
    rw [List.all_eq_true] at h3
    have h4 := h3 i (List.mem_range.2 hi)
    rw [ho] at h4
    rw [hA x]
    exact ⟨h1, .inl ⟨h4, h2⟩⟩
  · have h1 : ops.size - m = (ops.toList.drop m).length := by simp
    rw [h1, wpOpsIn_eq_wpListIn (ops.toList.drop m) m (fun j => by simp), hA x]
    exact htail L x w hL hw
  · have : ∀ (l : List Nat) (a : Act), putTo ops (σ x0) (LB (Array.replicate ops.size false)) l a = a := by
      intro l
      induction l with
      | nil => intro a; rfl
      | cons k l ih =>
        intro a
        unfold putTo
        simp only [List.foldl_cons]
        rw [hL k]
        exact ih a
    exact (this _ _).symm
  · refine Nat.le_trans (List.length_filter_le _ _) (by simp)
end

end Go.Proofs.Ythlpomjdifnnkaa
