/- Plans of a region that draws its order, where the world depends on which operations are done: an operation that makes memory may come at any time. No condition. -/
import Derived.Test.YthlpomjdifnnkaaCalm
namespace Go.Proofs.Ythlpomjdifnnkaa
open Go.RowKit

section
variable {F : Fence} {n : Nat} {P : Program} {ops : Array Oper} {Q : Exit → Act → World → Prop}

/-- What a plan asks of one operation. -/
def StepL (F : Fence) (n : Nat) (P : Program) (ops : Array Oper) (S : World → Prop) (o : Oper) (a : Act) (v : Value) (w : World) : Prop :=
  (∀ f, o.about P w a.eval = some f → F.fn f) ∧
  ((Region.wanted o (yielded ops a.tmps) = true ∧ Outs F n P (fun u w' => u = v ∧ S w') ((execOp a.eval o).run P w)) ∨ (Region.wanted o (yielded ops a.tmps) = false ∧ v = undef ∧ S w))

/-- What holds between the operations of a plan whose world depends on what is done. -/
def PlanInvL (F : Fence) (n : Nat) (P : Program) (ops : Array Oper) (Q : Exit → Act → World → Prop) (m : Nat) (σ : Nat → Value) (S : (Nat → Bool) → World → Prop) (a0 : Act) (listed : Array Bool) (a : Act) (w : World) : Prop :=
  closedL ops (LB listed) ∧ listed.size = ops.size ∧
  (((∃ i, i < m ∧ LB listed i = false) ∧ (∀ i, m ≤ i → LB listed i = false) ∧ S (LB listed) w ∧ a = putTo ops σ (LB listed) (List.range m) a0) ∨
   ∃ t, m ≤ t ∧ t ≤ ops.size ∧ (∀ i, i < t → LB listed i = true) ∧ (∀ i, t ≤ i → LB listed i = false) ∧ wpOpsIn F n P ops Q (List.range' t (ops.size - t)) a w)

theorem plan_stepL {E : Nat → Bool} {m : Nat} (hok : PlanOkG ops E m) {σ : Nat → Value} {S : (Nat → Bool) → World → Prop} {a0 : Act}
    (hstep : ∀ i o, i < m → ops[i]? = some o → ∀ L w, L i = false → S L w → StepL F n P ops (S (fun j => L j || j == i)) o (putTo ops σ (fun _ => true) (List.range m) a0) (σ i) w)
    (htail : ∀ L w, (∀ k, k < m → L k = true) → S L w → wpOpsIn F n P ops Q (List.range' m (ops.size - m)) (putTo ops σ (fun _ => true) (List.range m) a0) w)
    {listed : Array Bool} {a : Act} {w : World} {i : Nat} (hI : PlanInvL F n P ops Q m σ S a0 listed a w) (hE : ∀ j, E j = true → LB listed j = true) (hi : i ∈ Region.ready .any ops listed) :
    wpOpIn F n P ops Q i (PlanInvL F n P ops Q m σ S a0 (listed.setIfInBounds i true)) a w := by
  obtain ⟨hun, o, ho, hpre⟩ := mem_ready.1 hi
  obtain ⟨hcl, hsz, hI⟩ := hI
  have hlt : i < ops.size := (Array.getElem?_eq_some_iff.1 ho).1
  have hil : LB listed i = false := by
    unfold LB
    have h2 : i < listed.size := by omega
    simpa [h2] using hun
  have hset := LB_set (listed := listed) (i := i) (by omega)
  have hcl' : closedL ops (LB (listed.setIfInBounds i true)) := by
    rw [hset]
    intro k ok hk hok' e he hb
    simp only [Bool.or_eq_true, beq_iff_eq] at hk ⊢
    rcases hk with hk | rfl
    · exact .inl (hcl k ok hk hok' e he hb)
    · rw [ho] at hok'; cases hok'
      exact .inl (hpre e he hb)
  have hall : m ≤ i → ∀ j, j < i → LB listed j = true := fun hm j hj => by
    rcases hok.forced i hm hlt j hj with h | h
    · exact hE j h
    · exact closed_reach hcl ops.size i j (fun o' ho' e he hb => by rw [ho] at ho'; cases ho'; exact hpre e he hb) h
  rcases hI with ⟨⟨k, hk, hkl⟩, hrest, hS, ha⟩ | ⟨t, hmt, hts, ht1, ht2, hw⟩
  · have him : i < m := by
      rcases Nat.lt_or_ge i m with h | h
      · exact h
      · have := hall h k (by omega); rw [hkl] at this; cases this
    have hop := hok.op i o him ho
    unfold opOkG at hop
    simp only [Bool.and_eq_true] at hop
    obtain ⟨⟨⟨hg, hsel⟩, hdst⟩, hopd⟩ := hop
    have hselN : ∀ cs b, o.op ≠ .select cs b := fun cs b e => by rw [e] at hsel; simp at hsel
    have hdefN : ∀ c, o.op ≠ .defer c := fun c e => by rw [e] at hsel; simp at hsel
    have hdst' : ∀ j ∈ List.range m, j ≠ i → dstAt ops j = none ∨ dstAt ops j ≠ dstAt ops i := fun j hj hne => by
      have := List.all_eq_true.1 hdst j hj
      simp only [Bool.or_eq_true, beq_iff_eq, Option.isNone_iff_eq_none, bne_iff_ne] at this
      rcases this with (h | h) | h
      · exact absurd h hne
      · exact .inl h
      · exact .inr h
    have hev : ∀ x ∈ o.op.operands, a.eval x = (putTo ops σ (fun _ => true) (List.range m) a0).eval x := fun x hx => by
      rw [ha]
      cases x with
      | tmp t =>
        refine putTo_getD _ _ _ rfl rfl (fun j hj hd => ?_)
        have h1 := Array.all_eq_true_iff_forall_mem.1 hopd (.tmp t) hx
        have h2 := List.all_eq_true.1 h1 j hj
        simp only [hd, bne_self_eq_false, Bool.false_or, Array.any_eq_true', Bool.and_eq_true, beq_iff_eq] at h2
        obtain ⟨e, he, hej, hb⟩ := h2
        rw [← hej]
        exact hpre e he hb
      | const v => rfl
      | global g => rfl
      | func f => rfl
    have hwant : Region.wanted o (yielded ops a.tmps) = Region.wanted o (yielded ops (putTo ops σ (fun _ => true) (List.range m) a0).tmps) := by
      unfold Region.wanted
      unfold guardOk at hg
      cases hgd : o.guard with
      | none => rfl
      | some gp =>
        obtain ⟨g, b⟩ := gp
        rw [hgd] at hg
        simp only [Bool.and_eq_true, decide_eq_true_eq, Array.any_eq_true', beq_iff_eq] at hg
        obtain ⟨⟨hgm, _⟩, e, he, hej, hb⟩ := hg
        have hgl : LB listed g = true := by rw [← hej]; exact hpre e he hb
        dsimp only
        rw [yielded_congr (t1 := a.tmps) (t2 := (putTo ops σ (fun _ => true) (List.range m) a0).tmps) (by rw [ha, putTo_size, putTo_size]) (fun d hd => by
          rw [ha]
          refine putTo_getD _ _ _ rfl rfl (fun j hj hd2 => ?_)
          by_cases ejg : j = g
          · rw [ejg]; exact hgl
          · have hopg := List.mem_range.1 hj
            have hgo : g < ops.size := by have := hok.le; omega
            have h3 := hok.op g ops[g] hgm (Array.getElem?_eq_getElem hgo)
            unfold opOkG at h3
            simp only [Bool.and_eq_true] at h3
            have h4 := List.all_eq_true.1 h3.1.2 j hj
            simp only [Bool.or_eq_true, beq_iff_eq, Option.isNone_iff_eq_none, bne_iff_ne] at h4
            rcases h4 with (h4 | h4) | h4
            · exact absurd h4 ejg
            · rw [hd2] at h4; cases h4
            · exact absurd (hd2.trans hd.symm) h4)]
    have hs := hstep i o him ho (LB listed) w hil hS
    have hd : o.dst = dstAt ops i := by unfold dstAt; rw [ho]; rfl
    have ha' : a.put o.dst (σ i) = putTo ops σ (LB (listed.setIfInBounds i true)) (List.range m) a0 := by
      rw [hset, putTo_put hil _ _ List.nodup_range (List.mem_range.2 him) hdst', ha, hd]
    have hon : ∀ w', S (LB (listed.setIfInBounds i true)) w' → PlanInvL F n P ops Q m σ S a0 (listed.setIfInBounds i true) (a.put o.dst (σ i)) w' := fun w' hS' => by
      refine ⟨hcl', by simpa using hsz, ?_⟩
      by_cases hmore : ∃ k, k < m ∧ LB (listed.setIfInBounds i true) k = false
      · refine .inl ⟨hmore, fun k hk => ?_, hS', ha'⟩
        rw [hset]
        have : ¬ k = i := by omega
        simp [hrest k hk, this]
      · have hfull : ∀ k, k < m → LB (listed.setIfInBounds i true) k = true := fun k hk => by
          cases h : LB (listed.setIfInBounds i true) k
          · exact absurd ⟨k, hk, h⟩ hmore
          · rfl
        refine .inr ⟨m, Nat.le_refl _, hok.le, hfull, fun k hk => ?_, ?_⟩
        · rw [hset]
          have : ¬ k = i := by omega
          simp [hrest k hk, this]
        · rw [ha']
          have : ∀ (l : List Nat) (a : Act), (∀ k ∈ l, k < m) → putTo ops σ (LB (listed.setIfInBounds i true)) l a = putTo ops σ (fun _ => true) l a := by
            intro l
            induction l with
            | nil => intro a _; rfl
            | cons k l ih =>
              intro a hk
              unfold putTo
              simp only [List.foldl_cons]
              rw [hfull k (hk k (by simp))]
              exact ih _ (fun j hj => hk j (by simp [hj]))
          rw [this _ _ (fun k hk => List.mem_range.1 hk)]
          exact htail _ w' hfull hS'
    unfold Go.wpOpIn
    simp only [ho]
    obtain ⟨hab, hs⟩ := hs
    have hab' : ∀ f, o.about P w a.eval = some f → F.fn f := fun f hf => hab f (by rw [about_congr o w hev] at hf; exact hf)
    rcases hs with ⟨hw, hs⟩ | ⟨hw, hv, hS2⟩
    · rw [if_pos (by rw [hwant]; exact hw)]
      refine ⟨hab', ?_⟩
      rw [Oper.semAt_eq _ _ _ hdefN, execOp_congr o hselN hev]
      refine outs_upon hs ?_
      rintro v w' ⟨rfl, hS'⟩
      exact hon w' (by rw [hset]; exact hS')
    · rw [if_neg (by rw [hwant, hw]; simp)]
      refine ⟨hab', ?_⟩
      rw [← hv]
      exact hon w (by rw [hset]; exact hS2)
  · have hit : i = t := by
      rcases Nat.lt_trichotomy i t with h | h | h
      · rw [ht1 i h] at hil; cases hil
      · exact h
      · have := hall (by omega) t h; rw [ht2 t (Nat.le_refl _)] at this; cases this
    subst hit
    have hr : List.range' i (ops.size - i) = i :: List.range' (i + 1) (ops.size - (i + 1)) := by
      have : ops.size - i = (ops.size - (i + 1)) + 1 := by omega
      rw [this, List.range'_succ]
    rw [hr, wpOpsIn_cons] at hw
    refine wpOpIn_mono (fun a' w' h' => ?_) hw
    refine ⟨hcl', by simpa using hsz, .inr ⟨i + 1, by omega, by omega, fun k hk => ?_, fun k hk => ?_, h'⟩⟩
    · rw [hset]
      by_cases e : k = i
      · simp [e]
      · simp [ht1 k (by omega)]
    · rw [hset]
      have : ¬ k = i := by omega
      simp [ht2 k (by omega), this]

theorem plan_readyL {E : Nat → Bool} {m : Nat} (hok : PlanOkG ops E m) {σ : Nat → Value} {S : (Nat → Bool) → World → Prop} {a0 : Act} {listed : Array Bool} {a : Act} {w : World}
    (hI : PlanInvL F n P ops Q m σ S a0 listed a w) (hr : Region.ready .any ops listed = []) : Q .normal a w := by
  obtain ⟨hcl, hsz, hI⟩ := hI
  have hno : ∀ k, k < ops.size → (∀ j, j < k → LB listed j = true) → LB listed k = true := fun k hk hpre => by
    cases h : LB listed k
    · have h2 : k < listed.size := by omega
      have h3 : listed.getD k true = false := by
        unfold LB at h
        simpa [h2] using h
      have : k ∈ Region.ready .any ops listed := mem_ready.2 ⟨h3, ops[k], Array.getElem?_eq_getElem hk, fun e he hb => hpre e.on (hok.back k _ (Array.getElem?_eq_getElem hk) e he hb)⟩
      rw [hr] at this
      cases this
    · rfl
  have hallT : ∀ k, k < ops.size → LB listed k = true := fun k => by
    induction k using Nat.strongRecOn with
    | _ k ih => exact fun hk => hno k hk fun j hj => ih j hj (by omega)
  rcases hI with ⟨⟨k, hk, hkl⟩, _⟩ | ⟨t, hmt, hts, ht1, ht2, hw⟩
  · have := hallT k (by have := hok.le; omega)
    rw [hkl] at this; cases this
  · have : t = ops.size := by
      rcases Nat.lt_or_ge t ops.size with h | h
      · have h1 := hallT t h
        rw [ht2 t (Nat.le_refl _)] at h1; cases h1
      · omega
    subst this
    simpa [wpOpsIn] using hw

theorem plan_anyL {E : Nat → Bool} {m : Nat} (hok : PlanOkG ops E m) {σ : Nat → Value} {S : (Nat → Bool) → World → Prop} {a0 : Act}
    (hstep : ∀ i o, i < m → ops[i]? = some o → ∀ L w, L i = false → S L w → StepL F n P ops (S (fun j => L j || j == i)) o (putTo ops σ (fun _ => true) (List.range m) a0) (σ i) w)
    (htail : ∀ L w, (∀ k, k < m → L k = true) → S L w → wpOpsIn F n P ops Q (List.range' m (ops.size - m)) (putTo ops σ (fun _ => true) (List.range m) a0) w) :
    ∀ (fuel : Nat) (listed : Array Bool) (a : Act) (w : World), PlanInvL F n P ops Q m σ S a0 listed a w → (∀ j, E j = true → LB listed j = true) → ((List.range ops.size).filter fun i => !LB listed i).length ≤ fuel → wpAnyIn F n P .any ops Q fuel listed a w
  | 0, listed, a, w, hI, _, hf => by
    have hr : Region.ready .any ops listed = [] := by
      rw [List.eq_nil_iff_forall_not_mem]
      intro j hj
      obtain ⟨hun, o, ho, _⟩ := mem_ready.1 hj
      have hlt : j < ops.size := (Array.getElem?_eq_some_iff.1 ho).1
      have h2 : j < listed.size := by have := hI.2.1; omega
      have : j ∈ (List.range ops.size).filter fun i => !LB listed i := by
        rw [List.mem_filter]
        refine ⟨List.mem_range.2 hlt, ?_⟩
        unfold LB
        simpa [h2] using hun
      have h3 := List.length_pos_of_mem this
      omega
    exact ⟨hr, plan_readyL hok hI hr⟩
  | fuel + 1, listed, a, w, hI, hE, hf => by
    refine ⟨plan_readyL hok hI, fun i hi => ?_⟩
    refine wpOpIn_mono (fun a' w' h' => plan_anyL hok hstep htail fuel _ a' w' h' (fun j hj => ?_) ?_) (plan_stepL hok hstep htail hI hE hi)
    · have hlt : i < ops.size := by obtain ⟨_, o, ho, _⟩ := mem_ready.1 hi; exact (Array.getElem?_eq_some_iff.1 ho).1
      rw [LB_set (by have := hI.2.1; omega)]
      show (LB listed j || j == i) = true
      rw [hE j hj]
      rfl
    obtain ⟨hun, o, ho, _⟩ := mem_ready.1 hi
    have hlt : i < ops.size := (Array.getElem?_eq_some_iff.1 ho).1
    have h2 : i < listed.size := by have := hI.2.1; omega
    have hil : LB listed i = false := by unfold LB; simpa [h2] using hun
    rw [LB_set h2]
    have hle0 : ∀ (l : List Nat), (l.filter fun j => !(LB listed j || j == i)).length ≤ (l.filter fun j => !LB listed j).length := by
      intro l
      induction l with
      | nil => simp
      | cons k l ih =>
        rw [List.filter_cons, List.filter_cons]
        cases hk : LB listed k <;> cases e : (k == i) <;> simp only [Bool.or_true, Bool.or_false, Bool.not_true, Bool.not_false, if_true, Bool.false_eq_true, if_false, List.length_cons] <;> omega
    have hle : ∀ (l : List Nat), i ∈ l → (l.filter fun j => !(LB listed j || j == i)).length < (l.filter fun j => !LB listed j).length := by
      intro l
      induction l with
      | nil => intro h; cases h
      | cons k l ih =>
        intro h
        rw [List.filter_cons, List.filter_cons]
        by_cases e : k = i
        · subst e
          have := hle0 l
          simp only [hil, beq_self_eq_true, Bool.or_true, Bool.not_true, Bool.not_false, if_true, Bool.false_eq_true, if_false, List.length_cons]
          omega
        · have hm : i ∈ l := by rcases List.mem_cons.1 h with h | h; exact absurd h.symm e; exact h
          have h1 := ih hm
          have e' : (k == i) = false := by simpa using e
          rw [e']
          cases LB listed k <;> simp only [Bool.or_false, Bool.not_true, Bool.not_false, if_true, Bool.false_eq_true, if_false, List.length_cons] <;> omega
    exact Nat.le_of_lt_succ (Nat.lt_of_lt_of_le (hle (List.range ops.size) (List.mem_range.2 hlt)) hf)

theorem wpIn_region_planL (hm : P.follows .mixedOrders = true) {id m : Nat} (hok : planOkG ops m = true) (hpos : 0 < m) (σ : Nat → Value) (S : (Nat → Bool) → World → Prop) (a0 : Act) (w0 : World)
    (hS : S (LB (Array.replicate ops.size false)) { w0 with drawn := w0.drawn + 1 })
    (hstep : ∀ i o, i < m → ops[i]? = some o → ∀ L w, L i = false → S L w → StepL F n P ops (S (fun j => L j || j == i)) o (putTo ops σ (fun _ => true) (List.range m) a0) (σ i) w)
    (htail : ∀ L w, (∀ k, k < m → L k = true) → S L w → wpOpsIn F n P ops Q (List.range' m (ops.size - m)) (putTo ops σ (fun _ => true) (List.range m) a0) w) :
    (Code.region id ops true).wpIn F n P Q a0 w0 := by
  have hok' := planOkG_spec hok
  have hL : ∀ i, LB (Array.replicate ops.size false) i = false := fun i => by
    unfold LB
    by_cases h : i < ops.size <;> simp [h]
  refine wpIn_region_any hm (plan_anyL hok' hstep htail ops.size _ a0 _ ⟨fun i o h => (by rw [hL i] at h; cases h), by simp, .inl ⟨⟨0, hpos, hL 0⟩, fun i _ => hL i, hS, ?_⟩⟩ (fun _ h => by cases h) ?_)
  · have : ∀ (l : List Nat) (a : Act), putTo ops σ (LB (Array.replicate ops.size false)) l a = a := by
      intro l
      induction l with
      | nil => intro a; rfl
      | cons k l ih =>
        intro a
        unfold putTo
        simp only [List.foldl_cons]
        rw [hL k]
        exact ih a
    exact (this _ _).symm
  · refine Nat.le_trans (List.length_filter_le _ _) (by simp)
/-- The same, what the first part leaves written out. -/
theorem wpIn_region_planLA (hm : P.follows .mixedOrders = true) {id : Nat} (m : Nat) (hok : planOkG ops m = true) (hok0 : planOk ops m = true) (hpos : 0 < m) (σ : Nat → Value) (S : (Nat → Bool) → World → Prop) (a0 : Act) (w0 : World) (aF : Act)
    (hA : putTo ops σ (fun _ => true) (List.range m) a0 = aF) (hS : ∀ L, (∀ i, L i = false) → S L w0.drew)
    (hstep : ∀ i o, i < m → ops[i]? = some o → ∀ L w, L i = false → S L w → (∀ f, o.about P w aF.eval = some f → F.fn f) ∧ Outs F n P (fun v w' => v = σ i ∧ S (fun j => L j || j == i) w') ((execOp aF.eval o).run P w))
    (htail : ∀ L w, (∀ k, k < m → L k = true) → S L w → wpListIn F n P ops Q (ops.toList.drop m) aF w) :
    (Code.region id ops true).wpIn F n P Q a0 w0 := by
  subst hA
  refine wpIn_region_planL hm hok hpos σ S a0 w0 (hS _ fun i => ?_) (fun i o hi ho L w hL hw => ?_) fun L w hL hw => ?_
  · unfold LB
    by_cases h : i < ops.size <;> simp [h]
  · obtain ⟨h1, h2⟩ := hstep i o hi ho L w hL hw
    have h3 := (planOk_spec hok0).op i o hi ho
    unfold opOk at h3
    simp only [Bool.and_eq_true, Option.isNone_iff_eq_none] at h3
    exact ⟨h1, .inl ⟨by simp [Region.wanted, h3.1.1.1], h2⟩⟩
  · have h1 : ops.size - m = (ops.toList.drop m).length := by simp
    rw [h1, wpOpsIn_eq_wpListIn (ops.toList.drop m) m (fun j => by simp)]
    exact htail L w hL hw
end

end Go.Proofs.Ythlpomjdifnnkaa
