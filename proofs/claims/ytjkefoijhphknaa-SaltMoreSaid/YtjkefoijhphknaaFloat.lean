/- Plans of a region that draws its order, where the world depends on which operations are done: an operation that makes memory may come at any time. No condition. -/
import Derived.Test.YtjkefoijhphknaaCalm
namespace Go.Proofs.Ytjkefoijhphknaa
open Go.RowKit

section
variable {F : Fence} {n : Nat} {P : Program} {ops : Array Oper} {Q : Exit → Act → World → Prop}

/-- What a plan asks of one operation. -/
def StepL (F : Fence) (n : Nat) (P : Program) (ops : Array Oper) (S : World → Prop) (o : Oper) (a : Act) (v : Value) (w : World) : Prop :=
  (∀ f, o.about P w a.eval = some f → F.fn f) ∧
  ((Region.wanted o (yielded ops a.tmps) = true ∧ Outs F n P (fun u w' => u = v ∧ S w') ((execOp a.eval o).run P w)) ∨ (Region.wanted o (yielded ops a.tmps) = false ∧ v = undef ∧ S w))

/-- What holds between the operations of a plan whose world depends on what is done. -/
def PlanInvL (F : Fence) (n : Nat) (P : Program) (ops : Array Oper) (Q : Exit → Act → World → Prop) (m : Nat) (σ : Nat → Value) (S : (Nat → Bool) → World → Prop) (a0 : Act) (listed : Array Bool) (a : Act) (w : World) : Prop :=
  closedL ops (LB listed) ∧ listed.size = ops.size ∧
  (((∃ i, i < m ∧ LB listed i = false) ∧ (∀ i, m ≤ i → LB listed i = false) ∧ S (LB listed) w ∧ a = putTo ops σ (LB listed) (List.range m) a0) ∨
   ∃ t, m ≤ t ∧ t ≤ ops.size ∧ (∀ i, i < t → LB listed i = true) ∧ (∀ i, t ≤ i → LB listed i = false) ∧ wpOpsIn F n P ops Q (List.range' t (ops.size - t)) a w)

theorem plan_stepL {E : Nat → Bool} {m : Nat} (hok : PlanOkG ops E m) {σ : Nat → Value} {S : (Nat → Bool) → World → Prop} {a0 : Act}
    (hstep : ∀ i o, i < m → ops[i]? = some o → ∀ L w, L i = false → S L w → StepL F n P ops (S (fun j => L j || j == i)) o (putTo ops σ (fun _ => true) (List.range m) a0) (σ i) w)
    (htail : ∀ L w, (∀ k, k < m → L k = true) → S L w → wpOpsIn F n P ops Q (List.range' m (ops.size - m)) (putTo ops σ (fun _ => true) (List.range m) a0) w)
    {listed : Array Bool} {a : Act} {w : World} {i : Nat} (hI : PlanInvL F n P ops Q m σ S a0 listed a w) (hE : ∀ j, E j = true → LB listed j = true) (hi : i ∈ Region.ready .any ops listed) :
    wpOpIn F n P ops Q i (PlanInvL F n P ops Q m σ S a0 (listed.setIfInBounds i true)) a w := by
  obtain ⟨hun, o, ho, hpre⟩ := mem_ready.1 hi
  obtain ⟨hcl, hsz, hI⟩ := hI
  have hlt : i < ops.size := (Array.getElem?_eq_some_iff.1 ho).1
  have hil : LB listed i = false := by
    unfold LB
    have h2 : i < listed.size := by omega
    simpa [h2] using hun
  have hset := LB_set (listed := listed) (i := i) (by omega)
  have hcl' : closedL ops (LB (listed.setIfInBounds i true)) := by
    rw [hset]
    intro k ok hk hok' e he hb
    simp only [Bool.or_eq_true, beq_iff_eq] at hk ⊢
    rcases hk with hk | rfl
    · exact .inl (hcl k ok hk hok' e he hb)
    · rw [ho] at hok'; cases hok'
      exact .inl (hpre e he hb)
  have hall : m ≤ i → ∀ j, j < i → LB listed j = true := fun hm j hj => by
    rcases hok.forced i hm hlt j hj with h | h
    · exact hE j h
    · exact closed_reach hcl ops.size i j (fun o' ho' e he hb => by rw [ho] at ho'; cases ho'; exact hpre e he hb) h
  rcases hI with ⟨⟨k, hk, hkl⟩, hrest, hS, ha⟩ | ⟨t, hmt, hts, ht1, ht2, hw⟩
  · have him : i < m := by
      rcases Nat.lt_or_ge i m with h | h
      · exact h
      · have := hall h k (by omega); rw [hkl] at this; cases this
    have hop := hok.op i o him ho
    unfold opOkG at hop
    simp only [Bool.and_eq_true] at hop
    obtain ⟨⟨⟨hg, hsel⟩, hdst⟩, hopd⟩ := hop
    have hselN : ∀ cs b, o.op ≠ .select cs b := fun cs b e => by rw [e] at hsel; simp at hsel
    have hdefN : ∀ c, o.op ≠ .defer c := fun c e => by rw [e] at hsel; simp at hsel
    have hdst' : ∀ j ∈ List.range m, j ≠ i → dstAt ops j = none ∨ dstAt ops j ≠ dstAt ops i := fun j hj hne => by
      have := List.all_eq_true.1 hdst j hj
      simp only [Bool.or_eq_true, beq_iff_eq, Option.isNone_iff_eq_none, bne_iff_ne] at this
      rcases this with (h | h) | h
      · exact absurd h hne
      · exact .inl h
      · exact .inr h
    have hev : ∀ x ∈ o.op.operands, a.eval x = (putTo ops σ (fun _ => true) (List.range m) a0).eval x := fun x hx => by
      rw [ha]
      cases x with
      | tmp t =>
        refine putTo_getD _ _ _ rfl rfl (fun j hj hd => ?_)
        have h1 := Array.all_eq_true_iff_forall_mem.1 hopd (.tmp t) hx
        have h2 := List.all_eq_true.1 h1 j hj
        simp only [hd, bne_self_eq_false, Bool.false_or, Array.any_eq_true', Bool.and_eq_true, beq_iff_eq] at h2
        obtain ⟨e, he, hej, hb⟩ := h2
        rw [← hej]
        exact hpre e he hb
      | const v => rfl
      | global g => rfl
      | func f => rfl
    have hwant : Region.wanted o (yielded ops a.tmps) = Region.wanted o (yielded ops (putTo ops σ (fun _ => true) (List.range m) a0).tmps) := by
      unfold Region.wanted
      unfold guardOk at hg
      cases hgd : o.guard with
      | none => rfl
      | some gp =>
        obtain ⟨g, b⟩ := gp
        rw [hgd] at hg
        simp only [Bool.and_eq_true, decide_eq_true_eq, Array.any_eq_true', beq_iff_eq] at hg
        obtain ⟨⟨hgm, _⟩, e, he, hej, hb⟩ := hg
        have hgl : LB listed g = true := by rw [← hej]; exact hpre e he hb
        dsimp only
        rw [yielded_congr (t1 := a.tmps) (t2 := (putTo ops σ (fun _ => true) (List.range m) a0).tmps) (by rw [ha, putTo_size, putTo_size]) (fun d hd => by
          rw [ha]
          refine putTo_getD _ _ _ rfl rfl (fun j hj hd2 => ?_)
          by_cases ejg : j = g
          · rw [ejg]; exact hgl
          · have hopg := List.mem_range.1 hj
            have hgo : g < ops.size := by have := hok.le; omega
            have h3 := hok.op g ops[g] hgm (Array.getElem?_eq_getElem hgo)
            unfold opOkG at h3
            simp only [Bool.and_eq_true] at h3
            have h4 := List.all_eq_true.1 h3.1.2 j hj
            simp only [Bool.or_eq_true, beq_iff_eq, Option.isNone_iff_eq_none, bne_iff_ne] at h4
            rcases h4 with (h4 | h4) | h4
            · exact absurd h4 ejg
            · rw [hd2] at h4; cases h4
            · exact absurd (hd2.trans hd.symm) h4)]
    have hs := hstep i o him ho (LB listed) w hil hS
    have hd : o.dst = dstAt ops i := by unfold dstAt; rw [ho]; rfl
    have ha' : a.put o.dst (σ i) = putTo ops σ (LB (listed.setIfInBounds i true)) (List.range m) a0 := by
      rw [hset, putTo_put hil _ _ List.nodup_range (List.mem_range.2 him) hdst', ha, hd]
    have hon : ∀ w', S (LB (listed.setIfInBounds i true)) w' → PlanInvL F n P ops Q m σ S a0 (listed.setIfInBounds i true) (a.put o.dst (σ i)) w' := fun w' hS' => by
      refine ⟨hcl', by simpa using hsz, ?_⟩
      by_cases hmore : ∃ k, k < m ∧ LB (listed.setIfInBounds i true) k = false
      · refine .inl ⟨hmore, fun k hk => ?_, hS', ha'⟩
        rw [hset]
        have : ¬ k = i := by omega
        simp [hrest k hk, this]
      · have hfull : ∀ k, k < m → LB (listed.setIfInBounds i true) k = true := fun k hk => by
          cases h : LB (listed.setIfInBounds i true) k
          · exact absurd ⟨k, hk, h⟩ hmore
          · rfl
        refine .inr ⟨m, Nat.le_refl _, hok.le, hfull, fun k hk => ?_, ?_⟩
        · rw [hset]
          have : ¬ k = i := by omega
          simp [hrest k hk, this]
        · rw [ha']
          have : ∀ (l : List Nat) (a : Act), (∀ k ∈ l, k < m) → putTo ops σ (LB (listed.setIfInBounds i true)) l a = putTo ops σ (fun _ => true) l a := by
            intro l
            induction l with
            | nil => intro a _; rfl
            | cons k l ih =>
              intro a hk
              unfold putTo
              simp only [List.foldl_cons]
              rw [hfull k (hk k (by simp))]
              exact ih _ (fun j hj => hk j (by simp [hj]))
          rw [this _ _ (fun k hk => List.mem_range.1 hk)]
          exact htail _ w' hfull hS'
    unfold Go.wpOpIn
    simp only [ho]
    obtain ⟨hab, hs⟩ := hs
    have hab' : ∀ f, o.about P w a.eval = some f → F.fn f := fun f hf => hab f (by rw [about_congr o w hev] at hf; exact hf)
    rcases hs with ⟨hw, hs⟩ | ⟨hw, hv, hS2⟩
    · rw [if_pos (by rw [hwant]; exact hw)]
      refine ⟨hab', ?_⟩
      rw [Oper.semAt_eq _ _ _ hdefN, execOp_congr o hselN hev]
      refine outs_upon hs ?_
      rintro v w' ⟨rfl, hS'⟩
      exact hon w' (by rw [hset]; exact hS')
    · rw [if_neg (by rw [hwant, hw]; simp)]
      refine ⟨hab', ?_⟩
      rw [← hv]
      exact hon w (by rw [hset]; exact hS2)
  · have hit : i = t := by
      rcases Nat.lt_trichotomy i t with h | h | h
      · rw [ht1 i h] at hil; cases hil
      · exact h
      · have := hall (by omega) t h; rw [ht2 t (Nat.le_refl _)] at this; cases this
    subst hit
    have hr : List.range' i (ops.size - i) = i :: List.range' (i + 1) (ops.size - (i + 1)) := by
      have : ops.size - i = (ops.size - (i + 1)) + 1 := by omega
      rw [this, List.range'_succ]
    rw [hr, wpOpsIn_cons] at hw
    refine wpOpIn_mono (fun a' w' h' => ?_) hw
    refine ⟨hcl', by simpa using hsz, .inr ⟨i + 1, by omega, by omega, fun k hk => ?_, fun k hk => ?_, h'⟩⟩
    · rw [hset]
      by_cases e : k = i
      · simp [e]
      · simp [ht1 k (by omega)]
    · rw [hset]
      have : ¬ k = i := by omega
      simp [ht2 k (by omega), this]

theorem plan_readyL {E : Nat → Bool} {m : Nat} (hok : PlanOkG ops E m) {σ : Nat → Value} {S : (Nat → Bool) → World → Prop} {a0 : Act} {listed : Array Bool} {a : Act} {w : World}
    (hI : PlanInvL F n P ops Q m σ S a0 listed a w) (hr : Region.ready .any ops listed = []) : Q .normal a w := by
  obtain ⟨hcl, hsz, hI⟩ := hI
  have hno : ∀ k, k < ops.size → (∀ j, j < k → LB listed j = true) → LB listed k = true := fun k hk hpre => by
    cases h : LB listed k
    · have h2 : k < listed.size := by omega
      have h3 : listed.getD k true = false := by
        unfold LB at h
        simpa [h2] using h
      have : k ∈ Region.ready .any ops listed := mem_ready.2 ⟨h3, ops[k], Array.getElem?_eq_getElem hk, fun e he hb => hpre e.on (hok.back k _ (Array.getElem?_eq_getElem hk) e he hb)⟩
      rw [hr] at this
      cases this
    · rfl
  have hallT : ∀ k, k < ops.size → LB listed k = true := fun k => by
    induction k using Nat.strongRecOn with
    | _ k ih => exact fun hk => hno k hk fun j hj => ih j hj (by omega)
  rcases hI with ⟨⟨k, hk, hkl⟩, _⟩ | ⟨t, hmt, hts, ht1, ht2, hw⟩
  · have := hallT k (by have := hok.le; omega)
    rw [hkl] at this; cases this
  · have : t = ops.size := by
      rcases Nat.lt_or_ge t ops.size with h | h
      · have h1 := hallT t h
        rw [ht2 t (Nat.le_refl _)] at h1; cases h1
      · omega
    subst this
    simpa [wpOpsIn] using hw

theorem plan_anyL {E : Nat → Bool} {m : Nat} (hok : PlanOkG ops E m) {σ : Nat → Value} {S : (Nat → Bool) → World → Prop} {a0 : Act}
    (hstep : ∀ i o, i < m → ops[i]? = some o → ∀ L w, L i = false → S L w → StepL F n P ops (S (fun j => L j || j == i)) o (putTo ops σ (fun _ => true) (List.range m) a0) (σ i) w)
    (htail : ∀ L w, (∀ k, k < m → L k = true) → S L w → wpOpsIn F n P ops Q (List.range' m (ops.size - m)) (putTo ops σ (fun _ => true) (List.range m) a0) w) :
    ∀ (fuel : Nat) (listed : Array Bool) (a : Act) (w : World), PlanInvL F n P ops Q m σ S a0 listed a w → (∀ j, E j = true → LB listed j = true) → ((List.range ops.size).filter fun i => !LB listed i).length ≤ fuel → wpAnyIn F n P .any ops Q fuel listed a w
  | 0, listed, a, w, hI, _, hf => by
    have hr : Region.ready .any ops listed = [] := by
      rw [List.eq_nil_iff_forall_not_mem]
      intro j hj
      obtain ⟨hun, o, ho, _⟩ := mem_ready.1 hj
      have hlt : j < ops.size := (Array.getElem?_eq_some_iff.1 ho).1
      have h2 : j < listed.size := by have := hI.2.1; omega
      have : j ∈ (List.range ops.size).filter fun i => !LB listed i := by
        rw [List.mem_filter]
        refine ⟨List.mem_range.2 hlt, ?_⟩
        unfold LB
        simpa [h2] using hun
      have h3 := List.length_pos_of_mem this
      omega
    exact ⟨hr, plan_readyL hok hI hr⟩
  | fuel + 1, listed, a, w, hI, hE, hf => by
    refine ⟨plan_readyL hok hI, fun i hi => ?_⟩
    refine wpOpIn_mono (fun a' w' h' => plan_anyL hok hstep htail fuel _ a' w' h' (fun j hj => ?_) ?_) (plan_stepL hok hstep htail hI hE hi)
    · have hlt : i < ops.size := by obtain ⟨_, o, ho, _⟩ := mem_ready.1 hi; exact (Array.getElem?_eq_some_iff.1 ho).1
      rw [LB_set (by have := hI.2.1; omega)]
      show (LB listed j || j == i) = true
      rw [hE j hj]
      rfl
    obtain ⟨hun, o, ho, _⟩ := mem_ready.1 hi
    have hlt : i < ops.size := (Array.getElem?_eq_some_iff.1 ho).1
    have h2 : i < listed.size := by have := hI.2.1; omega
    have hil : LB listed i = false := by unfold LB; simpa [h2] using hun
    rw [LB_set h2]
    have hle0 : ∀ (l : List Nat), (l.filter fun j => !(LB listed j || j == i)).length ≤ (l.filter fun j => !LB listed j).length := by
      intro l
      induction l with
      | nil => simp
      | cons k l ih =>
        rw [List.filter_cons, List.filter_cons]
        cases hk : LB listed k <;> cases e : (k == i) <;> simp only [Bool.or_true, Bool.or_false, Bool.not_true, Bool.not_false, if_true, Bool.false_eq_true, if_false, List.length_cons] <;> omega
    have hle : ∀ (l : List Nat), i ∈ l → (l.filter fun j => !(LB listed j || j == i)).length < (l.filter fun j => !LB listed j).length := by
      intro l
      induction l with
      | nil => intro h; cases h
      | cons k l ih =>
        intro h
        rw [List.filter_cons, List.filter_cons]
        by_cases e : k = i
        · subst e
          have := hle0 l
          simp only [hil, beq_self_eq_true, Bool.or_true, Bool.not_true, Bool.not_false, if_true, Bool.false_eq_true, if_false, List.length_cons]
          omega
        · have hm : i ∈ l := by rcases List.mem_cons.1 h with h | h; exact absurd h.symm e; exact h
          have h1 := ih hm
          have e' : (k == i) = false := by simpa using e
          rw [e']
          cases LB listed k <;> simp only [Bool.or_false, Bool.not_true, Bool.not_false, if_true, Bool.false_eq_true, if_false, List.length_cons] <;> omega
    exact Nat.le_of_lt_succ (Nat.lt_of_lt_of_le (hle (List.range ops.size) (List.mem_range.2 hlt)) hf)

theorem wpIn_region_planL (hm : P.follows .mixedOrders = true) {id m : Nat} (hok : planOkG ops m = true) (hpos : 0 < m) (σ : Nat → Value) (S : (Nat → Bool) → World → Prop) (a0 : Act) (w0 : World)
    (hS : S (LB (Array.replicate ops.size false)) { w0 with drawn := w0.drawn + 1 })
    (hstep : ∀ i o, i < m → ops[i]? = some o → ∀ L w, L i = false → S L w → StepL F n P ops (S (fun j => L j || j == i)) o (putTo ops σ (fun _ => true) (List.range m) a0) (σ i) w)
    (htail : ∀ L w, (∀ k, k < m → L k = true) → S L w → wpOpsIn F n P ops Q (List.range' m (ops.size - m)) (putTo ops σ (fun _ => true) (List.range m) a0) w) :
    (Code.region id ops true).wpIn F n P Q a0 w0 := by
  have hok' := planOkG_spec hok
  have hL : ∀ i, LB (Array.replicate ops.size false) i = false := fun i => by
    unfold LB
    by_cases h : i < ops.size <;> simp [h]
  refine wpIn_region_any hm (plan_anyL hok' hstep htail ops.size _ a0 _ ⟨fun i o h => (by rw [hL i] at h; cases h), by simp, .inl ⟨⟨0, hpos, hL 0⟩, fun i _ => hL i, hS, ?_⟩⟩ (fun _ h => by cases h) ?_)
  · have : ∀ (l : List Nat) (a : Act), putTo ops σ (LB (Array.replicate ops.size false)) l a = a := by
      intro l
      induction l with
      | nil => intro a; rfl
      | cons k l ih =>
        intro a
        unfold putTo
        simp only [List.foldl_cons]
        rw [hL k]
        exact ih a
    exact (this _ _).symm
  · refine Nat.le_trans (List.length_filter_le _ _) (by simp)
/-- The same, what the first part leaves written out. -/
theorem wpIn_region_planLA (hm : P.follows .mixedOrders = true) {id : Nat} (m : Nat) (hok : planOkG ops m = true) (hok0 : planOk ops m = true) (hpos : 0 < m) (σ : Nat → Value) (S : (Nat → Bool) → World → Prop) (a0 : Act) (w0 : World) (aF : Act)
    (hA : putTo ops σ (fun _ => true) (List.range m) a0 = aF) (hS : ∀ L, (∀ i, L i = false) → S L w0.drew)
    (hstep : ∀ i o, i < m → ops[i]? = some o → ∀ L w, L i = false → S L w → (∀ f, o.about P w aF.eval = some f → F.fn f) ∧ Outs F n P (fun v w' => v = σ i ∧ S (fun j => L j || j == i) w') ((execOp aF.eval o).run P w))
    (htail : ∀ L w, (∀ k, k < m → L k = true) → S L w → wpListIn F n P ops Q (ops.toList.drop m) aF w) :
    (Code.region id ops true).wpIn F n P Q a0 w0 := by
  subst hA
  refine wpIn_region_planL hm hok hpos σ S a0 w0 (hS _ fun i => ?_) (fun i o hi ho L w hL hw => ?_) fun L w hL hw => ?_
  · unfold LB
    by_cases h : i < ops.size <;> simp [h]
  · obtain ⟨h1, h2⟩ := hstep i o hi ho L w hL hw
    have h3 := (planOk_spec hok0).op i o hi ho
    unfold opOk at h3
    simp only [Bool.and_eq_true, Option.isNone_iff_eq_none] at h3
    exact ⟨h1, .inl ⟨by simp [Region.wanted, h3.1.1.1], h2⟩⟩
  · have h1 : ops.size - m = (ops.toList.drop m).length := by simp
    rw [h1, wpOpsIn_eq_wpListIn (ops.toList.drop m) m (fun j => by simp)]
    exact htail L w hL hw
end

end Go.Proofs.Ytjkefoijhphknaa

/- Plans of a region that draws its order, where the world and the operations' values depend on which operations are done, and on something that they choose (such as where new memory lies). No condition. -/
namespace Go.Proofs.Ytjkefoijhphknaa
open Go.RowKit

section
variable {F : Fence} {n : Nat} {P : Program} {ops : Array Oper} {Q : Exit → Act → World → Prop}

/-- What a plan asks of one operation. -/
def StepX (F : Fence) (n : Nat) (P : Program) (ops : Array Oper) (S : Value → World → Prop) (o : Oper) (a : Act) (w : World) : Prop :=
  (∀ f, o.about P w a.eval = some f → F.fn f) ∧
  ((Region.wanted o (yielded ops a.tmps) = true ∧ Outs F n P (fun u w' => S u w') ((execOp a.eval o).run P w)) ∨ (Region.wanted o (yielded ops a.tmps) = false ∧ S undef w))

/-- What holds between the operations of such a plan. -/
def PlanInvX {X : Type} (F : Fence) (n : Nat) (P : Program) (ops : Array Oper) (Q : Exit → Act → World → Prop) (m : Nat) (σ : X → Nat → Value) (S : (Nat → Bool) → X → World → Prop) (a0 : Act) (listed : Array Bool) (a : Act) (w : World) : Prop :=
  closedL ops (LB listed) ∧ listed.size = ops.size ∧
  (((∃ i, i < m ∧ LB listed i = false) ∧ (∀ i, m ≤ i → LB listed i = false) ∧ ∃ x, S (LB listed) x w ∧ a = putTo ops (σ x) (LB listed) (List.range m) a0) ∨
   ∃ t, m ≤ t ∧ t ≤ ops.size ∧ (∀ i, i < t → LB listed i = true) ∧ (∀ i, t ≤ i → LB listed i = false) ∧ wpOpsIn F n P ops Q (List.range' t (ops.size - t)) a w)

/-- What one operation leaves: its value, and a choice that agrees about all that was done before. -/
def OnX {X : Type} (σ : X → Nat → Value) (S : (Nat → Bool) → X → World → Prop) (L : Nat → Bool) (x : X) (i : Nat) (v : Value) (w : World) : Prop :=
  ∃ x', (∀ k, L k = true → σ x' k = σ x k) ∧ v = σ x' i ∧ S (fun j => L j || j == i) x' w

theorem putTo_agree {σ τ : Nat → Value} {L : Nat → Bool} (h : ∀ k, L k = true → σ k = τ k) : ∀ (l : List Nat) (a : Act), putTo ops σ L l a = putTo ops τ L l a := by
  intro l
  induction l with
  | nil => intro a; rfl
  | cons k l ih =>
    intro a
    unfold putTo
    simp only [List.foldl_cons]
    have e : putIf (L k) (dstAt ops k) (σ k) a = putIf (L k) (dstAt ops k) (τ k) a := by
      cases hk : L k
      · rfl
      · rw [h k hk]
    rw [e]
    exact ih _

theorem plan_stepX {X : Type} {E : Nat → Bool} {m : Nat} (hok : PlanOkG ops E m) {σ : X → Nat → Value} {S : (Nat → Bool) → X → World → Prop} {a0 : Act}
    (hstep : ∀ i o, i < m → ops[i]? = some o → ∀ L x w, L i = false → S L x w → StepX F n P ops (OnX σ S L x i) o (putTo ops (σ x) (fun _ => true) (List.range m) a0) w)
    (htail : ∀ L x w, (∀ k, k < m → L k = true) → S L x w → wpOpsIn F n P ops Q (List.range' m (ops.size - m)) (putTo ops (σ x) (fun _ => true) (List.range m) a0) w)
    {listed : Array Bool} {a : Act} {w : World} {i : Nat} (hI : PlanInvX F n P ops Q m σ S a0 listed a w) (hE : ∀ j, E j = true → LB listed j = true) (hi : i ∈ Region.ready .any ops listed) :
    wpOpIn F n P ops Q i (PlanInvX F n P ops Q m σ S a0 (listed.setIfInBounds i true)) a w := by
  obtain ⟨hun, o, ho, hpre⟩ := mem_ready.1 hi
  obtain ⟨hcl, hsz, hI⟩ := hI
  have hlt : i < ops.size := (Array.getElem?_eq_some_iff.1 ho).1
  have hil : LB listed i = false := by
    unfold LB
    have h2 : i < listed.size := by omega
    simpa [h2] using hun
  have hset := LB_set (listed := listed) (i := i) (by omega)
  have hcl' : closedL ops (LB (listed.setIfInBounds i true)) := by
    rw [hset]
    intro k ok hk hok' e he hb
    simp only [Bool.or_eq_true, beq_iff_eq] at hk ⊢
    rcases hk with hk | rfl
    · exact .inl (hcl k ok hk hok' e he hb)
    · rw [ho] at hok'; cases hok'
      exact .inl (hpre e he hb)
  have hall : m ≤ i → ∀ j, j < i → LB listed j = true := fun hm j hj => by
    rcases hok.forced i hm hlt j hj with h | h
    · exact hE j h
    · exact closed_reach hcl ops.size i j (fun o' ho' e he hb => by rw [ho] at ho'; cases ho'; exact hpre e he hb) h
  rcases hI with ⟨⟨k, hk, hkl⟩, hrest, x, hS, ha⟩ | ⟨t, hmt, hts, ht1, ht2, hw⟩
  · have him : i < m := by
      rcases Nat.lt_or_ge i m with h | h
      · exact h
      · have := hall h k (by omega); rw [hkl] at this; cases this
    have hop := hok.op i o him ho
    unfold opOkG at hop
    simp only [Bool.and_eq_true] at hop
    obtain ⟨⟨⟨hg, hsel⟩, hdst⟩, hopd⟩ := hop
    have hselN : ∀ cs b, o.op ≠ .select cs b := fun cs b e => by rw [e] at hsel; simp at hsel
    have hdefN : ∀ c, o.op ≠ .defer c := fun c e => by rw [e] at hsel; simp at hsel
    have hdst' : ∀ j ∈ List.range m, j ≠ i → dstAt ops j = none ∨ dstAt ops j ≠ dstAt ops i := fun j hj hne => by
      have := List.all_eq_true.1 hdst j hj
      simp only [Bool.or_eq_true, beq_iff_eq, Option.isNone_iff_eq_none, bne_iff_ne] at this
      rcases this with (h | h) | h
      · exact absurd h hne
      · exact .inl h
      · exact .inr h
    have hev : ∀ y ∈ o.op.operands, a.eval y = (putTo ops (σ x) (fun _ => true) (List.range m) a0).eval y := fun y hy => by
      rw [ha]
      cases y with
      | tmp t =>
        refine putTo_getD _ _ _ rfl rfl (fun j hj hd => ?_)
        have h1 := Array.all_eq_true_iff_forall_mem.1 hopd (.tmp t) hy
        have h2 := List.all_eq_true.1 h1 j hj
        simp only [hd, bne_self_eq_false, Bool.false_or, Array.any_eq_true', Bool.and_eq_true, beq_iff_eq] at h2
        obtain ⟨e, he, hej, hb⟩ := h2
        rw [← hej]
        exact hpre e he hb
      | const v => rfl
      | global g => rfl
      | func f => rfl
    have hwant : Region.wanted o (yielded ops a.tmps) = Region.wanted o (yielded ops (putTo ops (σ x) (fun _ => true) (List.range m) a0).tmps) := by
      unfold Region.wanted
      unfold guardOk at hg
      cases hgd : o.guard with
      | none => rfl
      | some gp =>
        obtain ⟨g, b⟩ := gp
        rw [hgd] at hg
        simp only [Bool.and_eq_true, decide_eq_true_eq, Array.any_eq_true', beq_iff_eq] at hg
        obtain ⟨⟨hgm, _⟩, e, he, hej, hb⟩ := hg
        have hgl : LB listed g = true := by rw [← hej]; exact hpre e he hb
        dsimp only
        rw [yielded_congr (t1 := a.tmps) (t2 := (putTo ops (σ x) (fun _ => true) (List.range m) a0).tmps) (by rw [ha, putTo_size, putTo_size]) (fun d hd => by
          rw [ha]
          refine putTo_getD _ _ _ rfl rfl (fun j hj hd2 => ?_)
          by_cases ejg : j = g
          · rw [ejg]; exact hgl
          · have hopg := List.mem_range.1 hj
            have hgo : g < ops.size := by have := hok.le; omega
            have h3 := hok.op g ops[g] hgm (Array.getElem?_eq_getElem hgo)
            unfold opOkG at h3
            simp only [Bool.and_eq_true] at h3
            have h4 := List.all_eq_true.1 h3.1.2 j hj
            simp only [Bool.or_eq_true, beq_iff_eq, Option.isNone_iff_eq_none, bne_iff_ne] at h4
            rcases h4 with (h4 | h4) | h4
            · exact absurd h4 ejg
            · rw [hd2] at h4; cases h4
            · exact absurd (hd2.trans hd.symm) h4)]
    have hs := hstep i o him ho (LB listed) x w hil hS
    have hd : o.dst = dstAt ops i := by unfold dstAt; rw [ho]; rfl
    have hon : ∀ v w', OnX σ S (LB listed) x i v w' → PlanInvX F n P ops Q m σ S a0 (listed.setIfInBounds i true) (a.put o.dst v) w' := fun v w' hv' => by
      obtain ⟨x', hag, rfl, hS'⟩ := hv'
      have hS' : S (LB (listed.setIfInBounds i true)) x' w' := by rw [hset]; exact hS'
      have ha' : a.put o.dst (σ x' i) = putTo ops (σ x') (LB (listed.setIfInBounds i true)) (List.range m) a0 := by
        rw [hset, putTo_put hil _ _ List.nodup_range (List.mem_range.2 him) hdst', ha, hd, putTo_agree hag]
      refine ⟨hcl', by simpa using hsz, ?_⟩
      by_cases hmore : ∃ k, k < m ∧ LB (listed.setIfInBounds i true) k = false
      · refine .inl ⟨hmore, fun k hk => ?_, x', hS', ha'⟩
        rw [hset]
        have : ¬ k = i := by omega
        simp [hrest k hk, this]
      · have hfull : ∀ k, k < m → LB (listed.setIfInBounds i true) k = true := fun k hk => by
          cases h : LB (listed.setIfInBounds i true) k
          · exact absurd ⟨k, hk, h⟩ hmore
          · rfl
        refine .inr ⟨m, Nat.le_refl _, hok.le, hfull, fun k hk => ?_, ?_⟩
        · rw [hset]
          have : ¬ k = i := by omega
          simp [hrest k hk, this]
        · rw [ha']
          have : ∀ (l : List Nat) (a : Act), (∀ k ∈ l, k < m) → putTo ops (σ x') (LB (listed.setIfInBounds i true)) l a = putTo ops (σ x') (fun _ => true) l a := by
            intro l
            induction l with
            | nil => intro a _; rfl
            | cons k l ih =>
              intro a hk
              unfold putTo
              simp only [List.foldl_cons]
              rw [hfull k (hk k (by simp))]
              exact ih _ (fun j hj => hk j (by simp [hj]))
          rw [this _ _ (fun k hk => List.mem_range.1 hk)]
          exact htail _ x' w' hfull hS'
    unfold Go.wpOpIn
    simp only [ho]
    obtain ⟨hab, hs⟩ := hs
    have hab' : ∀ f, o.about P w a.eval = some f → F.fn f := fun f hf => hab f (by rw [about_congr o w hev] at hf; exact hf)
    rcases hs with ⟨hw, hs⟩ | ⟨hw, hS2⟩
    · rw [if_pos (by rw [hwant]; exact hw)]
      refine ⟨hab', ?_⟩
      rw [Oper.semAt_eq _ _ _ hdefN, execOp_congr o hselN hev]
      refine outs_upon hs ?_
      exact fun v w' h => hon v w' h
    · rw [if_neg (by rw [hwant, hw]; simp)]
      refine ⟨hab', ?_⟩
      exact hon undef w hS2
  · have hit : i = t := by
      rcases Nat.lt_trichotomy i t with h | h | h
      · rw [ht1 i h] at hil; cases hil
      · exact h
      · have := hall (by omega) t h; rw [ht2 t (Nat.le_refl _)] at this; cases this
    subst hit
    have hr : List.range' i (ops.size - i) = i :: List.range' (i + 1) (ops.size - (i + 1)) := by
      have : ops.size - i = (ops.size - (i + 1)) + 1 := by omega
      rw [this, List.range'_succ]
    rw [hr, wpOpsIn_cons] at hw
    refine wpOpIn_mono (fun a' w' h' => ?_) hw
    refine ⟨hcl', by simpa using hsz, .inr ⟨i + 1, by omega, by omega, fun k hk => ?_, fun k hk => ?_, h'⟩⟩
    · rw [hset]
      by_cases e : k = i
      · simp [e]
      · simp [ht1 k (by omega)]
    · rw [hset]
      have : ¬ k = i := by omega
      simp [ht2 k (by omega), this]

theorem plan_readyX {X : Type} {E : Nat → Bool} {m : Nat} (hok : PlanOkG ops E m) {σ : X → Nat → Value} {S : (Nat → Bool) → X → World → Prop} {a0 : Act} {listed : Array Bool} {a : Act} {w : World}
    (hI : PlanInvX F n P ops Q m σ S a0 listed a w) (hr : Region.ready .any ops listed = []) : Q .normal a w := by
  obtain ⟨hcl, hsz, hI⟩ := hI
  have hno : ∀ k, k < ops.size → (∀ j, j < k → LB listed j = true) → LB listed k = true := fun k hk hpre => by
    cases h : LB listed k
    · have h2 : k < listed.size := by omega
      have h3 : listed.getD k true = false := by
        unfold LB at h
        simpa [h2] using h
      have : k ∈ Region.ready .any ops listed := mem_ready.2 ⟨h3, ops[k], Array.getElem?_eq_getElem hk, fun e he hb => hpre e.on (hok.back k _ (Array.getElem?_eq_getElem hk) e he hb)⟩
      rw [hr] at this
      cases this
    · rfl
  have hallT : ∀ k, k < ops.size → LB listed k = true := fun k => by
    induction k using Nat.strongRecOn with
    | _ k ih => exact fun hk => hno k hk fun j hj => ih j hj (by omega)
  rcases hI with ⟨⟨k, hk, hkl⟩, _⟩ | ⟨t, hmt, hts, ht1, ht2, hw⟩
  · have := hallT k (by have := hok.le; omega)
    rw [hkl] at this; cases this
  · have : t = ops.size := by
      rcases Nat.lt_or_ge t ops.size with h | h
      · have h1 := hallT t h
        rw [ht2 t (Nat.le_refl _)] at h1; cases h1
      · omega
    subst this
    simpa [wpOpsIn] using hw

theorem plan_anyX {X : Type} {E : Nat → Bool} {m : Nat} (hok : PlanOkG ops E m) {σ : X → Nat → Value} {S : (Nat → Bool) → X → World → Prop} {a0 : Act}
    (hstep : ∀ i o, i < m → ops[i]? = some o → ∀ L x w, L i = false → S L x w → StepX F n P ops (OnX σ S L x i) o (putTo ops (σ x) (fun _ => true) (List.range m) a0) w)
    (htail : ∀ L x w, (∀ k, k < m → L k = true) → S L x w → wpOpsIn F n P ops Q (List.range' m (ops.size - m)) (putTo ops (σ x) (fun _ => true) (List.range m) a0) w) :
    ∀ (fuel : Nat) (listed : Array Bool) (a : Act) (w : World), PlanInvX F n P ops Q m σ S a0 listed a w → (∀ j, E j = true → LB listed j = true) → ((List.range ops.size).filter fun i => !LB listed i).length ≤ fuel → wpAnyIn F n P .any ops Q fuel listed a w
  | 0, listed, a, w, hI, _, hf => by
    have hr : Region.ready .any ops listed = [] := by
      rw [List.eq_nil_iff_forall_not_mem]
      intro j hj
      obtain ⟨hun, o, ho, _⟩ := mem_ready.1 hj
      have hlt : j < ops.size := (Array.getElem?_eq_some_iff.1 ho).1
      have h2 : j < listed.size := by have := hI.2.1; omega
      have : j ∈ (List.range ops.size).filter fun i => !LB listed i := by
        rw [List.mem_filter]
        refine ⟨List.mem_range.2 hlt, ?_⟩
        unfold LB
        simpa [h2] using hun
      have h3 := List.length_pos_of_mem this
      omega
    exact ⟨hr, plan_readyX hok hI hr⟩
  | fuel + 1, listed, a, w, hI, hE, hf => by
    refine ⟨plan_readyX hok hI, fun i hi => ?_⟩
    refine wpOpIn_mono (fun a' w' h' => plan_anyX hok hstep htail fuel _ a' w' h' (fun j hj => ?_) ?_) (plan_stepX hok hstep htail hI hE hi)
    · have hlt : i < ops.size := by obtain ⟨_, o, ho, _⟩ := mem_ready.1 hi; exact (Array.getElem?_eq_some_iff.1 ho).1
      rw [LB_set (by have := hI.2.1; omega)]
      show (LB listed j || j == i) = true
      rw [hE j hj]
      rfl
    obtain ⟨hun, o, ho, _⟩ := mem_ready.1 hi
    have hlt : i < ops.size := (Array.getElem?_eq_some_iff.1 ho).1
    have h2 : i < listed.size := by have := hI.2.1; omega
    have hil : LB listed i = false := by unfold LB; simpa [h2] using hun
    rw [LB_set h2]
    have hle0 : ∀ (l : List Nat), (l.filter fun j => !(LB listed j || j == i)).length ≤ (l.filter fun j => !LB listed j).length := by
      intro l
      induction l with
      | nil => simp
      | cons k l ih =>
        rw [List.filter_cons, List.filter_cons]
        cases hk : LB listed k <;> cases e : (k == i) <;> simp only [Bool.or_true, Bool.or_false, Bool.not_true, Bool.not_false, if_true, Bool.false_eq_true, if_false, List.length_cons] <;> omega
    have hle : ∀ (l : List Nat), i ∈ l → (l.filter fun j => !(LB listed j || j == i)).length < (l.filter fun j => !LB listed j).length := by
      intro l
      induction l with
      | nil => intro h; cases h
      | cons k l ih =>
        intro h
        rw [List.filter_cons, List.filter_cons]
        by_cases e : k = i
        · subst e
          have := hle0 l
          simp only [hil, beq_self_eq_true, Bool.or_true, Bool.not_true, Bool.not_false, if_true, Bool.false_eq_true, if_false, List.length_cons]
          omega
        · have hm : i ∈ l := by rcases List.mem_cons.1 h with h | h; exact absurd h.symm e; exact h
          have h1 := ih hm
          have e' : (k == i) = false := by simpa using e
          rw [e']
          cases LB listed k <;> simp only [Bool.or_false, Bool.not_true, Bool.not_false, if_true, Bool.false_eq_true, if_false, List.length_cons] <;> omega
    exact Nat.le_of_lt_succ (Nat.lt_of_lt_of_le (hle (List.range ops.size) (List.mem_range.2 hlt)) hf)

theorem wpIn_region_planX {X : Type} (hm : P.follows .mixedOrders = true) {id m : Nat} (hok : planOkG ops m = true) (hpos : 0 < m) (σ : X → Nat → Value) (S : (Nat → Bool) → X → World → Prop) (a0 : Act) (w0 : World) (x0 : X)
    (hS : S (LB (Array.replicate ops.size false)) x0 { w0 with drawn := w0.drawn + 1 })
    (hstep : ∀ i o, i < m → ops[i]? = some o → ∀ L x w, L i = false → S L x w → StepX F n P ops (OnX σ S L x i) o (putTo ops (σ x) (fun _ => true) (List.range m) a0) w)
    (htail : ∀ L x w, (∀ k, k < m → L k = true) → S L x w → wpOpsIn F n P ops Q (List.range' m (ops.size - m)) (putTo ops (σ x) (fun _ => true) (List.range m) a0) w) :
    (Code.region id ops true).wpIn F n P Q a0 w0 := by
  have hok' := planOkG_spec hok
  have hL : ∀ i, LB (Array.replicate ops.size false) i = false := fun i => by
    unfold LB
    by_cases h : i < ops.size <;> simp [h]
  refine wpIn_region_any hm (plan_anyX hok' hstep htail ops.size _ a0 _ ⟨fun i o h => (by rw [hL i] at h; cases h), by simp, .inl ⟨⟨0, hpos, hL 0⟩, fun i _ => hL i, x0, hS, ?_⟩⟩ (fun _ h => by cases h) ?_)
  · have : ∀ (l : List Nat) (a : Act), putTo ops (σ x0) (LB (Array.replicate ops.size false)) l a = a := by
      intro l
      induction l with
      | nil => intro a; rfl
      | cons k l ih =>
        intro a
        unfold putTo
        simp only [List.foldl_cons]
        rw [hL k]
        exact ih a
    exact (this _ _).symm
  · refine Nat.le_trans (List.length_filter_le _ _) (by simp)
/-- The same, what the first part leaves written out. -/
theorem wpIn_region_planXA {X : Type} (hm : P.follows .mixedOrders = true) {id : Nat} (m : Nat) (hok : planOkG ops m = true) (hok0 : planOk ops m = true) (hpos : 0 < m) (σ : X → Nat → Value) (S : (Nat → Bool) → X → World → Prop) (a0 : Act) (w0 : World) (x0 : X) (aF : X → Act)
    (hA : ∀ x, putTo ops (σ x) (fun _ => true) (List.range m) a0 = aF x) (hS : ∀ L, (∀ i, L i = false) → S L x0 w0.drew)
    (hstep : ∀ i o, i < m → ops[i]? = some o → ∀ L x w, L i = false → S L x w → (∀ f, o.about P w (aF x).eval = some f → F.fn f) ∧ Outs F n P (OnX σ S L x i) ((execOp (aF x).eval o).run P w))
    (htail : ∀ L x w, (∀ k, k < m → L k = true) → S L x w → wpListIn F n P ops Q (ops.toList.drop m) (aF x) w) :
    (Code.region id ops true).wpIn F n P Q a0 w0 := by
  refine wpIn_region_planX hm hok hpos σ S a0 w0 x0 (hS _ fun i => ?_) (fun i o hi ho L x w hL hw => ?_) fun L x w hL hw => ?_
  · unfold LB
    by_cases h : i < ops.size <;> simp [h]
  · obtain ⟨h1, h2⟩ := hstep i o hi ho L x w hL hw
    have h3 := (planOk_spec hok0).op i o hi ho
    unfold opOk at h3
    simp only [Bool.and_eq_true, Option.isNone_iff_eq_none] at h3
    rw [hA x]
    exact ⟨h1, .inl ⟨by simp [Region.wanted, h3.1.1.1], h2⟩⟩
  · have h1 : ops.size - m = (ops.toList.drop m).length := by simp
    rw [h1, wpOpsIn_eq_wpListIn (ops.toList.drop m) m (fun j => by simp), hA x]
    exact htail L x w hL hw
end

end Go.Proofs.Ytjkefoijhphknaa

/- Plans of a region that draws its order, where the world and the operations' values depend on which operations are done, and on something that they choose; each operation's forerunners are known to be done. No condition. -/
namespace Go.Proofs.Ytjkefoijhphknaa
open Go.RowKit

section
variable {F : Fence} {n : Nat} {P : Program} {ops : Array Oper} {Q : Exit → Act → World → Prop}

theorem plan_stepY {X : Type} {E : Nat → Bool} {m : Nat} (hok : PlanOkG ops E m) {σ : X → Nat → Value} {S : (Nat → Bool) → X → World → Prop} {a0 : Act}
    (hstep : ∀ i o, i < m → ops[i]? = some o → ∀ L x w, L i = false → closedL ops L → (∀ e ∈ o.after, Region.binds .any e = true → L e.on = true) → S L x w → StepX F n P ops (OnX σ S L x i) o (putTo ops (σ x) (fun _ => true) (List.range m) a0) w)
    (htail : ∀ L x w, (∀ k, k < m → L k = true) → S L x w → wpOpsIn F n P ops Q (List.range' m (ops.size - m)) (putTo ops (σ x) (fun _ => true) (List.range m) a0) w)
    {listed : Array Bool} {a : Act} {w : World} {i : Nat} (hI : PlanInvX F n P ops Q m σ S a0 listed a w) (hE : ∀ j, E j = true → LB listed j = true) (hi : i ∈ Region.ready .any ops listed) :
    wpOpIn F n P ops Q i (PlanInvX F n P ops Q m σ S a0 (listed.setIfInBounds i true)) a w := by
  obtain ⟨hun, o, ho, hpre⟩ := mem_ready.1 hi
  obtain ⟨hcl, hsz, hI⟩ := hI
  have hlt : i < ops.size := (Array.getElem?_eq_some_iff.1 ho).1
  have hil : LB listed i = false := by
    unfold LB
    have h2 : i < listed.size := by omega
    simpa [h2] using hun
  have hset := LB_set (listed := listed) (i := i) (by omega)
  have hcl' : closedL ops (LB (listed.setIfInBounds i true)) := by
    rw [hset]
    intro k ok hk hok' e he hb
    simp only [Bool.or_eq_true, beq_iff_eq] at hk ⊢
    rcases hk with hk | rfl
    · exact .inl (hcl k ok hk hok' e he hb)
    · rw [ho] at hok'; cases hok'
      exact .inl (hpre e he hb)
  have hall : m ≤ i → ∀ j, j < i → LB listed j = true := fun hm j hj => by
    rcases hok.forced i hm hlt j hj with h | h
    · exact hE j h
    · exact closed_reach hcl ops.size i j (fun o' ho' e he hb => by rw [ho] at ho'; cases ho'; exact hpre e he hb) h
  rcases hI with ⟨⟨k, hk, hkl⟩, hrest, x, hS, ha⟩ | ⟨t, hmt, hts, ht1, ht2, hw⟩
  · have him : i < m := by
      rcases Nat.lt_or_ge i m with h | h
      · exact h
      · have := hall h k (by omega); rw [hkl] at this; cases this
    have hop := hok.op i o him ho
    unfold opOkG at hop
    simp only [Bool.and_eq_true] at hop
    obtain ⟨⟨⟨hg, hsel⟩, hdst⟩, hopd⟩ := hop
    have hselN : ∀ cs b, o.op ≠ .select cs b := fun cs b e => by rw [e] at hsel; simp at hsel
    have hdefN : ∀ c, o.op ≠ .defer c := fun c e => by rw [e] at hsel; simp at hsel
    have hdst' : ∀ j ∈ List.range m, j ≠ i → dstAt ops j = none ∨ dstAt ops j ≠ dstAt ops i := fun j hj hne => by
      have := List.all_eq_true.1 hdst j hj
      simp only [Bool.or_eq_true, beq_iff_eq, Option.isNone_iff_eq_none, bne_iff_ne] at this
      rcases this with (h | h) | h
      · exact absurd h hne
      · exact .inl h
      · exact .inr h
    have hev : ∀ y ∈ o.op.operands, a.eval y = (putTo ops (σ x) (fun _ => true) (List.range m) a0).eval y := fun y hy => by
      rw [ha]
      cases y with
      | tmp t =>
        refine putTo_getD _ _ _ rfl rfl (fun j hj hd => ?_)
        have h1 := Array.all_eq_true_iff_forall_mem.1 hopd (.tmp t) hy
        have h2 := List.all_eq_true.1 h1 j hj
        simp only [hd, bne_self_eq_false, Bool.false_or, Array.any_eq_true', Bool.and_eq_true, beq_iff_eq] at h2
        obtain ⟨e, he, hej, hb⟩ := h2
        rw [← hej]
        exact hpre e he hb
      | const v => rfl
      | global g => rfl
      | func f => rfl
    have hwant : Region.wanted o (yielded ops a.tmps) = Region.wanted o (yielded ops (putTo ops (σ x) (fun _ => true) (List.range m) a0).tmps) := by
      unfold Region.wanted
      unfold guardOk at hg
      cases hgd : o.guard with
      | none => rfl
      | some gp =>
        obtain ⟨g, b⟩ := gp
        rw [hgd] at hg
        simp only [Bool.and_eq_true, decide_eq_true_eq, Array.any_eq_true', beq_iff_eq] at hg
        obtain ⟨⟨hgm, _⟩, e, he, hej, hb⟩ := hg
        have hgl : LB listed g = true := by rw [← hej]; exact hpre e he hb
        dsimp only
        rw [yielded_congr (t1 := a.tmps) (t2 := (putTo ops (σ x) (fun _ => true) (List.range m) a0).tmps) (by rw [ha, putTo_size, putTo_size]) (fun d hd => by
          rw [ha]
          refine putTo_getD _ _ _ rfl rfl (fun j hj hd2 => ?_)
          by_cases ejg : j = g
          · rw [ejg]; exact hgl
          · have hopg := List.mem_range.1 hj
            have hgo : g < ops.size := by have := hok.le; omega
            have h3 := hok.op g ops[g] hgm (Array.getElem?_eq_getElem hgo)
            unfold opOkG at h3
            simp only [Bool.and_eq_true] at h3
            have h4 := List.all_eq_true.1 h3.1.2 j hj
            simp only [Bool.or_eq_true, beq_iff_eq, Option.isNone_iff_eq_none, bne_iff_ne] at h4
            rcases h4 with (h4 | h4) | h4
            · exact absurd h4 ejg
            · rw [hd2] at h4; cases h4
            · exact absurd (hd2.trans hd.symm) h4)]
    have hs := hstep i o him ho (LB listed) x w hil hcl hpre hS
    have hd : o.dst = dstAt ops i := by unfold dstAt; rw [ho]; rfl
    have hon : ∀ v w', OnX σ S (LB listed) x i v w' → PlanInvX F n P ops Q m σ S a0 (listed.setIfInBounds i true) (a.put o.dst v) w' := fun v w' hv' => by
      obtain ⟨x', hag, rfl, hS'⟩ := hv'
      have hS' : S (LB (listed.setIfInBounds i true)) x' w' := by rw [hset]; exact hS'
      have ha' : a.put o.dst (σ x' i) = putTo ops (σ x') (LB (listed.setIfInBounds i true)) (List.range m) a0 := by
        rw [hset, putTo_put hil _ _ List.nodup_range (List.mem_range.2 him) hdst', ha, hd, putTo_agree hag]
      refine ⟨hcl', by simpa using hsz, ?_⟩
      by_cases hmore : ∃ k, k < m ∧ LB (listed.setIfInBounds i true) k = false
      · refine .inl ⟨hmore, fun k hk => ?_, x', hS', ha'⟩
        rw [hset]
        have : ¬ k = i := by omega
        simp [hrest k hk, this]
      · have hfull : ∀ k, k < m → LB (listed.setIfInBounds i true) k = true := fun k hk => by
          cases h : LB (listed.setIfInBounds i true) k
          · exact absurd ⟨k, hk, h⟩ hmore
          · rfl
        refine .inr ⟨m, Nat.le_refl _, hok.le, hfull, fun k hk => ?_, ?_⟩
        · rw [hset]
          have : ¬ k = i := by omega
          simp [hrest k hk, this]
        · rw [ha']
          have : ∀ (l : List Nat) (a : Act), (∀ k ∈ l, k < m) → putTo ops (σ x') (LB (listed.setIfInBounds i true)) l a = putTo ops (σ x') (fun _ => true) l a := by
            intro l
            induction l with
            | nil => intro a _; rfl
            | cons k l ih =>
              intro a hk
              unfold putTo
              simp only [List.foldl_cons]
              rw [hfull k (hk k (by simp))]
              exact ih _ (fun j hj => hk j (by simp [hj]))
          rw [this _ _ (fun k hk => List.mem_range.1 hk)]
          exact htail _ x' w' hfull hS'
    unfold Go.wpOpIn
    simp only [ho]
    obtain ⟨hab, hs⟩ := hs
    have hab' : ∀ f, o.about P w a.eval = some f → F.fn f := fun f hf => hab f (by rw [about_congr o w hev] at hf; exact hf)
    rcases hs with ⟨hw, hs⟩ | ⟨hw, hS2⟩
    · rw [if_pos (by rw [hwant]; exact hw)]
      refine ⟨hab', ?_⟩
      rw [Oper.semAt_eq _ _ _ hdefN, execOp_congr o hselN hev]
      refine outs_upon hs ?_
      exact fun v w' h => hon v w' h
    · rw [if_neg (by rw [hwant, hw]; simp)]
      refine ⟨hab', ?_⟩
      exact hon undef w hS2
  · have hit : i = t := by
      rcases Nat.lt_trichotomy i t with h | h | h
      · rw [ht1 i h] at hil; cases hil
      · exact h
      · have := hall (by omega) t h; rw [ht2 t (Nat.le_refl _)] at this; cases this
    subst hit
    have hr : List.range' i (ops.size - i) = i :: List.range' (i + 1) (ops.size - (i + 1)) := by
      have : ops.size - i = (ops.size - (i + 1)) + 1 := by omega
      rw [this, List.range'_succ]
    rw [hr, wpOpsIn_cons] at hw
    refine wpOpIn_mono (fun a' w' h' => ?_) hw
    refine ⟨hcl', by simpa using hsz, .inr ⟨i + 1, by omega, by omega, fun k hk => ?_, fun k hk => ?_, h'⟩⟩
    · rw [hset]
      by_cases e : k = i
      · simp [e]
      · simp [ht1 k (by omega)]
    · rw [hset]
      have : ¬ k = i := by omega
      simp [ht2 k (by omega), this]

theorem plan_readyY {X : Type} {E : Nat → Bool} {m : Nat} (hok : PlanOkG ops E m) {σ : X → Nat → Value} {S : (Nat → Bool) → X → World → Prop} {a0 : Act} {listed : Array Bool} {a : Act} {w : World}
    (hI : PlanInvX F n P ops Q m σ S a0 listed a w) (hr : Region.ready .any ops listed = []) : Q .normal a w := by
  obtain ⟨hcl, hsz, hI⟩ := hI
  have hno : ∀ k, k < ops.size → (∀ j, j < k → LB listed j = true) → LB listed k = true := fun k hk hpre => by
    cases h : LB listed k
    · have h2 : k < listed.size := by omega
      have h3 : listed.getD k true = false := by
        unfold LB at h
        simpa [h2] using h
      have : k ∈ Region.ready .any ops listed := mem_ready.2 ⟨h3, ops[k], Array.getElem?_eq_getElem hk, fun e he hb => hpre e.on (hok.back k _ (Array.getElem?_eq_getElem hk) e he hb)⟩
      rw [hr] at this
      cases this
    · rfl
  have hallT : ∀ k, k < ops.size → LB listed k = true := fun k => by
    induction k using Nat.strongRecOn with
    | _ k ih => exact fun hk => hno k hk fun j hj => ih j hj (by omega)
  rcases hI with ⟨⟨k, hk, hkl⟩, _⟩ | ⟨t, hmt, hts, ht1, ht2, hw⟩
  · have := hallT k (by have := hok.le; omega)
    rw [hkl] at this; cases this
  · have : t = ops.size := by
      rcases Nat.lt_or_ge t ops.size with h | h
      · have h1 := hallT t h
        rw [ht2 t (Nat.le_refl _)] at h1; cases h1
      · omega
    subst this
    simpa [wpOpsIn] using hw

theorem plan_anyY {X : Type} {E : Nat → Bool} {m : Nat} (hok : PlanOkG ops E m) {σ : X → Nat → Value} {S : (Nat → Bool) → X → World → Prop} {a0 : Act}
    (hstep : ∀ i o, i < m → ops[i]? = some o → ∀ L x w, L i = false → closedL ops L → (∀ e ∈ o.after, Region.binds .any e = true → L e.on = true) → S L x w → StepX F n P ops (OnX σ S L x i) o (putTo ops (σ x) (fun _ => true) (List.range m) a0) w)
    (htail : ∀ L x w, (∀ k, k < m → L k = true) → S L x w → wpOpsIn F n P ops Q (List.range' m (ops.size - m)) (putTo ops (σ x) (fun _ => true) (List.range m) a0) w) :
    ∀ (fuel : Nat) (listed : Array Bool) (a : Act) (w : World), PlanInvX F n P ops Q m σ S a0 listed a w → (∀ j, E j = true → LB listed j = true) → ((List.range ops.size).filter fun i => !LB listed i).length ≤ fuel → wpAnyIn F n P .any ops Q fuel listed a w
  | 0, listed, a, w, hI, _, hf => by
    have hr : Region.ready .any ops listed = [] := by
      rw [List.eq_nil_iff_forall_not_mem]
      intro j hj
      obtain ⟨hun, o, ho, _⟩ := mem_ready.1 hj
      have hlt : j < ops.size := (Array.getElem?_eq_some_iff.1 ho).1
      have h2 : j < listed.size := by have := hI.2.1; omega
      have : j ∈ (List.range ops.size).filter fun i => !LB listed i := by
        rw [List.mem_filter]
        refine ⟨List.mem_range.2 hlt, ?_⟩
        unfold LB
        simpa [h2] using hun
      have h3 := List.length_pos_of_mem this
      omega
    exact ⟨hr, plan_readyY hok hI hr⟩
  | fuel + 1, listed, a, w, hI, hE, hf => by
    refine ⟨plan_readyY hok hI, fun i hi => ?_⟩
    refine wpOpIn_mono (fun a' w' h' => plan_anyY hok hstep htail fuel _ a' w' h' (fun j hj => ?_) ?_) (plan_stepY hok hstep htail hI hE hi)
    · have hlt : i < ops.size := by obtain ⟨_, o, ho, _⟩ := mem_ready.1 hi; exact (Array.getElem?_eq_some_iff.1 ho).1
      rw [LB_set (by have := hI.2.1; omega)]
      show (LB listed j || j == i) = true
      rw [hE j hj]
      rfl
    obtain ⟨hun, o, ho, _⟩ := mem_ready.1 hi
    have hlt : i < ops.size := (Array.getElem?_eq_some_iff.1 ho).1
    have h2 : i < listed.size := by have := hI.2.1; omega
    have hil : LB listed i = false := by unfold LB; simpa [h2] using hun
    rw [LB_set h2]
    have hle0 : ∀ (l : List Nat), (l.filter fun j => !(LB listed j || j == i)).length ≤ (l.filter fun j => !LB listed j).length := by
      intro l
      induction l with
      | nil => simp
      | cons k l ih =>
        rw [List.filter_cons, List.filter_cons]
        cases hk : LB listed k <;> cases e : (k == i) <;> simp only [Bool.or_true, Bool.or_false, Bool.not_true, Bool.not_false, if_true, Bool.false_eq_true, if_false, List.length_cons] <;> omega
    have hle : ∀ (l : List Nat), i ∈ l → (l.filter fun j => !(LB listed j || j == i)).length < (l.filter fun j => !LB listed j).length := by
      intro l
      induction l with
      | nil => intro h; cases h
      | cons k l ih =>
        intro h
        rw [List.filter_cons, List.filter_cons]
        by_cases e : k = i
        · subst e
          have := hle0 l
          simp only [hil, beq_self_eq_true, Bool.or_true, Bool.not_true, Bool.not_false, if_true, Bool.false_eq_true, if_false, List.length_cons]
          omega
        · have hm : i ∈ l := by rcases List.mem_cons.1 h with h | h; exact absurd h.symm e; exact h
          have h1 := ih hm
          have e' : (k == i) = false := by simpa using e
          rw [e']
          cases LB listed k <;> simp only [Bool.or_false, Bool.not_true, Bool.not_false, if_true, Bool.false_eq_true, if_false, List.length_cons] <;> omega
    exact Nat.le_of_lt_succ (Nat.lt_of_lt_of_le (hle (List.range ops.size) (List.mem_range.2 hlt)) hf)

theorem wpIn_region_planY {X : Type} (hm : P.follows .mixedOrders = true) {id m : Nat} (hok : planOkG ops m = true) (hpos : 0 < m) (σ : X → Nat → Value) (S : (Nat → Bool) → X → World → Prop) (a0 : Act) (w0 : World) (x0 : X)
    (hS : S (LB (Array.replicate ops.size false)) x0 { w0 with drawn := w0.drawn + 1 })
    (hstep : ∀ i o, i < m → ops[i]? = some o → ∀ L x w, L i = false → closedL ops L → (∀ e ∈ o.after, Region.binds .any e = true → L e.on = true) → S L x w → StepX F n P ops (OnX σ S L x i) o (putTo ops (σ x) (fun _ => true) (List.range m) a0) w)
    (htail : ∀ L x w, (∀ k, k < m → L k = true) → S L x w → wpOpsIn F n P ops Q (List.range' m (ops.size - m)) (putTo ops (σ x) (fun _ => true) (List.range m) a0) w) :
    (Code.region id ops true).wpIn F n P Q a0 w0 := by
  have hok' := planOkG_spec hok
  have hL : ∀ i, LB (Array.replicate ops.size false) i = false := fun i => by
    unfold LB
    by_cases h : i < ops.size <;> simp [h]
  refine wpIn_region_any hm (plan_anyY hok' hstep htail ops.size _ a0 _ ⟨fun i o h => (by rw [hL i] at h; cases h), by simp, .inl ⟨⟨0, hpos, hL 0⟩, fun i _ => hL i, x0, hS, ?_⟩⟩ (fun _ h => by cases h) ?_)
  · have : ∀ (l : List Nat) (a : Act), putTo ops (σ x0) (LB (Array.replicate ops.size false)) l a = a := by
      intro l
      induction l with
      | nil => intro a; rfl
      | cons k l ih =>
        intro a
        unfold putTo
        simp only [List.foldl_cons]
        rw [hL k]
        exact ih a
    exact (this _ _).symm
  · refine Nat.le_trans (List.length_filter_le _ _) (by simp)
/-- The same, what the first part leaves written out. -/
theorem wpIn_region_planYA {X : Type} (hm : P.follows .mixedOrders = true) {id : Nat} (m : Nat) (hok : planOkG ops m = true) (hok0 : planOk ops m = true) (hpos : 0 < m) (σ : X → Nat → Value) (S : (Nat → Bool) → X → World → Prop) (a0 : Act) (w0 : World) (x0 : X) (aF : X → Act)
    (hA : ∀ x, putTo ops (σ x) (fun _ => true) (List.range m) a0 = aF x) (hS : ∀ L, (∀ i, L i = false) → S L x0 w0.drew)
    (hstep : ∀ i o, i < m → ops[i]? = some o → ∀ L x w, L i = false → closedL ops L → (∀ e ∈ o.after, Region.binds .any e = true → L e.on = true) → S L x w → (∀ f, o.about P w (aF x).eval = some f → F.fn f) ∧ Outs F n P (OnX σ S L x i) ((execOp (aF x).eval o).run P w))
    (htail : ∀ L x w, (∀ k, k < m → L k = true) → S L x w → wpListIn F n P ops Q (ops.toList.drop m) (aF x) w) :
    (Code.region id ops true).wpIn F n P Q a0 w0 := by
  refine wpIn_region_planY hm hok hpos σ S a0 w0 x0 (hS _ fun i => ?_) (fun i o hi ho L x w hL hc hd hw => ?_) fun L x w hL hw => ?_
  · unfold LB
    by_cases h : i < ops.size <;> simp [h]
  · obtain ⟨h1, h2⟩ := hstep i o hi ho L x w hL hc hd hw
    have h3 := (planOk_spec hok0).op i o hi ho
    unfold opOk at h3
    simp only [Bool.and_eq_true, Option.isNone_iff_eq_none] at h3
    rw [hA x]
    exact ⟨h1, .inl ⟨by simp [Region.wanted, h3.1.1.1], h2⟩⟩
  · have h1 : ops.size - m = (ops.toList.drop m).length := by simp
    rw [h1, wpOpsIn_eq_wpListIn (ops.toList.drop m) m (fun j => by simp), hA x]
    exact htail L x w hL hw
end

end Go.Proofs.Ytjkefoijhphknaa

/- Plans as in XFloatY, for regions whose operations are guarded: all guards hold; the tail's forerunners are looked for at first hand. No condition. -/
namespace Go.Proofs.Ytjkefoijhphknaa
open Go.RowKit

/-- As planOkG, but a forerunner at first hand is found at once. -/
def planOkD (ops : Array Oper) (m : Nat) : Bool :=
  decide (m ≤ ops.size) &&
  ((List.range m).all fun i => match ops[i]? with | none => false | some o => opOkG ops m i o) &&
  ((List.range ops.size).all fun i => match ops[i]? with | none => false | some o => o.after.all fun e => !Region.binds .any e || decide (e.on < i)) &&
  ((List.range ops.size).all fun i => decide (i < m) || (List.range i).all fun j => match ops[i]? with | none => false | some o => o.after.any fun e => Region.binds .any e && e.on == j)
theorem reach_of_direct {ops : Array Oper} {i j f : Nat} {o : Oper} (ho : ops[i]? = some o) (h : (o.after.any fun e => Region.binds .any e && e.on == j) = true) : reachB ops (f + 1) i j = true := by
  unfold reachB
  rw [ho]
  dsimp only
  rw [Array.any_eq_true] at h ⊢
  obtain ⟨k, hk, h1⟩ := h
  exact ⟨k, hk, by simp only [Bool.and_eq_true] at h1; simp [h1.1, h1.2]⟩
theorem planOkD_spec {ops : Array Oper} {m : Nat} (h : planOkD ops m = true) : PlanOkG ops (fun _ => false) m := by
  unfold planOkD at h
  simp only [Bool.and_eq_true, decide_eq_true_eq, List.all_eq_true, List.mem_range] at h
  obtain ⟨⟨⟨h1, h2⟩, h3⟩, h4⟩ := h
  refine ⟨h1, fun i o hi ho => ?_, fun i o ho e he hb => ?_, fun i hm hi j hj => .inr ?_⟩
  · have := h2 i hi
    rw [ho] at this
    exact this
  · have hi : i < ops.size := (Array.getElem?_eq_some_iff.1 ho).1
    have := h3 i hi
    rw [ho] at this
    have := Array.all_eq_true_iff_forall_mem.1 this e he
    simpa [hb] using this
  · have h5 := h4 i hi
    simp only [Bool.or_eq_true, decide_eq_true_eq, List.all_eq_true, List.mem_range] at h5
    rcases h5 with h5 | h5
    · omega
    · have h6 := h5 j hj
      have ho : ops[i]? = some ops[i] := Array.getElem?_eq_getElem hi
      rw [ho] at h6
      obtain ⟨n, hn⟩ : ∃ n, ops.size = n + 1 := ⟨ops.size - 1, by omega⟩
      rw [hn]
      exact reach_of_direct ho h6

section
variable {F : Fence} {n : Nat} {P : Program} {ops : Array Oper} {Q : Exit → Act → World → Prop}
theorem wpIn_region_planYG {X : Type} (hm : P.follows .mixedOrders = true) {id : Nat} (m : Nat) (hok : planOkD ops m = true) (hpos : 0 < m) (σ : X → Nat → Value) (S : (Nat → Bool) → X → World → Prop) (a0 : Act) (w0 : World) (x0 : X) (aF : X → Act)
    (hA : ∀ x, putTo ops (σ x) (fun _ => true) (List.range m) a0 = aF x) (hS : ∀ L, (∀ i, L i = false) → S L x0 w0.drew)
    (hG : ∀ x, (List.range m).all (fun i => (ops[i]?).all fun o => Region.wanted o (yielded ops (aF x).tmps)) = true)
    (hstep : ∀ i o, i < m → ops[i]? = some o → ∀ L x w, L i = false → closedL ops L → (∀ e ∈ o.after, Region.binds .any e = true → L e.on = true) → S L x w → (∀ f, o.about P w (aF x).eval = some f → F.fn f) ∧ Outs F n P (OnX σ S L x i) ((execOp (aF x).eval o).run P w))
    (htail : ∀ L x w, (∀ k, k < m → L k = true) → S L x w → wpListIn F n P ops Q (ops.toList.drop m) (aF x) w) :
    (Code.region id ops true).wpIn F n P Q a0 w0 := by
  have hok' := planOkD_spec hok
  have hL : ∀ i, LB (Array.replicate ops.size false) i = false := fun i => by
    unfold LB
    by_cases h : i < ops.size <;> simp [h]
  refine wpIn_region_any hm (plan_anyY (σ := σ) (S := S) (a0 := a0) hok' (fun i o hi ho L x w hL hc hd hw => ?_) (fun L x w hL hw => ?_) ops.size _ a0 _ ⟨fun i o h => (by rw [hL i] at h; cases h), by simp, .inl ⟨⟨0, hpos, hL 0⟩, fun i _ => hL i, x0, hS _ hL, ?_⟩⟩ (fun _ h => by cases h) ?_)
  · obtain ⟨h1, h2⟩ := hstep i o hi ho L x w hL hc hd hw
    have h3 := hG x
    rw [List.all_eq_true] at h3
    have h4 := h3 i (List.mem_range.2 hi)
    rw [ho] at h4
    rw [hA x]
    exact ⟨h1, .inl ⟨h4, h2⟩⟩
  · have h1 : ops.size - m = (ops.toList.drop m).length := by simp
    rw [h1, wpOpsIn_eq_wpListIn (ops.toList.drop m) m (fun j => by simp), hA x]
    exact htail L x w hL hw
  · have : ∀ (l : List Nat) (a : Act), putTo ops (σ x0) (LB (Array.replicate ops.size false)) l a = a := by
      intro l
      induction l with
      | nil => intro a; rfl
      | cons k l ih =>
        intro a
        unfold putTo
        simp only [List.foldl_cons]
        rw [hL k]
        exact ih a
    exact (this _ _).symm
  · refine Nat.le_trans (List.length_filter_le _ _) (by simp)
end

end Go.Proofs.Ytjkefoijhphknaa

/- A region that draws its order, with calls and new memory: each operation's new blocks lie apart from all others', and what is known of them stays so. No condition. -/
namespace Go.Proofs.Ytjkefoijhphknaa
open Go.RowKit

/-- What an operation yields, and which blocks it makes: from lo on, before hi. -/
structure Made where
  v : Value
  lo : Nat
  hi : Nat
def upM (x : Nat → Made) (i : Nat) (y : Made) : Nat → Made := fun j => if j = i then y else x j
theorem upM_same (x : Nat → Made) (i : Nat) (y : Made) : upM x i y i = y := by simp [upM]
theorem upM_ne {x : Nat → Made} {i j : Nat} {y : Made} (h : j ≠ i) : upM x i y j = x j := by simp [upM, h]

/-- An operation that makes its own blocks, and writes none before but those of the area ar i, if it is another one's. -/
def OnM (τ : Nat → Made → Value) (Φ : (Nat → Made) → Nat → World → Prop) (ar : Nat → Nat) (x : Nat → Made) (i : Nat) (W : World) (v : Value) (W' : World) : Prop :=
  ∃ y : Made, v = τ i y ∧ y.lo = W.heap.size ∧ y.hi = W'.heap.size ∧ (W'.os = W.os ∧ W'.tape = W.tape ∧ W'.output = W.output ∧ W.heap.size ≤ W'.heap.size) ∧
    (∀ b, b < W.heap.size → (ar i = i ∨ b < (x (ar i)).lo ∨ (x (ar i)).hi ≤ b) → W'.heap[b]? = W.heap[b]?) ∧ Φ (upM x i y) i W'

section
variable {τ : Nat → Made → Value} {Φ : (Nat → Made) → Nat → World → Prop} {ar : Nat → Nat} {x : Nat → Made} {i : Nat} {W W' : World} {v : Value}
/-- It leaves the world as it is. -/
theorem onM_same {y : Made} (hv : v = τ i y) (hlo : y.lo = W.heap.size) (hhi : y.hi = W.heap.size) (h : Φ (upM x i y) i W) : OnM τ Φ ar x i W v W :=
  ⟨y, hv, hlo, hhi, ⟨rfl, rfl, rfl, Nat.le_refl _⟩, fun _ _ _ => rfl, h⟩
/-- It only makes memory. -/
theorem onM_below {y : Made} (hv : v = τ i y) (hlo : y.lo = W.heap.size) (hhi : y.hi = W'.heap.size) (hb : Below W.heap.size W W') (h : Φ (upM x i y) i W') : OnM τ Φ ar x i W v W' :=
  ⟨y, hv, hlo, hhi, ⟨hb.os, hb.tape, hb.output, hb.size⟩, fun b h _ => hb.block b h, h⟩
end

section
variable {F : Fence} {n : Nat} {P : Program} {ops : Array Oper} {Q : Exit → Act → World → Prop}

theorem outs_mono {R S : Value → World → Prop} {r : Result Next} (h : Outs F n P R r) (hRS : ∀ v w, R v w → S v w) : Outs F n P S r := by
  unfold Outs at h ⊢
  split at h
  · exact hRS _ _ h
  · exact hRS _ _ h
  · refine ⟨h.1, h.2.mono ?_⟩
    rintro e w'' ⟨v, he, hv⟩
    exact ⟨v, he, hRS _ _ hv⟩
  · exact h.elim

def killOk (ar : Nat → Nat) (dead : Nat → Option Nat) (m : Nat) : Bool :=
  (List.range m).all fun j => (List.range m).all fun i => ar i == i || ar i != ar j || j == i || dead j == some i
def areaOk (ops : Array Oper) (ar : Nat → Nat) (m : Nat) : Bool :=
  (List.range m).all fun i => ar i == i || match ops[i]? with | none => false | some o => decide (ar i < m) && o.after.any fun e => e.on == ar i && Region.binds .any e

theorem wpIn_region_mem (hm : P.follows .mixedOrders = true) {id : Nat} (m : Nat) (hok : planOkG ops m = true) (hok0 : planOk ops m = true) (hpos : 0 < m) (τ : Nat → Made → Value) (Φ : (Nat → Made) → Nat → World → Prop) (ar : Nat → Nat) (dead : Nat → Option Nat)
    (a0 : Act) (w0 : World) (aF : (Nat → Made) → Act) (hA : ∀ x : Nat → Made, putTo ops (fun j => τ j (x j)) (fun _ => true) (List.range m) a0 = aF x)
    (hkill : killOk ar dead m = true) (har : areaOk ops ar m = true)
    (hloc : ∀ i, i < m → ∀ x W W', (x (ar i)).hi ≤ W.heap.size → W.heap.size ≤ W'.heap.size → (∀ b, (x (ar i)).lo ≤ b → b < (x (ar i)).hi → W'.heap[b]? = W.heap[b]?) → Φ x i W → Φ x i W')
    (hcon : ∀ i, i < m → ∀ L x x' W, closedL ops L → L i = true → (∀ j, L j = true → x' j = x j) → Φ x i W → Φ x' i W)
    (hstep : ∀ i o, i < m → ops[i]? = some o → ∀ L x W, L i = false → closedL ops L → (∀ e ∈ o.after, Region.binds .any e = true → L e.on = true) → Below w0.heap.size w0 W →
      (∀ j, j < m → L j = true → (∀ k, dead j = some k → L k = false) → Φ x j W) → (∀ j, j < m → L j = true → w0.heap.size ≤ (x j).lo ∧ (x j).lo ≤ (x j).hi ∧ (x j).hi ≤ W.heap.size) →
      (∀ f, o.about P W (aF x).eval = some f → F.fn f) ∧ Outs F n P (OnM τ Φ ar x i W) ((execOp (aF x).eval o).run P W))
    (htail : ∀ x W, Below w0.heap.size w0 W → (∀ j, j < m → dead j = none → Φ x j W) → (∀ j, j < m → w0.heap.size ≤ (x j).lo ∧ (x j).lo ≤ (x j).hi ∧ (x j).hi ≤ W.heap.size) →
      (∀ i j, i < m → j < m → i ≠ j → (x i).hi ≤ (x j).lo ∨ (x j).hi ≤ (x i).lo) → wpListIn F n P ops Q (ops.toList.drop m) (aF x) W) :
    (Code.region id ops true).wpIn F n P Q a0 w0 := by
  have hkill' : ∀ j i, j < m → i < m → ar i ≠ i → ar i = ar j → j = i ∨ dead j = some i := fun j i hj hi h1 h2 => by
    unfold killOk at hkill
    simp only [List.all_eq_true, List.mem_range, Bool.or_eq_true, beq_iff_eq, bne_iff_ne] at hkill
    rcases hkill j hj i hi with ((h | h) | h) | h
    · exact absurd h h1
    · exact absurd h2 h
    · exact .inl h
    · exact .inr h
  have har' : ∀ i o, i < m → ops[i]? = some o → ar i = i ∨ (ar i < m ∧ ∃ e ∈ o.after, Region.binds .any e = true ∧ e.on = ar i) := fun i o hi ho => by
    unfold areaOk at har
    rw [List.all_eq_true] at har
    have h := har i (List.mem_range.2 hi)
    rw [ho] at h
    simp only [Bool.or_eq_true, beq_iff_eq, Bool.and_eq_true, decide_eq_true_eq, Array.any_eq_true'] at h
    rcases h with h | ⟨h1, e, he, h2, h3⟩
    · exact .inl h
    · exact .inr ⟨h1, e, he, h3, h2⟩
  have hsz : m ≤ ops.size := (planOk_spec hok0).le
  refine wpIn_region_planYA hm m hok hok0 hpos (fun x j => τ j (x j))
    (fun L x W => Below w0.heap.size w0 W ∧ (∀ j, j < m → L j = true → (∀ k, dead j = some k → L k = false) → Φ x j W) ∧ (∀ j, j < m → L j = true → w0.heap.size ≤ (x j).lo ∧ (x j).lo ≤ (x j).hi ∧ (x j).hi ≤ W.heap.size) ∧
      (∀ i j, i < m → j < m → L i = true → L j = true → i ≠ j → (x i).hi ≤ (x j).lo ∨ (x j).hi ≤ (x i).lo)) a0 w0 (fun _ => ⟨undef, 0, 0⟩) aF hA ?_ ?_ ?_
  · intro L hL
    exact ⟨(Below.refl _ _).drew, fun j _ h => (by rw [hL] at h; cases h), fun j _ h => (by rw [hL] at h; cases h), fun i j _ _ h => (by rw [hL] at h; cases h)⟩
  · rintro i o hi ho L x W hL hcl hdep ⟨hb, hf, hbd, hdj⟩
    obtain ⟨h1, h2⟩ := hstep i o hi ho L x W hL hcl hdep hb hf hbd
    refine ⟨h1, outs_mono h2 ?_⟩
    rintro v W' ⟨y, hv, hlo, hhi, ⟨g1, g2, g3, g4⟩, hgr, hphi⟩
    have hne : ∀ j, L j = true → j ≠ i := fun j hj e => by rw [e, hL] at hj; cases hj
    have hag : ∀ j, L j = true → upM x i y j = x j := fun j hj => upM_ne (hne j hj)
    have hcl' : closedL ops (fun j => L j || j == i) := by
      intro k ok hk hok' e he hb
      simp only [Bool.or_eq_true, beq_iff_eq] at hk ⊢
      rcases hk with hk | rfl
      · exact .inl (hcl k ok hk hok' e he hb)
      · rw [ho] at hok'; cases hok'
        exact .inl (hdep e he hb)
    have hari : ar i = i ∨ (ar i < m ∧ L (ar i) = true) := by
      rcases har' i o hi ho with h | ⟨h, e, he, hb, h3⟩
      · exact .inl h
      · exact .inr ⟨h, by rw [← h3]; exact hdep e he hb⟩
    have hlow : ∀ b, b < w0.heap.size → W'.heap[b]? = W.heap[b]? := fun b hb' => by
      have hbs := hb.size
      refine hgr b (by omega) ?_
      rcases hari with h | ⟨h, h3⟩
      · exact .inl h
      · have := hbd _ h h3
        exact .inr (.inl (by omega))
    refine ⟨upM x i y, fun k hk => (by show τ k (upM x i y k) = τ k (x k); rw [hag k hk]), (by show v = τ i (upM x i y i); rw [upM_same]; exact hv), ⟨g1.trans hb.os, g2.trans hb.tape, g3.trans hb.output, Nat.le_trans hb.size g4, fun b hb' => (hlow b hb').trans (hb.block b hb')⟩, ?_, ?_, ?_⟩
    · intro j hj hLj hlive
      by_cases hji : j = i
      · rw [hji]; exact hphi
      · have hLj' : L j = true := by simpa [hji] using hLj
        have hlive' : ∀ k, dead j = some k → L k = false := fun k hk => by
          have h := hlive k hk
          simp only [Bool.or_eq_false_iff] at h
          exact h.1
        have hnk : dead j ≠ some i := fun e => by
          have h := hlive i e
          simp at h
        have hp := hf j hj hLj' hlive'
        have hj2 : ops[j]? = some ops[j] := Array.getElem?_eq_getElem (by omega)
        have harj : ar j < m ∧ L (ar j) = true := by
          rcases har' j _ hj hj2 with h | ⟨h, e, he, hb', h3⟩
          · rw [h]; exact ⟨hj, hLj'⟩
          · exact ⟨h, by rw [← h3]; exact hcl j _ hLj' hj2 e he hb'⟩
        have hbj := hbd _ harj.1 harj.2
        have hp2 : Φ x j W' := by
          refine hloc j hj x W W' hbj.2.2 g4 (fun b hb1 hb2 => ?_) hp
          refine hgr b (by omega) ?_
          rcases hari with h | ⟨h, h3⟩
          · exact .inl h
          · by_cases hai : ar i = i
            · exact .inl hai
            · by_cases he : ar i = ar j
              · rcases hkill' j i hj hi hai he with h4 | h4
                · exact absurd h4 hji
                · exact absurd h4 hnk
              · have hd := hdj _ _ h harj.1 h3 harj.2 he
                refine .inr ?_
                rcases hd with hd | hd
                · exact .inr (by omega)
                · exact .inl (by omega)
        exact hcon j hj L x (upM x i y) W' hcl hLj' hag hp2
    · intro j hj hLj
      by_cases hji : j = i
      · rw [hji, upM_same]
        have := hb.size
        omega
      · have hLj' : L j = true := by simpa [hji] using hLj
        rw [upM_ne hji]
        have := hbd j hj hLj'
        omega
    · intro j k hj hk hLj hLk hjk
      by_cases hji : j = i
      · have hki : k ≠ i := fun e => hjk (hji.trans e.symm)
        have hLk' : L k = true := by simpa [hki] using hLk
        have := hbd k hk hLk'
        rw [hji, upM_same, upM_ne hki]
        exact .inr (by omega)
      · have hLj' : L j = true := by simpa [hji] using hLj
        by_cases hki : k = i
        · have := hbd j hj hLj'
          rw [hki, upM_same, upM_ne hji]
          exact .inl (by omega)
        · have hLk' : L k = true := by simpa [hki] using hLk
          rw [upM_ne hji, upM_ne hki]
          exact hdj j k hj hk hLj' hLk' hjk
  · rintro L x W hL ⟨hb, hf, hbd, hdj⟩
    refine htail x W hb (fun j hj hd => hf j hj (hL j hj) (fun k hk => by rw [hd] at hk; cases hk)) (fun j hj => hbd j hj (hL j hj)) fun i j hi hj h => hdj i j hi hj (hL i hi) (hL j hj) h
end

end Go.Proofs.Ytjkefoijhphknaa
