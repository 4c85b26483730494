/- A region that draws its order, whose operations read, and whose calls only make memory: one walk in the text's order serves every order; also where the last operations, which are forced, write. No condition. -/
import Derived.Test.YtjkefoijhphknaaWords
import Derived.Test.YtjkefoijhphknaaPlan
import Derived.BigQuiet
namespace Go.Proofs.Ytjkefoijhphknaa
open Go.RowKit

/-- A world that is w, and perhaps more memory. -/
structure Later (w : World) where
  world : World
  below : Below w.heap.size w world
instance (w : World) : Nonempty (Later w) := ⟨⟨w, Below.refl _ _⟩⟩
def wx (w : World) (d : Later w) : World := d.world
theorem wx_below (w : World) (d : Later w) : Below w.heap.size w (wx w d) := d.below
theorem wx_cell (w : World) (d : Later w) (b o : Nat) (h : b < w.heap.size) : (wx w d).cell? ⟨b, o, none⟩ = w.cell? ⟨b, o, none⟩ := d.below.cell (p := ⟨b, o, none⟩) h
theorem wx_frozen (w : World) (d : Later w) (b o : Nat) (h : b < w.heap.size) : (wx w d).frozen? ⟨b, o, none⟩ = w.frozen? ⟨b, o, none⟩ := d.below.frozen (p := ⟨b, o, none⟩) h
theorem wx_block (w : World) (d : Later w) (b : Nat) (h : b < w.heap.size) : (wx w d).heap[b]? = w.heap[b]? := d.below.block b h

theorem calm_of {P : Program} {f : FuncId} {args : Array Value} {w : World} {d : Later w} {v : Value}
    (h : Calls P f args (wx w d) fun e w' => e = .returned v ∧ Below (wx w d).heap.size (wx w d) w') : Calls P f args (wx w d) fun e w'' => e = .returned v ∧ ∃ d', w'' = wx w d' :=
  h.mono fun _ w'' ⟨he, hb⟩ => ⟨he, ⟨w'', d.below.trans (hb.mono d.below.size)⟩, rfl⟩
theorem calm_same {P : Program} {f : FuncId} {args : Array Value} {w : World} {d : Later w} {v : Value}
    (h : Calls P f args (wx w d) fun e w' => e = .returned v ∧ wx w d = w') : Calls P f args (wx w d) fun e w'' => e = .returned v ∧ ∃ d', w'' = wx w d' :=
  h.mono fun _ _ ⟨he, hb⟩ => ⟨he, d, hb.symm⟩

theorem wp_region_calm {P : Program} {id : Nat} {Q : Exit → Act → World → Prop} {a : Act} {w : World} {l : List Oper} (hm : P.follows .mixedOrders = true) (hB : Region.lexB .any l.toArray = true)
    (h : wpQuiet P l.toArray (fun w' => ∃ d, w' = wx w d) (fun a' => ∀ w', (∃ d, w' = wx w d) → Q .normal a' w') l a) : (Code.region id l.toArray true).wp P Q a w :=
  wp_region_quiet (C := fun w' => ∃ d, w' = wx w d) hm hB ⟨⟨{ w with drawn := w.drawn + 1 }, (Below.refl _ w).drew⟩, rfl⟩ (by simpa using h)

section
variable {F : Fence} {n : Nat} {P : Program} {ops : Array Oper} {Q : Exit → Act → World → Prop}

def guardOk (ops : Array Oper) (m : Nat) (o : Oper) : Bool := match o.guard with
  | none => true
  | some (g, _) => decide (g < m) && (dstAt ops g).isSome && (o.after.any fun e => e.on == g && Region.binds .any e)
def opOkG (ops : Array Oper) (m i : Nat) (o : Oper) : Bool :=
  guardOk ops m o && (match o.op with | .select .. => false | .defer _ => false | _ => true) &&
  ((List.range m).all fun j => j == i || (dstAt ops j).isNone || dstAt ops j != dstAt ops i) &&
  (o.op.operands.all fun x => match x with
    | .tmp t => (List.range m).all fun j => dstAt ops j != some t || (o.after.any fun e => e.on == j && Region.binds .any e)
    | _ => true)
def planOkE (ops : Array Oper) (E : Nat → Bool) (m : Nat) : Bool :=
  decide (m ≤ ops.size) &&
  ((List.range m).all fun i => match ops[i]? with | none => false | some o => opOkG ops m i o) &&
  ((List.range ops.size).all fun i => match ops[i]? with | none => false | some o => o.after.all fun e => !Region.binds .any e || decide (e.on < i)) &&
  ((List.range ops.size).all fun i => decide (i < m) || (List.range i).all fun j => E j || reachB ops ops.size i j)
def planOkG (ops : Array Oper) (m : Nat) : Bool := planOkE ops (fun _ => false) m

structure PlanOkG (ops : Array Oper) (E : Nat → Bool) (m : Nat) : Prop where
  le : m ≤ ops.size
  op : ∀ i o, i < m → ops[i]? = some o → opOkG ops m i o = true
  back : ∀ i o, ops[i]? = some o → ∀ e ∈ o.after, Region.binds .any e = true → e.on < i
  forced : ∀ i, m ≤ i → i < ops.size → ∀ j, j < i → E j = true ∨ reachB ops ops.size i j = true
theorem planOkE_spec {E : Nat → Bool} {m : Nat} (h : planOkE ops E m = true) : PlanOkG ops E m := by
  unfold planOkE at h
  simp only [Bool.and_eq_true, decide_eq_true_eq, List.all_eq_true, List.mem_range] at h
  obtain ⟨⟨⟨h1, h2⟩, h3⟩, h4⟩ := h
  refine ⟨h1, fun i o hi ho => ?_, fun i o ho e he hb => ?_, fun i hm hi j hj => ?_⟩
  · have := h2 i hi
    rw [ho] at this
    exact this
  · have hi : i < ops.size := (Array.getElem?_eq_some_iff.1 ho).1
    have := h3 i hi
    rw [ho] at this
    have := Array.all_eq_true_iff_forall_mem.1 this e he
    simpa [hb] using this
  · have := h4 i hi
    simp only [Bool.or_eq_true, decide_eq_true_eq, List.all_eq_true, List.mem_range] at this
    rcases this with h | h
    · omega
    · exact h j hj
theorem planOkG_spec {m : Nat} (h : planOkG ops m = true) : PlanOkG ops (fun _ => false) m := planOkE_spec h

theorem putTo_size {σ : Nat → Value} {L : Nat → Bool} : ∀ (l : List Nat) (a : Act), (putTo ops σ L l a).tmps.size = a.tmps.size
  | [], _ => rfl
  | k :: l, a => by
    unfold putTo
    simp only [List.foldl_cons]
    have := putTo_size (σ := σ) (L := L) l (putIf (L k) (dstAt ops k) (σ k) a)
    unfold putTo at this
    rw [this]
    cases L k <;> cases dstAt ops k <;> simp [Act.put, putIf]

theorem yielded_congr {ops : Array Oper} {t1 t2 : Array Value} {g : Nat} (hs : t1.size = t2.size) (h : ∀ d, dstAt ops g = some d → t1.getD d undef = t2.getD d undef) : yielded ops t1 g = yielded ops t2 g := by
  have h' : ∀ d, dstAt ops g = some d → t1[d]? = t2[d]? := fun d hd => by
    have h1 := h d hd
    by_cases hlt : d < t1.size
    · have hlt2 : d < t2.size := Nat.lt_of_lt_of_eq hlt hs
      simp only [Array.getD, hlt, hlt2, dif_pos] at h1
      rw [Array.getElem?_eq_getElem hlt, Array.getElem?_eq_getElem hlt2]
      exact congrArg some h1
    · rw [Array.getElem?_eq_none (Nat.le_of_not_lt hlt), Array.getElem?_eq_none (Nat.le_of_not_lt (fun h => hlt (Nat.lt_of_lt_of_eq h hs.symm)))]
  unfold dstAt at h'
  unfold yielded
  cases hd : (ops[g]?).bind (·.dst) with
  | none => rfl
  | some d => simp only [Option.bind_some]; rw [h' d hd]

/-- What a plan asks of one operation. -/
def StepG (F : Fence) (n : Nat) (P : Program) (ops : Array Oper) (S : World → Prop) (o : Oper) (a : Act) (v : Value) (w : World) : Prop :=
  (∀ f, o.about P w a.eval = some f → F.fn f) ∧
  ((Region.wanted o (yielded ops a.tmps) = true ∧ Outs F n P (fun u w' => u = v ∧ S w') ((execOp a.eval o).run P w)) ∨ (Region.wanted o (yielded ops a.tmps) = false ∧ v = undef))

theorem plan_stepG {E : Nat → Bool} {m : Nat} (hok : PlanOkG ops E m) {σ : Nat → Value} {S : World → Prop} {a0 : Act}
    (hstep : ∀ i o, i < m → ops[i]? = some o → ∀ w, S w → StepG F n P ops S o (putTo ops σ (fun _ => true) (List.range m) a0) (σ i) w)
    (htail : ∀ w, S w → wpOpsIn F n P ops Q (List.range' m (ops.size - m)) (putTo ops σ (fun _ => true) (List.range m) a0) w)
    {listed : Array Bool} {a : Act} {w : World} {i : Nat} (hI : PlanInv F n P ops Q m σ S a0 listed a w) (hE : ∀ j, E j = true → LB listed j = true) (hi : i ∈ Region.ready .any ops listed) :
    wpOpIn F n P ops Q i (PlanInv F n P ops Q m σ S a0 (listed.setIfInBounds i true)) a w := by
  obtain ⟨hun, o, ho, hpre⟩ := mem_ready.1 hi
  obtain ⟨hcl, hsz, hI⟩ := hI
  have hlt : i < ops.size := (Array.getElem?_eq_some_iff.1 ho).1
  have hil : LB listed i = false := by
    unfold LB
    have h2 : i < listed.size := by omega
    simpa [h2] using hun
  have hset := LB_set (listed := listed) (i := i) (by omega)
  have hcl' : closedL ops (LB (listed.setIfInBounds i true)) := by
    rw [hset]
    intro k ok hk hok' e he hb
    simp only [Bool.or_eq_true, beq_iff_eq] at hk ⊢
    rcases hk with hk | rfl
    · exact .inl (hcl k ok hk hok' e he hb)
    · rw [ho] at hok'; cases hok'
      exact .inl (hpre e he hb)
  have hall : m ≤ i → ∀ j, j < i → LB listed j = true := fun hm j hj => by
    rcases hok.forced i hm hlt j hj with h | h
    · exact hE j h
    · exact closed_reach hcl ops.size i j (fun o' ho' e he hb => by rw [ho] at ho'; cases ho'; exact hpre e he hb) h
  rcases hI with ⟨⟨k, hk, hkl⟩, hrest, hS, ha⟩ | ⟨t, hmt, hts, ht1, ht2, hw⟩
  · have him : i < m := by
      rcases Nat.lt_or_ge i m with h | h
      · exact h
      · have := hall h k (by omega); rw [hkl] at this; cases this
    have hop := hok.op i o him ho
    unfold opOkG at hop
    simp only [Bool.and_eq_true] at hop
    obtain ⟨⟨⟨hg, hsel⟩, hdst⟩, hopd⟩ := hop
    have hselN : ∀ cs b, o.op ≠ .select cs b := fun cs b e => by rw [e] at hsel; simp at hsel
    have hdefN : ∀ c, o.op ≠ .defer c := fun c e => by rw [e] at hsel; simp at hsel
    have hdst' : ∀ j ∈ List.range m, j ≠ i → dstAt ops j = none ∨ dstAt ops j ≠ dstAt ops i := fun j hj hne => by
      have := List.all_eq_true.1 hdst j hj
      simp only [Bool.or_eq_true, beq_iff_eq, Option.isNone_iff_eq_none, bne_iff_ne] at this
      rcases this with (h | h) | h
      · exact absurd h hne
      · exact .inl h
      · exact .inr h
    have hev : ∀ x ∈ o.op.operands, a.eval x = (putTo ops σ (fun _ => true) (List.range m) a0).eval x := fun x hx => by
      rw [ha]
      cases x with
      | tmp t =>
        refine putTo_getD _ _ _ rfl rfl (fun j hj hd => ?_)
        have h1 := Array.all_eq_true_iff_forall_mem.1 hopd (.tmp t) hx
        have h2 := List.all_eq_true.1 h1 j hj
        simp only [hd, bne_self_eq_false, Bool.false_or, Array.any_eq_true', Bool.and_eq_true, beq_iff_eq] at h2
        obtain ⟨e, he, hej, hb⟩ := h2
        rw [← hej]
        exact hpre e he hb
      | const v => rfl
      | global g => rfl
      | func f => rfl
    have hwant : Region.wanted o (yielded ops a.tmps) = Region.wanted o (yielded ops (putTo ops σ (fun _ => true) (List.range m) a0).tmps) := by
      unfold Region.wanted
      unfold guardOk at hg
      cases hgd : o.guard with
      | none => rfl
      | some gp =>
        obtain ⟨g, b⟩ := gp
        rw [hgd] at hg
        simp only [Bool.and_eq_true, decide_eq_true_eq, Array.any_eq_true', beq_iff_eq] at hg
        obtain ⟨⟨hgm, _⟩, e, he, hej, hb⟩ := hg
        have hgl : LB listed g = true := by rw [← hej]; exact hpre e he hb
        dsimp only
        rw [yielded_congr (t1 := a.tmps) (t2 := (putTo ops σ (fun _ => true) (List.range m) a0).tmps) (by rw [ha, putTo_size, putTo_size]) (fun d hd => by
          rw [ha]
          refine putTo_getD _ _ _ rfl rfl (fun j hj hd2 => ?_)
          by_cases ejg : j = g
          · rw [ejg]; exact hgl
          · have hopg := List.mem_range.1 hj
            have hgo : g < ops.size := by have := hok.le; omega
            have h3 := hok.op g ops[g] hgm (Array.getElem?_eq_getElem hgo)
            unfold opOkG at h3
            simp only [Bool.and_eq_true] at h3
            have h4 := List.all_eq_true.1 h3.1.2 j hj
            simp only [Bool.or_eq_true, beq_iff_eq, Option.isNone_iff_eq_none, bne_iff_ne] at h4
            rcases h4 with (h4 | h4) | h4
            · exact absurd h4 ejg
            · rw [hd2] at h4; cases h4
            · exact absurd (hd2.trans hd.symm) h4)]
    have hs := hstep i o him ho w hS
    have hd : o.dst = dstAt ops i := by unfold dstAt; rw [ho]; rfl
    have ha' : a.put o.dst (σ i) = putTo ops σ (LB (listed.setIfInBounds i true)) (List.range m) a0 := by
      rw [hset, putTo_put hil _ _ List.nodup_range (List.mem_range.2 him) hdst', ha, hd]
    have hon : ∀ w', S w' → PlanInv F n P ops Q m σ S a0 (listed.setIfInBounds i true) (a.put o.dst (σ i)) w' := fun w' hS' => by
      refine ⟨hcl', by simpa using hsz, ?_⟩
      by_cases hmore : ∃ k, k < m ∧ LB (listed.setIfInBounds i true) k = false
      · refine .inl ⟨hmore, fun k hk => ?_, hS', ha'⟩
        rw [hset]
        have : ¬ k = i := by omega
        simp [hrest k hk, this]
      · have hfull : ∀ k, k < m → LB (listed.setIfInBounds i true) k = true := fun k hk => by
          cases h : LB (listed.setIfInBounds i true) k
          · exact absurd ⟨k, hk, h⟩ hmore
          · rfl
        refine .inr ⟨m, Nat.le_refl _, hok.le, hfull, fun k hk => ?_, ?_⟩
        · rw [hset]
          have : ¬ k = i := by omega
          simp [hrest k hk, this]
        · rw [ha']
          have : ∀ (l : List Nat) (a : Act), (∀ k ∈ l, k < m) → putTo ops σ (LB (listed.setIfInBounds i true)) l a = putTo ops σ (fun _ => true) l a := by
            intro l
            induction l with
            | nil => intro a _; rfl
            | cons k l ih =>
              intro a hk
              unfold putTo
              simp only [List.foldl_cons]
              rw [hfull k (hk k (by simp))]
              exact ih _ (fun j hj => hk j (by simp [hj]))
          rw [this _ _ (fun k hk => List.mem_range.1 hk)]
          exact htail w' hS'
    unfold Go.wpOpIn
    simp only [ho]
    obtain ⟨hab, hs⟩ := hs
    have hab' : ∀ f, o.about P w a.eval = some f → F.fn f := fun f hf => hab f (by rw [about_congr o w hev] at hf; exact hf)
    rcases hs with ⟨hw, hs⟩ | ⟨hw, hv⟩
    · rw [if_pos (by rw [hwant]; exact hw)]
      refine ⟨hab', ?_⟩
      rw [Oper.semAt_eq _ _ _ hdefN, execOp_congr o hselN hev]
      refine outs_upon hs ?_
      rintro v w' ⟨rfl, hS'⟩
      exact hon w' hS'
    · rw [if_neg (by rw [hwant, hw]; simp)]
      refine ⟨hab', ?_⟩
      rw [← hv]
      exact hon w hS
  · have hit : i = t := by
      rcases Nat.lt_trichotomy i t with h | h | h
      · rw [ht1 i h] at hil; cases hil
      · exact h
      · have := hall (by omega) t h; rw [ht2 t (Nat.le_refl _)] at this; cases this
    subst hit
    have hr : List.range' i (ops.size - i) = i :: List.range' (i + 1) (ops.size - (i + 1)) := by
      have : ops.size - i = (ops.size - (i + 1)) + 1 := by omega
      rw [this, List.range'_succ]
    rw [hr, wpOpsIn_cons] at hw
    refine wpOpIn_mono (fun a' w' h' => ?_) hw
    refine ⟨hcl', by simpa using hsz, .inr ⟨i + 1, by omega, by omega, fun k hk => ?_, fun k hk => ?_, h'⟩⟩
    · rw [hset]
      by_cases e : k = i
      · simp [e]
      · simp [ht1 k (by omega)]
    · rw [hset]
      have : ¬ k = i := by omega
      simp [ht2 k (by omega), this]

theorem plan_readyG {E : Nat → Bool} {m : Nat} (hok : PlanOkG ops E m) {σ : Nat → Value} {S : World → Prop} {a0 : Act} {listed : Array Bool} {a : Act} {w : World}
    (hI : PlanInv F n P ops Q m σ S a0 listed a w) (hr : Region.ready .any ops listed = []) : Q .normal a w := by
  obtain ⟨hcl, hsz, hI⟩ := hI
  have hno : ∀ k, k < ops.size → (∀ j, j < k → LB listed j = true) → LB listed k = true := fun k hk hpre => by
    cases h : LB listed k
    · have h2 : k < listed.size := by omega
      have h3 : listed.getD k true = false := by
        unfold LB at h
        simpa [h2] using h
      have : k ∈ Region.ready .any ops listed := mem_ready.2 ⟨h3, ops[k], Array.getElem?_eq_getElem hk, fun e he hb => hpre e.on (hok.back k _ (Array.getElem?_eq_getElem hk) e he hb)⟩
      rw [hr] at this
      cases this
    · rfl
  have hallT : ∀ k, k < ops.size → LB listed k = true := fun k => by
    induction k using Nat.strongRecOn with
    | _ k ih => exact fun hk => hno k hk fun j hj => ih j hj (by omega)
  rcases hI with ⟨⟨k, hk, hkl⟩, _⟩ | ⟨t, hmt, hts, ht1, ht2, hw⟩
  · have := hallT k (by have := hok.le; omega)
    rw [hkl] at this; cases this
  · have : t = ops.size := by
      rcases Nat.lt_or_ge t ops.size with h | h
      · have h1 := hallT t h
        rw [ht2 t (Nat.le_refl _)] at h1; cases h1
      · omega
    subst this
    simpa [wpOpsIn] using hw

theorem plan_anyG {E : Nat → Bool} {m : Nat} (hok : PlanOkG ops E m) {σ : Nat → Value} {S : World → Prop} {a0 : Act}
    (hstep : ∀ i o, i < m → ops[i]? = some o → ∀ w, S w → StepG F n P ops S o (putTo ops σ (fun _ => true) (List.range m) a0) (σ i) w)
    (htail : ∀ w, S w → wpOpsIn F n P ops Q (List.range' m (ops.size - m)) (putTo ops σ (fun _ => true) (List.range m) a0) w) :
    ∀ (fuel : Nat) (listed : Array Bool) (a : Act) (w : World), PlanInv F n P ops Q m σ S a0 listed a w → (∀ j, E j = true → LB listed j = true) → ((List.range ops.size).filter fun i => !LB listed i).length ≤ fuel → wpAnyIn F n P .any ops Q fuel listed a w
  | 0, listed, a, w, hI, _, hf => by
    have hr : Region.ready .any ops listed = [] := by
      rw [List.eq_nil_iff_forall_not_mem]
      intro j hj
      obtain ⟨hun, o, ho, _⟩ := mem_ready.1 hj
      have hlt : j < ops.size := (Array.getElem?_eq_some_iff.1 ho).1
      have h2 : j < listed.size := by have := hI.2.1; omega
      have : j ∈ (List.range ops.size).filter fun i => !LB listed i := by
        rw [List.mem_filter]
        refine ⟨List.mem_range.2 hlt, ?_⟩
        unfold LB
        simpa [h2] using hun
      have h3 := List.length_pos_of_mem this
      omega
    exact ⟨hr, plan_readyG hok hI hr⟩
  | fuel + 1, listed, a, w, hI, hE, hf => by
    refine ⟨plan_readyG hok hI, fun i hi => ?_⟩
    refine wpOpIn_mono (fun a' w' h' => plan_anyG hok hstep htail fuel _ a' w' h' (fun j hj => ?_) ?_) (plan_stepG hok hstep htail hI hE hi)
    · have hlt : i < ops.size := by obtain ⟨_, o, ho, _⟩ := mem_ready.1 hi; exact (Array.getElem?_eq_some_iff.1 ho).1
      rw [LB_set (by have := hI.2.1; omega)]
      show (LB listed j || j == i) = true
      rw [hE j hj]
      rfl
    obtain ⟨hun, o, ho, _⟩ := mem_ready.1 hi
    have hlt : i < ops.size := (Array.getElem?_eq_some_iff.1 ho).1
    have h2 : i < listed.size := by have := hI.2.1; omega
    have hil : LB listed i = false := by unfold LB; simpa [h2] using hun
    rw [LB_set h2]
    have hle0 : ∀ (l : List Nat), (l.filter fun j => !(LB listed j || j == i)).length ≤ (l.filter fun j => !LB listed j).length := by
      intro l
      induction l with
      | nil => simp
      | cons k l ih =>
        rw [List.filter_cons, List.filter_cons]
        cases hk : LB listed k <;> cases e : (k == i) <;> simp only [Bool.or_true, Bool.or_false, Bool.not_true, Bool.not_false, if_true, Bool.false_eq_true, if_false, List.length_cons] <;> omega
    have hle : ∀ (l : List Nat), i ∈ l → (l.filter fun j => !(LB listed j || j == i)).length < (l.filter fun j => !LB listed j).length := by
      intro l
      induction l with
      | nil => intro h; cases h
      | cons k l ih =>
        intro h
        rw [List.filter_cons, List.filter_cons]
        by_cases e : k = i
        · subst e
          have := hle0 l
          simp only [hil, beq_self_eq_true, Bool.or_true, Bool.not_true, Bool.not_false, if_true, Bool.false_eq_true, if_false, List.length_cons]
          omega
        · have hm : i ∈ l := by rcases List.mem_cons.1 h with h | h; exact absurd h.symm e; exact h
          have h1 := ih hm
          have e' : (k == i) = false := by simpa using e
          rw [e']
          cases LB listed k <;> simp only [Bool.or_false, Bool.not_true, Bool.not_false, if_true, Bool.false_eq_true, if_false, List.length_cons] <;> omega
    exact Nat.le_of_lt_succ (Nat.lt_of_lt_of_le (hle (List.range ops.size) (List.mem_range.2 hlt)) hf)

theorem wpIn_region_planG (hm : P.follows .mixedOrders = true) {id m : Nat} (hok : planOkG ops m = true) (hpos : 0 < m) (σ : Nat → Value) (S : World → Prop) (a0 : Act) (w0 : World)
    (hS : S { w0 with drawn := w0.drawn + 1 })
    (hstep : ∀ i o, i < m → ops[i]? = some o → ∀ w, S w → StepG F n P ops S o (putTo ops σ (fun _ => true) (List.range m) a0) (σ i) w)
    (htail : ∀ w, S w → wpOpsIn F n P ops Q (List.range' m (ops.size - m)) (putTo ops σ (fun _ => true) (List.range m) a0) w) :
    (Code.region id ops true).wpIn F n P Q a0 w0 := by
  have hok' := planOkG_spec hok
  have hL : ∀ i, LB (Array.replicate ops.size false) i = false := fun i => by
    unfold LB
    by_cases h : i < ops.size <;> simp [h]
  refine wpIn_region_any hm (plan_anyG hok' hstep htail ops.size _ a0 _ ⟨fun i o h => (by rw [hL i] at h; cases h), by simp, .inl ⟨⟨0, hpos, hL 0⟩, fun i _ => hL i, hS, ?_⟩⟩ (fun _ h => by cases h) ?_)
  · have : ∀ (l : List Nat) (a : Act), putTo ops σ (LB (Array.replicate ops.size false)) l a = a := by
      intro l
      induction l with
      | nil => intro a; rfl
      | cons k l ih =>
        intro a
        unfold putTo
        simp only [List.foldl_cons]
        rw [hL k]
        exact ih a
    exact (this _ _).symm
  · refine Nat.le_trans (List.length_filter_le _ _) (by simp)
/-- The same, where operation 0 hands on a slot, and is taken first. -/
theorem wpIn_region_plan0 (hro : F.round = none) (hm : P.follows .mixedOrders = true) {id m : Nat} (hok : planOkE ops (fun j => j == 0) m = true) (hpos : 1 < m) (hsel : Region.noSelect ops = true) (hfree : Region.free .any ops (Array.replicate ops.size false) 0 = true)
    (hrd : (Region.ready .any ops (Array.replicate ops.size false)).contains 0 = true) (o0 : Oper) (x0 : Operand) (h0 : ops[0]? = some o0) (hmv : o0.op = .move x0) (hgd : o0.guard = none)
    (σ : Nat → Value) (S : World → Prop) (a0 : Act) (w0 : World) (hσ : σ 0 = a0.eval x0) (hQ : ∀ c a w, Q (.panic c) (a.put o0.dst (a0.eval x0)) w → Q (.panic c) a w)
    (hS : S { w0 with drawn := w0.drawn + 1 })
    (hstep : ∀ i o, i < m → ops[i]? = some o → ∀ w, S w → StepG F n P ops S o (putTo ops σ (fun _ => true) (List.range m) a0) (σ i) w)
    (htail : ∀ w, S w → wpOpsIn F n P ops Q (List.range' m (ops.size - m)) (putTo ops σ (fun _ => true) (List.range m) a0) w) :
    (Code.region id ops true).wpIn F n P Q a0 w0 := by
  have hok' := planOkE_spec hok
  have hsz0 : 0 < ops.size := (Array.getElem?_eq_some_iff.1 h0).1
  have hL : ∀ i, LB (Array.replicate ops.size false) i = false := fun i => by
    unfold LB
    by_cases h : i < ops.size <;> simp [h]
  have hL1 : LB ((Array.replicate ops.size false).setIfInBounds 0 true) = fun j => LB (Array.replicate ops.size false) j || j == 0 := LB_set (by simpa using hsz0)
  have hy : YieldsFenced P ops o0 (a0.eval x0) a0 := by
    refine ⟨.inl ⟨by simp [Region.wanted, hgd], fun w => ?_⟩, fun w => ?_⟩
    · rw [BigFrame.run_move x0 hmv]
    · unfold Oper.about
      rw [hmv]
  have hfu : ops.size = (ops.size - 1) + 1 := by omega
  have hd0 : dstAt ops 0 = o0.dst := by unfold dstAt; rw [h0]; rfl
  refine wpIn_region_any hm ?_
  have key : wpAnyIn F n P .any ops Q (ops.size - 1) ((Array.replicate ops.size false).setIfInBounds 0 true) (a0.put o0.dst (a0.eval x0)) { w0 with drawn := w0.drawn + 1 } := by
    refine plan_anyG hok' hstep htail (ops.size - 1) _ _ _ ⟨?_, by simp, .inl ⟨⟨1, hpos, ?_⟩, fun i hi => ?_, hS, ?_⟩⟩ (fun j hj => ?_) ?_
    · intro i o hi ho e he hb
      rw [hL1] at hi
      simp only [hL i, Bool.false_or, beq_iff_eq] at hi
      subst hi
      have := hok'.back 0 o ho e he hb
      omega
    · rw [hL1]; simp [hL 1]
    · rw [hL1]
      have : ¬ i = 0 := by omega
      simp [hL i, this]
    · rw [← hd0, ← hσ, hL1]
      have hr : List.range m = 0 :: List.range' 1 (m - 1) := by
        rw [List.range_eq_range']
        have : m = (m - 1) + 1 := by omega
        rw [this, List.range'_succ]
        rfl
      rw [hr]
      have hrest : ∀ (l : List Nat) (a : Act), (∀ k ∈ l, k ≠ 0) → putTo ops σ (fun j => LB (Array.replicate ops.size false) j || j == 0) l a = a := by
        intro l
        induction l with
        | nil => intro a _; rfl
        | cons k l ih =>
          intro a hk
          unfold putTo
          simp only [List.foldl_cons]
          have hk0 : (LB (Array.replicate ops.size false) k || k == 0) = false := by
            have := hk k (by simp)
            simp [hL k, this]
          rw [hk0]
          exact ih a (fun j hj => hk j (by simp [hj]))
      unfold putTo
      simp only [List.foldl_cons]
      have e1 : (LB (Array.replicate ops.size false) 0 || (0 : Nat) == 0) = true := by simp
      rw [e1]
      have := hrest (List.range' 1 (m - 1)) (putIf true (dstAt ops 0) (σ 0) a0) (fun k hk => by have := List.mem_range'.1 hk; omega)
      unfold putTo at this
      rw [this]
      rfl
    · have : j = 0 := by simpa using hj
      subst this
      rw [hL1]
      simp
    · rw [hL1]
      have h1 : (List.range ops.size).filter (fun i => !(LB (Array.replicate ops.size false) i || i == 0)) = (List.range ops.size).filter (fun i => i != 0) := by
        congr 1
        funext i
        rw [hL i]
        rfl
      rw [h1]
      have h2 : ∀ k, ((List.range k).filter (fun i => i != 0)).length = k - 1 := by
        intro k
        induction k with
        | zero => rfl
        | succ k ih =>
          rw [List.range_succ, List.filter_append, List.length_append, ih]
          by_cases e : k = 0
          · subst e; rfl
          · have hk : (k != 0) = true := by simpa using e
            simp [hk]
            omega
      rw [h2]
      exact Nat.le_refl _
  have := wpAnyIn_take (F := F) (n := n) (P := P) (Q := Q) (fuel := ops.size - 1) hro h0 hsel hfree hrd hQ hy key
  rw [← hfu] at this
  exact this
end

/-- What the operations of a first part yield, one by one. -/
theorem quiet_values {P : Program} {ops : Array Oper} {C : World → Prop} {Q : Act → Prop} : ∀ (l : List Oper) (a : Act), wpQuiet P ops C Q l a →
    ∃ vs : List Value, vs.length = l.length ∧ Q ((l.zip vs).foldl (fun a p => a.put p.1.dst p.2) a) ∧
      ∀ i o v, l[i]? = some o → vs[i]? = some v → YieldsIn P ops C o v (((l.take i).zip vs).foldl (fun a p => a.put p.1.dst p.2) a)
  | [], a, h => ⟨[], rfl, h, fun i o v ho => by simp at ho⟩
  | o :: r, a, h => by
    have key : ∃ v, YieldsIn P ops C o v a ∧ wpQuiet P ops C Q r (a.put o.dst v) := by
      unfold wpQuiet at h
      by_cases hw : Region.wanted o (yielded ops a.tmps) = true
      · rw [if_pos hw] at h
        obtain ⟨v, h1, h2⟩ := h
        exact ⟨v, .inl ⟨hw, h1⟩, h2⟩
      · rw [if_neg hw] at h
        exact ⟨undef, .inr ⟨by simpa using hw, rfl⟩, h⟩
    obtain ⟨v, hy, h⟩ := key
    obtain ⟨vs, hl, hK, hv⟩ := quiet_values r (a.put o.dst v) h
    refine ⟨v :: vs, by simp [hl], by simpa using hK, fun i o' v' ho hv' => ?_⟩
    cases i with
    | zero =>
      simp only [List.getElem?_cons_zero, Option.some.injEq] at ho hv'
      subst ho; subst hv'
      simpa using hy
    | succ i =>
      simp only [List.getElem?_cons_succ] at ho hv'
      simpa using hv i o' v' ho hv'

/-- The values of a first part, and what is left of the walk. -/
theorem class_tail_core {P : Program} {Q : Exit → Act → World → Prop} {a0 : Act} {w : World} {l : List Oper} (C : World → Prop) (_ : C { w with drawn := w.drawn + 1 }) (E : Nat → Bool) (m : Nat) (hok' : PlanOkG l.toArray E m)
    (h : wpQuiet P l.toArray C (fun a' => ∀ w', C w' → wpListIn Fence.wide 3 P l.toArray Q (l.drop m) a' w') (l.take m) a0) :
    ∃ σ : Nat → Value, (∀ i o, i < m → l.toArray[i]? = some o → ∀ w, C w → StepG Fence.wide 3 P l.toArray C o (putTo l.toArray σ (fun _ => true) (List.range m) a0) (σ i) w) ∧
      (∀ w, C w → wpOpsIn Fence.wide 3 P l.toArray Q (List.range' m (l.toArray.size - m)) (putTo l.toArray σ (fun _ => true) (List.range m) a0) w) ∧
      (0 < m → ∀ o0, l.toArray[0]? = some o0 → YieldsIn P l.toArray C o0 (σ 0) a0) := by
  obtain ⟨vs, hl, hK, hv⟩ := quiet_values _ _ h
  have hlm : (l.take m).length = m := by have := hok'.le; simp at this ⊢; omega
  have hvl : vs.length = m := by rw [hl, hlm]
  have hmle : m ≤ l.toArray.size := hok'.le
  have hσ : ∀ i v, vs[i]? = some v → vs.getD i undef = v := fun i v h => by simp [h]
  have hA : putTo l.toArray (fun i => vs.getD i undef) (fun _ => true) (List.range m) a0 = ((l.take m).zip vs).foldl (fun a p => a.put p.1.dst p.2) a0 := by
    rw [List.range_eq_range', putTo_zip vs hσ 0 m a0 (by omega) (by omega)]
    simp
  refine ⟨fun i => vs.getD i undef, ?_, ?_, ?_⟩
  · intro i o hi ho w' hS
    have ho' : (l.take m)[i]? = some o := by rw [List.getElem?_take_of_lt hi]; simpa using ho
    have hv' : vs[i]? = some (vs.getD i undef) := by
      have : i < vs.length := by omega
      simp [this]
    have hy := hv i o _ ho' hv'
    have hop := hok'.op i o hi ho
    unfold opOkG at hop
    simp only [Bool.and_eq_true] at hop
    obtain ⟨⟨⟨hg, hsel⟩, hdst⟩, hopd⟩ := hop
    have hselN : ∀ cs b, o.op ≠ .select cs b := fun cs b e => by rw [e] at hsel; simp at hsel
    have h1 : (((l.take m).take i).zip vs).foldl (fun a p => a.put p.1.dst p.2) a0 = putTo l.toArray (fun i => vs.getD i undef) (fun j => decide (j < i)) (List.range m) a0 := by
      have h2 : putTo l.toArray (fun i => vs.getD i undef) (fun _ => true) (List.range i) a0 = (((l.take m).take i).zip vs).foldl (fun a p => a.put p.1.dst p.2) a0 := by
        rw [List.range_eq_range', putTo_zip vs hσ 0 i a0 (by omega) (by omega)]
        simp [List.take_take, Nat.min_eq_left (Nat.le_of_lt hi)]
      rw [← h2]
      have h3 : ∀ (l' : List Nat) (a : Act), (∀ j ∈ l', j < i) → putTo l.toArray (fun i => vs.getD i undef) (fun _ => true) l' a = putTo l.toArray (fun i => vs.getD i undef) (fun j => decide (j < i)) l' a := by
        intro l'
        induction l' with
        | nil => intro a _; rfl
        | cons k l' ih =>
          intro a hk
          unfold putTo
          simp only [List.foldl_cons]
          have : decide (k < i) = true := by simpa using hk k (by simp)
          rw [this]
          exact ih _ (fun j hj => hk j (by simp [hj]))
      have h4 : ∀ (l' : List Nat) (a : Act), (∀ j ∈ l', i ≤ j) → putTo l.toArray (fun i => vs.getD i undef) (fun j => decide (j < i)) l' a = a := by
        intro l'
        induction l' with
        | nil => intro a _; rfl
        | cons k l' ih =>
          intro a hk
          unfold putTo
          simp only [List.foldl_cons]
          have : decide (k < i) = false := by simpa using hk k (by simp)
          rw [this]
          exact ih _ (fun j hj => hk j (by simp [hj]))
      have h5 : List.range m = List.range i ++ List.range' i (m - i) := by
        rw [List.range_eq_range', List.range_eq_range']
        have h7 := List.range'_append_1 (s := 0) (m := i) (n := m - i)
        rw [Nat.zero_add, Nat.add_sub_cancel' (Nat.le_of_lt hi)] at h7
        exact h7.symm
      have h6 : ∀ (l1 l2 : List Nat) (a : Act) (L : Nat → Bool), putTo l.toArray (fun i => vs.getD i undef) L (l1 ++ l2) a = putTo l.toArray (fun i => vs.getD i undef) L l2 (putTo l.toArray (fun i => vs.getD i undef) L l1 a) := by
        intro l1 l2 a L
        unfold putTo
        rw [List.foldl_append]
      rw [h5, h6, ← h3 _ _ (fun j hj => List.mem_range.1 hj), h4 _ _ (fun j hj => by have := List.mem_range'.1 hj; omega)]
    have hev : ∀ x ∈ o.op.operands, ((putTo l.toArray (fun i => vs.getD i undef) (fun j => decide (j < i)) (List.range m) a0).eval x) = ((putTo l.toArray (fun i => vs.getD i undef) (fun _ => true) (List.range m) a0).eval x) := fun x hx => by
      cases x with
      | tmp t =>
        refine putTo_getD _ _ _ rfl rfl (fun j hj hd => ?_)
        have h1 := Array.all_eq_true_iff_forall_mem.1 hopd (.tmp t) hx
        have h2 := List.all_eq_true.1 h1 j hj
        simp only [hd, bne_self_eq_false, Bool.false_or, Array.any_eq_true', Bool.and_eq_true, beq_iff_eq] at h2
        obtain ⟨e, he, hej, hb⟩ := h2
        have := hok'.back i o ho e he hb
        rw [← hej]
        simpa using this
      | const v => rfl
      | global g => rfl
      | func f => rfl
    have hwant : Region.wanted o (yielded l.toArray (putTo l.toArray (fun i => vs.getD i undef) (fun j => decide (j < i)) (List.range m) a0).tmps) = Region.wanted o (yielded l.toArray (putTo l.toArray (fun i => vs.getD i undef) (fun _ => true) (List.range m) a0).tmps) := by
      unfold Region.wanted
      unfold guardOk at hg
      cases hgd : o.guard with
      | none => rfl
      | some gp =>
        obtain ⟨g, b⟩ := gp
        rw [hgd] at hg
        simp only [Bool.and_eq_true, decide_eq_true_eq, Array.any_eq_true', beq_iff_eq] at hg
        obtain ⟨⟨hgm, _⟩, e, he, hej, hb⟩ := hg
        have hgi := hok'.back i o ho e he hb
        rw [hej] at hgi
        dsimp only
        rw [yielded_congr (t1 := (putTo l.toArray (fun i => vs.getD i undef) (fun j => decide (j < i)) (List.range m) a0).tmps) (t2 := (putTo l.toArray (fun i => vs.getD i undef) (fun _ => true) (List.range m) a0).tmps) (by rw [putTo_size, putTo_size]) (fun d hd => ?_)]
        refine putTo_getD _ _ _ rfl rfl (fun j hj hd2 => ?_)
        by_cases ejg : j = g
        · rw [ejg]; simpa using hgi
        · have hgo : g < l.toArray.size := by omega
          have h3 := hok'.op g l.toArray[g] hgm (Array.getElem?_eq_getElem hgo)
          unfold opOkG at h3
          simp only [Bool.and_eq_true] at h3
          have h4 := List.all_eq_true.1 h3.1.2 j hj
          simp only [Bool.or_eq_true, beq_iff_eq, Option.isNone_iff_eq_none, bne_iff_ne] at h4
          rcases h4 with (h4 | h4) | h4
          · exact absurd h4 ejg
          · rw [hd2] at h4; cases h4
          · exact absurd (hd2.trans hd.symm) h4
    rw [h1] at hy
    refine ⟨fun _ _ => trivial, ?_⟩
    unfold YieldsIn Oper.quietAt at hy
    rw [hwant, execOp_congr o hselN hev] at hy
    rcases hy with ⟨hw, hy⟩ | ⟨hw, hy⟩
    · refine .inl ⟨hw, ?_⟩
      have h8 := hy w' hS
      generalize (execOp (putTo l.toArray (fun i => vs.getD i undef) (fun _ => true) (List.range m) a0).eval o).run P w' = r at h8 ⊢
      unfold Oper.quietUpon at h8
      unfold Outs
      split at h8
      · obtain ⟨rfl, rfl⟩ := h8
        exact ⟨rfl, hS⟩
      · obtain ⟨rfl, h9⟩ := h8
        exact ⟨h9.symm, hS⟩
      · obtain ⟨rfl, h9⟩ := h8
        refine ⟨by simp, callsIn_wide.2 (h9.mono ?_)⟩
        rintro e w'' ⟨rfl, hS'⟩
        exact ⟨_, rfl, rfl, hS'⟩
      · exact h8.elim
    · exact .inr ⟨hw, hy⟩
  · intro w' hS
    have h10 : l.toArray.size - m = (l.drop m).length := by simp
    rw [h10, wpOpsIn_eq_wpListIn (l.drop m) m (fun j => by simp), hA]
    exact hK w' hS
  · intro hm0 o0 h0
    have h0' : (l.take m)[0]? = some o0 := by rw [List.getElem?_take_of_lt hm0]; simpa using h0
    have hv0 : vs[0]? = some (vs.getD 0 undef) := by
      have : 0 < vs.length := by omega
      simp [this]
    have := hv 0 o0 _ h0' hv0
    simpa using this

/-- THE PLAN: a first part of m operations that read, or call what only makes memory; then a tail in the text's order. -/
theorem wp_region_class_tail {P : Program} {id : Nat} {Q : Exit → Act → World → Prop} {a0 : Act} {w : World} {l : List Oper} (C : World → Prop) (hC : C { w with drawn := w.drawn + 1 }) (m : Nat) (hm : P.follows .mixedOrders = true) (hok : planOkG l.toArray m = true) (hpos : 0 < m)
    (h : wpQuiet P l.toArray C (fun a' => ∀ w', C w' → wpListIn Fence.wide 3 P l.toArray Q (l.drop m) a' w') (l.take m) a0) : (Code.region id l.toArray true).wp P Q a0 w := by
  refine (wpIn_wide (n := 3)).1 ?_
  obtain ⟨σ, h1, h2, _⟩ := class_tail_core C hC _ m (planOkG_spec hok) h
  exact wpIn_region_planG hm hok hpos σ C a0 w hC h1 h2

/-- The same where operation 0 hands on a slot that the tail may read first. -/
theorem wp_region_class_tail0 {P : Program} {id : Nat} {Q : Exit → Act → World → Prop} {a0 : Act} {w : World} {l : List Oper} (C : World → Prop) (hC : C { w with drawn := w.drawn + 1 }) (m : Nat) (hm : P.follows .mixedOrders = true) (hok : planOkE l.toArray (fun j => j == 0) m = true) (hpos : 1 < m)
    (hsel : Region.noSelect l.toArray = true) (hfree : Region.free .any l.toArray (Array.replicate l.toArray.size false) 0 = true) (hrd : (Region.ready .any l.toArray (Array.replicate l.toArray.size false)).contains 0 = true)
    (o0 : Oper) (x0 : Operand) (h0 : l.toArray[0]? = some o0) (hmv : o0.op = .move x0) (hgd : o0.guard = none) (hQ : ∀ c a w, Q (.panic c) (a.put o0.dst (a0.eval x0)) w → Q (.panic c) a w)
    (h : wpQuiet P l.toArray C (fun a' => ∀ w', C w' → wpListIn Fence.wide 3 P l.toArray Q (l.drop m) a' w') (l.take m) a0) : (Code.region id l.toArray true).wp P Q a0 w := by
  refine (wpIn_wide (n := 3)).1 ?_
  obtain ⟨σ, h1, h2, h3⟩ := class_tail_core C hC _ m (planOkE_spec hok) h
  refine wpIn_region_plan0 rfl hm hok hpos hsel hfree hrd o0 x0 h0 hmv hgd σ C a0 w ?_ hQ hC h1 h2
  rcases h3 (by omega) o0 h0 with ⟨_, h4⟩ | ⟨h4, _⟩
  · have h5 := h4 _ hC
    unfold Oper.quietAt at h5
    rw [BigFrame.run_move x0 hmv] at h5
    exact h5.2.symm
  · simp [Region.wanted, hgd] at h4

theorem wp_region_calm_tail {P : Program} {id : Nat} {Q : Exit → Act → World → Prop} {a0 : Act} {w : World} {l : List Oper} (m : Nat) (hm : P.follows .mixedOrders = true) (hok : planOkG l.toArray m = true) (hpos : 0 < m)
    (h : wpQuiet P l.toArray (fun w' => ∃ d, w' = wx w d) (fun a' => ∀ w', (∃ d, w' = wx w d) → wpListIn Fence.wide 3 P l.toArray Q (l.drop m) a' w') (l.take m) a0) : (Code.region id l.toArray true).wp P Q a0 w :=
  wp_region_class_tail _ ⟨⟨{ w with drawn := w.drawn + 1 }, (Below.refl _ w).drew⟩, rfl⟩ m hm hok hpos h
/-- The same where nothing is called: the world is w after some draws. -/
theorem wp_region_draw_tail {P : Program} {id : Nat} {Q : Exit → Act → World → Prop} {a0 : Act} {w : World} {l : List Oper} (m : Nat) (hm : P.follows .mixedOrders = true) (hok : planOkG l.toArray m = true) (hpos : 0 < m)
    (h : wpQuiet P l.toArray (fun w' => ∃ n, w' = w.drewN n) (fun a' => ∀ w', (∃ n, w' = w.drewN n) → wpListIn Fence.wide 3 P l.toArray Q (l.drop m) a' w') (l.take m) a0) : (Code.region id l.toArray true).wp P Q a0 w :=
  wp_region_class_tail _ ⟨1, rfl⟩ m hm hok hpos h

theorem wp_region_draw_tail0 {P : Program} {id : Nat} {Q : Exit → Act → World → Prop} {a0 : Act} {w : World} {l : List Oper} (m : Nat) (hm : P.follows .mixedOrders = true) (hok : planOkE l.toArray (fun j => j == 0) m = true) (hpos : 1 < m)
    (hsel : Region.noSelect l.toArray = true) (hfree : Region.free .any l.toArray (Array.replicate l.toArray.size false) 0 = true) (hrd : (Region.ready .any l.toArray (Array.replicate l.toArray.size false)).contains 0 = true)
    (o0 : Oper) (x0 : Operand) (h0 : l.toArray[0]? = some o0) (hmv : o0.op = .move x0) (hgd : o0.guard = none) (hQ : ∀ c a w, Q (.panic c) (a.put o0.dst (a0.eval x0)) w → Q (.panic c) a w)
    (h : wpQuiet P l.toArray (fun w' => ∃ n, w' = w.drewN n) (fun a' => ∀ w', (∃ n, w' = w.drewN n) → wpListIn Fence.wide 3 P l.toArray Q (l.drop m) a' w') (l.take m) a0) : (Code.region id l.toArray true).wp P Q a0 w :=
  wp_region_class_tail0 _ ⟨1, rfl⟩ m hm hok hpos hsel hfree hrd o0 x0 h0 hmv hgd hQ h
theorem wp_region_calm_tail0 {P : Program} {id : Nat} {Q : Exit → Act → World → Prop} {a0 : Act} {w : World} {l : List Oper} (m : Nat) (hm : P.follows .mixedOrders = true) (hok : planOkE l.toArray (fun j => j == 0) m = true) (hpos : 1 < m)
    (hsel : Region.noSelect l.toArray = true) (hfree : Region.free .any l.toArray (Array.replicate l.toArray.size false) 0 = true) (hrd : (Region.ready .any l.toArray (Array.replicate l.toArray.size false)).contains 0 = true)
    (o0 : Oper) (x0 : Operand) (h0 : l.toArray[0]? = some o0) (hmv : o0.op = .move x0) (hgd : o0.guard = none) (hQ : ∀ c a w, Q (.panic c) (a.put o0.dst (a0.eval x0)) w → Q (.panic c) a w)
    (h : wpQuiet P l.toArray (fun w' => ∃ d, w' = wx w d) (fun a' => ∀ w', (∃ d, w' = wx w d) → wpListIn Fence.wide 3 P l.toArray Q (l.drop m) a' w') (l.take m) a0) : (Code.region id l.toArray true).wp P Q a0 w :=
  wp_region_class_tail0 _ ⟨⟨{ w with drawn := w.drawn + 1 }, (Below.refl _ w).drew⟩, rfl⟩ m hm hok hpos hsel hfree hrd o0 x0 h0 hmv hgd hQ h

end Go.Proofs.Ytjkefoijhphknaa
