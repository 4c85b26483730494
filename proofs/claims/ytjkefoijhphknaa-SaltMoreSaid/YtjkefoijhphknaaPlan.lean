/- A region that draws its order: if each operation of its first part yields a fixed value in every world that meets S, and leaves a world that meets S, then the order of the first part does not matter; the rest comes in the text's order. No condition. -/
import Derived.OrdersIn
import Derived.ControlIn
import Derived.Laws.World
import Derived.TacticsIn
namespace Go.Proofs.Ytjkefoijhphknaa

section
variable {F : Fence} {n : Nat} {P : Program} {ops : Array Oper} {Q : Exit → Act → World → Prop}

/-- Where an operation's run comes to. -/
def Outs (F : Fence) (n : Nat) (P : Program) (R : Value → World → Prop) : Result Next → Prop
  | .ok (.value v) w' => R v w'
  | .ok .skip w' => R undef w'
  | .ok (.enter f args) w' => (F.depth.isSome = true → 1 ≤ n) ∧ CallsIn F (n - 1) P f args w' fun e w'' => ∃ v, e = .returned v ∧ R v w''
  | _ => False

theorem outs_value (R : Value → World → Prop) (v : Value) (w : World) : Outs F n P R (.ok (.value v) w) = R v w := rfl
theorem outs_enter (R : Value → World → Prop) (f : FuncId) (args : Array Value) (w : World) : Outs F n P R (.ok (.enter f args) w) = ((F.depth.isSome = true → 1 ≤ n) ∧ CallsIn F (n - 1) P f args w fun e w'' => ∃ v, e = .returned v ∧ R v w'') := rfl

theorem outs_upon {o : Oper} {a : Act} {R : Value → World → Prop} {K : Act → World → Prop} {r : Result Next} (h : Outs F n P R r) (hK : ∀ v w, R v w → K (a.put o.dst v) w) : o.uponIn F n P a K Q r := by
  unfold Outs at h
  split at h
  · exact hK _ _ h
  · exact hK _ _ h
  · refine ⟨h.1, h.2.mono ?_⟩
    rintro e w'' ⟨v, rfl, hv⟩
    exact hK _ _ hv
  · exact h.elim

def dstAt (ops : Array Oper) (i : Nat) : Option Tmp := (ops[i]?).bind (·.dst)
def putIf (b : Bool) (d : Option Tmp) (v : Value) (a : Act) : Act := match b with | true => a.put d v | false => a
def putTo (ops : Array Oper) (σ : Nat → Value) (L : Nat → Bool) (l : List Nat) (a : Act) : Act := l.foldl (fun a i => putIf (L i) (dstAt ops i) (σ i) a) a

def reachB (ops : Array Oper) : Nat → Nat → Nat → Bool
  | 0, _, _ => false
  | f + 1, i, j => match ops[i]? with
    | none => false
    | some o => o.after.any fun e => Region.binds .any e && (e.on == j || reachB ops f e.on j)

def opOk (ops : Array Oper) (m i : Nat) (o : Oper) : Bool :=
  o.guard.isNone && (match o.op with | .select .. => false | .defer _ => false | _ => true) &&
  ((List.range m).all fun j => j == i || (dstAt ops j).isNone || dstAt ops j != dstAt ops i) &&
  (o.op.operands.all fun x => match x with
    | .tmp t => (List.range m).all fun j => dstAt ops j != some t || (o.after.any fun e => e.on == j && Region.binds .any e)
    | _ => true)
def planOk (ops : Array Oper) (m : Nat) : Bool :=
  decide (m ≤ ops.size) &&
  ((List.range m).all fun i => match ops[i]? with | none => false | some o => opOk ops m i o) &&
  ((List.range ops.size).all fun i => match ops[i]? with | none => false | some o => o.after.all fun e => !Region.binds .any e || decide (e.on < i)) &&
  ((List.range ops.size).all fun i => decide (i < m) || (List.range i).all fun j => reachB ops ops.size i j)

theorem Act.put_none (a : Act) (v : Value) : a.put none v = a := rfl

theorem putTo_put {σ : Nat → Value} {L : Nat → Bool} {i : Nat} (hL : L i = false) : ∀ (l : List Nat) (a : Act), l.Nodup → i ∈ l → (∀ j ∈ l, j ≠ i → dstAt ops j = none ∨ dstAt ops j ≠ dstAt ops i) →
    putTo ops σ (fun j => L j || j == i) l a = (putTo ops σ L l a).put (dstAt ops i) (σ i)
  | [], _, _, hi, _ => by cases hi
  | k :: l, a, hn, hi, hd => by
    have hcomm : ∀ (l : List Nat) (a : Act), i ∉ l → (∀ j ∈ l, dstAt ops j = none ∨ dstAt ops j ≠ dstAt ops i) →
        putTo ops σ (fun j => L j || j == i) l (a.put (dstAt ops i) (σ i)) = (putTo ops σ L l a).put (dstAt ops i) (σ i) := by
      intro l
      induction l with
      | nil => intro a _ _; rfl
      | cons k l ih =>
        intro a hi hd
        have hk : k ≠ i := fun e => hi (by simp [e])
        unfold putTo
        simp only [List.foldl_cons]
        have hLk : (L k || k == i) = L k := by simp [hk]
        rw [hLk]
        have hc : putIf (L k) (dstAt ops k) (σ k) (a.put (dstAt ops i) (σ i)) = (putIf (L k) (dstAt ops k) (σ k) a).put (dstAt ops i) (σ i) := by
          cases L k
          · rfl
          · show (a.put (dstAt ops i) (σ i)).put (dstAt ops k) (σ k) = (a.put (dstAt ops k) (σ k)).put (dstAt ops i) (σ i)
            rcases hd k (by simp) with h | h
            · rw [h]; rfl
            · exact Act.put_comm a _ _ (fun d hx hy => h (hy.trans hx.symm))
        rw [hc]
        exact ih _ (fun h => hi (by simp [h])) (fun j hj => hd j (by simp [hj]))
    rw [List.nodup_cons] at hn
    by_cases hk : k = i
    · subst hk
      unfold putTo
      simp only [List.foldl_cons]
      have h1 : (L k || k == k) = true := by simp
      rw [h1, hL]
      exact hcomm l a hn.1 (fun j hj => hd j (by simp [hj]) (fun e => hn.1 (e ▸ hj)))
    · unfold putTo
      simp only [List.foldl_cons]
      have hLk : (L k || k == i) = L k := by simp [hk]
      rw [hLk]
      exact putTo_put hL l _ hn.2 (by rcases List.mem_cons.1 hi with h | h; exact absurd h.symm hk; exact h) (fun j hj => hd j (by simp [hj]))

theorem putTo_getD {σ : Nat → Value} {t : Tmp} {L : Nat → Bool} : ∀ (l : List Nat) (a a' : Act), a.tmps.size = a'.tmps.size → (a.tmps.getD t undef = a'.tmps.getD t undef) → (∀ j ∈ l, dstAt ops j = some t → L j = true) →
    (putTo ops σ L l a).tmps.getD t undef = (putTo ops σ (fun _ => true) l a').tmps.getD t undef
  | [], _, _, _, h, _ => h
  | k :: l, a, a', hs, h, hd => by
    unfold putTo
    simp only [List.foldl_cons]
    have hsz : ∀ (b : Bool) (a : Act) (d : Option Tmp) (v : Value), (putIf b d v a).tmps.size = a.tmps.size := fun b a d v => by cases b <;> cases d <;> simp [Act.put, putIf]
    have hget : ∀ (a : Act) (d : Option Tmp) (v : Value), (putIf true d v a).tmps.getD t undef = if d = some t ∧ t < a.tmps.size then v else a.tmps.getD t undef := fun a d v => by
      cases d with
      | none => simp [Act.put, putIf]
      | some d =>
        simp only [Act.put, putIf, Option.some.injEq]
        by_cases e : d = t
        · subst e
          by_cases hlt : d < a.tmps.size
          · simp [hlt]
          · simp [hlt]
        · simp [e]
    refine putTo_getD l _ _ (by rw [hsz, hsz, hs]) ?_ (fun j hj => hd j (by simp [hj]))
    by_cases hl : L k = true
    · rw [hl, hget, hget, hs]
      split
      · rfl
      · exact h
    · have hl' : L k = false := by simpa using hl
      rw [hl', hget]
      have : dstAt ops k ≠ some t := fun e => hl (hd k (by simp) e)
      rw [if_neg (fun e => this e.1)]
      exact h

def closedL (ops : Array Oper) (L : Nat → Bool) : Prop := ∀ i o, L i = true → ops[i]? = some o → ∀ e ∈ o.after, Region.binds .any e = true → L e.on = true
theorem closed_reach {L : Nat → Bool} (hc : closedL ops L) : ∀ (f i j : Nat), (∀ o, ops[i]? = some o → ∀ e ∈ o.after, Region.binds .any e = true → L e.on = true) → reachB ops f i j = true → L j = true
  | 0, _, _, _, h => by simp [reachB] at h
  | f + 1, i, j, hi, h => by
    unfold reachB at h
    cases ho : ops[i]? with
    | none => rw [ho] at h; cases h
    | some o =>
      rw [ho] at h
      simp only [Array.any_eq_true', Bool.and_eq_true, Bool.or_eq_true, beq_iff_eq] at h
      obtain ⟨e, he, hb, h⟩ := h
      have hl := hi o ho e he hb
      rcases h with h | h
      · rw [← h]; exact hl
      · exact closed_reach hc f e.on j (fun o' ho' e' he' hb' => hc e.on o' hl ho' e' he' hb') h

def LB (listed : Array Bool) (i : Nat) : Bool := listed.getD i false
theorem LB_set {listed : Array Bool} {i : Nat} (hi : i < listed.size) : LB (listed.setIfInBounds i true) = fun j => LB listed j || j == i := by
  funext j
  unfold LB
  by_cases e : j = i
  · subst e; simp [hi]
  · have : ¬ i = j := fun h => e h.symm
    simp [e, this]

/-- How it stands while the region is under way. -/
def PlanInv (F : Fence) (n : Nat) (P : Program) (ops : Array Oper) (Q : Exit → Act → World → Prop) (m : Nat) (σ : Nat → Value) (S : World → Prop) (a0 : Act) (listed : Array Bool) (a : Act) (w : World) : Prop :=
  closedL ops (LB listed) ∧ listed.size = ops.size ∧
  (((∃ i, i < m ∧ LB listed i = false) ∧ (∀ i, m ≤ i → LB listed i = false) ∧ S w ∧ a = putTo ops σ (LB listed) (List.range m) a0) ∨
   ∃ t, m ≤ t ∧ t ≤ ops.size ∧ (∀ i, i < t → LB listed i = true) ∧ (∀ i, t ≤ i → LB listed i = false) ∧ wpOpsIn F n P ops Q (List.range' t (ops.size - t)) a w)

structure PlanOk (ops : Array Oper) (m : Nat) : Prop where
  le : m ≤ ops.size
  op : ∀ i o, i < m → ops[i]? = some o → opOk ops m i o = true
  back : ∀ i o, ops[i]? = some o → ∀ e ∈ o.after, Region.binds .any e = true → e.on < i
  forced : ∀ i, m ≤ i → i < ops.size → ∀ j, j < i → reachB ops ops.size i j = true
theorem planOk_spec {m : Nat} (h : planOk ops m = true) : PlanOk ops m := by
  unfold planOk at h
  simp only [Bool.and_eq_true, decide_eq_true_eq, List.all_eq_true, List.mem_range] at h
  obtain ⟨⟨⟨h1, h2⟩, h3⟩, h4⟩ := h
  refine ⟨h1, fun i o hi ho => ?_, fun i o ho e he hb => ?_, fun i hm hi j hj => ?_⟩
  · have := h2 i hi
    rw [ho] at this
    exact this
  · have hi : i < ops.size := (Array.getElem?_eq_some_iff.1 ho).1
    have := h3 i hi
    rw [ho] at this
    have := Array.all_eq_true_iff_forall_mem.1 this e he
    simpa [hb] using this
  · have := h4 i hi
    simp only [Bool.or_eq_true, decide_eq_true_eq, List.all_eq_true, List.mem_range] at this
    rcases this with h | h
    · omega
    · exact h j hj

theorem plan_step {m : Nat} (hok : PlanOk ops m) {σ : Nat → Value} {S : World → Prop} {a0 : Act}
    (hstep : ∀ i o, i < m → ops[i]? = some o → ∀ w, S w → (∀ f, o.about P w (putTo ops σ (fun _ => true) (List.range m) a0).eval = some f → F.fn f) ∧
      Outs F n P (fun v w' => v = σ i ∧ S w') ((execOp (putTo ops σ (fun _ => true) (List.range m) a0).eval o).run P w))
    (htail : ∀ w, S w → wpOpsIn F n P ops Q (List.range' m (ops.size - m)) (putTo ops σ (fun _ => true) (List.range m) a0) w)
    {listed : Array Bool} {a : Act} {w : World} {i : Nat} (hI : PlanInv F n P ops Q m σ S a0 listed a w) (hi : i ∈ Region.ready .any ops listed) :
    wpOpIn F n P ops Q i (PlanInv F n P ops Q m σ S a0 (listed.setIfInBounds i true)) a w := by
  obtain ⟨hun, o, ho, hpre⟩ := mem_ready.1 hi
  obtain ⟨hcl, hsz, hI⟩ := hI
  have hlt : i < ops.size := (Array.getElem?_eq_some_iff.1 ho).1
  have hil : LB listed i = false := by
    unfold LB
    have h2 : i < listed.size := by omega
    simpa [h2] using hun
  have hset := LB_set (listed := listed) (i := i) (by omega)
  have hcl' : closedL ops (LB (listed.setIfInBounds i true)) := by
    rw [hset]
    intro k ok hk hok' e he hb
    simp only [Bool.or_eq_true, beq_iff_eq] at hk ⊢
    rcases hk with hk | rfl
    · exact .inl (hcl k ok hk hok' e he hb)
    · rw [ho] at hok'; cases hok'
      exact .inl (hpre e he hb)
  have hall : m ≤ i → ∀ j, j < i → LB listed j = true := fun hm j hj =>
    closed_reach hcl ops.size i j (fun o' ho' e he hb => by rw [ho] at ho'; cases ho'; exact hpre e he hb) (hok.forced i hm hlt j hj)
  rcases hI with ⟨⟨k, hk, hkl⟩, hrest, hS, ha⟩ | ⟨t, hmt, hts, ht1, ht2, hw⟩
  · have him : i < m := by
      rcases Nat.lt_or_ge i m with h | h
      · exact h
      · have := hall h k (by omega); rw [hkl] at this; cases this
    have hop := hok.op i o him ho
    unfold opOk at hop
    simp only [Bool.and_eq_true] at hop
    obtain ⟨⟨⟨hg, hsel⟩, hdst⟩, hopd⟩ := hop
    have hgn : o.guard = none := by simpa using hg
    have hselN : ∀ cs b, o.op ≠ .select cs b := fun cs b e => by rw [e] at hsel; simp at hsel
    have hdefN : ∀ c, o.op ≠ .defer c := fun c e => by rw [e] at hsel; simp at hsel
    have hwant : Region.wanted o (yielded ops a.tmps) = true := by unfold Region.wanted; rw [hgn]
    have hdst' : ∀ j ∈ List.range m, j ≠ i → dstAt ops j = none ∨ dstAt ops j ≠ dstAt ops i := fun j hj hne => by
      have := List.all_eq_true.1 hdst j hj
      simp only [Bool.or_eq_true, beq_iff_eq, Option.isNone_iff_eq_none, bne_iff_ne] at this
      rcases this with (h | h) | h
      · exact absurd h hne
      · exact .inl h
      · exact .inr h
    have hev : ∀ x ∈ o.op.operands, a.eval x = (putTo ops σ (fun _ => true) (List.range m) a0).eval x := fun x hx => by
      rw [ha]
      cases x with
      | tmp t =>
        refine putTo_getD _ _ _ rfl rfl (fun j hj hd => ?_)
        have h1 := Array.all_eq_true_iff_forall_mem.1 hopd (.tmp t) hx
        have h2 := List.all_eq_true.1 h1 j hj
        simp only [hd, bne_self_eq_false, Bool.false_or, Array.any_eq_true', Bool.and_eq_true, beq_iff_eq] at h2
        obtain ⟨e, he, hej, hb⟩ := h2
        rw [← hej]
        exact hpre e he hb
      | const v => rfl
      | global g => rfl
      | func f => rfl
    have hs := hstep i o him ho w hS
    unfold Go.wpOpIn
    simp only [ho, hwant, if_true]
    refine ⟨fun f hf => hs.1 f (by rw [about_congr o w hev] at hf; exact hf), ?_⟩
    rw [Oper.semAt_eq _ _ _ hdefN, execOp_congr o hselN hev]
    refine outs_upon hs.2 ?_
    rintro v w' ⟨rfl, hS'⟩
    have hd : o.dst = dstAt ops i := by unfold dstAt; rw [ho]; rfl
    have ha' : a.put o.dst (σ i) = putTo ops σ (LB (listed.setIfInBounds i true)) (List.range m) a0 := by
      rw [hset, putTo_put hil _ _ List.nodup_range (List.mem_range.2 him) hdst', ha, hd]
    refine ⟨hcl', by simpa using hsz, ?_⟩
    by_cases hmore : ∃ k, k < m ∧ LB (listed.setIfInBounds i true) k = false
    · refine .inl ⟨hmore, fun k hk => ?_, hS', ha'⟩
      rw [hset]
      have : ¬ k = i := by omega
      simp [hrest k hk, this]
    · have hfull : ∀ k, k < m → LB (listed.setIfInBounds i true) k = true := fun k hk => by
        cases h : LB (listed.setIfInBounds i true) k
        · exact absurd ⟨k, hk, h⟩ hmore
        · rfl
      refine .inr ⟨m, Nat.le_refl _, hok.le, hfull, fun k hk => ?_, ?_⟩
      · rw [hset]
        have : ¬ k = i := by omega
        simp [hrest k hk, this]
      · rw [ha']
        have : ∀ (l : List Nat) (a : Act), (∀ k ∈ l, k < m) → putTo ops σ (LB (listed.setIfInBounds i true)) l a = putTo ops σ (fun _ => true) l a := by
          intro l
          induction l with
          | nil => intro a _; rfl
          | cons k l ih =>
            intro a hk
            unfold putTo
            simp only [List.foldl_cons]
            rw [hfull k (hk k (by simp))]
            exact ih _ (fun j hj => hk j (by simp [hj]))
        rw [this _ _ (fun k hk => List.mem_range.1 hk)]
        exact htail w' hS'
  · have hit : i = t := by
      rcases Nat.lt_trichotomy i t with h | h | h
      · rw [ht1 i h] at hil; cases hil
      · exact h
      · have := hall (by omega) t h; rw [ht2 t (Nat.le_refl _)] at this; cases this
    subst hit
    have hr : List.range' i (ops.size - i) = i :: List.range' (i + 1) (ops.size - (i + 1)) := by
      have : ops.size - i = (ops.size - (i + 1)) + 1 := by omega
      rw [this, List.range'_succ]
    rw [hr, wpOpsIn_cons] at hw
    refine wpOpIn_mono (fun a' w' h' => ?_) hw
    refine ⟨hcl', by simpa using hsz, .inr ⟨i + 1, by omega, by omega, fun k hk => ?_, fun k hk => ?_, h'⟩⟩
    · rw [hset]
      by_cases e : k = i
      · simp [e]
      · simp [ht1 k (by omega)]
    · rw [hset]
      have : ¬ k = i := by omega
      simp [ht2 k (by omega), this]

theorem plan_ready {m : Nat} (hok : PlanOk ops m) {σ : Nat → Value} {S : World → Prop} {a0 : Act} {listed : Array Bool} {a : Act} {w : World}
    (hI : PlanInv F n P ops Q m σ S a0 listed a w) (hr : Region.ready .any ops listed = []) : Q .normal a w := by
  obtain ⟨hcl, hsz, hI⟩ := hI
  have hno : ∀ k, k < ops.size → (∀ j, j < k → LB listed j = true) → LB listed k = true := fun k hk hpre => by
    cases h : LB listed k
    · have h2 : k < listed.size := by omega
      have h3 : listed.getD k true = false := by
        unfold LB at h
        simpa [h2] using h
      have : k ∈ Region.ready .any ops listed := mem_ready.2 ⟨h3, ops[k], Array.getElem?_eq_getElem hk, fun e he hb => hpre e.on (hok.back k _ (Array.getElem?_eq_getElem hk) e he hb)⟩
      rw [hr] at this
      cases this
    · rfl
  have hallT : ∀ k, k < ops.size → LB listed k = true := fun k => by
    induction k using Nat.strongRecOn with
    | _ k ih => exact fun hk => hno k hk fun j hj => ih j hj (by omega)
  rcases hI with ⟨⟨k, hk, hkl⟩, _⟩ | ⟨t, hmt, hts, ht1, ht2, hw⟩
  · have := hallT k (by have := hok.le; omega)
    rw [hkl] at this; cases this
  · have : t = ops.size := by
      rcases Nat.lt_or_ge t ops.size with h | h
      · have h1 := hallT t h
        rw [ht2 t (Nat.le_refl _)] at h1; cases h1
      · omega
    subst this
    simpa [wpOpsIn] using hw

theorem plan_any {m : Nat} (hok : PlanOk ops m) {σ : Nat → Value} {S : World → Prop} {a0 : Act}
    (hstep : ∀ i o, i < m → ops[i]? = some o → ∀ w, S w → (∀ f, o.about P w (putTo ops σ (fun _ => true) (List.range m) a0).eval = some f → F.fn f) ∧
      Outs F n P (fun v w' => v = σ i ∧ S w') ((execOp (putTo ops σ (fun _ => true) (List.range m) a0).eval o).run P w))
    (htail : ∀ w, S w → wpOpsIn F n P ops Q (List.range' m (ops.size - m)) (putTo ops σ (fun _ => true) (List.range m) a0) w) :
    ∀ (fuel : Nat) (listed : Array Bool) (a : Act) (w : World), PlanInv F n P ops Q m σ S a0 listed a w → ((List.range ops.size).filter fun i => !LB listed i).length ≤ fuel → wpAnyIn F n P .any ops Q fuel listed a w
  | 0, listed, a, w, hI, hf => by
    have hr : Region.ready .any ops listed = [] := by
      rw [List.eq_nil_iff_forall_not_mem]
      intro j hj
      obtain ⟨hun, o, ho, _⟩ := mem_ready.1 hj
      have hlt : j < ops.size := (Array.getElem?_eq_some_iff.1 ho).1
      have h2 : j < listed.size := by have := hI.2.1; omega
      have : j ∈ (List.range ops.size).filter fun i => !LB listed i := by
        rw [List.mem_filter]
        refine ⟨List.mem_range.2 hlt, ?_⟩
        unfold LB
        simpa [h2] using hun
      have h3 := List.length_pos_of_mem this
      omega
    exact ⟨hr, plan_ready hok hI hr⟩
  | fuel + 1, listed, a, w, hI, hf => by
    refine ⟨plan_ready hok hI, fun i hi => ?_⟩
    refine wpOpIn_mono (fun a' w' h' => plan_any hok hstep htail fuel _ a' w' h' ?_) (plan_step hok hstep htail hI hi)
    obtain ⟨hun, o, ho, _⟩ := mem_ready.1 hi
    have hlt : i < ops.size := (Array.getElem?_eq_some_iff.1 ho).1
    have h2 : i < listed.size := by have := hI.2.1; omega
    have hil : LB listed i = false := by unfold LB; simpa [h2] using hun
    rw [LB_set h2]
    have hle0 : ∀ (l : List Nat), (l.filter fun j => !(LB listed j || j == i)).length ≤ (l.filter fun j => !LB listed j).length := by
      intro l
      induction l with
      | nil => simp
      | cons k l ih =>
        rw [List.filter_cons, List.filter_cons]
        cases hk : LB listed k <;> cases e : (k == i) <;> simp only [Bool.or_true, Bool.or_false, Bool.not_true, Bool.not_false, if_true, Bool.false_eq_true, if_false, List.length_cons] <;> omega
    have hle : ∀ (l : List Nat), i ∈ l → (l.filter fun j => !(LB listed j || j == i)).length < (l.filter fun j => !LB listed j).length := by
      intro l
      induction l with
      | nil => intro h; cases h
      | cons k l ih =>
        intro h
        rw [List.filter_cons, List.filter_cons]
        by_cases e : k = i
        · subst e
          have := hle0 l
          simp only [hil, beq_self_eq_true, Bool.or_true, Bool.not_true, Bool.not_false, if_true, Bool.false_eq_true, if_false, List.length_cons]
          omega
        · have hm : i ∈ l := by rcases List.mem_cons.1 h with h | h; exact absurd h.symm e; exact h
          have h1 := ih hm
          have e' : (k == i) = false := by simpa using e
          rw [e']
          cases LB listed k <;> simp only [Bool.or_false, Bool.not_true, Bool.not_false, if_true, Bool.false_eq_true, if_false, List.length_cons] <;> omega
    exact Nat.le_of_lt_succ (Nat.lt_of_lt_of_le (hle (List.range ops.size) (List.mem_range.2 hlt)) hf)

/-- THE PLAN: a region that draws its order, inside a fence. -/
theorem wpIn_region_plan (hm : P.follows .mixedOrders = true) {id m : Nat} (hok : planOk ops m = true) (hpos : 0 < m) (σ : Nat → Value) (S : World → Prop) (a0 : Act) (w0 : World)
    (hS : S { w0 with drawn := w0.drawn + 1 })
    (hstep : ∀ i o, i < m → ops[i]? = some o → ∀ w, S w → (∀ f, o.about P w (putTo ops σ (fun _ => true) (List.range m) a0).eval = some f → F.fn f) ∧
      Outs F n P (fun v w' => v = σ i ∧ S w') ((execOp (putTo ops σ (fun _ => true) (List.range m) a0).eval o).run P w))
    (htail : ∀ w, S w → wpOpsIn F n P ops Q (List.range' m (ops.size - m)) (putTo ops σ (fun _ => true) (List.range m) a0) w) :
    (Code.region id ops true).wpIn F n P Q a0 w0 := by
  have hok' := planOk_spec hok
  have hL : ∀ i, LB (Array.replicate ops.size false) i = false := fun i => by
    unfold LB
    by_cases h : i < ops.size <;> simp [h]
  refine wpIn_region_any hm (plan_any hok' hstep htail ops.size _ a0 _ ⟨fun i o h => (by rw [hL i] at h; cases h), by simp, .inl ⟨⟨0, hpos, hL 0⟩, fun i _ => hL i, hS, ?_⟩⟩ ?_)
  · have : ∀ (l : List Nat) (a : Act), putTo ops σ (LB (Array.replicate ops.size false)) l a = a := by
      intro l
      induction l with
      | nil => intro a; rfl
      | cons k l ih =>
        intro a
        unfold putTo
        simp only [List.foldl_cons]
        rw [hL k]
        exact ih a
    exact (this _ _).symm
  · refine Nat.le_trans (List.length_filter_le _ _) (by simp)

/-- The same, what the first part leaves written out. -/
theorem wpIn_region_planA (hm : P.follows .mixedOrders = true) {id : Nat} (m : Nat) (hok : planOk ops m = true) (hpos : 0 < m) (σ : Nat → Value) (S : World → Prop) (a0 : Act) (w0 : World) (aF : Act)
    (hA : putTo ops σ (fun _ => true) (List.range m) a0 = aF) (hS : S w0.drew)
    (hstep : ∀ i o, i < m → ops[i]? = some o → ∀ w, S w → (∀ f, o.about P w aF.eval = some f → F.fn f) ∧ Outs F n P (fun v w' => v = σ i ∧ S w') ((execOp aF.eval o).run P w))
    (htail : ∀ w, S w → wpListIn F n P ops Q (ops.toList.drop m) aF w) :
    (Code.region id ops true).wpIn F n P Q a0 w0 := by
  subst hA
  refine wpIn_region_plan hm hok hpos σ S a0 w0 hS hstep fun w hw => ?_
  have h1 : ops.size - m = (ops.toList.drop m).length := by simp
  rw [h1, wpOpsIn_eq_wpListIn (ops.toList.drop m) m (fun j => by simp)]
  exact htail w hw

/-! A first part that only reads: it is run in the text's order. -/
def StillR (k : Value → Prop) (w : World) : Result Next → Prop
  | .ok (.value v) w' => w' = w ∧ k v
  | _ => False
theorem stillR_ok (k : Value → Prop) (w : World) (v : Value) : StillR k w (.ok (.value v) w) = k v := by simp [StillR]
def stillL (P : Program) (w : World) : List Oper → Act → (Act → Prop) → Prop
  | [], a, K => K a
  | o :: r, a, K => StillR (fun v => stillL P w r (a.put o.dst v) K) w ((execOp a.eval o).run P w)
theorem stillL_nil {w : World} {a : Act} {K : Act → Prop} (h : K a) : stillL P w [] a K := h
theorem stillL_step {w : World} {o : Oper} {r : List Oper} {a : Act} {K : Act → Prop} (h : ∀ K' : Act → Prop, (∀ a, stillL P w r a K → K' a) → StillR (fun v => K' (a.put o.dst v)) w ((execOp a.eval o).run P w)) : stillL P w (o :: r) a K :=
  h _ (fun _ h => h)

/-- What the operations yield, one by one, and where that leads. -/
theorem stillL_values {w : World} {K : Act → Prop} : ∀ (l : List Oper) (a : Act), stillL P w l a K →
    ∃ vs : List Value, vs.length = l.length ∧ K ((l.zip vs).foldl (fun a p => a.put p.1.dst p.2) a) ∧
      ∀ i o v, l[i]? = some o → vs[i]? = some v → (execOp (((l.take i).zip vs).foldl (fun a p => a.put p.1.dst p.2) a).eval o).run P w = .ok (.value v) w
  | [], a, h => ⟨[], rfl, h, fun i o v ho => by simp at ho⟩
  | o :: r, a, h => by
    unfold stillL at h
    unfold StillR at h
    split at h
    · rename_i v w' hr
      obtain ⟨rfl, h⟩ := h
      obtain ⟨vs, hl, hK, hv⟩ := stillL_values r (a.put o.dst v) h
      refine ⟨v :: vs, by simp [hl], by simpa using hK, fun i o' v' ho hv' => ?_⟩
      cases i with
      | zero =>
        simp only [List.getElem?_cons_zero, Option.some.injEq] at ho hv'
        subst ho; subst hv'
        simpa using hr
      | succ i =>
        simp only [List.getElem?_cons_succ] at ho hv'
        simpa using hv i o' v' ho hv'
    · exact h.elim

theorem putTo_zip {σ : Nat → Value} (vs : List Value) (hσ : ∀ i v, vs[i]? = some v → σ i = v) : ∀ (k m : Nat) (a : Act), k + m ≤ ops.size → k + m ≤ vs.length →
    putTo ops σ (fun _ => true) (List.range' k m) a = (((ops.toList.drop k).take m).zip (vs.drop k)).foldl (fun a p => a.put p.1.dst p.2) a
  | k, 0, a, _, _ => by simp [putTo]
  | k, m + 1, a, h1, h2 => by
    have hk : k < ops.size := by omega
    have hkv : k < vs.length := by omega
    have e1 : ops.toList.drop k = ops[k] :: ops.toList.drop (k + 1) := by
      rw [List.drop_eq_getElem_cons (by simpa using hk)]; simp
    have e2 : vs.drop k = vs[k] :: vs.drop (k + 1) := List.drop_eq_getElem_cons hkv
    have hd : dstAt ops k = (ops[k]).dst := by unfold dstAt; rw [Array.getElem?_eq_getElem hk]; rfl
    rw [e1, e2]
    simp only [List.take_succ_cons, List.zip_cons_cons, List.foldl_cons]
    rw [← putTo_zip vs hσ (k + 1) m _ (by omega) (by omega)]
    unfold putTo
    rw [List.range'_succ, List.foldl_cons]
    rw [hd, hσ k vs[k] (List.getElem?_eq_getElem hkv)]
    rfl

/-- THE PLAN, where the first part only reads: run in the text's order, in the world behind the draw. -/
theorem wpIn_region_still (hm : P.follows .mixedOrders = true) {id : Nat} (m : Nat) (hok : planOk ops m = true) (hpos : 0 < m) (hca : ((ops.toList.take m).all fun o => match o.op with | .call { callee := .builtin _, .. } => true | .call _ => false | _ => true) = true) (a0 : Act) (w0 : World)
    (h : stillL P w0.drew (ops.toList.take m) a0 fun aF => wpListIn F n P ops Q (ops.toList.drop m) aF w0.drew) :
    (Code.region id ops true).wpIn F n P Q a0 w0 := by
  have hok' := planOk_spec hok
  obtain ⟨vs, hl, hK, hv⟩ := stillL_values _ _ h
  have hlm : (ops.toList.take m).length = m := by have := hok'.le; simp; omega
  have hvl : vs.length = m := by rw [hl, hlm]
  have hσ : ∀ i v, vs[i]? = some v → vs.getD i undef = v := fun i v h => by simp [h]
  have hA : putTo ops (fun i => vs.getD i undef) (fun _ => true) (List.range m) a0 = ((ops.toList.take m).zip vs).foldl (fun a p => a.put p.1.dst p.2) a0 := by
    rw [List.range_eq_range', putTo_zip vs hσ 0 m a0 (by have := hok'.le; omega) (by omega)]
    simp
  refine wpIn_region_planA hm m hok hpos (fun i => vs.getD i undef) (fun w => w = w0.drew) a0 w0 _ hA rfl ?_ ?_
  · rintro i o hi ho w rfl
    have hop := hok'.op i o hi ho
    unfold opOk at hop
    simp only [Bool.and_eq_true] at hop
    obtain ⟨⟨⟨_, hsel⟩, _⟩, hopd⟩ := hop
    have hselN : ∀ cs b, o.op ≠ .select cs b := fun cs b e => by rw [e] at hsel; simp at hsel
    have hmem : o ∈ ops.toList.take m := by
      rw [List.mem_iff_getElem?]
      exact ⟨i, by rw [List.getElem?_take_of_lt hi]; simpa using ho⟩
    have hc := List.all_eq_true.1 hca o hmem
    refine ⟨fun f hf => ?_, ?_⟩
    · unfold Oper.about at hf
      split at hf
      · rename_i c hcall
        rw [hcall] at hc
        obtain ⟨callee, args, at'⟩ := c
        cases callee with
        | value f' => simp at hc
        | invoke r m' => simp at hc
        | builtin b =>
          simp only [resolve, Sem.run_pure] at hf
          simp [Target.leads] at hf
      · cases hf
    · have ho' : (ops.toList.take m)[i]? = some o := by rw [List.getElem?_take_of_lt hi]; simpa using ho
      have hv' : vs[i]? = some (vs.getD i undef) := by
        have : i < vs.length := by omega
        simp [this]
      have hrun := hv i o _ ho' hv'
      have hev : ∀ x ∈ o.op.operands, (((((ops.toList.take m).take i).zip vs).foldl (fun a p => a.put p.1.dst p.2) a0).eval x) = (((ops.toList.take m).zip vs).foldl (fun a p => a.put p.1.dst p.2) a0).eval x := fun x hx => by
        have h1 : (((ops.toList.take m).take i).zip vs).foldl (fun a p => a.put p.1.dst p.2) a0 = putTo ops (fun i => vs.getD i undef) (fun j => decide (j < i)) (List.range m) a0 := by
          have h2 : putTo ops (fun i => vs.getD i undef) (fun _ => true) (List.range i) a0 = (((ops.toList.take m).take i).zip vs).foldl (fun a p => a.put p.1.dst p.2) a0 := by
            rw [List.range_eq_range', putTo_zip vs hσ 0 i a0 (by have := hok'.le; omega) (by omega)]
            simp [List.take_take, Nat.min_eq_left (Nat.le_of_lt hi)]
          rw [← h2]
          have h3 : ∀ (l : List Nat) (a : Act), (∀ j ∈ l, j < i) → putTo ops (fun i => vs.getD i undef) (fun _ => true) l a = putTo ops (fun i => vs.getD i undef) (fun j => decide (j < i)) l a := by
            intro l
            induction l with
            | nil => intro a _; rfl
            | cons k l ih =>
              intro a hk
              unfold putTo
              simp only [List.foldl_cons]
              have : decide (k < i) = true := by simpa using hk k (by simp)
              rw [this]
              exact ih _ (fun j hj => hk j (by simp [hj]))
          have h4 : ∀ (l : List Nat) (a : Act), (∀ j ∈ l, i ≤ j) → putTo ops (fun i => vs.getD i undef) (fun j => decide (j < i)) l a = a := by
            intro l
            induction l with
            | nil => intro a _; rfl
            | cons k l ih =>
              intro a hk
              unfold putTo
              simp only [List.foldl_cons]
              have : decide (k < i) = false := by simpa using hk k (by simp)
              rw [this]
              exact ih _ (fun j hj => hk j (by simp [hj]))
          have h5 : List.range m = List.range i ++ List.range' i (m - i) := by
            rw [List.range_eq_range', List.range_eq_range']
            have h7 := List.range'_append_1 (s := 0) (m := i) (n := m - i)
            rw [Nat.zero_add, Nat.add_sub_cancel' (Nat.le_of_lt hi)] at h7
            exact h7.symm
          have h6 : ∀ (l l' : List Nat) (a : Act) (L : Nat → Bool), putTo ops (fun i => vs.getD i undef) L (l ++ l') a = putTo ops (fun i => vs.getD i undef) L l' (putTo ops (fun i => vs.getD i undef) L l a) := by
            intro l l' a L
            unfold putTo
            rw [List.foldl_append]
          rw [h5, h6, ← h3 _ _ (fun j hj => List.mem_range.1 hj), h4 _ _ (fun j hj => by have := List.mem_range'.1 hj; omega)]
        rw [h1, ← hA]
        cases x with
        | tmp t =>
          refine putTo_getD _ _ _ rfl rfl (fun j hj hd => ?_)
          have h1 := Array.all_eq_true_iff_forall_mem.1 hopd (.tmp t) hx
          have h2 := List.all_eq_true.1 h1 j hj
          simp only [hd, bne_self_eq_false, Bool.false_or, Array.any_eq_true', Bool.and_eq_true, beq_iff_eq] at h2
          obtain ⟨e, he, hej, hb⟩ := h2
          have := hok'.back i o ho e he hb
          rw [← hej]
          simpa using this
        | const v => rfl
        | global g => rfl
        | func f => rfl
      rw [← execOp_congr o hselN hev, hrun]
      exact ⟨rfl, rfl⟩
  · rintro w rfl
    exact hK

end
end Go.Proofs.Ytjkefoijhphknaa
