/- work.differences and work.fits of a survey at work: what fw makes of its readings. -/
import Derived.Test.YtaoonfmcimkmhaaLevSingle
namespace Go.Proofs.Ytaoonfmcimkmhaa
open Go.RowKit

theorem B1_small (p : Nat) : Small (p + 1) 100000000 (B1 p p) := by
  refine ⟨fun i hi => ?_, fun i j hi hj => ?_⟩
  · unfold B1
    repeat' split
    all_goals first | rfl | omega
  · unfold B1
    repeat' split
    all_goals omega

theorem addRd_small {p : Nat} {out : Nat → Bool} {wider : Int} (hw0 : 0 ≤ wider) (hw2 : wider ≤ 20000000) {D : Nat → Nat → Int} (h : Small (p + 1) 100000000 D) {x : Nat × Sh} (hx : rokB p x = true) (hne : x.2.f ≠ x.2.t) : Small (p + 1) 100000000 (addRd out wider D x) := by
  unfold rokB at hx
  rw [decide_eq_true_eq] at hx
  obtain ⟨_, f0, f1, t0, t1, lo1, lo2, hi1, hi2⟩ := hx
  unfold addRd
  cases out x.1
  · simp only [Bool.false_eq_true, if_false]
    have hn : x.2.f.toNat ≠ x.2.t.toNat := by omega
    have hfp : x.2.f.toNat < p + 1 := by omega
    have htp : x.2.t.toNat < p + 1 := by omega
    generalize x.2.f.toNat = a at *
    generalize x.2.t.toNat = b at *
    have h1 := h.2 a b hfp htp
    have h2 := h.2 b a htp hfp
    refine ⟨fun i hi => ?_, fun i j hi hj => ?_⟩
    · unfold upd
      rw [if_neg (by omega), if_neg (by omega)]
      exact h.1 i hi
    · have h3 := h.2 i j hi hj
      unfold upd
      split
      · rw [if_neg (by omega)]
        omega
      · split
        · omega
        · exact h3
  · exact h

theorem matOf_small {p : Nat} {out : Nat → Bool} {wider : Int} (hw0 : 0 ≤ wider) (hw2 : wider ≤ 20000000) (s : Sv) : ∀ (N : Nat), (∀ k, k < N → rokB p (rdAt s k) = true ∧ (rdAt s k).2.f ≠ (rdAt s k).2.t) → Small (p + 1) 100000000 (matOf p out wider (upto (rdOf p s) N))
  | 0, _ => B1_small p
  | N + 1, h => by
    rw [upto_succ, matOf_snoc]
    have hN := h N (by omega)
    have e : (rdOf p s N).1 = rdAt s N := by unfold rdOf; rw [dif_pos hN.1]
    exact addRd_small hw0 hw2 (matOf_small hw0 hw2 s N fun k hk => h k (by omega)) (by rw [e]; exact hN.1) (by rw [e]; exact hN.2)

/-- What a survey at work comes to: its greatest differences, and whether heights fit. -/
def wkD (s : Sv) (out : Nat → Bool) (wider : Int) : (Nat → Nat → Int) × Bool := fw (s.n.toNat + 1) (matOf s.n.toNat out wider (upto (rdOf s.n.toNat s) (s.shots.length + s.marks.length)))

theorem wkD_small {s : Sv} {out : Nat → Bool} {wider : Int} (hw0 : 0 ≤ wider) (hw2 : wider ≤ 20000000) (hn : s.n.toNat ≤ 20) (h : ∀ k, k < s.shots.length + s.marks.length → rokB s.n.toNat (rdAt s k) = true ∧ (rdAt s k).2.f ≠ (rdAt s k).2.t)
    (hf : (wkD s out wider).2 = true) : Small (s.n.toNat + 1) 300000000000000 (wkD s out wider).1 :=
  fw_small (by omega) (matOf_small hw0 hw2 s _ h) hf

/-- The cells of a survey at work, with what is left out, and how much wider. -/
structure WkAll (w : World) (cs : Array Value) (s : Sv) (out : Nat → Bool) (wider : Int) : Prop where
  at_ : WkAt w w.heap.size cs s
  ok : svOk s = true
  out_ : ∀ k, k < 80 → cs[4 + k]? = some (.bool (out k))
  wid : cs[84]? = some (.int .i64 wider)
  w0 : 0 ≤ wider
  w2 : wider ≤ 20000000

theorem svOk_spec {s : Sv} (h : svOk s = true) : (1 ≤ s.n ∧ s.n ≤ 20 ∧ s.shots.length ≤ 60 ∧ s.marks.length ≤ 20 ∧ s.threads.length ≤ 30) ∧
    (∀ x ∈ s.shots, shOk s.n (-20000000) 20000000 x = true) ∧ (∀ x ∈ s.marks, mkOk s.n x = true) ∧ (∀ x ∈ s.threads, shOk s.n 1 100000000 x = true) := by
  unfold svOk at h
  simp only [Bool.and_eq_true, List.all_eq_true, decide_eq_true_eq] at h
  obtain ⟨⟨⟨⟨⟨⟨⟨h1, h2⟩, h3⟩, h4⟩, h5⟩, h6⟩, h7⟩, h8⟩ := h
  exact ⟨⟨h1, h2, h3, h4, h5⟩, h6, h7, h8⟩
theorem shOk_spec {p m M : Int} {x : Sh} (h : shOk p m M x = true) : 0 ≤ x.f ∧ x.f < p ∧ 0 ≤ x.t ∧ x.t < p ∧ x.f ≠ x.t ∧ m ≤ x.lo ∧ x.lo ≤ x.hi ∧ x.hi ≤ M := by
  unfold shOk diffB spanB inB at h
  simp only [Bool.and_eq_true, decide_eq_true_eq, bne_iff_ne] at h
  obtain ⟨⟨⟨⟨h1, h2⟩, h3, h4⟩, h5⟩, ⟨h6, h7⟩, h8⟩ := h
  exact ⟨h1, h2, h3, h4, h5, h6, h7, h8⟩
theorem mkOk_spec {p : Int} {x : Mk} (h : mkOk p x = true) : 0 ≤ x.p ∧ x.p < p ∧ -10000000 ≤ x.lo ∧ x.lo ≤ x.hi ∧ x.hi ≤ 10000000 := by
  unfold mkOk spanB inB at h
  simp only [Bool.and_eq_true, decide_eq_true_eq] at h
  obtain ⟨⟨h1, h2⟩, ⟨h6, h7⟩, h8⟩ := h
  exact ⟨h1, h2, h6, h7, h8⟩

theorem rdAt_ok {s : Sv} (h : svOk s = true) (k : Nat) (hk : k < s.shots.length + s.marks.length) : rokB s.n.toNat (rdAt s k) = true ∧ (rdAt s k).2.f ≠ (rdAt s k).2.t := by
  obtain ⟨⟨h1, h2, h3, h4, _⟩, h6, h7, _⟩ := svOk_spec h
  unfold rdAt rokB
  by_cases hlt : k < s.shots.length
  · obtain ⟨a1, a2, a3, a4, a5, a6, a7, a8⟩ := shOk_spec (h6 _ (List.getElem_mem hlt))
    rw [dif_pos hlt, decide_eq_true_eq]
    exact ⟨⟨by show k < 80; omega, a1, by show (s.shots[k]).f ≤ _; omega, a3, by show (s.shots[k]).t ≤ _; omega, a6, by show (s.shots[k]).lo ≤ _; omega, by show _ ≤ (s.shots[k]).hi; omega, a8⟩, a5⟩
  · have hm : k - s.shots.length < s.marks.length := by omega
    obtain ⟨a1, a2, a3, a4, a5⟩ := mkOk_spec (h7 _ (List.getElem_mem hm))
    rw [dif_neg hlt, dif_pos hm, decide_eq_true_eq]
    refine ⟨⟨by show k < 80; omega, by show 0 ≤ s.n; omega, by show s.n ≤ _; omega, a1, ?_, ?_, ?_, ?_, ?_⟩, ?_⟩
    all_goals dsimp only
    all_goals omega

theorem differences_any (cs : Array Value) (s : Sv) (out : Nat → Bool) (wider : Int) (w : World) (h : WkAll w cs s out wider) :
    Calls Try.prog 44 #[.agg cs] w fun e w' => e = .returned (.tuple #[.agg (matV (wkD s out wider).1), .bool (wkD s out wider).2]) ∧ Below w.heap.size w w' := by
  obtain ⟨⟨h1, h2, h3, h4, _⟩, _, _, _⟩ := svOk_spec h.ok
  have hn : s.n = (s.n.toNat : Int) := by omega
  refine diff_any cs s.n.toNat w _ h.at_.size (by rw [h.at_.c0, ← hn]) (by omega) (fun w1 hb => ?_) (matOf_small h.w0 h.w2 s _ (rdAt_ok h.ok))
  exact single_any cs s s.n.toNat w1 ((h.at_.below hb).more hb.size) (by omega) hn h3 h4 out wider h.out_ h.wid h.w0 h.w2 (fun k hk => (rdAt_ok h.ok k hk).1)

set_option maxRecDepth 100000 in
set_option maxHeartbeats 400000 in
theorem fits_any (cs : Array Value) (s : Sv) (out : Nat → Bool) (wider : Int) (w : World) (h : WkAll w cs s out wider) :
    Calls Try.prog 60 #[.agg cs] w fun e w' => e = .returned (.bool (wkD s out wider).2) ∧ Below w.heap.size w w' := by
  have HI : Hid ((Try.prog.info? 93).map (·.size) = some cs.size) := by rw [h.at_.size]; exact info93
  have HG : Hid ((w.alloc (Obj.cells cs 93)).heap[w.heap.size]? = some (.cells cs 93 (0, 0))) := heap_alloc_new w _
  have hb0 : Below w.heap.size w (w.alloc (Obj.cells cs 93)) := by (repeat' (first | (with_reducible exact Below.refl _ _) | (with_reducible refine Below.alloc ?_ ?_ _) | (with_reducible refine Below.drew ?_) | (with_reducible refine Below.drewN_ ?_ _) | (with_reducible refine Below.setCell ?_ ?_ _) | (with_reducible refine Below.setRow ?_ ?_ _) | (with_reducible refine Below.via ?_ (by with_reducible assumption) ?_) | go_size))
  have HA : Hid (WkAll (w.alloc (Obj.cells cs 93)) cs s out wider) := ⟨(h.at_.below hb0).more (by simp), h.ok, h.out_, h.wid, h.w0, h.w2⟩
  clear h
  have hd := differences_any cs s out wider _ HA.out
  obtain ⟨D, b, hR⟩ : ∃ D b, wkD s out wider = (D, b) := ⟨_, _, rfl⟩
  rw [hR] at hd
  dsimp only at hd
  have HD := Lib.hid hd
  have HR := Lib.hid hR
  clear hd hR
  go_enter Try.func60, Try.ntmps60
  go_wp2_with (first | (refine wpList_load_row rfl 93 (.tmp 1) rfl w.heap.size rfl 93 cs (0, 0) _ HG.out Try.underlying93 rfl HI.out ?_) | (go_at_call 44; refine HD.out.mono ?_; rintro e w' ⟨rfl, hb1⟩) | (refine wpList_store_row rfl 96 (.tmp 3) (.tmp 8) rfl w'.heap.size (matV D) rfl rfl 96 Try.zeroCells96 (heap_alloc_new _ _) (info96 D) (zero96_size D) (matV_one D) ?_; rw [World.setRow_alloc_new]))
  have hz1 := hb1.size
  simp at hz1
  go_ret
  exact ⟨by rw [HR.out]; rfl, by (repeat' (first | (with_reducible exact Below.refl _ _) | (with_reducible refine Below.alloc ?_ ?_ _) | (with_reducible refine Below.drew ?_) | (with_reducible refine Below.drewN_ ?_ _) | (with_reducible refine Below.setCell ?_ ?_ _) | (with_reducible refine Below.setRow ?_ ?_ _) | (with_reducible refine Below.via ?_ (by with_reducible assumption) ?_) | go_size))⟩

end Go.Proofs.Ytaoonfmcimkmhaa
