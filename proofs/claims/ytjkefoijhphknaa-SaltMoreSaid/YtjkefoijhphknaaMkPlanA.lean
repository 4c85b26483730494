/- Whether a rent may give a field so many minutes in a cheapest plan. Condition: a market within bounds, minutes that there are. -/
import Derived.Test.YtjkefoijhphknaaMkAfter
import Derived.Test.YtjkefoijhphknaaCalm
namespace Go.Proofs.Ytjkefoijhphknaa
open Go.RowKit Go.IntWalk
attribute [local go_sem] wx_cell wx_frozen

theorem wpQuiet_load_row {P : Program} {ops : Array Oper} {Q : Act → Prop} {rest : List Oper} {o : Oper} {a : Act} {w : World} (hgd : o.guard = none) (ty : TypeId) (x : Operand) (ho : o.op = .load ty x)
    (g : Nat) (hx : a.eval x = .pointer (some ⟨g, 0, none⟩)) (t : TypeId) (cs : Array Value) (fr : Nat × Nat) (d : TypeDesc) (hg : w.heap[g]? = some (.cells cs t fr))
    (hu : P.underlying ty = some d) (hd : (match d with | .struct _ | .array _ _ => true | _ => false) = true) (hi : (P.info? ty).map (·.size) = some cs.size)
    (h : wpQuiet P ops (fun w' => ∃ d, w' = wx w d) Q rest (a.put o.dst (.agg cs))) : wpQuiet P ops (fun w' => ∃ d, w' = wx w d) Q (o :: rest) a :=
  BigFrame.wpQuiet_want (by simp [Region.wanted, hgd]) fun K hK => ⟨.agg cs, fun w' hw' => by
    obtain ⟨dd, rfl⟩ := hw'
    have hg2 := (wx_block w dd g (Array.getElem?_eq_some_iff.1 hg).1).trans hg
    unfold Oper.quietAt execOp
    simp only [ho, hx, Instr.loadAt, Instr.sureAddr, Sem.run_bind, Sem.run_pure, Result.andThen_ok, run_loadVar_row (wx w dd) g t ty cs fr d hg2 hu hd hi]
    exact ⟨rfl, rfl⟩, hK _ h⟩

theorem MkOk2.after {m : Mk} (h : MkOk2 m) {i f : Nat} {n : Int} (n0 : 0 ≤ n) (n1 : n ≤ m.left i) (n2 : n ≤ m.needs f) : MkOk2 (aftM m i f n) := by
  refine ⟨⟨h.ok.len, h.ok.who, h.ok.price, fun k => ?_, fun k => ?_⟩, h.dlen, h.dlt⟩
  · have := h.ok.left i
    have := h.ok.left k
    show -23040 ≤ (if k = i then m.left i - n else m.left k) ∧ (if k = i then m.left i - n else m.left k) ≤ 23040
    split <;> omega
  · have := h.ok.needs f
    have := h.ok.needs k
    show -23040 ≤ (if k = f then m.needs f - n else m.needs k) ∧ (if k = f then m.needs f - n else m.needs k) ≤ 23040
    split <;> omega

def lotA (l : Lo) : Array Value := #[.int .i64 l.mins, .int .i64 l.price, .slice l.fA l.fn l.fc, .int .i64 (l.whose : Int)]
/-- Whether a cheapest plan gives the field f at least n minutes of the rent i. -/
def soB (m : Mk) (i f : Nat) (co pr : Int) (n : Nat) : Bool := costsB (aftM m i f n) (co - n * pr)

/-- What the closure in plan has captured. -/
structure CapAt (W : World) (m : Mk) (A1 : Option Addr) (c1 : Nat) (A2 : Option Addr) (c2 : Nat) (i f : Nat) (co : Int) (l : Lo) (bm bi bf bc bl : Nat) : Prop where
  h0 : W.heap[bm]? = some (.cells (mkA m A1 c1 A2 c2) 114 (0, 0))
  h1 : W.heap[bi]? = some (.cells #[.int .i64 (i : Int)] 3 (0, 0))
  h2 : W.heap[bf]? = some (.cells #[.int .i64 (f : Int)] 3 (0, 0))
  h3 : W.heap[bc]? = some (.cells #[.int .i64 co] 3 (0, 0))
  h4 : W.heap[bl]? = some (.cells (lotA l) 163 (0, 0))

set_option maxRecDepth 100000 in
set_option maxHeartbeats 4000000 in
theorem plan1_any (m : Mk) (A1 : Option Addr) (c1 : Nat) (A2 : Option Addr) (c2 : Nat) (i f n : Nat) (co : Int) (l : Lo) (bm bi bf bc bl : Nat) (W : World) (hm : MkOk2 m) (hi : i < 8) (hf : f < 8) (n1 : (n : Int) ≤ m.left i) (n2 : (n : Int) ≤ m.needs f)
    (hl : 0 ≤ l.price ∧ l.price ≤ 100000) (hco : -1000000000000000 ≤ co ∧ co ≤ 1000000000000000) (hC : CapAt W m A1 c1 A2 c2 i f co l bm bi bf bc bl) (r1 : Rd W W.heap.size A1 lotV 4 m.lots) (r2 : Rd W W.heap.size A2 nnV 1 m.dear) :
    Calls Try.prog 109 (#[.int .i64 (n : Int)] ++ #[.pointer (some ⟨bm, 0, none⟩), .pointer (some ⟨bi, 0, none⟩), .pointer (some ⟨bf, 0, none⟩), .pointer (some ⟨bc, 0, none⟩), .pointer (some ⟨bl, 0, none⟩)]) W fun e w' =>
      e = .returned (.bool (soB m i f co l.price n)) ∧ Below W.heap.size W w' := by
  have hl8 := hm.ok.left i
  have hm2 := hm.after (i := i) (f := f) (n := (n : Int)) (by omega) n1 n2
  have CA := Lib.hid (fun W' => after_any' m A1 c1 A2 c2 i f (n : Int) W' hm.ok hi hf (by omega) (by omega))
  have CC := Lib.hid (fun (W' : World) (hW : Below W.heap.size W W') => costs_any (aftM m i f n) A1 c1 A2 c2 (co - n * l.price) W' hm2 ((r1.below hW).more hW.size) ((r2.below hW).more hW.size))
  have p1 := term_b (a := (n : Int)) (p := l.price) (by omega) (by omega) hl.1 hl.2
  obtain ⟨h0, h1, h2, h3, h4⟩ := hC
  have b1 : bi < W.heap.size := (Array.getElem?_eq_some_iff.1 h1).1
  have b2 : bf < W.heap.size := (Array.getElem?_eq_some_iff.1 h2).1
  have b3 : bc < W.heap.size := (Array.getElem?_eq_some_iff.1 h3).1
  have b4 : bl < W.heap.size := (Array.getElem?_eq_some_iff.1 h4).1
  have k1 : W.cell? ⟨bi, 0, none⟩ = some (.int .i64 (i : Int)) := cell_of_row W bi 0 _ _ _ h1
  have k2 : W.cell? ⟨bf, 0, none⟩ = some (.int .i64 (f : Int)) := cell_of_row W bf 0 _ _ _ h2
  have k3 : W.cell? ⟨bc, 0, none⟩ = some (.int .i64 co) := cell_of_row W bc 0 _ _ _ h3
  have k4 : W.cell? ⟨bl, 1, none⟩ = some (.int .i64 l.price) := cell_of_row W bl 1 _ _ _ h4
  have H0 := Lib.hid h0
  have hs : soB m i f co l.price n = costsB (aftM m i f n) (co - n * l.price) := rfl
  rw [hs]
  generalize costsB (aftM m i f n) (co - n * l.price) = r at *
  clear hs h0 h1 h2 h3 h4 hm hm2 r1 r2
  simp only [List.append_toArray, List.cons_append, List.nil_append]
  go_enter Try.func109, Try.ntmps109
  go_wp2
  refine wp_region_calm (by kernel_rfl) (by kernel_rfl) ?_
  refine wpQuiet_load_row rfl 114 (.tmp 1) rfl bm rfl 114 (mkA m A1 c1 A2 c2) (0, 0) _ H0.out Try.underlying114 rfl (infoMk _ _ _ _ _) ?_
  simp only [Act.put, List.setIfInBounds_toArray, List.set_cons_succ, List.set_cons_zero]
  repeat (go_big_quiet_step ((first | (go_at_call 110; exact calm_of (CA.out _)) | (go_at_call 111; exact calm_of (CC.out _ (wx_below _ _))))))
  refine wpQuiet_nil ?_; rintro _ ⟨dx, rfl⟩
  obtain ⟨wy, hwy⟩ : ∃ wy, wx _ dx = wy := ⟨_, rfl⟩; have hby := wx_below _ dx; rw [hwy] at hby ⊢
  go_wp2
  go_ret
  exact ⟨rfl, hby⟩
end Go.Proofs.Ytjkefoijhphknaa
