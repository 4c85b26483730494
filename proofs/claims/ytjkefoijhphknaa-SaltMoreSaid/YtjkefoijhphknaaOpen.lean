/- Arguments that are read as data: soils, spans, numbers; and the last step of each law's statement. No condition. -/
import Derived.Test.YtjkefoijhphknaaWords
import Derived.Test.YtjkefoijhphknaaSaMath
import Derived.Test.YtjkefoijhphknaaRows
import Derived.ProofKit
import Derived.OpenShut
import Derived.Deep.Slices
import Derived.Lib.SmallJoins
import Derived.ReadAgain
import Derived.ChangeSame
import Derived.KernelRfl
import Derived.Test.YtjkefoijhphknaaSpans
namespace Go.Proofs.Ytjkefoijhphknaa
open Go.RowKit Go.ChangeShapes Go.WideShapes Go.Deep Go.Joins

theorem choose_list {α : Type} {P : Nat → α → Prop} : ∀ (n : Nat), (∀ i, i < n → ∃ x, P i x) → ∃ l : List α, l.length = n ∧ ∀ i x, l[i]? = some x → P i x
  | 0, _ => ⟨[], rfl, fun i x h => by simp at h⟩
  | n + 1, h => by
    obtain ⟨l, hl, hp⟩ := choose_list n fun i hi => h i (by omega)
    obtain ⟨x, hx⟩ := h n (by omega)
    refine ⟨l ++ [x], by simp [hl], fun i y hy => ?_⟩
    by_cases e : i < l.length
    · rw [List.getElem?_append_left e] at hy
      exact hp i y hy
    · have hi : i < (l ++ [x]).length := (List.getElem?_eq_some_iff.1 hy).1
      simp at hi
      have : i = n := by omega
      subst this
      rw [List.getElem?_append_right (by omega), hl, Nat.sub_self] at hy
      simp at hy
      subst hy
      exact hx

section
variable {H : Type} {ench : TypeId × Value → H} {P : Program} {w : World}

theorem open_rd {α : Type} {enc : α → List Value} {sz : Nat} {t e : TypeId} (ht : P.underlying t = some (.slice e)) (hC : P.cellsOf e = sz) (he : ∀ x, (enc x).length = sz) (hsz : 0 < sz)
    (hel : ∀ n cs x, DataW.trod ench P w 0 (fun _ => true) true n e cs = some x → ∃ y : α, cs = enc y) {fuel : Nat} {v : Value} {x : DataW H × List MemPlace} (h : DataW.trod ench P w 0 (fun _ => true) true fuel t [v] = some x) :
    ∃ A c, ∃ l : List α, v = .slice A l.length c ∧ l.length ≤ c ∧ Rd w w.heap.size A enc sz l := by
  rcases open_slice ht h with ⟨h1, _⟩ | ⟨a, len, cap, m, n, D, Pl, h1, _, hlc, _, hm, _, hi⟩
  · injection h1 with h1 _
    subst h1
    exact ⟨none, 0, [], rfl, Nat.le_refl _, fun h => by simp at h⟩
  · injection h1 with h1 _
    subst h1
    simp only [if_true] at hm
    rw [hC] at hi
    have hex : ∀ i, i < len → ∃ y : α, ∀ j u, (enc y)[j]? = some u → w.cell? ((a.add (i * sz)).add j) = some u := fun i hl => by
      obtain ⟨cs, hcs, htr⟩ := hi i (by omega)
      obtain ⟨y, rfl⟩ := hel _ _ _ htr
      obtain ⟨_, hlen, hat⟩ := World.cells?_some hcs
      exact ⟨y, fun j u hj => by
        have hjl : j < sz := by have := (List.getElem?_eq_some_iff.1 hj).1; rw [he] at this; exact this
        rw [hat j hjl, hj]⟩
    obtain ⟨l, hl, hp⟩ := choose_list len hex
    refine ⟨some a, cap, l, by rw [hl], by omega, fun h0 => ?_⟩
    have hx0 : l[0]? = some l[0] := List.getElem?_eq_getElem h0
    have hz : (enc l[0])[0]? = some ((enc l[0])[0]'(by rw [he]; exact hsz)) := List.getElem?_eq_getElem _
    have g0 := hp 0 _ hx0 0 _ hz
    have ha : (a.add (0 * sz)).add 0 = a := by simp [Addr.add]
    rw [ha] at g0
    have hspot := World.cell?_spot g0
    have hblt := World.block_lt_of_cell? w a g0
    obtain ⟨b, o, s⟩ := a
    dsimp only at hspot hblt
    subst hspot
    refine ⟨b, o, rfl, hblt, fun k x hx j u hj => ?_⟩
    have g := hp k x hx j u hj
    have hadd : ((⟨b, o, none⟩ : Addr).add (k * sz)).add j = ⟨b, o + k * sz + j, none⟩ := by
      unfold Addr.add
      split <;> split <;> simp_all <;> omega
    rw [hadd] at g
    exact g
end

section
variable {H : Type} {ench : TypeId × Value → H} {w : World}
theorem cInt : Try.prog.cellsOf 3 = 1 := by kernel_rfl
theorem cSpan : Try.prog.cellsOf 23 = 2 := by kernel_rfl
theorem cSoil : Try.prog.cellsOf 25 = 10 := by kernel_rfl

theorem int_of {base : Nat} {spare : Nat → Bool} {held : Bool} {n : Nat} {c : Value} {x : DataW H × List MemPlace} (h : DataW.trod ench Try.prog w base spare held n 3 [c] = some x) : ∃ z, c = .int .i64 z := by
  obtain ⟨z, hz, _⟩ := DataW.trod_int Try.underlying3 h
  injection hz with hz _
  exact ⟨z, hz⟩
set_option maxRecDepth 100000 in
theorem span_of {base : Nat} {spare : Nat → Bool} {held : Bool} {n : Nat} {c d : Value} {x : DataW H × List MemPlace} (h : DataW.trod ench Try.prog w base spare held n 23 [c, d] = some x) : ∃ y z, c = .int .i64 y ∧ d = .int .i64 z := by
  obtain ⟨xs, m, _, _, _, hxl, hf⟩ := DataW.trod_struct Try.underlying23 h
  have hxl2 : xs.length = 2 := hxl
  have h0 : DataW.trod ench Try.prog w base spare held m 3 (([c, d].drop 0).take (Try.prog.cellsOf 3)) = xs[0]? := hf 0 _ rfl
  have h1 : DataW.trod ench Try.prog w base spare held m 3 (([c, d].drop 1).take (Try.prog.cellsOf 3)) = xs[1]? := hf 1 _ rfl
  rw [List.getElem?_eq_getElem (by omega)] at h0 h1
  simp only [cInt, List.drop_zero, List.take_succ_cons, List.take_zero, List.drop_succ_cons] at h0 h1
  obtain ⟨y, rfl⟩ := int_of h0
  obtain ⟨z, rfl⟩ := int_of h1
  exact ⟨y, z, rfl, rfl⟩
set_option maxRecDepth 100000 in
theorem soil_of {base : Nat} {spare : Nat → Bool} {held : Bool} {n : Nat} {cs : List Value} {x : DataW H × List MemPlace} (h : DataW.trod ench Try.prog w base spare held n 25 cs = some x) : ∃ s : So, cs = [.int .i64 s.saL, .int .i64 s.saH, .int .i64 s.lim, .int .i64 s.crop, .int .i64 s.miL, .int .i64 s.miH, .int .i64 s.waL, .int .i64 s.waH, .int .i64 s.riL, .int .i64 s.riH] := by
  obtain ⟨xs, m, _, _, hl, hxl, hf⟩ := DataW.trod_struct Try.underlying25 h
  rw [cSoil] at hl
  have hxl2 : xs.length = 6 := hxl
  match cs, hl with
  | [c0, c1, c2, c3, c4, c5, c6, c7, c8, c9], _ =>
    have h0 : DataW.trod ench Try.prog w base spare held m 23 (([c0, c1, c2, c3, c4, c5, c6, c7, c8, c9].drop 0).take (Try.prog.cellsOf 23)) = xs[0]? := hf 0 _ rfl
    have h1 : DataW.trod ench Try.prog w base spare held m 3 (([c0, c1, c2, c3, c4, c5, c6, c7, c8, c9].drop 2).take (Try.prog.cellsOf 3)) = xs[1]? := hf 1 _ rfl
    have h2 : DataW.trod ench Try.prog w base spare held m 3 (([c0, c1, c2, c3, c4, c5, c6, c7, c8, c9].drop 3).take (Try.prog.cellsOf 3)) = xs[2]? := hf 2 _ rfl
    have h3 : DataW.trod ench Try.prog w base spare held m 23 (([c0, c1, c2, c3, c4, c5, c6, c7, c8, c9].drop 4).take (Try.prog.cellsOf 23)) = xs[3]? := hf 3 _ rfl
    have h4 : DataW.trod ench Try.prog w base spare held m 23 (([c0, c1, c2, c3, c4, c5, c6, c7, c8, c9].drop 6).take (Try.prog.cellsOf 23)) = xs[4]? := hf 4 _ rfl
    have h5 : DataW.trod ench Try.prog w base spare held m 23 (([c0, c1, c2, c3, c4, c5, c6, c7, c8, c9].drop 8).take (Try.prog.cellsOf 23)) = xs[5]? := hf 5 _ rfl
    rw [List.getElem?_eq_getElem (by omega)] at h0 h1 h2 h3 h4 h5
    simp only [cInt, cSpan, List.drop_zero, List.take_succ_cons, List.take_zero, List.drop_succ_cons] at h0 h1 h2 h3 h4 h5
    obtain ⟨y0, y1, rfl, rfl⟩ := span_of h0
    obtain ⟨y2, rfl⟩ := int_of h1
    obtain ⟨y3, rfl⟩ := int_of h2
    obtain ⟨y4, y5, rfl, rfl⟩ := span_of h3
    obtain ⟨y6, y7, rfl, rfl⟩ := span_of h4
    obtain ⟨y8, y9, rfl, rfl⟩ := span_of h5
    exact ⟨⟨y0, y1, y2, y3, y4, y5, y6, y7, y8, y9⟩, rfl⟩
set_option maxRecDepth 100000 in
theorem open_i64 {r : Reach} {b0 : Nat} {v : Value} {d : DataW H} {p : List MemPlace} (hv : Value.okWide Try.prog w r b0 3 v) (h : DataW.Trod ench Try.prog w 0 (fun _ => true) true 3 v d p) : ∃ n, v = .int .i64 n := by
  obtain ⟨n, rfl, _⟩ := open_int Try.underlying3 hv h
  exact ⟨n, rfl⟩
set_option maxRecDepth 100000 in
theorem open_soil {r : Reach} {b0 : Nat} {v : Value} {d : DataW H} {p : List MemPlace} (hv : Value.okWide Try.prog w r b0 25 v) (h : DataW.Trod ench Try.prog w 0 (fun _ => true) true 25 v d p) :
    ∃ s : So, v = .agg #[.int .i64 s.saL, .int .i64 s.saH, .int .i64 s.lim, .int .i64 s.crop, .int .i64 s.miL, .int .i64 s.miH, .int .i64 s.waL, .int .i64 s.waH, .int .i64 s.riL, .int .i64 s.riH] := by
  obtain ⟨cs, rfl, _⟩ := okWide_struct Try.underlying25 hv
  obtain ⟨fuel, hf⟩ := h
  obtain ⟨s, hs⟩ := soil_of (cs := cs.toList) hf
  refine ⟨s, ?_⟩
  have e : cs = #[.int .i64 s.saL, .int .i64 s.saH, .int .i64 s.lim, .int .i64 s.crop, .int .i64 s.miL, .int .i64 s.miH, .int .i64 s.waL, .int .i64 s.waH, .int .i64 s.riL, .int .i64 s.riH] := Array.ext' hs
  rw [e]
set_option maxRecDepth 100000 in
theorem open_span {r : Reach} {b0 : Nat} {v : Value} {d : DataW H} {p : List MemPlace} (hv : Value.okWide Try.prog w r b0 23 v) (h : DataW.Trod ench Try.prog w 0 (fun _ => true) true 23 v d p) :
    ∃ a b : Int, v = .agg #[.int .i64 a, .int .i64 b] := by
  obtain ⟨v0, v1, y0, y1, n, rfl, _, _, h0, h1⟩ := open_agg2 Try.underlying23 (by kernel_rfl) (by kernel_rfl) hv h
  obtain ⟨a, rfl⟩ := int_of h0
  obtain ⟨b, rfl⟩ := int_of h1
  exact ⟨a, b, rfl⟩
end

theorem kids : Kids Try.prog (· < Try.prog.types.size) := kids_rows (by kernel_rfl) (by kernel_rfl)
theorem slices_full : ∀ t e, t < Try.prog.types.size → Try.prog.underlying t = some (.slice e) → 0 < Try.prog.cellsOf e := slices_full_of Try.prog (by kernel_rfl)

section
variable {H : Type} {ench : TypeId × Value → H}
theorem trod_later {W W' : World} (hb : Below W.heap.size W W') {spare : Nat → Bool} {t : TypeId} {v : Value} {d : DataW H} {p : List MemPlace} (h : DataW.Trod ench Try.prog W 0 spare true t v d p) (hlt : ∀ x ∈ p, x.block < W.heap.size) : DataW.Trod ench Try.prog W' 0 spare true t v d p := by
  obtain ⟨n, hn⟩ := h
  refine ⟨n, DataW.trod_carry n _ _ _ hn fun x hx => ?_⟩
  have := hlt x hx
  cases x with
  | cell b off => exact hb.cell (p := ⟨b, off, none⟩) this
  | map b => exact hb.block b this
theorem trodAll_later {W W' : World} (hb : Below W.heap.size W W') {spare : Nat → Bool} : ∀ {ts : List TypeId} {vs : List Value} {ds : List (DataW H)} {p : List MemPlace}, DataW.TrodAll ench Try.prog W 0 spare true ts vs ds p → (∀ x ∈ p, x.block < W.heap.size) → DataW.TrodAll ench Try.prog W' 0 spare true ts vs ds p
  | [], vs, ds, p, h, _ => by
    obtain ⟨rfl, rfl, rfl⟩ := trodAll_nil h
    rfl
  | t :: ts, vs, ds, p, h, hlt => by
    obtain ⟨v, vs', d, ds', p1, q, rfl, rfl, rfl, h1, h2⟩ := trodAll_cons h
    exact trodAll_cons_mk (trod_later hb h1 fun x hx => hlt x (List.mem_append_left _ hx)) (trodAll_later hb h2 fun x hx => hlt x (List.mem_append_right _ hx))

set_option maxRecDepth 100000 in
/-- The last step of a law's statement: true, in a world that is the one before and perhaps more memory. -/
theorem law_post {f : Func} {s : ChangeSpec} (hvars : s.vars = []) (hres : f.resultTypes = #[4]) {W W' : World} {args : Array Value} {ds gs : List (DataW H)} {before : List MemPlace}
    (hW : DataW.Whole ench Try.prog f.params.toList s.vars false W args.toList ds gs before) (hT : ∀ t ∈ f.params.toList, t < Try.prog.types.size)
    (hfn : s.fn H ds = { results := [.lit (.bool true)], args := ds }) (hb : Below W.heap.size W W') : s.post ench Try.prog f false true false false W args (.bool true) W' := by
  have hW' := hW
  have hlt : ∀ p ∈ before, p.block < W.heap.size := fun p hp => hW.lt p hp
  obtain ⟨p, q, hA, hV, rfl, hfz, hnd⟩ := hW
  rw [hvars] at hV
  obtain ⟨rfl, rfl⟩ := trodVars_none hV
  rw [List.append_nil] at hlt
  have hold : ∀ x ∈ p ++ [], (fun b => decide (b < W.heap.size)) x.block = true := fun x hx => by
    have := hW'.lt x hx
    simpa using this
  have hargs : ∀ sp : Nat → Bool, (∀ x ∈ p ++ [], sp x.block = true) → DataW.TrodAll ench Try.prog W' 0 sp true f.params.toList args.toList (s.fn H (ds ++ [])).args p := fun sp hsp => by
    rw [List.append_nil, hfn]
    exact trodAll_later hb (DataW.TrodAll.respare kids slices_full hT hA fun x hx => hsp x (List.mem_append_left _ hx)) hlt
  have hresd : ∀ (b : Nat) (sp : Nat → Bool) (hd : Bool), DataW.TrodAll ench Try.prog W' b sp hd f.resultTypes.toList (Value.resultList f.resultTypes.size (.bool true)) (s.fn H (ds ++ [])).results [] := fun b sp hd => by
    rw [List.append_nil, hfn, hres]
    exact trodAll_cons_mk (shut_bool Try.underlying4 _) trodAll_mk0
  have hvr : ∀ sp : Nat → Bool, (∀ x ∈ p ++ [], sp x.block = true) → DataW.TrodVars ench Try.prog W' sp s.vars (s.fn H (ds ++ [])).vars [] := fun _ _ => by
    rw [List.append_nil, hfn, hvars]
    rfl
  have hok : ∀ (j : Nat) (t : TypeId) (r : Value), f.resultTypes[j]? = some t → (Value.resultList f.resultTypes.size (.bool true))[j]? = some r → Value.okWide Try.prog W' .any 0 t r := ok_one hres rfl (okWide_bool_mk Try.underlying4 _)
  refine ⟨ds, [], p ++ [], [], p, [], hW', hresd _ _ _, hargs _ hold, hvr _ hold, World.keptBut_mono (fun x hx => ⟨hx, ?_⟩) (hb.frame (· ∈ p ++ [])), fun _ => ?_⟩
  · rw [List.append_nil] at hx
    exact Or.inr (.inl hx)
  · refine ⟨hok, _, _, ([] ++ p) ++ [], ⟨[] ++ p, [], trodAll_append (hargs _ (fun _ _ => rfl)) (hresd _ _ _), hvr _ (fun _ _ => rfl), rfl, ?_, ?_⟩, ?_⟩
    · intro b off hp
      have hin : MemPlace.cell b off ∈ p ++ [] := by simpa using hp
      rw [hb.frozen (hW'.lt _ hin)]
      exact hfz b off hin
    · intro ha
      cases ha
    · intro x hx _
      simpa using hx
end

end Go.Proofs.Ytjkefoijhphknaa
