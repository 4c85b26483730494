/- at and part: numbers that a list chooses. Condition: the list reads below the heap's end. -/
import Derived.Test.YtaoonfmcimkmhaaRefSame
import Derived.Test.YtaoonfmcimkmhaaLevAfter
import Derived.Test.YtaoonfmcimkmhaaLReach
import Derived.Test.YtaoonfmcimkmhaaCalm
import Derived.Test.YtaoonfmcimkmhaaClash
import Derived.Test.YtaoonfmcimkmhaaRuns
import Derived.Test.YtaoonfmcimkmhaaLevSlope
import Derived.Test.YtaoonfmcimkmhaaWidMath
set_option linter.unusedVariables false
set_option linter.unusedSimpArgs false
namespace Go.Proofs.Ytaoonfmcimkmhaa
open Go.RowKit

def atI (l : List Int) (i : Nat) : Int := if l.length = 0 then 0 else l.getD (i % l.length) 0
def partI (n : Nat) (l : List Int) (i : Nat) : Int := (atI l i % 4294967296) % ((n : Int) + 1)
theorem partI_bd (n : Nat) (l : List Int) (i : Nat) : 0 ≤ partI n l i ∧ partI n l i ≤ n := by
  unfold partI
  have h1 := Int.emod_nonneg (atI l i % 4294967296) (show ((n : Int) + 1) ≠ 0 by omega)
  have h2 := Int.emod_lt_of_pos (atI l i % 4294967296) (show 0 < (n : Int) + 1 by omega)
  omega

theorem at_any (l : List Int) (i c : Nat) (A : Option Addr) (w : World) (rl : Rd w w.heap.size A inV 1 l) (hl : l.length ≤ 9223372036854775807) (hi : i ≤ 1000000000) :
    Calls Try.prog 70 #[.slice A l.length c, .int .i64 (i : Int)] w fun e w' => e = .returned (.int .i64 (atI l i)) ∧ w = w' := by
  rcases Nat.eq_zero_or_pos l.length with h0 | h0
  · have HA := Lib.hid (show atI l i = 0 by unfold atI; rw [if_pos h0])
    have h0I : ((l.length : Int) == 0) = true := by rw [h0]; rfl
    clear h0 rl
    go_enter Try.func70, Try.ntmps70
    go_wp2
    go_ret
    exact ⟨by rw [HA.out]; rfl, rfl⟩
  · have hm := Nat.mod_lt i h0
    have HA := Lib.hid (show atI l i = l[i % l.length] by unfold atI; rw [if_neg (by omega), List.getD_eq_getElem?_getD, List.getElem?_eq_getElem hm]; rfl)
    obtain ⟨b, o, rfl, hb, hc⟩ := rl.at_ hm
    have q0 := hc 0 _ rfl
    simp only [Nat.add_zero, Nat.mul_one] at q0
    have h0I : ((l.length : Int) == 0) = false := by rw [beq_eq_false_iff_ne]; omega
    have hmod : (i : Int).tmod (l.length : Int) = ((i % l.length : Nat) : Int) := by rw [Int.tmod_eq_emod_of_nonneg (by omega)]; rfl
    have hmod2 : (i : Int) % (l.length : Int) = ((i % l.length : Nat) : Int) := rfl
    have hmI : ((i % l.length : Nat) : Int) < (l.length : Int) := by omega
    have hn0 : ¬ (l.length : Int) = 0 := by omega
    generalize l[i % l.length] = x at *
    generalize hq : i % l.length = q at *
    generalize l.length = n at *
    clear hc rl hq hm
    go_enter Try.func70, Try.ntmps70
    go_wp2
    go_ret
    exact ⟨by rw [HA.out]; rfl, rfl⟩

theorem part_any (n : Nat) (l : List Int) (i c : Nat) (A : Option Addr) (w : World) (rl : Rd w w.heap.size A inV 1 l) (hl : l.length ≤ 9223372036854775807) (hi : i ≤ 1000000000) (hn : n ≤ 1000000000) :
    Calls Try.prog 38 #[.int .i64 (n : Int), .slice A l.length c, .int .i64 (i : Int)] w fun e w' => e = .returned (.int .i64 (partI n l i)) ∧ w = w' := by
  have HP := Lib.hid (show partI n l i = (atI l i % 4294967296) % ((n : Int) + 1) from rfl)
  have h1 := Int.emod_nonneg (atI l i) (show (4294967296 : Int) ≠ 0 by omega)
  have h2 := Int.emod_lt_of_pos (atI l i) (show 0 < (4294967296 : Int) by omega)
  have HR := Lib.hid rl
  have HAT := Lib.hid (fun W (h : Rd W W.heap.size A inV 1 l) => at_any l i c A W h hl hi)
  generalize atI l i = z at *
  clear rl
  go_enter Try.func38, Try.ntmps38
  go_wp2_with (go_at_call 70; refine (HAT.out _ HR.out).mono ?_; rintro e w1 ⟨rfl, rfl⟩)
  go_ret
  exact ⟨by rw [HP.out]; rfl, rfl⟩

end Go.Proofs.Ytaoonfmcimkmhaa

/- truth: heights that a list chooses, and a survey whose readings they fit. Condition: the survey is valid, and the slices read below the heap's end. -/
set_option linter.unusedVariables false
set_option linter.unusedSimpArgs false
namespace Go.Proofs.Ytaoonfmcimkmhaa
open Go.RowKit

def trH (l : List Int) (i : Nat) : Int := partI 2000 l i - 1000
def trSh (l : List Int) (i : Nat) (x : Sh) : Sh := ⟨x.f, x.t, trH l x.t.toNat - trH l x.f.toNat - partI 40 l (i + 3), trH l x.t.toNat - trH l x.f.toNat + partI 40 l (i + 5)⟩
def trMk (l : List Int) (i : Nat) (m : Mk) : Mk := ⟨m.p, trH l m.p.toNat - partI 30 l (i + 7), trH l m.p.toNat + partI 30 l (i + 9)⟩
def truS (s : Sv) (l : List Int) : Sv := { s with shots := s.shots.mapIdx (trSh l), marks := s.marks.mapIdx (trMk l) }
def trL (s : Sv) (l : List Int) : List Int := (List.range s.n.toNat).map (trH l)
theorem trH_bd (l : List Int) (i : Nat) : -1000 ≤ trH l i ∧ trH l i ≤ 1000 := by
  have := partI_bd 2000 l i
  unfold trH
  omega
theorem trL_len (s : Sv) (l : List Int) : (trL s l).length = s.n.toNat := by simp [trL]
theorem trL_at (s : Sv) (l : List Int) {i : Nat} (hi : i < s.n.toNat) : (trL s l)[i]? = some (trH l i) := by
  unfold trL
  rw [List.getElem?_map, List.getElem?_range hi]
  rfl

/-- The first k elements turned. -/
def updL {α : Type} (f : Nat → α → α) (l : List α) (k : Nat) : List α := (l.mapIdx f).take k ++ l.drop k
theorem updL_zero {α : Type} (f : Nat → α → α) (l : List α) : updL f l 0 = l := by simp [updL]
theorem updL_full {α : Type} (f : Nat → α → α) (l : List α) : updL f l l.length = l.mapIdx f := by
  unfold updL
  rw [List.drop_length, List.append_nil, List.take_of_length_le (by simp)]
theorem updL_len {α : Type} (f : Nat → α → α) (l : List α) (k : Nat) : (updL f l k).length = l.length := by
  unfold updL
  rw [List.length_append, List.length_take, List.length_drop, List.length_mapIdx]
  omega
theorem updL_get {α : Type} (f : Nat → α → α) (l : List α) {k : Nat} (hk : k < l.length) : (updL f l k)[k]? = some l[k] := by
  unfold updL
  rw [List.getElem?_append_right (by rw [List.length_take, List.length_mapIdx]; omega), List.length_take, List.length_mapIdx, List.getElem?_drop, Nat.min_eq_left (by omega), Nat.sub_self, Nat.add_zero, List.getElem?_eq_getElem hk]
theorem updL_succ {α : Type} (f : Nat → α → α) (l : List α) {k : Nat} (hk : k < l.length) : updL f l (k + 1) = (updL f l k).set k (f k l[k]) := by
  apply List.ext_getElem?
  intro i
  rw [List.getElem?_set, updL_len]
  unfold updL
  by_cases h : k = i
  · subst h
    rw [if_pos rfl, if_pos hk, List.getElem?_append_left (by rw [List.length_take, List.length_mapIdx]; omega), List.getElem?_take_of_lt (by omega), List.getElem?_mapIdx, List.getElem?_eq_getElem hk]
    rfl
  · rw [if_neg h]
    by_cases h2 : i < k
    · rw [List.getElem?_append_left (by rw [List.length_take, List.length_mapIdx]; omega), List.getElem?_append_left (by rw [List.length_take, List.length_mapIdx]; omega), List.getElem?_take_of_lt (by omega), List.getElem?_take_of_lt h2]
    · rw [List.getElem?_append_right (by rw [List.length_take, List.length_mapIdx]; omega), List.getElem?_append_right (by rw [List.length_take, List.length_mapIdx]; omega), List.length_take, List.length_take, List.length_mapIdx, Nat.min_eq_left (by omega), Nat.min_eq_left (by omega), List.getElem?_drop, List.getElem?_drop]
      congr 1
      omega

theorem flat_set {α : Type} {enc : α → List Value} {sz : Nat} (he : ∀ x, (enc x).length = sz) {y : α} {u : Value} {j : Nat} (hj : j < sz) : ∀ (l : List α) (i : Nat) (hi : i < l.length), enc y = (enc l[i]).set j u → flat enc (l.set i y) = (flat enc l).set (i * sz + j) u
  | [], i, hi, _ => absurd hi (by simp)
  | x :: l, 0, _, hy => by
    have hy2 : enc y = (enc x).set j u := hy
    show enc y ++ flat enc l = (enc x ++ flat enc l).set (0 * sz + j) u
    rw [hy2, Nat.zero_mul, Nat.zero_add, List.set_append_left _ _ (by rw [he]; exact hj)]
  | x :: l, i + 1, hi, hy => by
    have hi2 : i < l.length := by simpa using hi
    have hy2 : enc y = (enc l[i]).set j u := by simpa using hy
    have ih := flat_set he hj l i hi2 hy2
    show enc x ++ flat enc (l.set i y) = (enc x ++ flat enc l).set ((i + 1) * sz + j) u
    rw [ih, List.set_append_right _ _ (by rw [he, Nat.add_mul]; omega), he]
    congr 2
    rw [Nat.add_mul]
    omega
/-- A cell of a slice of the call's own is set. -/
theorem Own.put {α : Type} {w : World} {base : Nat} {e : TypeId} {enc : α → List Value} {sz : Nat} {l : List α} {g n c : Nat} (h : Own w base e (.slice (some ⟨g, 0, none⟩) n c) enc sz l) (he : ∀ x, (enc x).length = sz) {i j : Nat} (hi : i < l.length) (hj : j < sz) {y : α} {u : Value}
    (hy : enc y = (enc l[i]).set j u) : Own (w.setCell ⟨g, i * sz + j, none⟩ u) base e (.slice (some ⟨g, 0, none⟩) n c) enc sz (l.set i y) := by
  obtain ⟨h1, h2⟩ := h
  rcases h2 with ⟨h2, _⟩ | ⟨g', cap, cur, h2, hb, hg, hn, hm, hs, ht⟩
  · cases h2
  · injection h2 with e1 e2 e3
    injection e1 with e1
    injection e1 with e1
    subst e1
    refine ⟨?_, .inr ⟨g, cap, cur.setIfInBounds (i * sz + j) u, ?_, hb, heap_setCell_same w g (i * sz + j) _ _ _ hg, ?_, hm, by rw [Array.size_setIfInBounds, hs], ?_⟩⟩
    · rw [flat_length he, List.length_set]
    · rw [List.length_set, e2, e3]
    · rw [List.length_set]
      exact hn
    · rw [Array.toList_setIfInBounds, flat_set he hj l i hi hy, List.length_set, List.take_set, ht]
theorem grown_trans {a b c : World} {row : Option Nat} (h1 : a.grownBy b row) (h2 : b.grownBy c row) : a.grownBy c row :=
  ⟨h2.os.trans h1.os, h2.tape.trans h1.tape, h2.output.trans h1.output, Nat.le_trans h1.size h2.size, fun k hk hne => (h2.block k (Nat.lt_of_lt_of_le hk h1.size) hne).trans (h1.block k hk hne)⟩
theorem grown_set {w : World} {g j : Nat} (u : Value) : w.grownBy (w.setCell ⟨g, j, none⟩ u) (some g) :=
  ⟨rfl, rfl, rfl, by simp [World.setCell], fun k hk hne => Below.heap_setCell w _ u k (fun e => hne (by rw [e]))⟩

/-- A slice that reads as a list, in memory made from block b on. -/
def RdF {α : Type} (b : Nat) (w : World) (A : Option Addr) (enc : α → List Value) (sz : Nat) (l : List α) : Prop := Rd w w.heap.size A enc sz l ∧ ∀ a, A = some a → b ≤ a.block
theorem fr_of {α : Type} {w : World} {base b : Nat} {e : TypeId} {A : Option Addr} {n c : Nat} {enc : α → List Value} {sz : Nat} {l : List α} (h : Own w base e (.slice A n c) enc sz l) (hb : b ≤ base) : ∀ a, A = some a → b ≤ a.block := fun a ha => by
  subst ha
  have := (h.lt a.block rfl).1
  omega
theorem results_tmp_cell {fn : Func} {p u : Tmp} {ty : TypeId} (h : fn.results = #[.tmp u, .cell p ty]) (tmps : Array Value) (P : Program) (w : World) :
    (results fn tmps).run P w =
      ((asAddr (tmps.getD p undef)).run P w).andThen fun a w₁ => ((loadVar ty a).run P w₁).andThen fun v w₂ => .ok (.tuple #[tmps.getD u undef, v]) w₂ := by
  simp only [results, h]
  simp [Sem.run_bind, Result.andThen]
theorem resTruth (tmps : Array Value) (W : World) (g : Nat) (x y z u : Value) (e : Value) (h1 : tmps.getD 5 undef = .pointer (some ⟨g, 0, none⟩)) (h2 : tmps.getD 4 undef = e) (hM : W.heap[g]? = some (.cells #[x, y, z, u] 26 (0, 0))) :
    (results Try.f37 tmps).run Try.prog W = .ok (.tuple #[e, .agg #[x, y, z, u]]) W := by
  rw [results_tmp_cell Try.results37, h1, h2]
  simp only [asAddr, Sem.run_pure, Result.andThen_ok]
  rw [run_loadVar_row W g _ _ #[x, y, z, u] (0, 0) _ hM Try.underlying26 rfl infoSurvey]
  rfl
theorem own_row {α : Type} {w : World} {base : Nat} {e : TypeId} {enc : α → List Value} {sz : Nat} {l : List α} {g n c : Nat} (h : Own w base e (.slice (some ⟨g, 0, none⟩) n c) enc sz l) : ∃ cur, w.heap[g]? = some (.cells cur e (0, 0)) := by
  rcases h.2 with ⟨h2, _⟩ | ⟨g', cap, cur, h2, _, hg, _⟩
  · cases h2
  · injection h2 with e1 e2 e3
    injection e1 with e1
    injection e1 with e1
    subst e1
    exact ⟨cur, hg⟩
theorem own_cell {α : Type} {w : World} {base : Nat} {e : TypeId} {enc : α → List Value} {sz : Nat} {l : List α} {g n c : Nat} (h : Own w base e (.slice (some ⟨g, 0, none⟩) n c) enc sz l) (he : ∀ x, (enc x).length = sz) {k : Nat} {x : α} (hx : l[k]? = some x) {j : Nat} {v : Value} (hv : (enc x)[j]? = some v) :
    w.cell? ⟨g, k * sz + j, none⟩ = some v := by
  have h2 := World.ownsRow.cells h (g := g) rfl (k * sz + j) v (flat_get he l k x hx j v hv)
  have hadd : (⟨g, 0, none⟩ : Addr).add (k * sz + j) = ⟨g, k * sz + j, none⟩ := by unfold Addr.add; split <;> simp_all
  rw [hadd] at h2
  exact h2

/-- What truth yields: heights, and a survey of the call's own. -/
def TruO (s : Sv) (l : List Int) (w : World) (e : Ending) (w' : World) : Prop := (∃ AH B1 B2 B3 cH d1 d2 d3, e = .returned (.tuple #[.slice AH s.n.toNat cH, .agg #[.int .i64 s.n, .slice B1 s.shots.length d1, .slice B2 s.marks.length d2, .slice B3 s.threads.length d3]]) ∧
        RdF w.heap.size w' AH inV 1 (trL s l) ∧ (∃ b1 b2 b3, Own w' b1 78 (.slice B1 s.shots.length d1) shV 4 (truS s l).shots ∧ Own w' b2 75 (.slice B2 s.marks.length d2) mkV 3 (truS s l).marks ∧ Own w' b3 72 (.slice B3 s.threads.length d3) shV 4 s.threads ∧ w.heap.size < b1 ∧ b1 ≤ b2 ∧ b2 ≤ b3 ∧ Apart (.slice B1 s.shots.length d1) b2 ∧ Apart (.slice B2 s.marks.length d2) b3)) ∧ Below w.heap.size w w'
set_option maxRecDepth 100000 in
set_option maxHeartbeats 8000000 in
theorem truth_own (s : Sv) (l : List Int) (cl c1 c2 c3 : Nat) (AL A1 A2 A3 : Option Addr) (w : World) (hok : svOk s = true) (rl : Rd w w.heap.size AL inV 1 l) (hl : l.length ≤ 9223372036854775807)
    (r1 : Rd w w.heap.size A1 shV 4 s.shots) (r2 : Rd w w.heap.size A2 mkV 3 s.marks) (r3 : Rd w w.heap.size A3 shV 4 s.threads) :
    Calls Try.prog 37 #[.agg #[.int .i64 s.n, .slice A1 s.shots.length c1, .slice A2 s.marks.length c2, .slice A3 s.threads.length c3], .slice AL l.length cl] w (TruO s l w) := by
  have R1 := Lib.hid r1
  have R2 := Lib.hid r2
  have R3 := Lib.hid r3
  have RL := Lib.hid rl
  have HSP := Lib.hid (svOk_spec hok)
  obtain ⟨⟨n1, n2, n3, n4, n5⟩, _⟩ := svOk_spec hok
  obtain ⟨i0, hi0, hz0, hz0b, hz0c⟩ := info_parts infoInt
  have I0 := Lib.hid (And.intro hi0 (And.intro hz0 (And.intro hz0b hz0c)))
  obtain ⟨nn, hnn⟩ : ∃ n : Nat, s.n = (n : Int) ∧ n ≤ 20 ∧ s.n.toNat = n := ⟨s.n.toNat, by omega, by omega, rfl⟩
  obtain ⟨hnI, hn20, hnn⟩ := hnn
  have HNI := Lib.hid hnI
  have HNN := Lib.hid hnn
  clear r1 r2 r3 rl hi0 hz0 hz0b hz0c hok hnI hnn n1 n2
  go_enter Try.func37, Try.ntmps37
  go_upto_region 2 with fail
  obtain ⟨w2, hw2⟩ : ∃ w2, (w.alloc (.cells #[.int .i64 s.n, .slice A1 s.shots.length c1, .slice A2 s.marks.length c2, .slice A3 s.threads.length c3] 26)).alloc (.cells #[.int .i64 0, .slice none 0 0, .slice none 0 0, .slice none 0 0] 26) = w2 := ⟨_, rfl⟩
  rw [hw2]
  have S0 : w2.heap[w.heap.size]? = some (.cells #[.int .i64 s.n, .slice A1 s.shots.length c1, .slice A2 s.marks.length c2, .slice A3 s.threads.length c3] 26 (0, 0)) := by rw [← hw2]; exact heap_alloc2_old _ _ _
  have RR0 : w2.heap[w.heap.size + 1]? = some (.cells #[.int .i64 0, .slice none 0 0, .slice none 0 0, .slice none 0 0] 26 (0, 0)) := by rw [← hw2]; exact heap_alloc2_new _ _ _
  have hb2 : Below w.heap.size w w2 := by rw [← hw2]; (repeat' (first | (with_reducible exact Below.refl _ _) | (with_reducible refine Below.alloc ?_ ?_ _) | (with_reducible refine Below.drew ?_) | (with_reducible refine Below.drewN_ ?_ _) | (with_reducible refine Below.setCell ?_ ?_ _) | (with_reducible refine Below.setRow ?_ ?_ _) | (with_reducible refine Below.via ?_ (by with_reducible assumption) ?_) | go_size))
  have hz2 : w.heap.size + 1 < w2.heap.size := by rw [← hw2]; simp
  have HS := Lib.hid S0
  have HRR := Lib.hid RR0
  have s0 : w2.cell? ⟨w.heap.size, 0, none⟩ = some (.int .i64 (nn : Int)) := (cell_of_row w2 _ 0 _ _ _ S0).trans (by rw [HNI.out]; rfl)
  clear hw2 S0 RR0
  go_wp2
  go_loopw [6, 15] (fun v6 v15 W => ∃ k : Nat, k ≤ nn ∧ v15 = .int .i64 k ∧ Own W w2.heap.size 3 v6 inV 1 ((trL s l).take k) ∧ Below w2.heap.size w2 W) (fun _ i _ => nn - (intOf i).toNat)
  case atStart => exact ⟨0, by omega, rfl, Own.nil_ _ _ _ _ _, Below.refl _ _⟩
  case round =>
    obtain ⟨k, hk, rfl, hO, hbk⟩ := hrel
    have HO := Lib.hid hO
    clear hO
    by_cases hlt : k < nn
    · have hT : (trL s l).take (k + 1) = (trL s l).take k ++ [partI 2000 l k - 1000] := by
        rw [List.take_add_one, trL_at s l (by rw [HNN.out]; exact hlt)]
        rfl
      have HT := Lib.hid hT
      have hx := partI_bd 2000 l k
      have HP := Lib.hid (part_any 2000 l k cl AL wr ((RL.out.below (hb2.trans (hbk.mono hb2.size))).more (hb2.trans (hbk.mono hb2.size)).size) hl (by omega) (by omega))
      have hln : ((trL s l).take k).length ≤ 20 := by rw [List.length_take]; omega
      have hzk := hbk.size
      clear hT
      generalize partI 2000 l k = x at *
      have hwx : IntKind.i64.wrap (x - 1000) = x - 1000 := IntWalk.i64_in _ (by omega)
      go_wp2_with (first
        | (go_at_call 38; refine HP.out.mono ?_; rintro e wp ⟨rfl, rfl⟩)
        | (at_builtin; refine wpList_append_rd rfl (.tmp 18) (.tmp 23) 46 rfl i0 _ 8 Try.underlying46 I0.out.1 I0.out.2.1 I0.out.2.2.1 I0.out.2.2.2 rfl (by omega) inV_len' inV_one' rfl (HO.out.below ((Below.refl _ _).alloc (Nat.le_refl _) _)) rfl rfl (Rd.one _ (x - 1000) #[.int .i64 (x - 1000)] 3 rfl) (by simp; omega) (by omega) (by simp; omega) ?_; intro v' w5 ho5 hg5 hat5; have HO5 := Lib.hid ho5; have HG5 := Lib.hid hg5; clear ho5 hg5 hat5))
      have hg6 : World.grownBy _ w5 u6.ownBlock := HG5.out
      have hb5 : Below w2.heap.size w2 w5 := (hbk.alloc hbk.size _).trans (below_grown hg6 (by simp; omega) (fun b hb => (HO.out.lt b hb).1))
      clear hg6 HG5
      go_roundw
      case rel => exact ⟨k + 1, by omega, by go_num, by rw [HT.out]; exact HO5.out, hb5⟩
      case measure => (simp [intOf] <;> omega)
    · have hkn : nn = k := by omega
      subst hkn
      have hfull : (trL s l).take nn = trL s l := List.take_of_length_le (by rw [trL_len, HNN.out]; exact Nat.le_refl _)
      rw [hfull] at HO
      obtain ⟨AH, cH, hu6⟩ := HO.out.form
      have hlenH : (trL s l).length = nn := by rw [trL_len, HNN.out]
      rw [hlenH] at hu6
      subst hu6
      have HLH := Lib.hid hlenH
      have hbw := hb2.trans (hbk.mono hb2.size)
      have HSr := row_keep HS.out hbk
      have HRr := Lib.hid (row_keep HRR.out hbk)
      have hzr := hbk.size
      have ltS : w.heap.size < wr.heap.size := by omega
      have R1r := Lib.hid ((R1.out.below hbw).more hbw.size)
      have R2r := Lib.hid ((R2.out.below hbw).more hbw.size)
      have R3r := Lib.hid ((R3.out.below hbw).more hbw.size)
      have c0 : wr.cell? ⟨w.heap.size, 0, none⟩ = some (.int .i64 s.n) := cell_of_row wr _ 0 _ _ _ HSr
      have cc1 : wr.cell? ⟨w.heap.size, 1, none⟩ = some (.slice A1 s.shots.length c1) := cell_of_row wr _ 1 _ _ _ HSr
      have cc2 : wr.cell? ⟨w.heap.size, 2, none⟩ = some (.slice A2 s.marks.length c2) := cell_of_row wr _ 2 _ _ _ HSr
      have cc3 : wr.cell? ⟨w.heap.size, 3, none⟩ = some (.slice A3 s.threads.length c3) := cell_of_row wr _ 3 _ _ _ HSr
      have HSr := Lib.hid HSr
      have hkk : ¬ (nn : Int) < (nn : Int) := by omega
      clear hfull hlenH s0
      go_upto_region 8 with (go_at_call 15; refine (twin_own s c1 c2 c3 A1 A2 A3 wr R1r.out R2r.out R3r.out (by omega) (by omega) (by omega)).mono ?_; rintro e w4 ⟨⟨B1, B2, B3, d1, d2, d3, b1, b2, b3, rfl, o1, o2, o3, q0, q1, q2, q3, a1, a2⟩, hb4⟩; have T4 := row_keep HSr.out hb4; have k0 := cell_of_row w4 _ 0 _ _ _ T4; have k1 := cell_of_row w4 _ 1 _ _ _ T4; have k2 := cell_of_row w4 _ 2 _ _ _ T4; have k3 := cell_of_row w4 _ 3 _ _ _ T4; have f0 := frozen_of_row w4 w.heap.size 0 _ _ T4; have f1 := frozen_of_row w4 w.heap.size 1 _ _ T4; have f2 := frozen_of_row w4 w.heap.size 2 _ _ T4; have f3 := frozen_of_row w4 w.heap.size 3 _ _ T4; simp only [List.getElem?_toArray, List.getElem?_cons_zero, List.getElem?_cons_succ] at k0 k1 k2 k3; have HT4 := Lib.hid T4; have O1 := Lib.hid o1; have O2 := Lib.hid o2; have O3 := Lib.hid o3; have E12 := Lib.hid a1; have E23 := Lib.hid a2; clear T4 o1 o2 o3 a1 a2)
      obtain ⟨w5, hw5⟩ : ∃ w5, ((((w4.setCell ⟨w.heap.size, 0, none⟩ (.int .i64 s.n)).setCell ⟨w.heap.size, 1, none⟩ (.slice B1 s.shots.length d1)).setCell ⟨w.heap.size, 2, none⟩ (.slice B2 s.marks.length d2)).setCell ⟨w.heap.size, 3, none⟩ (.slice B3 s.threads.length d3)) = w5 := ⟨_, rfl⟩
      rw [hw5]
      have hz4 := hb4.size
      have T5 := heap_set4 (a := .int .i64 s.n) (b := .slice B1 s.shots.length d1) (c := .slice B2 s.marks.length d2) (d := .slice B3 s.threads.length d3) HT4.out
      rw [hw5] at T5
      have RR5 : w5.heap[w.heap.size + 1]? = some (.cells #[.int .i64 0, .slice none 0 0, .slice none 0 0, .slice none 0 0] 26 (0, 0)) := by
        rw [← hw5, Below.heap_setCell _ _ _ _ (by dsimp only; omega), Below.heap_setCell _ _ _ _ (by dsimp only; omega), Below.heap_setCell _ _ _ _ (by dsimp only; omega), Below.heap_setCell _ _ _ _ (by dsimp only; omega)]
        exact row_keep HRr.out hb4
      have hset : ∀ {α : Type} {base : Nat} {e : TypeId} {v : Value} {enc : α → List Value} {sz : Nat} {ll : List α}, Own w4 base e v enc sz ll → w.heap.size < base → Own w5 base e v enc sz ll := fun h hlt => by
        rw [← hw5]
        exact (((h.set_ (p := ⟨w.heap.size, 0, none⟩) hlt _).set_ (p := ⟨w.heap.size, 1, none⟩) hlt _).set_ (p := ⟨w.heap.size, 2, none⟩) hlt _).set_ (p := ⟨w.heap.size, 3, none⟩) hlt _
      have P1 := Lib.hid (hset O1.out (by omega))
      have P2 := Lib.hid (hset O2.out (by omega))
      have P3 := Lib.hid (hset O3.out (by omega))
      have PH := Lib.hid (hset (HO.out.below hb4) (by omega))
      have LH := Lib.hid (show Apart (.slice AH nn cH) b1 from fun g hg => Nat.lt_of_lt_of_le (HO.out.lt g hg).2 q0)
      have hz5 : w5.heap.size = w4.heap.size := by rw [← hw5]; simp
      have hbw5 : Below w.heap.size w w5 := by
        rw [← hw5]
        exact (((((hbw.trans (hb4.mono hbw.size)).setCell (Nat.le_refl _) _).setCell (Nat.le_refl _) _).setCell (Nat.le_refl _) _).setCell (Nat.le_refl _) _)
      have l5a : w.heap.size + 1 < w5.heap.size := by omega
      have HT5 := Lib.hid T5
      have HR5 := Lib.hid RR5
      have m1 : w5.cell? ⟨w.heap.size, 1, none⟩ = some (.slice B1 s.shots.length d1) := cell_of_row w5 _ 1 _ _ _ T5
      have q0b : w2.heap.size ≤ b1 := by omega
      clear hset hw5 T5 RR5 O1 O2 O3 HO HT4 k0 k1 k2 k3 f0 f1 f2 f3 hz5 c0 cc1 cc2 cc3 hb4 hz4 q0 HSr HRr hbk R1r R2r R3r hkk
      go_wp2
      go_loopw [31] (fun v31 W => ∃ k : Nat, k ≤ s.shots.length ∧ v31 = .int .i64 k ∧ w5.grownBy W (Value.slice B1 s.shots.length d1).ownBlock ∧ Own W b1 78 (.slice B1 s.shots.length d1) shV 4 (updL (trSh l) s.shots k)) (fun i _ => s.shots.length - (intOf i).toNat)
      case atStart => exact ⟨0, by omega, rfl, ⟨rfl, rfl, rfl, Nat.le_refl _, fun _ _ _ => rfl⟩, by rw [updL_zero]; exact P1.out⟩
      case round =>
        obtain ⟨k, hk, rfl, hg, hO1⟩ := hrel
        have HG := Lib.hid hg
        have HO1 := Lib.hid hO1
        have hgz := hg.size
        clear hg hO1
        by_cases hlt : k < s.shots.length
        · have hyl := HSP.out.2.1 _ (List.getElem_mem hlt)
          have hyk := updL_get (trSh l) s.shots hlt
          have HUS := Lib.hid (updL_succ (trSh l) s.shots hlt)
          have hul := updL_len (trSh l) s.shots k
          obtain ⟨y, hy⟩ : ∃ y, s.shots[k] = y := ⟨_, rfl⟩
          rw [hy] at hyl hyk HUS
          obtain ⟨y1, y2, y3, y4, y5, _⟩ := shOk_spec hyl
          obtain ⟨ya, hya⟩ := Int.eq_ofNat_of_zero_le y1
          obtain ⟨yb, hyb⟩ := Int.eq_ofNat_of_zero_le y3
          have hni := HNI.out
          have hyan : ya < nn := by omega
          have hybn : yb < nn := by omega
          obtain ⟨g, hB1, hgb, hgl⟩ := HO1.out.from_ (by omega)
          subst hB1
          have hne : ∀ b, b ≠ g → some b ≠ (Value.slice (some ⟨g, 0, none⟩) s.shots.length d1).ownBlock := fun b hb e => by
            injection e with e
            exact hb e
          have T6 := (HG.out.block w.heap.size (by omega) (hne _ (by omega))).trans HT5.out
          have ms1 : wr.cell? ⟨w.heap.size, 1, none⟩ = some (.slice (some ⟨g, 0, none⟩) s.shots.length d1) := cell_of_row wr _ 1 _ _ _ T6
          have PHr := PH.out.keep HG.out (apart_lt LH.out (fun k hk => (P1.out.lt k hk).1))
          have hH := PHr.rd' HLH.out.symm inV_len'
          obtain ⟨gh, oh, hAH, hgh, hch⟩ := hH (by rw [HLH.out]; omega)
          subst hAH
          have qa := hch ya _ (trL_at s l (by rw [HNN.out]; exact hyan)) 0 _ rfl
          have qb := hch yb _ (trL_at s l (by rw [HNN.out]; exact hybn)) 0 _ rfl
          simp only [Nat.add_zero, Nat.mul_one] at qa qb
          obtain ⟨g', o', hgo, _, hce⟩ := (HO1.out.rd' hul.symm shV_len) (by omega)
          injection hgo with hgo
          injection hgo with e1 e2 e3
          subst e1 e2
          have e0 := hce k y hyk 0 _ rfl
          have e1 := hce k y hyk 1 _ rfl
          simp only [Nat.zero_add, Nat.add_zero] at e0 e1
          rw [hya] at e0
          rw [hyb] at e1
          have bta := trH_bd l ya
          have btb := trH_bd l yb
          have hyan2 : (ya : Int) < (nn : Int) := by omega
          have hybn2 : (yb : Int) < (nn : Int) := by omega
          have HF := Lib.hid (show trSh l k y = ⟨y.f, y.t, trH l yb - trH l ya - partI 40 l (k + 3), trH l yb - trH l ya + partI 40 l (k + 5)⟩ by unfold trSh; rw [hya, hyb, Int.toNat_natCast, Int.toNat_natCast])
          have hRLw := (RL.out.below (hbw5.trans (below_grown HG.out (by omega) (fun b hb => by have := (P1.out.lt b hb).1; omega))))
          have HPT := Lib.hid (fun (n m : Nat) (W : World) (hW : Below wr.heap.size wr W) (hn : n ≤ 1000000000) (hm : m ≤ 1000000000) => part_any n l m cl AL W (((hRLw.below (hW.mono (by have := hbw5.size; omega)))).more (by have := hbw5.size; have := hW.size; omega)) hl hm hn)
          have hp3 := partI_bd 40 l (k + 3)
          have hp5 := partI_bd 40 l (k + 5)
          have HY := Lib.hid hyk
          have HYL := Lib.hid hyl
          have HUL := Lib.hid hul
          have HHA := Lib.hid (And.intro hya hyb)
          obtain ⟨ta, hta⟩ : ∃ x, trH l ya = x := ⟨_, rfl⟩
          obtain ⟨tb, htb⟩ : ∃ x, trH l yb = x := ⟨_, rfl⟩
          obtain ⟨p3, h3p⟩ : ∃ x, partI 40 l (k + 3) = x := ⟨_, rfl⟩
          obtain ⟨p5, h5p⟩ : ∃ x, partI 40 l (k + 5) = x := ⟨_, rfl⟩
          rw [hta] at qa bta HF
          rw [htb] at qb btb HF
          rw [h3p] at hp3 HF
          rw [h5p] at hp5 HF
          have H3P := Lib.hid h3p
          have H5P := Lib.hid h5p
          have hkI : (k : Int) < (s.shots.length : Int) := by omega
          have wr1 : IntKind.i64.wrap (tb - ta) = tb - ta := IntWalk.i64_in _ (by omega)
          clear hch hce hH PHr hyl hyk hul hya hyb hta htb h3p h5p hRLw y1 y2 y3 y4 y5 hy hne hni
          go_upto_region 12 with fail
          refine wp_region_draw_tail 15 (by kernel_rfl) (by decide +kernel) (by omega) ?_
          (simp only [List.take_succ_cons, List.take_zero, List.drop_succ_cons, List.drop_zero]); (repeat (go_big_quiet_step (fail))); refine wpQuiet_nil ?_; rintro _ ⟨nq, rfl⟩
          gi_wp2_with fail
          obtain ⟨wq, hwq⟩ : ∃ v, wr.drewN nq = v := ⟨_, rfl⟩
          rw [hwq]
          have hbq : Below wr.heap.size wr wq := by rw [← hwq]; exact Below.drewN_ (Below.refl _ _) _
          have hOq := HO1.out.below hbq
          have HOQ := Lib.hid hOq
          have w3p : IntKind.i64.wrap (tb - ta - p3) = tb - ta - p3 := IntWalk.i64_in _ (by omega)
          have w5p : IntKind.i64.wrap (tb - ta + p5) = tb - ta + p5 := IntWalk.i64_in _ (by omega)
          have HC3 : Hid (Calls Try.prog 38 #[.int .i64 40, .slice AL l.length cl, .int .i64 ((k : Int) + 3)] wq fun e w' => e = .returned (.int .i64 p3) ∧ wq = w') := Lib.hid (by rw [← H3P.out]; exact HPT.out 40 (k + 3) wq hbq (by omega) (by omega))
          have HC5 : Hid (Calls Try.prog 38 #[.int .i64 40, .slice AL l.length cl, .int .i64 ((k : Int) + 5)] wq fun e w' => e = .returned (.int .i64 p5) ∧ wq = w') := Lib.hid (by rw [← H5P.out]; exact HPT.out 40 (k + 5) wq hbq (by omega) (by omega))
          have t3 : True := trivial
          clear hwq hOq e0 e1 qa qb ms1
          go_wp2_with (first
            | (go_at_call 38; have _t := t3; clear t3 _t; refine HC3.out.mono ?_; rintro e wp ⟨rfl, rfl⟩)
            | (go_at_call 38; refine HC5.out.mono ?_; rintro e wp ⟨rfl, rfl⟩)
            | (go_at_call 39; refine (span_any _ _ _).mono ?_; rintro e ws ⟨rfl, hbs⟩; have hOs := HOQ.out.below hbs; obtain ⟨cur, hrow⟩ := own_row hOs; have z2 := frozen_of_row ws g (k * 4 + 2) _ _ hrow; have z3 := frozen_of_row ws g (k * 4 + 3) _ _ hrow; have y2 := own_cell hOs shV_len (HY.out) (j := 2) rfl; have y3 := own_cell hOs shV_len (HY.out) (j := 3) rfl; have HOS := Lib.hid hOs; clear hOs hrow))
          go_roundw
          case rel =>
            have hkk2 : k < (updL (trSh l) s.shots k).length := by rw [HUL.out]; exact hlt
            have hget : (updL (trSh l) s.shots k)[k] = y := by have := HY.out; rw [List.getElem?_eq_getElem hkk2] at this; injection this
            have g1 := HOS.out.put shV_len hkk2 (j := 2) (by omega) (y := ⟨y.f, y.t, tb - ta - p3, y.hi⟩) (u := .int .i64 (tb - ta - p3)) (by rw [hget]; rfl)
            have hkk3 : k < ((updL (trSh l) s.shots k).set k ⟨y.f, y.t, tb - ta - p3, y.hi⟩).length := by rw [List.length_set]; exact hkk2
            have g2 := g1.put shV_len hkk3 (j := 3) (by omega) (y := ⟨y.f, y.t, tb - ta - p3, tb - ta + p5⟩) (u := .int .i64 (tb - ta + p5)) (by rw [List.getElem_set_self]; rfl)
            rw [List.set_set] at g2
            refine ⟨k + 1, by omega, by go_num, grown_trans (grown_trans (grown_trans (grown_trans HG.out (grown_of_below hbq)) (grown_of_below hbs)) (grown_set _)) (grown_set _), ?_⟩
            rw [HUS.out, HF.out]
            exact g2
          case measure => (simp [intOf] <;> omega)
        · have hk2 : k = s.shots.length := by omega
          subst hk2
          rw [updL_full] at HO1
          have hkk : ¬ ((s.shots.length : Nat) : Int) < (s.shots.length : Int) := by omega
          have nb : ∀ b, b < b1 → some b ≠ (Value.slice B1 s.shots.length d1).ownBlock := fun b hb e => by have := (P1.out.lt b e.symm).1; omega
          have T7 := (HG.out.block w.heap.size (by omega) (nb _ (by omega))).trans HT5.out
          have R7 := (HG.out.block (w.heap.size + 1) (by omega) (nb _ (by omega))).trans HR5.out
          have PH7 := PH.out.keep HG.out (apart_lt LH.out (fun k hk => (P1.out.lt k hk).1))
          have P27 := P2.out.keep HG.out (apart_gt E12.out (fun k hk => (P2.out.lt k hk).1))
          have P37 := P3.out.keep HG.out (apart_gt (b := b3) (fun k hk => Nat.lt_of_lt_of_le (E12.out k hk) q2) (fun k hk => (P3.out.lt k hk).1))
          have hbw7 : Below w.heap.size w wr := hbw5.trans (below_grown HG.out (by omega) (fun b hb => by have := (P1.out.lt b hb).1; omega))
          have m2 : wr.cell? ⟨w.heap.size, 2, none⟩ = some (.slice B2 s.marks.length d2) := cell_of_row wr _ 2 _ _ _ T7
          have HT7 := Lib.hid T7
          have HR7 := Lib.hid R7
          have HPH7 := Lib.hid PH7
          have HP27 := Lib.hid P27
          have HP37 := Lib.hid P37
          have hz7 := hbw7.size
          have l7 : w.heap.size + 1 < wr.heap.size := by omega
          clear T7 R7 PH7 P27 P37 nb m1
          obtain ⟨w7, hw7⟩ : ∃ w7, w7 = wr := ⟨_, rfl⟩
          subst hw7
          go_wp2
          go_loopw [73] (fun v73 W => ∃ k : Nat, k ≤ s.marks.length ∧ v73 = .int .i64 k ∧ w7.grownBy W (Value.slice B2 s.marks.length d2).ownBlock ∧ Own W b2 75 (.slice B2 s.marks.length d2) mkV 3 (updL (trMk l) s.marks k)) (fun i _ => s.marks.length - (intOf i).toNat)
          case atStart => exact ⟨0, by omega, rfl, ⟨rfl, rfl, rfl, Nat.le_refl _, fun _ _ _ => rfl⟩, by rw [updL_zero]; exact HP27.out⟩
          case round =>
            obtain ⟨k, hk, rfl, hg2, hO2⟩ := hrel
            have HG2 := Lib.hid hg2
            have HO2 := Lib.hid hO2
            have hgz2 := hg2.size
            clear hg2 hO2
            by_cases hlt2 : k < s.marks.length
            · have hyl := HSP.out.2.2.1 _ (List.getElem_mem hlt2)
              have hyk := updL_get (trMk l) s.marks hlt2
              have HUS := Lib.hid (updL_succ (trMk l) s.marks hlt2)
              have hul := updL_len (trMk l) s.marks k
              obtain ⟨m, hm⟩ : ∃ m, s.marks[k] = m := ⟨_, rfl⟩
              rw [hm] at hyl hyk HUS
              have hpb : 0 ≤ m.p ∧ m.p < s.n := by unfold mkOk inB at hyl; simp at hyl; omega
              obtain ⟨ma, hma⟩ := Int.eq_ofNat_of_zero_le hpb.1
              have hni := HNI.out
              have hman : ma < nn := by omega
              obtain ⟨g, hB2, hgb, hgl⟩ := HO2.out.from_ (by omega)
              subst hB2
              have hne : ∀ b, b ≠ g → some b ≠ (Value.slice (some ⟨g, 0, none⟩) s.marks.length d2).ownBlock := fun b hb e => by
                injection e with e
                exact hb e
              have T8 := (HG2.out.block w.heap.size (by omega) (hne _ (by omega))).trans HT7.out
              have ms2 : wr.cell? ⟨w.heap.size, 2, none⟩ = some (.slice (some ⟨g, 0, none⟩) s.marks.length d2) := cell_of_row wr _ 2 _ _ _ T8
              have PHr := HPH7.out.keep HG2.out (apart_lt (b := b2) (fun k hk => Nat.lt_of_lt_of_le (LH.out k hk) q1) (fun k hk => (HP27.out.lt k hk).1))
              have hH := PHr.rd' HLH.out.symm inV_len'
              obtain ⟨gh, oh, hAH, hgh, hch⟩ := hH (by rw [HLH.out]; omega)
              subst hAH
              have qa := hch ma _ (trL_at s l (by rw [HNN.out]; exact hman)) 0 _ rfl
              simp only [Nat.add_zero, Nat.mul_one] at qa
              have e0 := own_cell HO2.out mkV_len hyk (j := 0) rfl
              simp only [Nat.add_zero] at e0
              rw [hma] at e0
              have bta := trH_bd l ma
              have hman2 : (ma : Int) < (nn : Int) := by omega
              have HF := Lib.hid (show trMk l k m = ⟨m.p, trH l ma - partI 30 l (k + 7), trH l ma + partI 30 l (k + 9)⟩ by unfold trMk; rw [hma, Int.toNat_natCast])
              have hbwr : Below w.heap.size w wr := hbw7.trans (below_grown HG2.out (by omega) (fun b hb => by have := (HP27.out.lt b hb).1; omega))
              have hRLw := (RL.out.below hbwr).more hbwr.size
              have hp7 := partI_bd 30 l (k + 7)
              have hp9 := partI_bd 30 l (k + 9)
              have HY := Lib.hid hyk
              have HUL := Lib.hid hul
              obtain ⟨ta, hta⟩ : ∃ x, trH l ma = x := ⟨_, rfl⟩
              obtain ⟨p7, h7p⟩ : ∃ x, partI 30 l (k + 7) = x := ⟨_, rfl⟩
              obtain ⟨p9, h9p⟩ : ∃ x, partI 30 l (k + 9) = x := ⟨_, rfl⟩
              rw [hta] at qa bta HF
              rw [h7p] at hp7 HF
              rw [h9p] at hp9 HF
              have HC7 : Hid (∀ W, Below wr.heap.size wr W → Calls Try.prog 38 #[.int .i64 30, .slice AL l.length cl, .int .i64 ((k : Int) + 7)] W fun e w' => e = .returned (.int .i64 p7) ∧ W = w') := Lib.hid (fun W hW => by rw [← h7p]; exact part_any 30 l (k + 7) cl AL W (rd_keep hRLw hW) hl (by omega) (by omega))
              have HC9 : Hid (∀ W, Below wr.heap.size wr W → Calls Try.prog 38 #[.int .i64 30, .slice AL l.length cl, .int .i64 ((k : Int) + 9)] W fun e w' => e = .returned (.int .i64 p9) ∧ W = w') := Lib.hid (fun W hW => by rw [← h9p]; exact part_any 30 l (k + 9) cl AL W (rd_keep hRLw hW) hl (by omega) (by omega))
              have hkI : (k : Int) < (s.marks.length : Int) := by omega
              have w7p : IntKind.i64.wrap (ta - p7) = ta - p7 := IntWalk.i64_in _ (by omega)
              have w9p : IntKind.i64.wrap (ta + p9) = ta + p9 := IntWalk.i64_in _ (by omega)
              have wk7 : IntKind.i64.wrap ((k : Int) + 7) = (k : Int) + 7 := IntWalk.i64_in _ (by omega)
              have wk9 : IntKind.i64.wrap ((k : Int) + 9) = (k : Int) + 9 := IntWalk.i64_in _ (by omega)
              clear hch hH PHr hyl hyk hul hma hta h7p h9p hRLw hm hne hni hpb T8
              go_upto_region 19 with fail
              refine (wpIn_wide (n := 3)).1 ?_
              refine wpIn_region_planA (by kernel_rfl) 28 (by decide +kernel) (by omega)
                (fun i => (#[.pointer (some ⟨g, k * 3, none⟩), .slice (some ⟨gh, oh, none⟩) nn cH, .pointer (some ⟨g, k * 3, none⟩), .pointer (some ⟨g, k * 3, none⟩), .pointer (some ⟨g, k * 3, none⟩), .int .i64 (ma : Int), .pointer (some ⟨gh, oh + ma, none⟩), .int .i64 ta, .slice AL l.length cl, .int .i64 (k : Int), .int .i64 ((k : Int) + 7), .int .i64 p7, .int .i64 (ta - p7), .slice (some ⟨gh, oh, none⟩) nn cH, .pointer (some ⟨g, k * 3, none⟩), .pointer (some ⟨g, k * 3, none⟩), .pointer (some ⟨g, k * 3, none⟩), .int .i64 (ma : Int), .pointer (some ⟨gh, oh + ma, none⟩), .int .i64 ta, .slice AL l.length cl, .int .i64 (k : Int), .int .i64 ((k : Int) + 9), .int .i64 p9, .int .i64 (ta + p9), .agg #[.int .i64 (ta - p7), .int .i64 (ta + p9)], .pointer (some ⟨g, k * 3, none⟩), .pointer (some ⟨g, k * 3 + 1, none⟩)] : Array Value).getD i undef)
                (fun W => Below wr.heap.size wr W) _ _ ?aF ?hA ?hS ?hstep ?htail
              case hA => simp [putTo, putIf, dstAt, Act.put, List.range_succ]; rfl
              case hS => exact (Below.refl _ _).drew
              case hstep =>
                intro i o' hi ho W hS
                refine ⟨fun _ _ => trivial, ?_⟩
                have qa' := (hS.cell (p := ⟨gh, oh + ma, none⟩) hgh).trans qa
                have e0' := (hS.cell (p := ⟨g, k * 3, none⟩) hgl).trans e0
                match i, hi, ho with
              | 0, _, ho => simp only [List.getElem?_toArray, List.getElem?_cons_succ, List.getElem?_cons_zero, Option.some.injEq] at ho; subst ho; go_simp; exact ⟨rfl, hS⟩
              | 1, _, ho => simp only [List.getElem?_toArray, List.getElem?_cons_succ, List.getElem?_cons_zero, Option.some.injEq] at ho; subst ho; go_simp; exact ⟨rfl, hS⟩
              | 2, _, ho => simp only [List.getElem?_toArray, List.getElem?_cons_succ, List.getElem?_cons_zero, Option.some.injEq] at ho; subst ho; go_simp; exact ⟨rfl, hS⟩
              | 3, _, ho => simp only [List.getElem?_toArray, List.getElem?_cons_succ, List.getElem?_cons_zero, Option.some.injEq] at ho; subst ho; go_simp; exact ⟨rfl, hS⟩
              | 4, _, ho => simp only [List.getElem?_toArray, List.getElem?_cons_succ, List.getElem?_cons_zero, Option.some.injEq] at ho; subst ho; go_simp; exact ⟨rfl, hS⟩
              | 5, _, ho => simp only [List.getElem?_toArray, List.getElem?_cons_succ, List.getElem?_cons_zero, Option.some.injEq] at ho; subst ho; go_simp; exact ⟨rfl, hS⟩
              | 6, _, ho => simp only [List.getElem?_toArray, List.getElem?_cons_succ, List.getElem?_cons_zero, Option.some.injEq] at ho; subst ho; go_simp; exact ⟨rfl, hS⟩
              | 7, _, ho => simp only [List.getElem?_toArray, List.getElem?_cons_succ, List.getElem?_cons_zero, Option.some.injEq] at ho; subst ho; go_simp; exact ⟨rfl, hS⟩
              | 8, _, ho => simp only [List.getElem?_toArray, List.getElem?_cons_succ, List.getElem?_cons_zero, Option.some.injEq] at ho; subst ho; go_simp; exact ⟨rfl, hS⟩
              | 9, _, ho => simp only [List.getElem?_toArray, List.getElem?_cons_succ, List.getElem?_cons_zero, Option.some.injEq] at ho; subst ho; go_simp; exact ⟨rfl, hS⟩
              | 10, _, ho => simp only [List.getElem?_toArray, List.getElem?_cons_succ, List.getElem?_cons_zero, Option.some.injEq] at ho; subst ho; go_simp; exact ⟨rfl, hS⟩
              | 11, _, ho => simp only [List.getElem?_toArray, List.getElem?_cons_succ, List.getElem?_cons_zero, Option.some.injEq] at ho; subst ho; go_simp; refine ⟨by simp, callsIn_wide.2 ((HC7.out W hS).mono ?_)⟩; rintro e w' ⟨rfl, rfl⟩; exact ⟨_, rfl, rfl, hS⟩
              | 12, _, ho => simp only [List.getElem?_toArray, List.getElem?_cons_succ, List.getElem?_cons_zero, Option.some.injEq] at ho; subst ho; go_simp; exact ⟨rfl, hS⟩
              | 13, _, ho => simp only [List.getElem?_toArray, List.getElem?_cons_succ, List.getElem?_cons_zero, Option.some.injEq] at ho; subst ho; go_simp; exact ⟨rfl, hS⟩
              | 14, _, ho => simp only [List.getElem?_toArray, List.getElem?_cons_succ, List.getElem?_cons_zero, Option.some.injEq] at ho; subst ho; go_simp; exact ⟨rfl, hS⟩
              | 15, _, ho => simp only [List.getElem?_toArray, List.getElem?_cons_succ, List.getElem?_cons_zero, Option.some.injEq] at ho; subst ho; go_simp; exact ⟨rfl, hS⟩
              | 16, _, ho => simp only [List.getElem?_toArray, List.getElem?_cons_succ, List.getElem?_cons_zero, Option.some.injEq] at ho; subst ho; go_simp; exact ⟨rfl, hS⟩
              | 17, _, ho => simp only [List.getElem?_toArray, List.getElem?_cons_succ, List.getElem?_cons_zero, Option.some.injEq] at ho; subst ho; go_simp; exact ⟨rfl, hS⟩
              | 18, _, ho => simp only [List.getElem?_toArray, List.getElem?_cons_succ, List.getElem?_cons_zero, Option.some.injEq] at ho; subst ho; go_simp; exact ⟨rfl, hS⟩
              | 19, _, ho => simp only [List.getElem?_toArray, List.getElem?_cons_succ, List.getElem?_cons_zero, Option.some.injEq] at ho; subst ho; go_simp; exact ⟨rfl, hS⟩
              | 20, _, ho => simp only [List.getElem?_toArray, List.getElem?_cons_succ, List.getElem?_cons_zero, Option.some.injEq] at ho; subst ho; go_simp; exact ⟨rfl, hS⟩
              | 21, _, ho => simp only [List.getElem?_toArray, List.getElem?_cons_succ, List.getElem?_cons_zero, Option.some.injEq] at ho; subst ho; go_simp; exact ⟨rfl, hS⟩
              | 22, _, ho => simp only [List.getElem?_toArray, List.getElem?_cons_succ, List.getElem?_cons_zero, Option.some.injEq] at ho; subst ho; go_simp; exact ⟨rfl, hS⟩
              | 23, _, ho => simp only [List.getElem?_toArray, List.getElem?_cons_succ, List.getElem?_cons_zero, Option.some.injEq] at ho; subst ho; go_simp; refine ⟨by simp, callsIn_wide.2 ((HC9.out W hS).mono ?_)⟩; rintro e w' ⟨rfl, rfl⟩; exact ⟨_, rfl, rfl, hS⟩
              | 24, _, ho => simp only [List.getElem?_toArray, List.getElem?_cons_succ, List.getElem?_cons_zero, Option.some.injEq] at ho; subst ho; go_simp; exact ⟨rfl, hS⟩
              | 25, _, ho => simp only [List.getElem?_toArray, List.getElem?_cons_succ, List.getElem?_cons_zero, Option.some.injEq] at ho; subst ho; go_simp; refine ⟨by simp, callsIn_wide.2 ((span_any _ _ W).mono ?_)⟩; rintro e w' ⟨rfl, hb⟩; exact ⟨_, rfl, rfl, hS.trans (hb.mono hS.size)⟩
              | 26, _, ho => simp only [List.getElem?_toArray, List.getElem?_cons_succ, List.getElem?_cons_zero, Option.some.injEq] at ho; subst ho; go_simp; exact ⟨rfl, hS⟩
              | 27, _, ho => simp only [List.getElem?_toArray, List.getElem?_cons_succ, List.getElem?_cons_zero, Option.some.injEq] at ho; subst ho; go_simp; exact ⟨rfl, hS⟩
              | kz + 28, hk, _ => omega
              case htail =>
                intro W hS
                have hOs := HO2.out.below hS
                obtain ⟨cur, hrow⟩ := own_row hOs
                have z2 := frozen_of_row W g (k * 3 + 1) _ _ hrow
                have z3 := frozen_of_row W g (k * 3 + 2) _ _ hrow
                have y2 := own_cell hOs mkV_len (HY.out) (j := 1) rfl
                have y3 := own_cell hOs mkV_len (HY.out) (j := 2) rfl
                have HOS := Lib.hid hOs
                clear hOs hrow e0 qa ms2
                simp only [List.drop_succ_cons, List.drop_zero]
                gi_wp2_with fail
                go_wp2
                go_roundw
                case rel =>
                  have hkk2 : k < (updL (trMk l) s.marks k).length := by rw [HUL.out]; exact hlt2
                  have hget : (updL (trMk l) s.marks k)[k] = m := by have := HY.out; rw [List.getElem?_eq_getElem hkk2] at this; injection this
                  have g1 := HOS.out.put mkV_len hkk2 (j := 1) (by omega) (y := ⟨m.p, ta - p7, m.hi⟩) (u := .int .i64 (ta - p7)) (by rw [hget]; rfl)
                  have hkk3 : k < ((updL (trMk l) s.marks k).set k ⟨m.p, ta - p7, m.hi⟩).length := by rw [List.length_set]; exact hkk2
                  have g2 := g1.put mkV_len hkk3 (j := 2) (by omega) (y := ⟨m.p, ta - p7, ta + p9⟩) (u := .int .i64 (ta + p9)) (by rw [List.getElem_set_self]; rfl)
                  rw [List.set_set] at g2
                  refine ⟨k + 1, by omega, by go_num, grown_trans (grown_trans (grown_trans HG2.out (grown_of_below hS)) (grown_set _)) (grown_set _), ?_⟩
                  rw [HUS.out, HF.out]
                  exact g2
                case measure => (simp [intOf] <;> omega)
            · have hk2 : k = s.marks.length := by omega
              subst hk2
              rw [updL_full] at HO2
              have hkk : ¬ ((s.marks.length : Nat) : Int) < (s.marks.length : Int) := by omega
              have nb : ∀ b, b < b2 → some b ≠ (Value.slice B2 s.marks.length d2).ownBlock := fun b hb e => by have := (HP27.out.lt b e.symm).1; omega
              have T9 := (HG2.out.block w.heap.size (by omega) (nb _ (by omega))).trans HT7.out
              have R9 := (HG2.out.block (w.heap.size + 1) (by omega) (nb _ (by omega))).trans HR7.out
              have PH9 := HPH7.out.keep HG2.out (apart_lt (b := b2) (fun k hk => Nat.lt_of_lt_of_le (LH.out k hk) q1) (fun k hk => (HP27.out.lt k hk).1))
              have P19 := HO1.out.keep HG2.out (apart_lt E12.out (fun k hk => (HP27.out.lt k hk).1))
              have P39 := HP37.out.keep HG2.out (apart_gt E23.out (fun k hk => (HP37.out.lt k hk).1))
              have hbw9 : Below w.heap.size w wr := hbw7.trans (below_grown HG2.out (by omega) (fun b hb => by have := (HP27.out.lt b hb).1; omega))
              have j0 := cell_of_row wr _ 0 _ _ _ T9
              have j1 := cell_of_row wr _ 1 _ _ _ T9
              have j2 := cell_of_row wr _ 2 _ _ _ T9
              have j3 := cell_of_row wr _ 3 _ _ _ T9
              have y0 := cell_of_row wr _ 0 _ _ _ R9
              have y1 := cell_of_row wr _ 1 _ _ _ R9
              have y2 := cell_of_row wr _ 2 _ _ _ R9
              have y3 := cell_of_row wr _ 3 _ _ _ R9
              have f0 := frozen_of_row wr (w.heap.size + 1) 0 _ _ R9
              have f1 := frozen_of_row wr (w.heap.size + 1) 1 _ _ R9
              have f2 := frozen_of_row wr (w.heap.size + 1) 2 _ _ R9
              have f3 := frozen_of_row wr (w.heap.size + 1) 3 _ _ R9
              simp only [List.getElem?_toArray, List.getElem?_cons_zero, List.getElem?_cons_succ] at j0 j1 j2 j3 y0 y1 y2 y3
              have HR9 := Lib.hid R9
              have HPH9 := Lib.hid PH9
              have HP19 := Lib.hid P19
              have HP39 := Lib.hid P39
              have hl1 : w.heap.size + 1 < b1 := by omega
              clear T9 R9 PH9 P19 P39 nb
              go_upto_region 21 with fail
              go_region
              go_wp2
              have hrowE : (((((wr.setCell ⟨w.heap.size + 1, 0, none⟩ (.int .i64 s.n)).setCell ⟨w.heap.size + 1, 1, none⟩ (.slice B1 s.shots.length d1)).setCell ⟨w.heap.size + 1, 2, none⟩ (.slice B2 s.marks.length d2)).setCell ⟨w.heap.size + 1, 3, none⟩ (.slice B3 s.threads.length d3)).drew).heap[w.heap.size + 1]? = some (.cells #[.int .i64 s.n, .slice B1 s.shots.length d1, .slice B2 s.marks.length d2, .slice B3 s.threads.length d3] 26 (0, 0)) := heap_set4 HR9.out
              refine bodyPost_ret (resTruth _ _ (w.heap.size + 1) (.int .i64 s.n) (.slice B1 s.shots.length d1) (.slice B2 s.marks.length d2) (.slice B3 s.threads.length d3) (.slice AH nn cH) rfl rfl hrowE) rfl ?_
              have hset : ∀ {α : Type} {base : Nat} {e : TypeId} {v : Value} {enc : α → List Value} {sz : Nat} {ll : List α}, Own wr base e v enc sz ll → w.heap.size + 1 < base → Own (((((wr.setCell ⟨w.heap.size + 1, 0, none⟩ (.int .i64 s.n)).setCell ⟨w.heap.size + 1, 1, none⟩ (.slice B1 s.shots.length d1)).setCell ⟨w.heap.size + 1, 2, none⟩ (.slice B2 s.marks.length d2)).setCell ⟨w.heap.size + 1, 3, none⟩ (.slice B3 s.threads.length d3)).drew) base e v enc sz ll := fun h hlt =>
                Own.below ((((h.set_ (p := ⟨w.heap.size + 1, 0, none⟩) hlt _).set_ (p := ⟨w.heap.size + 1, 1, none⟩) hlt _).set_ (p := ⟨w.heap.size + 1, 2, none⟩) hlt _).set_ (p := ⟨w.heap.size + 1, 3, none⟩) hlt _) (Below.refl _ _).drew
              have x1 := (hset HPH9.out hz2).rd' HLH.out.symm inV_len'
              have x2 := hset HP19.out hl1
              have x3 := hset HO2.out (by omega)
              have x4 := hset HP39.out (by omega)
              clear hset
              refine ⟨⟨AH, B1, B2, B3, cH, d1, d2, d3, by rw [HNN.out], ⟨x1, fr_of HPH9.out (by omega)⟩, b1, b2, b3, x2, x3, x4, by omega, q1, q2, E12.out, E23.out⟩, ?_⟩
              exact ((((hbw9.setCell (p := ⟨w.heap.size + 1, 0, none⟩) (Nat.le_succ _) _).setCell (p := ⟨w.heap.size + 1, 1, none⟩) (Nat.le_succ _) _).setCell (p := ⟨w.heap.size + 1, 2, none⟩) (Nat.le_succ _) _).setCell (p := ⟨w.heap.size + 1, 3, none⟩) (Nat.le_succ _) _).drew

theorem truth_any (s : Sv) (l : List Int) (cl c1 c2 c3 : Nat) (AL A1 A2 A3 : Option Addr) (w : World) (hok : svOk s = true) (rl : Rd w w.heap.size AL inV 1 l) (hl : l.length ≤ 9223372036854775807)
    (r1 : Rd w w.heap.size A1 shV 4 s.shots) (r2 : Rd w w.heap.size A2 mkV 3 s.marks) (r3 : Rd w w.heap.size A3 shV 4 s.threads) :
    Calls Try.prog 37 #[.agg #[.int .i64 s.n, .slice A1 s.shots.length c1, .slice A2 s.marks.length c2, .slice A3 s.threads.length c3], .slice AL l.length cl] w fun e w' =>
      (∃ AH B1 B2 B3 cH d1 d2 d3, e = .returned (.tuple #[.slice AH s.n.toNat cH, .agg #[.int .i64 s.n, .slice B1 s.shots.length d1, .slice B2 s.marks.length d2, .slice B3 s.threads.length d3]]) ∧
        RdF w.heap.size w' AH inV 1 (trL s l) ∧ RdF w.heap.size w' B1 shV 4 (truS s l).shots ∧ RdF w.heap.size w' B2 mkV 3 (truS s l).marks ∧ RdF w.heap.size w' B3 shV 4 s.threads) ∧ Below w.heap.size w w' := by
  refine (truth_own s l cl c1 c2 c3 AL A1 A2 A3 w hok rl hl r1 r2 r3).mono ?_
  rintro e w' ⟨⟨AH, B1, B2, B3, cH, d1, d2, d3, rfl, x1, b1, b2, b3, o1, o2, o3, h1, h2, h3, _, _⟩, hb⟩
  exact ⟨⟨AH, B1, B2, B3, cH, d1, d2, d3, rfl, x1, ⟨o1.rd' (by simp [truS]) shV_len, fr_of o1 (by omega)⟩, ⟨o2.rd' (by simp [truS]) mkV_len, fr_of o2 (by omega)⟩, ⟨o3.rd' rfl shV_len, fr_of o3 (by omega)⟩⟩, hb⟩

end Go.Proofs.Ytaoonfmcimkmhaa

/- Heights that a list chooses fit the survey that truth makes of them; and what each function of level then answers. Conditions stand at each theorem. -/
set_option linter.unusedVariables false
namespace Go.Proofs.Ytaoonfmcimkmhaa
open Go.RowKit

def trF (n : Nat) (l : List Int) (i : Nat) : Int := if i < n then trH l i else 0
theorem tru_ok {s : Sv} (hok : svOk s = true) (l : List Int) : svOk (truS s l) = true := by
  obtain ⟨⟨h1, h2, h3, h4, h5⟩, h6, h7, h8⟩ := svOk_spec hok
  rw [svOk_iff]
  refine ⟨⟨h1, h2, by simp [truS]; exact h3, by simp [truS]; exact h4, h5⟩, fun x hx => ?_, fun x hx => ?_, h8⟩
  · obtain ⟨k, hk, rfl⟩ := List.getElem_of_mem hx
    simp only [truS, List.getElem_mapIdx]
    have hk2 : k < s.shots.length := by simpa [truS] using hk
    have h9 := shOk_spec (h6 _ (List.getElem_mem hk2))
    have b1 := trH_bd l s.shots[k].t.toNat
    have b2 := trH_bd l s.shots[k].f.toNat
    have b3 := partI_bd 40 l (k + 3)
    have b4 := partI_bd 40 l (k + 5)
    unfold shOk diffB inB spanB trSh
    simp
    omega
  · obtain ⟨k, hk, rfl⟩ := List.getElem_of_mem hx
    simp only [truS, List.getElem_mapIdx]
    have hk2 : k < s.marks.length := by simpa [truS] using hk
    have h9 := h7 _ (List.getElem_mem hk2)
    have b1 := trH_bd l s.marks[k].p.toNat
    have b3 := partI_bd 30 l (k + 7)
    have b4 := partI_bd 30 l (k + 9)
    unfold mkOk inB spanB at h9 ⊢
    unfold trMk
    simp at h9 ⊢
    omega
theorem tru_fit {s : Sv} (hok : svOk s = true) (l : List Int) : FitSv (truS s l) (fun _ => false) 0 (trF s.n.toNat l) := by
  obtain ⟨⟨h1, h2, h3, h4, h5⟩, h6, h7, h8⟩ := svOk_spec hok
  rw [fitSv_mem]
  refine ⟨fun i hi => ?_, fun x hx => ?_, fun x hx => ?_⟩
  · have hi2 : i < s.n.toNat := hi
    have e : (truS s l).n.toNat = s.n.toNat := rfl
    rw [e]
    unfold trF
    rw [if_pos hi2, if_neg (by omega)]
    have := trH_bd l i
    omega
  · obtain ⟨k, hk, rfl⟩ := List.getElem_of_mem hx
    have hk2 : k < s.shots.length := by simpa [truS] using hk
    have h9 := shOk_spec (h6 _ (List.getElem_mem hk2))
    have b3 := partI_bd 40 l (k + 3)
    have b4 := partI_bd 40 l (k + 5)
    simp only [truS, List.getElem_mapIdx]
    unfold Holds trSh trF
    dsimp only
    rw [if_pos (by omega), if_pos (by omega)]
    omega
  · obtain ⟨k, hk, rfl⟩ := List.getElem_of_mem hx
    have hk2 : k < s.marks.length := by simpa [truS] using hk
    have h9 := h7 _ (List.getElem_mem hk2)
    have b3 := partI_bd 30 l (k + 7)
    have b4 := partI_bd 30 l (k + 9)
    unfold mkOk inB at h9
    simp at h9
    simp only [truS, List.getElem_mapIdx]
    unfold Holds trMk trF
    dsimp only
    rw [if_pos (by omega), if_neg (by omega)]
    omega

theorem tru_true {s : Sv} (hok : svOk s = true) (l : List Int) : (svD (truS s l)).2 = true := (svD_iff (tru_ok hok l)).2 ⟨_, tru_fit hok l⟩
/-- Each difference of the heights is within the greatest one. -/
theorem tru_diff {s : Sv} (hok : svOk s = true) (l : List Int) {i j : Nat} (hi : i < s.n.toNat) (hj : j < s.n.toNat) : trH l j - trH l i ≤ (svD (truS s l)).1 i j := by
  have e : (truS s l).n.toNat = s.n.toNat := rfl
  have h := svD_of (tru_ok hok l) (tru_fit hok l) (i := i) (k := j) (by rw [e]; omega) (by rw [e]; omega)
  unfold trF at h
  rw [if_pos hi, if_pos hj] at h
  exact h
theorem tru_low {s : Sv} (hok : svOk s = true) (l : List Int) {i : Nat} (hi : i < s.n.toNat) : -(svD (truS s l)).1 i s.n.toNat ≤ trH l i ∧ trH l i ≤ (svD (truS s l)).1 s.n.toNat i := by
  have e : (truS s l).n.toNat = s.n.toNat := rfl
  have h := svD_of (tru_ok hok l) (tru_fit hok l) (i := i) (k := s.n.toNat) (by rw [e]; omega) (by rw [e]; omega)
  have h2 := svD_of (tru_ok hok l) (tru_fit hok l) (i := s.n.toNat) (k := i) (by rw [e]; omega) (by rw [e]; omega)
  unfold trF at h h2
  rw [if_pos hi, if_neg (by omega)] at h h2
  omega

theorem tru_heights {s : Sv} (hok : svOk s = true) (l : List Int) : ∃ L, lvHeights (truS s l) = (L, 0) ∧ L.length = s.n.toNat ∧ ∀ i, i < s.n.toNat → ∃ p q, L[i]? = some (p, q) ∧ p ≤ trH l i ∧ trH l i ≤ q := by
  refine ⟨_, lvHeights_fit (tru_ok hok l) (tru_true hok l), hts_len _, fun i hi => ?_⟩
  have h := tru_low hok l hi
  exact ⟨_, _, hts_at (truS s l) hi, h.1, h.2⟩
theorem tru_fall {s : Sv} (hok : svOk s = true) (l : List Int) {i j : Nat} (hi : i < s.n.toNat) (hj : j < s.n.toNat) : ∃ p q, lvFall (truS s l) i j = ((p, q), 0) ∧ p ≤ trH l i - trH l j ∧ trH l i - trH l j ≤ q ∧ -20000000 ≤ p ∧ p ≤ 20000000 ∧ -20000000 ≤ q ∧ q ≤ 20000000 := by
  have h1 := tru_diff hok l hi hj
  have h2 := tru_diff hok l hj hi
  have e : (truS s l).n.toNat = s.n.toNat := rfl
  have b1 := svD_bd (tru_ok hok l) (tru_true hok l) (i := i) (j := j) (by rw [e]; omega) (by rw [e]; omega)
  have b2 := svD_bd (tru_ok hok l) (tru_true hok l) (i := j) (j := i) (by rw [e]; omega) (by rw [e]; omega)
  exact ⟨_, _, lvFall_fit (tru_ok hok l) (tru_true hok l) hi hj, by omega, by omega, by omega, by omega, by omega, by omega⟩
theorem tru_clash {s : Sv} (hok : svOk s = true) (l : List Int) : lvClash (truS s l) = ([], 6) := lvClash_none (tru_ok hok l) (tru_true hok l)
theorem tru_wid {s : Sv} (hok : svOk s = true) (l : List Int) : ∀ m : Nat, m ≤ 20000000 → (wkD (truS s l) (fun _ => false) (m : Int)).2 = decide (0 ≤ m) := fun m hm => by
  rw [decide_eq_true (Nat.zero_le _)]
  exact (wkD_iff (tru_ok hok l) (by omega) (by omega)).2 ⟨_, fitSv_mono (by omega) (tru_fit hok l)⟩

/-- The list of all points. -/
def allPts (n : Nat) : List Int := (List.range n).map fun (i : Nat) => (i : Int)
theorem allPts_len (n : Nat) : (allPts n).length = n := by simp [allPts]
theorem allPts_at {n i : Nat} (hi : i < n) : (allPts n)[i]? = some (i : Int) := by
  unfold allPts
  rw [List.getElem?_map, List.getElem?_range hi]
  rfl
theorem tru_runs {s : Sv} (hok : svOk s = true) (l : List Int) : ∃ L, lvRuns (truS s l) (allPts s.n.toNat) = (L, 0) ∧ L.length = s.n.toNat - 1 ∧ ∀ i, i < s.n.toNat - 1 → ∃ r, L[i]? = some r ∧ (r = 2 ∧ trH l (i + 1) < trH l i ∨ r = 0 ∧ trH l i ≤ trH l (i + 1) ∨ r = 1) := by
  obtain ⟨⟨g1, g2, _⟩, _⟩ := svOk_spec hok
  have hall : (allPts s.n.toNat).all (inB (truS s l).n) = true := by
    rw [List.all_eq_true]
    intro x hx
    unfold allPts at hx
    rw [List.mem_map] at hx
    obtain ⟨i, hi, rfl⟩ := hx
    rw [List.mem_range] at hi
    have e : (truS s l).n = s.n := rfl
    rw [e]
    unfold inB
    simp
    omega
  refine ⟨runsOf (svD (truS s l)).1 (allPts s.n.toNat), ?_, ?_, fun i hi => ?_⟩
  · unfold lvRuns
    rw [tru_ok hok l, tru_true hok l, hall, allPts_len]
    rw [if_neg (by simp), if_neg (by omega), if_neg (by simp), if_neg (by simp)]
  · unfold runsOf
    rw [List.length_map, List.length_range, allPts_len]
  · have hget : (runsOf (svD (truS s l)).1 (allPts s.n.toNat))[i]? = some (runAt (svD (truS s l)).1 (allPts s.n.toNat) i) := by
      unfold runsOf
      rw [List.getElem?_map, List.getElem?_range (by rw [allPts_len]; exact hi)]
      rfl
    refine ⟨_, hget, ?_⟩
    have e1 : (allPts s.n.toNat).getD i 0 = (i : Int) := by rw [List.getD_eq_getElem?_getD, allPts_at (by omega)]; rfl
    have e2 : (allPts s.n.toNat).getD (i + 1) 0 = ((i + 1 : Nat) : Int) := by rw [List.getD_eq_getElem?_getD, allPts_at (by omega)]; rfl
    unfold runAt
    rw [e1, e2, Int.toNat_natCast, Int.toNat_natCast]
    have h1 := tru_diff hok l (i := i) (j := i + 1) (by omega) (by omega)
    have h2 := tru_diff hok l (i := i + 1) (j := i) (by omega) (by omega)
    unfold aboveB
    split
    · exact .inl ⟨rfl, by omega⟩
    · split
      · exact .inr (.inl ⟨rfl, by omega⟩)
      · exact .inr (.inr rfl)

/-- A slope over a length that may be, times that length, is within the fall. -/
theorem slp_low {F lo hi long : Int} (h1 : 1 ≤ lo) (h2 : lo ≤ long) (h3 : long ≤ hi) : min (F * 1000 / lo) (F * 1000 / hi) * long ≤ F * 1000 := by
  have e1 := Int.ediv_mul_le (F * 1000) (show lo ≠ 0 by omega)
  have e2 := Int.ediv_mul_le (F * 1000) (show hi ≠ 0 by omega)
  generalize hq : F * 1000 / lo = q at *
  generalize hr : F * 1000 / hi = r at *
  by_cases h : 0 ≤ r
  · have a1 : min q r * long ≤ r * long := Int.mul_le_mul_of_nonneg_right (by omega) (by omega)
    have a2 : r * long ≤ r * hi := Int.mul_le_mul_of_nonneg_left h3 h
    omega
  · have hF : F * 1000 < 0 := by
      refine Int.not_le.1 fun hF => h ?_
      rw [← hr]
      exact Int.ediv_nonneg hF (by omega)
    have hq0 : q < 0 := by rw [← hq]; exact Int.ediv_neg_of_neg_of_pos hF (by omega)
    have a1 : min q r * long ≤ q * long := Int.mul_le_mul_of_nonneg_right (by omega) (by omega)
    have a2 : q * long ≤ q * lo := Int.mul_le_mul_of_nonpos_left (by omega) h2
    omega
theorem slp_high {F lo hi long : Int} (h1 : 1 ≤ lo) (h2 : lo ≤ long) (h3 : long ≤ hi) : F * 1000 ≤ max (-(-F * 1000 / lo)) (-(-F * 1000 / hi)) * long := by
  have h := slp_low (F := -F) h1 h2 h3
  have e : max (-(-F * 1000 / lo)) (-(-F * 1000 / hi)) = -min (-F * 1000 / lo) (-F * 1000 / hi) := by omega
  rw [e, Int.neg_mul]
  omega

theorem tru_slope {s : Sv} (hok : svOk s = true) (l : List Int) {i : Nat} {x : Sh} (hx : s.threads[i]? = some x) {long : Int} (h2 : x.lo ≤ long) (h3 : long ≤ x.hi) : ∃ p q, lvSlope (truS s l) i = ((p, q), 0) ∧
    p * long ≤ 1000 * (trH l x.f.toNat - trH l x.t.toNat) ∧ 1000 * (trH l x.f.toNat - trH l x.t.toNat) ≤ q * long ∧ -20000000000 ≤ p ∧ p ≤ 20000000000 ∧ -20000000000 ≤ q ∧ q ≤ 20000000000 := by
  obtain ⟨_, _, _, h8⟩ := svOk_spec hok
  have hs := shOk_spec (h8 x (List.mem_of_getElem? hx))
  obtain ⟨F, G, hF, f1, f2, f3, f4, f5, f6⟩ := tru_fall hok l (i := x.f.toNat) (j := x.t.toNat) (by omega) (by omega)
  have ht : thrAt (truS s l) (i : Int) = some x := by
    unfold thrAt
    rw [if_pos (by omega), Int.toNat_natCast]
    exact hx
  have hF2 : lvFall (truS s l) x.f x.t = ((F, G), 0) := by
    rw [← hF]
    congr 1 <;> omega
  have hval : lvSlope (truS s l) i = (slp F G x.lo x.hi, 0) := by
    unfold lvSlope
    rw [tru_ok hok l, ht, if_neg (by simp)]
    dsimp only
    rw [hF2]
    rfl
  have a1 := slp_low (F := F) (lo := x.lo) (hi := x.hi) (long := long) (by omega) h2 h3
  have a2 := slp_high (F := G) (lo := x.lo) (hi := x.hi) (long := long) (by omega) h2 h3
  have d1 : ∀ (n b : Int), 1 ≤ b → -20000000000 ≤ n → n ≤ 20000000000 → -20000000000 ≤ n / b ∧ n / b ≤ 20000000000 := fun n b hb g1 g2 => by
    constructor
    · rw [Int.le_ediv_iff_mul_le (by omega)]
      have : (20000000000 : Int) * 1 ≤ 20000000000 * b := Int.mul_le_mul_of_nonneg_left hb (by omega)
      omega
    · refine Int.ediv_le_of_le_mul (by omega) ?_
      have : (20000000000 : Int) * 1 ≤ 20000000000 * b := Int.mul_le_mul_of_nonneg_left hb (by omega)
      omega
  have k1 := d1 (F * 1000) x.lo (by omega) (by omega) (by omega)
  have k2 := d1 (F * 1000) x.hi (by omega) (by omega) (by omega)
  have k3 := d1 (-G * 1000) x.lo (by omega) (by omega) (by omega)
  have k4 := d1 (-G * 1000) x.hi (by omega) (by omega) (by omega)
  refine ⟨_, _, hval, ?_, ?_, ?_, ?_, ?_, ?_⟩ <;> omega

end Go.Proofs.Ytaoonfmcimkmhaa
