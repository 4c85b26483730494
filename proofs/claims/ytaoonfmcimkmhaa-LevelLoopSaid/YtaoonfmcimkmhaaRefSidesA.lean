/- The reference's sides. -/
import Derived.Test.YtaoonfmcimkmhaaRefEvery
import Derived.Test.YtaoonfmcimkmhaaRefCheck
import Derived.Test.YtaoonfmcimkmhaaLevInit
import Derived.BigRegion
import Derived.Deep.CutRange
namespace Go.Proofs.Ytaoonfmcimkmhaa
open Go.RowKit

/-- Row i of the first matrix, as far as it is laid. -/
def rowTo (p i k : Nat) : Mat := fun a b => if a = i then (if b < k then B1 p p i b else 0) else B1 p p a b
theorem rowTo_end {p i : Nat} : ∀ a b, b < p + 1 → rowTo p i (p + 1) a b = B1 p p a b := fun a b hb => by
  unfold rowTo
  by_cases e : a = i
  · subst e; rw [if_pos rfl, if_pos hb]
  · rw [if_neg e]
theorem rowTo_step {p i k : Nat} {v : Int} (hi : i ≤ p) (hk : k ≤ p) (hv : v = if i = k then 0 else if i = p ∨ k = p then 10000000 else 20000000) : ∀ a b, upd (rowTo p i k) i k v a b = rowTo p i (k + 1) a b := fun a b => by
  unfold upd rowTo B1
  subst hv
  repeat' split
  all_goals first | rfl | omega
theorem upd_upd (D : Mat) (i k : Nat) (u v : Int) : upd (upd D i k u) i k v = upd D i k v := by
  funext a b
  unfold upd
  split <;> rfl

theorem sidesFill2 {w : World} {g m i k b0 : Nat} {R : Nat → Nat} {D E : Mat} {u v : Int} (h : RowsUp w g g m (i + 1) R D) (hb : R i = b0) (hi : i < i + 1) (he : ∀ a b, upd D i k v a b = E a b) :
    RowsUp ((w.setCell ⟨b0, k, none⟩ (.int .i64 u)).setCell ⟨b0, k, none⟩ (.int .i64 v)) g g m (i + 1) R E := by
  have h1 := (h.set_ (k := i) (l := k) hi u).set_ (k := i) (l := k) hi v
  rw [hb, upd_upd] at h1
  exact h1.congr fun a b _ _ => he a b
theorem sidesFill3 {w : World} {g m i k b0 : Nat} {R : Nat → Nat} {D E : Mat} {t u v : Int} (h : RowsUp w g g m (i + 1) R D) (hb : R i = b0) (hi : i < i + 1) (he : ∀ a b, upd D i k v a b = E a b) :
    RowsUp (((w.setCell ⟨b0, k, none⟩ (.int .i64 t)).setCell ⟨b0, k, none⟩ (.int .i64 u)).setCell ⟨b0, k, none⟩ (.int .i64 v)) g g m (i + 1) R E := by
  have h1 := ((h.set_ (k := i) (l := k) hi t).set_ (k := i) (l := k) hi u).set_ (k := i) (l := k) hi v
  rw [hb, upd_upd, upd_upd] at h1
  exact h1.congr fun a b _ _ => he a b
theorem rdAt_pair (s : Sv) (k : Nat) : rdAt s k = (k, (rdAt s k).2) := rfl
theorem beqI {i k : Nat} (h : ¬ i = k) : ((i : Int) == (k : Int)) = false := by rw [beq_eq_false_iff_ne]; omega

theorem sidesFill {w : World} {g m i k b0 : Nat} {R : Nat → Nat} {D E : Mat} {v : Int} (h : RowsUp w g g m (i + 1) R D) (hb : R i = b0) (hi : i < i + 1) (he : ∀ a b, upd D i k v a b = E a b) :
    RowsUp (w.setCell ⟨b0, k, none⟩ (.int .i64 v)) g g m (i + 1) R E := by
  have h1 := h.set_ (k := i) (l := k) hi v
  rw [hb] at h1
  exact h1.congr fun a b _ _ => he a b

/-- What sides answers: nothing, or rows of a matrix. -/
def SidesPost (w : World) (n : Nat) (r : Option Mat) (e : Ending) (w' : World) : Prop :=
  (r = none ∧ e = .returned (.tuple #[.slice none 0 0, .bool false])) ∨
  ∃ E g R, r = some E ∧ e = .returned (.tuple #[.slice (some ⟨g, 0, none⟩) n n, .bool true]) ∧ w.heap.size ≤ g ∧ RowsUp w' g g n n R E
theorem sidesPost_none {w w' : World} {n : Nat} {r : Option Mat} (h : r = none) : SidesPost w n r (.returned (.tuple #[.slice none 0 0, .bool false])) w' := .inl ⟨h, rfl⟩
theorem sidesPost_some {w w' : World} {n : Nat} {r : Option Mat} {E : Mat} {g : Nat} {R : Nat → Nat} (h : r = some E) (hg : w.heap.size ≤ g) (hU : RowsUp w' g g n n R E) : SidesPost w n r (.returned (.tuple #[.slice (some ⟨g, 0, none⟩) n n, .bool true])) w' :=
  .inr ⟨E, g, R, h, rfl, hg, hU⟩
theorem sidesStep {w : World} {g m i k b : Nat} {R : Nat → Nat} {D E : Mat} {v v' : Int} (h : RowsUp w g g m m R D) (hb : R i = b) (hi : i < m) (hst : upd D i k v = E) (hv : v' = v) :
    RowsUp (w.setCell ⟨b, k, none⟩ (.int .i64 v')) g g m m R E := by
  have h1 := h.set_ (k := i) (l := k) hi v
  rw [hb, hst] at h1
  rw [hv]
  exact h1
theorem fwO_neg {n r o : Nat} {D : Mat} (h : negD n (rnd n o D) = true) : fwO n (r + 1) o D = none := by rw [fwO, h]; rfl
theorem fwO_on {n r o : Nat} {D : Mat} (h : negD n (rnd n o D) = false) : fwO n (r + 1) o D = fwO n r (o + 1) (rnd n o D) := by rw [fwO, h]; rfl
theorem rnd_small2 {n o : Nat} {D : Mat} (h : Small n (pow2 o) D) (ho : o < n) (hn : negD n (rnd n o D) = false) : Small n (pow2 (o + 1)) (rnd n o D) := rnd_small h ho hn
theorem prt_bound {n o i j : Nat} {B : Int} {D : Mat} (h : Small n B D) (ho : o < n) {a b : Nat} (ha : a < n) (hb : b < n) : -(2 * B) ≤ prt n o i j D a b ∧ prt n o i j D a b ≤ 2 * B := by
  have h1 := h.2 a b ha hb
  have h2 := h.2 a o ha ho
  have h3 := h.2 o b ho hb
  unfold prt
  split <;> omega

set_option maxHeartbeats 16000000 in
set_option maxRecDepth 100000 in
theorem sides_any (s : Sv) (p : Nat) (c1 c2 c3 : Nat) (A1 A2 A3 : Option Addr) (w : World) (hsp : s.n = p) (hp : p ≤ 20)
    (r1 : Rd w w.heap.size A1 shV 4 s.shots) (r2 : Rd w w.heap.size A2 mkV 3 s.marks) (gc cc : Nat) (out : Nat → Bool) (hBo : BoAt w gc (s.shots.length + s.marks.length) (fun k => !out k)) (wider : Int) (hw0 : 0 ≤ wider) (hw2 : wider ≤ 20000000) (hl1 : s.shots.length ≤ 60) (hl2 : s.marks.length ≤ 20) (hrd : ∀ k, k < s.shots.length + s.marks.length → rokB p (rdAt s k) = true ∧ (rdAt s k).2.f ≠ (rdAt s k).2.t) :
    Calls Try.prog 47 #[.agg #[.int .i64 s.n, .slice A1 s.shots.length c1, .slice A2 s.marks.length c2, .slice A3 s.threads.length c3], .slice (some ⟨gc, 0, none⟩) (s.shots.length + s.marks.length) cc, .int .i64 wider] w fun e w' => SidesPost w (p + 1) (fwS (p + 1) (matOf p out wider (upto (rdOf p s) (s.shots.length + s.marks.length)))) e w' ∧ Below w.heap.size w w' := by
  rw [hsp]
  have HSP := Lib.hid hsp.symm
  clear hsp
  have hkR : ∀ w, (Instr.makeSlice 100 (.int .i64 ((p : Int) + 1)) (.int .i64 ((p : Int) + 1))).run Try.prog w = .ok (.slice (some ⟨w.heap.size, 0, none⟩) (p + 1) (p + 1)) (w.alloc (.cells (hdI (p + 1) (fun _ => 0) 0) 46)) := fun w => by
    have h := mkRows (p + 1) (by omega) (fun _ => 0) w
    rw [Int.natCast_add, Int.natCast_one] at h
    exact h
  have hkI : ∀ w, (Instr.makeSlice 46 (.int .i64 ((p : Int) + 1)) (.int .i64 ((p : Int) + 1))).run Try.prog w = .ok (.slice (some ⟨w.heap.size, 0, none⟩) (p + 1) (p + 1)) (w.alloc (.cells (rowI (p + 1) (fun _ => 0)) 3)) := fun w => by
    have h := mkInts (p + 1) (by omega) w
    rw [Int.natCast_add, Int.natCast_one] at h
    exact h
  have R1 := Lib.hid r1
  have R2 := Lib.hid r2
  have HBO := Lib.hid hBo
  have HRD := Lib.hid hrd
  clear r1 r2 hBo hrd
  go_enter Try.func47, Try.ntmps47
  go_wp2
  obtain ⟨w1, hw1⟩ : ∃ w1, w.alloc (Obj.cells #[Value.int IntKind.i64 p, Value.slice A1 s.shots.length c1, Value.slice A2 s.marks.length c2, Value.slice A3 s.threads.length c3] 26) = w1 := ⟨_, rfl⟩
  rw [hw1]
  have k0 : w1.cell? ⟨w.heap.size, 0, none⟩ = some (.int .i64 p) := by rw [← hw1]; simp
  have k1 : w1.cell? ⟨w.heap.size, 1, none⟩ = some (.slice A1 s.shots.length c1) := by rw [← hw1]; simp
  have k2 : w1.cell? ⟨w.heap.size, 2, none⟩ = some (.slice A2 s.marks.length c2) := by rw [← hw1]; simp
  have hb1 : Below w.heap.size w w1 := by rw [← hw1]; (repeat' (first | (with_reducible exact Below.refl _ _) | (with_reducible refine Below.alloc ?_ ?_ _) | (with_reducible refine Below.drew ?_) | (with_reducible refine Below.drewN_ ?_ _) | (with_reducible refine Below.setCell ?_ ?_ _) | (with_reducible refine Below.setRow ?_ ?_ _) | (with_reducible refine Below.via ?_ (by with_reducible assumption) ?_) | go_size))
  obtain ⟨g, hg⟩ : ∃ g, w.heap.size + 1 = g := ⟨_, rfl⟩
  have hsz : w1.heap.size = g := by rw [← hw1, ← hg]; simp
  (try rw [hg])
  (try rw [hsz])
  obtain ⟨w2, hw2⟩ : ∃ w2, w1.alloc (.cells (hdI (p + 1) (fun _ => 0) 0) 46) = w2 := ⟨_, rfl⟩
  rw [hw2]
  have hU : RowsUp w2 g g (p + 1) 0 (fun _ => 0) (B1 p p) := RowsUp.none_ _ _ _ _ (by rw [← hw2, ← hsz]; exact heap_alloc_new _ _) (Nat.le_refl _)
  have hb2 : Below g w1 w2 := by rw [← hw2, ← hsz]; exact (Below.refl _ _).alloc (Nat.le_refl _) _
  have hbg : w.heap.size < g := by omega
  have HU := Lib.hid hU
  have HW2 := Lib.hid hw2
  have HSZ := Lib.hid hsz
  have HG := Lib.hid hg
  have HKR := Lib.hid hkR
  clear hU hw2 hsz hw1 hg hkR
  go_loopw [10] (fun v W => ∃ (i : Nat) (R : Nat → Nat), i ≤ p + 1 ∧ v = .int .i64 i ∧ RowsUp W g g (p + 1) i R (B1 p p) ∧ Below g w1 W) (fun i _ => p + 1 - (intOf i).toNat)
  case atStart => exact ⟨0, _, by omega, rfl, HU.out, hb2⟩
  case round =>
    obtain ⟨i, R, hi, rfl, hU, hb⟩ := hrel
    by_cases hlt : i ≤ p
    · have q := hU.head0 (k := i) (Nat.le_refl _) (by omega)
      have qf := hU.hfrozen i
      have qg := hU.glt
      have hltI : (i : Int) < (p : Int) + 1 := by omega
      have HU1 := Lib.hid (hU.more' (f := fun _ => 0) (by have := hb.size; rw [HSZ.out] at this; omega))
      clear hU
      go_wp2
      obtain ⟨w3, hw3⟩ : ∃ w3, (wr.setCell ⟨g, i, none⟩ (.slice (some ⟨wr.heap.size, 0, none⟩) (p + 1) (p + 1))).alloc (.cells (rowI (p + 1) (fun _ => 0)) 3) = w3 := ⟨_, rfl⟩
      rw [hw3] at HU1 ⊢
      have hb3 : Below g w1 w3 := by rw [← hw3]; exact (hb.setCell (Nat.le_refl _) _).alloc (by simp; omega) _
      obtain ⟨R', hR'⟩ : ∃ R' : Nat → Nat, (fun j => if j = i then wr.heap.size else R j) = R' := ⟨_, rfl⟩
      rw [hR'] at HU1
      have HU2 : Hid (RowsUp w3 g g (p + 1) (i + 1) R' (rowTo p i 0)) := Lib.hid (HU1.out.congr fun a b ha hb => by
        unfold rowTo
        by_cases e : a = i
        · rw [if_pos e, if_pos e, if_neg (by omega)]
        · rw [if_neg e, if_neg e])
      clear q qf qg hb hR' hw3 HU1
      go_loopw [11] (fun v W => ∃ k : Nat, k ≤ p + 1 ∧ v = .int .i64 k ∧ RowsUp W g g (p + 1) (i + 1) R' (rowTo p i k) ∧ Below g w1 W) (fun i _ => p + 1 - (intOf i).toNat)
      case atStart => exact ⟨0, by omega, rfl, HU2.out, hb3⟩
      case round =>
        obtain ⟨k, hk, rfl, hU, hb⟩ := hrel
        by_cases hlt2 : k ≤ p
        · have hkI2 : (k : Int) < (p : Int) + 1 := by omega
          have q := hU.head (k := i) (by omega) (by omega)
          have qc := hU.cell (k := i) (l := k) (by omega) (by omega)
          have qf := hU.frozen (k := i) (by omega) k
          have qn := hU.ne (k := i) (by omega)
          have qn2 : ¬ R' i = g := fun h => qn h.symm
          have qlo : g ≤ R' i := hU.rlo i (by omega)
          have HU3 := Lib.hid hU
          clear hU
          obtain ⟨b0, hb0⟩ : ∃ b0, R' i = b0 := ⟨_, rfl⟩
          rw [hb0] at q qc qf qn qn2 qlo
          have HB0 := Lib.hid hb0
          clear hb0
          have HST : Hid (∀ a b, upd (rowTo p i k) i k (if i = k then 0 else if i = p ∨ k = p then 10000000 else 20000000) a b = rowTo p i (k + 1) a b) := Lib.hid (rowTo_step (by omega) (by omega) rfl)
          by_cases ei : i = p <;> by_cases ek : k = p <;> by_cases ee : i = k
          any_goals omega
          · subst ei; subst ek
            have HE := Lib.hid (fun a b => by have := HST.out a b; rw [if_pos rfl] at this; exact this : ∀ a b, upd (rowTo k k k) k k 0 a b = rowTo k k (k + 1) a b)
            clear ee
            go_wp2
            go_roundw
            case rel => exact ⟨k + 1, by omega, by go_num, sidesFill3 HU3.out HB0.out (by omega) HE.out, by (repeat' (first | (with_reducible exact Below.refl _ _) | (with_reducible refine Below.alloc ?_ ?_ _) | (with_reducible refine Below.drew ?_) | (with_reducible refine Below.drewN_ ?_ _) | (with_reducible refine Below.setCell ?_ ?_ _) | (with_reducible refine Below.setRow ?_ ?_ _) | (with_reducible refine Below.via ?_ (by with_reducible assumption) ?_) | go_size))⟩
            case measure => (simp [intOf] <;> omega)
          · subst ei
            have bk := beqI (i := k) (k := i) ek
            have be := beqI (i := i) (k := k) ee
            have HE := Lib.hid (fun a b => by have := HST.out a b; rw [if_neg ee, if_pos (.inl rfl)] at this; exact this : ∀ a b, upd (rowTo i i k) i k 10000000 a b = rowTo i i (k + 1) a b)
            clear ee ek
            go_wp2
            go_roundw
            case rel => exact ⟨k + 1, by omega, by go_num, sidesFill2 HU3.out HB0.out (by omega) HE.out, by (repeat' (first | (with_reducible exact Below.refl _ _) | (with_reducible refine Below.alloc ?_ ?_ _) | (with_reducible refine Below.drew ?_) | (with_reducible refine Below.drewN_ ?_ _) | (with_reducible refine Below.setCell ?_ ?_ _) | (with_reducible refine Below.setRow ?_ ?_ _) | (with_reducible refine Below.via ?_ (by with_reducible assumption) ?_) | go_size))⟩
            case measure => (simp [intOf] <;> omega)
          · subst ek
            have bk := beqI (i := i) (k := k) ee
            have HE := Lib.hid (fun a b => by have := HST.out a b; rw [if_neg ee, if_pos (.inr rfl)] at this; exact this : ∀ a b, upd (rowTo k i k) i k 10000000 a b = rowTo k i (k + 1) a b)
            clear ee ei
            go_wp2
            go_roundw
            case rel => exact ⟨k + 1, by omega, by go_num, sidesFill2 HU3.out HB0.out (by omega) HE.out, by (repeat' (first | (with_reducible exact Below.refl _ _) | (with_reducible refine Below.alloc ?_ ?_ _) | (with_reducible refine Below.drew ?_) | (with_reducible refine Below.drewN_ ?_ _) | (with_reducible refine Below.setCell ?_ ?_ _) | (with_reducible refine Below.setRow ?_ ?_ _) | (with_reducible refine Below.via ?_ (by with_reducible assumption) ?_) | go_size))⟩
            case measure => (simp [intOf] <;> omega)
          · subst ee
            have bk := beqI (i := i) (k := p) ek
            have HE := Lib.hid (fun a b => by have := HST.out a b; rw [if_pos rfl] at this; exact this : ∀ a b, upd (rowTo p i i) i i 0 a b = rowTo p i (i + 1) a b)
            clear ek ei
            go_wp2
            go_roundw
            case rel => exact ⟨i + 1, by omega, by go_num, sidesFill2 HU3.out HB0.out (by omega) HE.out, by (repeat' (first | (with_reducible exact Below.refl _ _) | (with_reducible refine Below.alloc ?_ ?_ _) | (with_reducible refine Below.drew ?_) | (with_reducible refine Below.drewN_ ?_ _) | (with_reducible refine Below.setCell ?_ ?_ _) | (with_reducible refine Below.setRow ?_ ?_ _) | (with_reducible refine Below.via ?_ (by with_reducible assumption) ?_) | go_size))⟩
            case measure => (simp [intOf] <;> omega)
          · have bi := beqI (i := i) (k := p) ei
            have bk := beqI (i := k) (k := p) ek
            have be := beqI (i := i) (k := k) ee
            have HE := Lib.hid (fun a b => by have := HST.out a b; rw [if_neg ee, if_neg (fun h => h.elim ei ek)] at this; exact this : ∀ a b, upd (rowTo p i k) i k 20000000 a b = rowTo p i (k + 1) a b)
            clear ek ei ee
            go_wp2
            go_roundw
            case rel => exact ⟨k + 1, by omega, by go_num, sidesFill HU3.out HB0.out (by omega) HE.out, by (repeat' (first | (with_reducible exact Below.refl _ _) | (with_reducible refine Below.alloc ?_ ?_ _) | (with_reducible refine Below.drew ?_) | (with_reducible refine Below.drewN_ ?_ _) | (with_reducible refine Below.setCell ?_ ?_ _) | (with_reducible refine Below.setRow ?_ ?_ _) | (with_reducible refine Below.via ?_ (by with_reducible assumption) ?_) | go_size))⟩
            case measure => (simp [intOf] <;> omega)
        · have HUe := Lib.hid (hU.congr (E := B1 p p) (fun a b ha hb => by rw [show k = p + 1 by omega]; exact rowTo_end a b hb))
          clear hU
          go_wp2
          go_roundw
          case rel => exact ⟨i + 1, R', by omega, by go_num, HUe.out, hb⟩
          case measure => (simp [intOf] <;> omega)
    · obtain rfl : i = p + 1 := by omega
      have HU1 := Lib.hid hU
      clear hU hi hlt hkI
      have hgc := HBO.out.lt
      simp only [Int.natCast_add, Int.natCast_one]
      go_wp2
      go_loopw [12] (fun v W => ∃ r : Nat, r ≤ s.shots.length + s.marks.length ∧ v = .int .i64 r ∧ RowsUp W g g (p + 1) (p + 1) R (matOf p out wider (upto (rdOf p s) r)) ∧ Below g w1 W) (fun i _ => s.shots.length + s.marks.length - (intOf i).toNat)
      case atStart => exact ⟨0, by omega, rfl, HU1.out, hb⟩
      case round =>
        clear hb HU1
        obtain ⟨r, hr, rfl, hU, hb⟩ := hrel
        have m1 := (hb.cell (p := ⟨w.heap.size, 1, none⟩) hbg).trans k1
        have m2 := (hb.cell (p := ⟨w.heap.size, 2, none⟩) hbg).trans k2
        by_cases hlt : r < s.shots.length + s.marks.length
        · have qb := ((HBO.out.below hb1 hgc).below hb (by omega)).cell hlt
          have HU2 := Lib.hid hU
          have hglt := hU.glt
          have hszr := hb.size
          rw [HSZ.out] at hszr
          have hbw : w.heap.size < wr.heap.size := by omega
          clear hU
          have em := matOf_snoc p out wider (upto (rdOf p s) r) (rdOf p s r)
          rw [← upto_succ] at em
          have er : (rdOf p s r).1 = rdAt s r := by unfold rdOf; rw [dif_pos (HRD.out r hlt).1]
          rw [er] at em
          have EM := Lib.hid em
          clear em er
          cases ho : out r
          · rw [ho] at qb
            have HO := Lib.hid ho
            clear ho
            go_upto_if 93 with fail
            obtain ⟨w4, hw4⟩ : ∃ w4, wr.alloc (.cells #[.int .i64 0, .int .i64 0] 36) = w4 := ⟨_, rfl⟩
            obtain ⟨br, hbr⟩ : ∃ br, wr.heap.size = br := ⟨_, rfl⟩
            rw [hw4, hbr]
            have z0 : w4.cell? ⟨br, 0, none⟩ = some (.int .i64 0) := by rw [← hw4, ← hbr]; simp
            have z1 : w4.cell? ⟨br, 1, none⟩ = some (.int .i64 0) := by rw [← hw4, ← hbr]; simp
            have y0 : w4.frozen? ⟨br, 0, none⟩ = false := by rw [← hw4, ← hbr]; simp
            have y1 : w4.frozen? ⟨br, 1, none⟩ = false := by rw [← hw4, ← hbr]; simp
            have hb4 : Below br wr w4 := by rw [← hw4, ← hbr]; exact (Below.refl _ _).alloc (Nat.le_refl _) _
            have hz4 : br < w4.heap.size := by rw [← hw4, ← hbr]; simp
            have n1 := (hb4.cell (p := ⟨w.heap.size, 1, none⟩) (by rw [← hbr]; exact hbw)).trans m1
            have n2 := (hb4.cell (p := ⟨w.heap.size, 2, none⟩) (by rw [← hbr]; exact hbw)).trans m2
            have hb4' : Below g w1 w4 := hb.trans (hb4.mono (by rw [← hbr]; exact hszr))
            rw [hbr] at hglt hszr hbw
            have hn1 : ¬ w.heap.size = br := by omega
            have HBR := Lib.hid hbr
            clear m1 m2 hw4 hbr qb
            go_cut [13, 14, 15] from 71 to 160 (fun v13 v14 v15 W => ∃ (fa tb : Nat) (lo hi : Int), v13 = .int .i64 fa ∧ v14 = .int .i64 tb ∧ v15 = .pointer (some ⟨br, 0, none⟩) ∧ (rdAt s r).2 = ⟨fa, tb, lo, hi⟩ ∧ W.cell? ⟨br, 0, none⟩ = some (.int .i64 lo) ∧ W.cell? ⟨br, 1, none⟩ = some (.int .i64 hi) ∧ Below br w4 W ∧ br < W.heap.size)
            case first =>
              by_cases hs : r < s.shots.length
              · obtain ⟨b, o, rfl, hbl, hcell⟩ := ((R1.out.below hb1).below (hb4'.mono (by omega))).at_ hs
                have q0 := hcell 0 _ rfl
                have q1 := hcell 1 _ rfl
                have q2 := hcell 2 _ rfl
                have q3 := hcell 3 _ rfl
                simp only [Nat.add_zero] at q0
                clear hcell
                have hblr : b < w4.heap.size := by omega
                have hn2 : ¬ b = br := by omega
                obtain ⟨hrk, hne⟩ := HRD.out r hlt
                have ex : rdAt s r = (r, s.shots[r]) := by unfold rdAt; rw [dif_pos hs]
                rw [ex] at hrk hne
                have EX : Hid ((rdAt s r).2 = s.shots[r]) := Lib.hid (by rw [ex])
                clear ex
                generalize s.shots[r] = x at *
                obtain ⟨xf, xt, lo, hi⟩ := x
                unfold rokB at hrk
                rw [decide_eq_true_eq] at hrk
                obtain ⟨_, f0, f1, t0, t1, lo1, lo2, hi1, hi2⟩ := hrk
                dsimp only at f0 f1 t0 t1 lo1 lo2 hi1 hi2 hne q0 q1 q2 q3
                obtain ⟨fa, rfl⟩ := Int.eq_ofNat_of_zero_le f0
                obtain ⟨tb, rfl⟩ := Int.eq_ofNat_of_zero_le t0
                go_wp2
                go_region
                go_wp2_with fail
                go_meet
                case rel => exact ⟨fa, tb, lo, hi, rfl, rfl, rfl, EX.out, by go_simp, by go_simp, by (repeat' (first | (with_reducible exact Below.refl _ _) | (with_reducible refine Below.alloc ?_ ?_ _) | (with_reducible refine Below.drew ?_) | (with_reducible refine Below.drewN_ ?_ _) | (with_reducible refine Below.setCell ?_ ?_ _) | (with_reducible refine Below.setRow ?_ ?_ _) | (with_reducible refine Below.via ?_ (by with_reducible assumption) ?_) | go_size)), by simp; exact hz4⟩
              · obtain ⟨j, hj⟩ : ∃ j, r = s.shots.length + j := ⟨r - s.shots.length, by omega⟩
                have hjm : j < s.marks.length := by omega
                obtain ⟨b, o, rfl, hbl, hcell⟩ := ((R2.out.below hb1).below (hb4'.mono (by omega))).at_ hjm
                have q0 := hcell 0 _ rfl
                have q1 := hcell 1 _ rfl
                have q2 := hcell 2 _ rfl
                simp only [Nat.add_zero] at q0
                clear hcell
                have hblr : b < w4.heap.size := by omega
                have hn2 : ¬ b = br := by omega
                obtain ⟨hrk, hne⟩ := HRD.out r hlt
                have ex : rdAt s r = (r, ⟨s.n, (s.marks[j]).p, (s.marks[j]).lo, (s.marks[j]).hi⟩) := by
                  unfold rdAt
                  rw [dif_neg hs, dif_pos (by omega)]
                  simp [hj]
                rw [ex] at hrk hne
                have EX : Hid ((rdAt s r).2 = ⟨s.n, (s.marks[j]).p, (s.marks[j]).lo, (s.marks[j]).hi⟩) := Lib.hid (by rw [ex])
                clear ex
                generalize s.marks[j] = x at *
                obtain ⟨xp, lo, hi⟩ := x
                unfold rokB at hrk
                rw [decide_eq_true_eq] at hrk
                obtain ⟨_, f0, f1, t0, t1, lo1, lo2, hi1, hi2⟩ := hrk
                dsimp only at t0 t1 lo1 lo2 hi1 hi2 q0 q1 q2
                obtain ⟨tb, rfl⟩ := Int.eq_ofNat_of_zero_le t0
                have hjI : (r : Int) - (s.shots.length : Int) = (j : Int) := by omega
                have hjmI : (j : Int) < s.marks.length := by omega
                clear f0 f1 hne
                have HJ := Lib.hid hj
                clear hj
                go_upto_region 23 with fail
                obtain ⟨w5, hw5⟩ : ∃ w5, w4.alloc (.cells #[.int .i64 tb, .int .i64 lo, .int .i64 hi] 75) = w5 := ⟨_, rfl⟩
                obtain ⟨b5, hb5⟩ : ∃ b5, w4.heap.size = b5 := ⟨_, rfl⟩
                rw [hw5, hb5]
                have hb45 : Below b5 w4 w5 := by rw [← hw5, ← hb5]; exact (Below.refl _ _).alloc (Nat.le_refl _) _
                have e0 : w5.cell? ⟨b5, 0, none⟩ = some (.int .i64 tb) := by rw [← hw5, ← hb5]; simp
                have e1 : w5.cell? ⟨b5, 1, none⟩ = some (.int .i64 lo) := by rw [← hw5, ← hb5]; simp
                have e2 : w5.cell? ⟨b5, 2, none⟩ = some (.int .i64 hi) := by rw [← hw5, ← hb5]; simp
                have hz5 : b5 < w5.heap.size := by rw [← hw5, ← hb5]; simp
                rw [hb5] at hz4
                have g0 := (hb45.cell (p := ⟨br, 0, none⟩) hz4).trans z0
                have g1 := (hb45.cell (p := ⟨br, 1, none⟩) hz4).trans z1
                have g2 := (hb45.frozen (p := ⟨br, 0, none⟩) hz4).trans y0
                have g3 := (hb45.frozen (p := ⟨br, 1, none⟩) hz4).trans y1
                have hn3 : ¬ b5 = br := by omega
                have hzz : br < w5.heap.size := by omega
                have hbB : Below br w4 w5 := hb45.mono (by omega)
                clear z0 z1 y0 y1 q0 q1 q2 n1 n2 hjI hw5 hb5
                go_region
                go_wp2_with fail
                go_meet
                case rel => exact ⟨p, tb, lo, hi, rfl, rfl, rfl, by rw [EX.out, ← HSP.out], by go_simp, by go_simp, by (repeat' (first | (with_reducible exact Below.refl _ _) | (with_reducible refine Below.alloc ?_ ?_ _) | (with_reducible refine Below.drew ?_) | (with_reducible refine Below.drewN_ ?_ _) | (with_reducible refine Below.setCell ?_ ?_ _) | (with_reducible refine Below.setRow ?_ ?_ _) | (with_reducible refine Below.via ?_ (by with_reducible assumption) ?_) | go_size)), by simp; exact hzz⟩
            case rest =>
              obtain ⟨fa, tb, lo, hi, rfl, rfl, rfl, hx, x0, x1, hbx, hzx⟩ := hcut
              obtain ⟨hrk, hne⟩ := HRD.out r hlt
              rw [rdAt_pair, hx] at hrk
              rw [hx] at hne
              unfold rokB at hrk
              rw [decide_eq_true_eq] at hrk
              obtain ⟨_, f0, f1, t0, t1, lo1, lo2, hi1, hi2⟩ := hrk
              dsimp only at f0 f1 t0 t1 lo1 lo2 hi1 hi2 hne
              have hU := HU2.out.below (hb4.trans hbx) (by rw [HBR.out]; exact Nat.le_refl _)
              have hS : Small (p + 1) 100000000 (matOf p out wider (upto (rdOf p s) r)) := matOf_small hw0 hw2 s r fun k hk => HRD.out k (by omega)
              have hAdd : ∀ M : Mat, addRd out wider M (rdAt s r) = upd (upd M fa tb (min (M fa tb) (hi + wider))) tb fa (min (upd M fa tb (min (M fa tb) (hi + wider)) tb fa) (wider - lo)) := fun M => by
                unfold addRd
                rw [rdAt_pair, hx]
                dsimp only
                rw [HO.out, if_neg (by simp)]
                rfl
              have HADD := Lib.hid (hAdd (matOf p out wider (upto (rdOf p s) r)))
              obtain ⟨M, hM⟩ : ∃ M, matOf p out wider (upto (rdOf p s) r) = M := ⟨_, rfl⟩
              rw [hM] at hU hS HADD
              have HMM := Lib.hid hM
              have hfp : fa < p + 1 := by omega
              have htp : tb < p + 1 := by omega
              have hft : fa ≠ tb := by omega
              have d1 := hU.head (k := fa) hfp hfp
              have d2 := hU.cell (k := fa) (l := tb) hfp htp
              have d3 := hU.frozen (k := fa) hfp tb
              have dl := hU.rlo fa hfp
              have hbd := hS.2 fa tb hfp htp
              have hbd2 := hS.2 tb fa htp hfp
              have HU3 := Lib.hid hU
              clear hU hS hM hAdd hx
              obtain ⟨x, hxx⟩ : ∃ x, M fa tb = x := ⟨_, rfl⟩
              obtain ⟨bf, hbf⟩ : ∃ bf, R fa = bf := ⟨_, rfl⟩
              rw [hxx] at d2 hbd
              rw [hbf] at d1 d2 d3 dl
              have HX := Lib.hid hxx
              have HBF := Lib.hid hbf
              have hfI : (fa : Int) < (p : Int) + 1 := by omega
              have htI : (tb : Int) < (p : Int) + 1 := by omega
              clear hxx hbf
              have hbfr : bf < br := by rw [← HBF.out, ← HBR.out]; exact HU2.out.rlt hfp
              have hmn : hi + wider < x ∨ x ≤ hi + wider := by omega
              obtain ⟨m, hmin, hmm⟩ : ∃ m, min (M fa tb) (hi + wider) = m ∧ ((hi + wider < x ∧ hi + wider = m) ∨ (x ≤ hi + wider ∧ x = m)) := ⟨_, rfl, by rw [HX.out, Int.min_def]; split <;> omega⟩
              rw [hmin] at HADD
              have HMIN := Lib.hid hmin
              have HMMM := Lib.hid hmm
              clear hmin hmm
              go_upto_region 24 with fail
              go_cut [13, 14, 15] from 71 to 160 (fun v13 v14 v15 W => v13 = .int .i64 fa ∧ v14 = .int .i64 tb ∧ v15 = .pointer (some ⟨br, 0, none⟩) ∧ ∃ nq, W = (wc.drewN nq).setCell ⟨bf, tb, none⟩ (.int .i64 m))
              case first =>
                rcases hmn with hmn | hmn
                all_goals
                  have hm : _ ∨ _ := HMMM.out
                  have hm' : m = min x (hi + wider) := by rw [← HMIN.out, HX.out]
                  refine wp_region_draw_tail 18 (by kernel_rfl) (by kernel_rfl) (by omega) ?_
                  (simp only [List.take_succ_cons, List.take_zero, List.drop_succ_cons, List.drop_zero]); (repeat (go_big_quiet_step (fail))); refine wpQuiet_nil ?_; rintro _ ⟨nq, rfl⟩
                  gi_wp2_with fail
                  go_meet
                  case rel => exact ⟨rfl, rfl, rfl, nq, by congr 3; omega⟩
              case rest =>
                obtain ⟨rfl, rfl, rfl, nq, rfl⟩ := hcut
                have hU4 := (HU3.out.drewN nq).set_ (k := fa) (l := tb) hfp m
                rw [HBF.out] at hU4
                obtain ⟨w6, hw6⟩ : ∃ w6, (wc.drewN nq).setCell ⟨bf, tb, none⟩ (.int .i64 m) = w6 := ⟨_, rfl⟩
                rw [hw6] at hU4 ⊢
                have y0 : w6.cell? ⟨br, 0, none⟩ = some (.int .i64 lo) := by rw [← hw6]; exact (World.cell?_setCell_other (wc.drewN nq) ⟨bf, tb, none⟩ ⟨br, 0, none⟩ (.int .i64 m) (by intro e; injection e with e1 e2; omega)).trans x0
                have hb6 : Below g w1 w6 := by rw [← hw6]; exact (Below.drewN_ (hb4'.trans (hbx.mono (by omega))) nq).setCell dl _
                clear x0 x1 d1 d2 d3 hw6 hmn
                have e1 := hU4.head (k := tb) htp htp
                have e2 := hU4.cell (k := tb) (l := fa) htp hfp
                have e3 := hU4.frozen (k := tb) htp fa
                have el := hU4.rlo tb htp
                have hup : upd M fa tb m tb fa = M tb fa := by unfold upd; rw [if_neg (fun h => hft h.1.symm)]
                rw [hup] at e2
                rw [hup] at HADD
                have HU6 := Lib.hid hU4
                clear hU4 hup
                obtain ⟨x', hxx'⟩ : ∃ x', M tb fa = x' := ⟨_, rfl⟩
                obtain ⟨bt, hbt⟩ : ∃ bt, R tb = bt := ⟨_, rfl⟩
                rw [hxx'] at e2 hbd2 HADD
                rw [hbt] at e1 e2 e3 el
                have HBT := Lib.hid hbt
                have hmn : wider - lo < x' ∨ x' ≤ wider - lo := by omega
                clear hxx' hbt
                go_upto_region 25 with fail
                rcases hmn with hmn | hmn
                all_goals
                  refine wp_region_draw_tail 18 (by kernel_rfl) (by kernel_rfl) (by omega) ?_
                  (simp only [List.take_succ_cons, List.take_zero, List.drop_succ_cons, List.drop_zero]); (repeat (go_big_quiet_step (fail))); refine wpQuiet_nil ?_; rintro _ ⟨nq, rfl⟩
                  gi_wp2_with fail
                  clear e1 e2 e3
                  go_wp2_with fail
                  go_roundw
                  case rel => exact ⟨r + 1, by omega, by go_num, by rw [EM.out, HMM.out]; exact sidesStep (v := min x' (wider - lo)) (HU6.out.drewN nq) HBT.out htp HADD.out.symm (by rw [Int.min_def]; split <;> omega), by (repeat' (first | (with_reducible exact Below.refl _ _) | (with_reducible refine Below.alloc ?_ ?_ _) | (with_reducible refine Below.drew ?_) | (with_reducible refine Below.drewN_ ?_ _) | (with_reducible refine Below.setCell ?_ ?_ _) | (with_reducible refine Below.setRow ?_ ?_ _) | (with_reducible refine Below.via ?_ (by with_reducible assumption) ?_) | go_size))⟩
                  case measure => (simp [intOf] <;> omega)
          · rw [ho] at qb
            have HO := Lib.hid ho
            have e2 : addRd out wider (matOf p out wider (upto (rdOf p s) r)) (rdAt s r) = matOf p out wider (upto (rdOf p s) r) := by
              unfold addRd
              rw [rdAt_pair]
              dsimp only
              rw [HO.out]
              rfl
            have E2 := Lib.hid e2
            clear e2 ho
            go_wp2
            go_roundw
            case rel => exact ⟨r + 1, by omega, by go_num, by rw [EM.out, E2.out]; exact HU2.out, hb⟩
            case measure => (simp [intOf] <;> omega)
        · obtain rfl : r = s.shots.length + s.marks.length := by omega
          have hS0 : Small (p + 1) 100000000 (matOf p out wider (upto (rdOf p s) (s.shots.length + s.marks.length))) := matOf_small hw0 hw2 s _ HRD.out
          obtain ⟨D0, hD0⟩ : ∃ D0, matOf p out wider (upto (rdOf p s) (s.shots.length + s.marks.length)) = D0 := ⟨_, rfl⟩
          rw [hD0] at hS0 hU
          have HD0 := Lib.hid hD0
          clear hD0
          have HU2 := Lib.hid hU
          have HS0 := Lib.hid hS0
          clear hU hr hlt hS0
          simp only [Int.natCast_add]
          go_wp2
          clear m1 m2 k1 k2
          go_loopw [17] (fun v W => ∃ (o : Nat) (E : Mat), o ≤ p + 1 ∧ v = .int .i64 o ∧ RowsUp W g g (p + 1) (p + 1) R E ∧ Below g w1 W ∧ Small (p + 1) (pow2 o) E ∧ fwO (p + 1) (p + 1 - o) o E = fwS (p + 1) D0) (fun v _ => p + 1 - (intOf v).toNat)
          case atStart => exact ⟨0, D0, by omega, rfl, HU2.out, hb, HS0.out, rfl⟩
          case round =>
            clear hb HU2 HS0
            obtain ⟨o, E, ho, rfl, hU, hb, hS, hfw⟩ := hrel
            have HU3 := Lib.hid hU
            have HS := Lib.hid hS
            have HFW := Lib.hid hfw
            clear hU hfw
            by_cases hlt : o ≤ p
            · have hoo := hS.1 o (by omega)
              have HOO := Lib.hid hoo
              have hp2 := pow2_le (n := o) (by omega)
              clear hS hoo
              go_wp2
              go_loopw [18] (fun v W => ∃ i : Nat, i ≤ p + 1 ∧ v = .int .i64 i ∧ RowsUp W g g (p + 1) (p + 1) R (prt (p + 1) o i 0 E) ∧ Below g w1 W) (fun v _ => p + 1 - (intOf v).toNat)
              case atStart => exact ⟨0, by omega, rfl, by rw [prt_zero]; exact HU3.out, hb⟩
              case round =>
                clear hb HU3
                obtain ⟨i, hi, rfl, hU, hb⟩ := hrel
                have HU4 := Lib.hid hU
                clear hU
                by_cases hlti : i ≤ p
                · go_wp2
                  go_loopw [19] (fun v W => ∃ k : Nat, k ≤ p + 1 ∧ v = .int .i64 k ∧ RowsUp W g g (p + 1) (p + 1) R (prt (p + 1) o i k E) ∧ Below g w1 W) (fun v _ => p + 1 - (intOf v).toNat)
                  case atStart => exact ⟨0, by omega, rfl, HU4.out, hb⟩
                  case round =>
                    clear hb HU4
                    obtain ⟨k, hk, rfl, hU, hb⟩ := hrel
                    by_cases hltk : k ≤ p
                    · have hin : i < p + 1 := by omega
                      have hkn : k < p + 1 := by omega
                      have hon : o < p + 1 := by omega
                      have d1 := hU.head (k := i) hin hin
                      have d2 := hU.head (k := o) hon hon
                      have d3 := hU.cell (k := i) (l := k) hin hkn
                      have d4 := hU.cell (k := i) (l := o) hin hon
                      have d5 := hU.cell (k := o) (l := k) hon hkn
                      have d6 := hU.frozen (k := i) hin k
                      have dl := hU.rlo i hin
                      rw [prt_same] at d3
                      rw [prt_col HOO.out] at d4
                      rw [prt_over HOO.out] at d5
                      have b1 := HS.out.2 i k hin hkn
                      have b2 := HS.out.2 i o hin hon
                      have b3 := HS.out.2 o k hon hkn
                      have HST := Lib.hid (prt_step (n := p + 1) (o := o) (i := i) (j := k) (D := E) hin hkn)
                      have HU5 := Lib.hid hU
                      clear hU
                      obtain ⟨x, hx⟩ : ∃ x, E i k = x := ⟨_, rfl⟩
                      obtain ⟨y, hy⟩ : ∃ y, E i o = y := ⟨_, rfl⟩
                      obtain ⟨z, hz⟩ : ∃ z, E o k = z := ⟨_, rfl⟩
                      obtain ⟨bi, hbi⟩ : ∃ bi, R i = bi := ⟨_, rfl⟩
                      obtain ⟨bo, hbo⟩ : ∃ bo, R o = bo := ⟨_, rfl⟩
                      rw [hx] at d3 b1
                      rw [hy] at d4 b2
                      rw [hz] at d5 b3
                      rw [hbi] at d1 d3 d4 d6 dl
                      rw [hbo] at d2 d5
                      rw [hx, hy, hz] at HST
                      have HBI := Lib.hid hbi
                      have hiI : (i : Int) < (p : Int) + 1 := by omega
                      have hkI : (k : Int) < (p : Int) + 1 := by omega
                      have hoI : (o : Int) < (p : Int) + 1 := by omega
                      clear hx hy hz hbi hbo
                      obtain ⟨wo, rfl⟩ : ∃ wo : World, wo = wr := ⟨_, rfl⟩
                      have hmn : y + z < x ∨ x ≤ y + z := by omega
                      rcases hmn with hmn | hmn
                      all_goals
                        go_wp2_with fail
                        refine wp_region_draw_tail 29 (by kernel_rfl) (by kernel_rfl) (by omega) ?_
                        (simp only [List.take_succ_cons, List.take_zero, List.drop_succ_cons, List.drop_zero]); (repeat (go_big_quiet_step (fail))); refine wpQuiet_nil ?_; rintro _ ⟨nq, rfl⟩
                        gi_wp2_with fail
                        clear d1 d2 d3 d4 d5 d6
                        go_wp2_with fail
                        go_roundw
                        case rel => exact ⟨k + 1, by omega, by go_num, sidesStep (HU5.out.drewN nq) HBI.out hin HST.out (by rw [Int.min_def]; split <;> omega), by (repeat' (first | (with_reducible exact Below.refl _ _) | (with_reducible refine Below.alloc ?_ ?_ _) | (with_reducible refine Below.drew ?_) | (with_reducible refine Below.drewN_ ?_ _) | (with_reducible refine Below.setCell ?_ ?_ _) | (with_reducible refine Below.setRow ?_ ?_ _) | (with_reducible refine Below.via ?_ (by with_reducible assumption) ?_) | go_size))⟩
                        case measure => (simp [intOf] <;> omega)
                    · have hkp : k = p + 1 := by omega
                      have HU5 : Hid (RowsUp wr g g (p + 1) (p + 1) R (prt (p + 1) o (i + 1) 0 E)) := Lib.hid (by rw [← prt_row]; rw [hkp] at hU; exact hU)
                      clear hU hkp
                      go_wp2
                      go_roundw
                      case rel => exact ⟨i + 1, by omega, by go_num, HU5.out, hb⟩
                      case measure => (simp [intOf] <;> omega)
                · have hip : i = p + 1 := by omega
                  have HU5 : Hid (RowsUp wr g g (p + 1) (p + 1) R (rnd (p + 1) o E)) := Lib.hid (by have h := HU4.out; rw [hip, prt_end] at h; exact h)
                  clear hip HU4
                  go_wp2
                  go_loopw [20] (fun v W => ∃ i : Nat, i ≤ p + 1 ∧ v = .int .i64 i ∧ (∀ a, a < i → 0 ≤ rnd (p + 1) o E a a) ∧ RowsUp W g g (p + 1) (p + 1) R (rnd (p + 1) o E) ∧ Below g w1 W) (fun v _ => p + 1 - (intOf v).toNat)
                  case atStart => exact ⟨0, by omega, rfl, fun a ha => by omega, HU5.out, hb⟩
                  case round =>
                    clear hb HU5 hlti hi
                    obtain ⟨i, hi, rfl, hall, hU, hb⟩ := hrel
                    have HALL := Lib.hid hall
                    have HU6 := Lib.hid hU
                    clear hall
                    by_cases hlti : i ≤ p
                    · have hin : i < p + 1 := by omega
                      have d1 := hU.head (k := i) hin hin
                      have d2 := hU.cell (k := i) (l := i) hin hin
                      obtain ⟨y, hy⟩ : ∃ y, rnd (p + 1) o E i i = y := ⟨_, rfl⟩
                      obtain ⟨bi, hbi⟩ : ∃ bi, R i = bi := ⟨_, rfl⟩
                      rw [hy] at d2
                      rw [hbi] at d1 d2
                      have HY := Lib.hid hy
                      have hiI : (i : Int) < (p : Int) + 1 := by omega
                      clear hU hy hbi
                      by_cases hneg : y < 0
                      · have hnone : fwS (p + 1) D0 = none := by
                          rw [← HFW.out]
                          have : p + 1 - o = (p - o) + 1 := by omega
                          rw [this]
                          exact fwO_neg (negD_true.2 ⟨i, hin, by rw [HY.out]; exact hneg⟩)
                        have HN := Lib.hid hnone
                        clear hnone
                        go_wp2
                        go_ret2
                        exact ⟨by rw [HD0.out]; exact sidesPost_none HN.out, by (repeat' (first | (with_reducible exact Below.refl _ _) | (with_reducible refine Below.alloc ?_ ?_ _) | (with_reducible refine Below.drew ?_) | (with_reducible refine Below.drewN_ ?_ _) | (with_reducible refine Below.setCell ?_ ?_ _) | (with_reducible refine Below.setRow ?_ ?_ _) | (with_reducible refine Below.via ?_ (by with_reducible assumption) ?_) | go_size))⟩
                      · have HA2 : Hid (∀ a, a < i + 1 → 0 ≤ rnd (p + 1) o E a a) := Lib.hid (fun a ha => by
                          by_cases e : a = i
                          · rw [e, HY.out]; omega
                          · exact HALL.out a (by omega))
                        go_wp2
                        go_roundw
                        case rel => exact ⟨i + 1, by omega, by go_num, HA2.out, HU6.out, hb⟩
                        case measure => (simp [intOf] <;> omega)
                    · have hneg : negD (p + 1) (rnd (p + 1) o E) = false := negD_false.2 fun a ha => HALL.out a (by omega)
                      have HS2 := Lib.hid (rnd_small2 HS.out (by omega) hneg)
                      have HF2 : Hid (fwO (p + 1) (p + 1 - (o + 1)) (o + 1) (rnd (p + 1) o E) = fwS (p + 1) D0) := Lib.hid (by
                        rw [← HFW.out]
                        have : p + 1 - o = (p + 1 - (o + 1)) + 1 := by omega
                        rw [this]
                        exact (fwO_on hneg).symm)
                      clear hneg hU
                      go_wp2
                      go_roundw
                      case rel => exact ⟨o + 1, _, by omega, by go_num, HU6.out, hb, HS2.out, HF2.out⟩
                      case measure => (simp [intOf] <;> omega)
            · have hsome : fwS (p + 1) D0 = some E := by
                rw [← HFW.out]
                have : p + 1 - o = 0 := by omega
                rw [this, fwO]
              have HSO := Lib.hid hsome
              clear hsome hS
              go_wp2
              go_ret2
              exact ⟨by rw [HD0.out]; exact sidesPost_some HSO.out (by omega) HU3.out, by (repeat' (first | (with_reducible exact Below.refl _ _) | (with_reducible refine Below.alloc ?_ ?_ _) | (with_reducible refine Below.drew ?_) | (with_reducible refine Below.drewN_ ?_ _) | (with_reducible refine Below.setCell ?_ ?_ _) | (with_reducible refine Below.setRow ?_ ?_ _) | (with_reducible refine Below.via ?_ (by with_reducible assumption) ?_) | go_size))⟩

end Go.Proofs.Ytaoonfmcimkmhaa
