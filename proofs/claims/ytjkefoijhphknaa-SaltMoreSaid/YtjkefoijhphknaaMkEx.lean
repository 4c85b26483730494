/- The chapter's example of a market, evaluated: its first lack, its cost, its plan. No condition. -/
import Derived.Test.YtjkefoijhphknaaMkOpenM
import Derived.KernelRfl
namespace Go.Proofs.Ytjkefoijhphknaa
open Go.RowKit

def exN : List Int := [30, 20, 10]
def exR (n : Int) (A B : Option Addr) (c d : Nat) : List Re := [⟨n, 5, A, c, [0, 1]⟩, ⟨40, 3, B, d, [1, 2]⟩]
def exM (n : Int) (A B : Option Addr) (c d : Nat) : Mk := ⟨(exR n A B c d).map loOf, [0, 1], neOf exN, miOf (exR n A B c d)⟩
theorem exM_eq (n : Int) (A B : Option Addr) (c d : Nat) : openM exN (exR n A B c d) = exM n A B c d := by
  have h : deOf (exR n A B c d) = [0, 1] := by
    show dearL (prOf (exR n A B c d)) 1 = [0, 1]
    unfold dearL dearF
    rw [List.mergeSort_of_pairwise]
    · rfl
    · show List.Pairwise _ [(0 : Fin 2), 1]
      simp [dLt, prOf, exR]
  unfold openM exM
  rw [h]
def exF : Nat → List Nat
  | 0 => [0, 1]
  | 1 => [1, 2]
  | _ => []
theorem exF_eq (n : Int) (A B : Option Addr) (c d : Nat) : flR (exR n A B c d) = exF := by
  funext k
  match k with
  | 0 => rfl
  | 1 => rfl
  | k + 2 => rfl
theorem ex_needs : needsB exN = true := by decide
theorem ex_rents (n : Int) (h0 : 0 ≤ n) (h1 : n ≤ 23000) (A B : Option Addr) (c d : Nat) : rentsB exN.length (exR n A B c d) = true := by
  simp [rentsB, rentsL, rentB, exR, exN, soIn, fldsB]
  omega
theorem bool_eq {a b : Nat} (h : (a == b) = true) : a = b := by simpa using h
theorem bool_eqI {a b : Int} (h : decide (a = b) = true) : a = b := by simpa using h
theorem ex_lk40 (A B : Option Addr) (c d : Nat) : lkS (exM 40 A B c d) 256 = 0 := bool_eq (by kernel_rfl)
theorem ex_lk25 (A B : Option Addr) (c d : Nat) : lkS (exM 25 A B c d) 256 = 1 := bool_eq (by kernel_rfl)
theorem ex_cost (A B : Option Addr) (c d : Nat) : costI (exM 40 A B c d) = 240 := bool_eqI (by kernel_rfl)

def allB (so : Nat → Bool) (N k : Nat) : Bool := (List.range N).all fun a => so (a + 1) == decide (a < k)
theorem allB_at {so : Nat → Bool} {N k : Nat} (h : allB so N k = true) {t : Nat} (ht : t < N) : so (t + 1) = decide (t < k) := by
  unfold allB at h
  rw [List.all_eq_true] at h
  simpa using h t (by rw [List.mem_range]; exact ht)
theorem allB_gr {so : Nat → Bool} {N k : Nat} (h : allB so N k = true) (hk : k ≤ N) : grI so N = k :=
  grI_eq so N k hk (fun t ht => by rw [allB_at h (by omega)]; simpa using ht) (fun t h1 h2 => by rw [allB_at h h2]; simpa using h1)
theorem allB_mono {so : Nat → Bool} {N k : Nat} (h : allB so N k = true) {a b : Nat} (h1 : 1 ≤ a) (h2 : a ≤ b) (h3 : b ≤ N) (hs : so a = false) : so b = false := by
  have ea := allB_at h (show a - 1 < N by omega)
  have eb := allB_at h (show b - 1 < N by omega)
  rw [show a - 1 + 1 = a by omega, hs] at ea
  rw [show b - 1 + 1 = b by omega] at eb
  have ha : ¬ (a - 1 < k) := by simpa using ea.symm
  rw [eb]
  simp
  omega
/-- A market with the example's rents, and what is left and needed. -/
def exL (A B : Option Addr) (c d : Nat) (L N : List Int) : Mk := ⟨(exR 40 A B c d).map loOf, [0, 1], fun k => N.getD k 0, fun k => L.getD k 0⟩
theorem exL_eq (A B : Option Addr) (c d : Nat) : exM 40 A B c d = exL A B c d [40, 40] [30, 20, 10] := by
  unfold exM exL
  congr 1
  funext k
  match k with
  | 0 => rfl
  | 1 => rfl
  | k + 2 => rfl
theorem exL_aft (A B : Option Addr) (c d : Nat) (l0 l1 n0 n1 n2 n : Int) (i f : Nat) :
    aftM (exL A B c d [l0, l1] [n0, n1, n2]) i f n = exL A B c d [if 0 = i then l0 - n else l0, if 1 = i then l1 - n else l1] [if 0 = f then n0 - n else n0, if 1 = f then n1 - n else n1, if 2 = f then n2 - n else n2] ∨ 2 ≤ i ∨ 3 ≤ f := by
  by_cases hi : 2 ≤ i
  · exact .inr (.inl hi)
  by_cases hf : 3 ≤ f
  · exact .inr (.inr hf)
  refine .inl ?_
  unfold aftM exL
  have h1 : i = 0 ∨ i = 1 := by omega
  have h2 : f = 0 ∨ f = 1 ∨ f = 2 := by omega
  congr 1
  · funext k
    rcases h2 with rfl | rfl | rfl
    all_goals match k with
      | 0 => rfl
      | 1 => rfl
      | 2 => rfl
      | k + 3 => rfl
  · funext k
    rcases h1 with rfl | rfl
    all_goals match k with
      | 0 => rfl
      | 1 => rfl
      | k + 2 => rfl
theorem ex_st {A B : Option Addr} {c d : Nat} {l0 l1 n0 n1 n2 co pr : Int} {pl : Nat → Nat → Int} {i f N n : Nat} {L' N' : List Int} {co' : Int} (hz : zeroN (exL A B c d [l0, l1] [n0, n1, n2]) = false)
    (ha : allB (soB (exL A B c d [l0, l1] [n0, n1, n2]) i f co pr) N n = true) (hN : (min ((exL A B c d [l0, l1] [n0, n1, n2]).left i) ((exL A B c d [l0, l1] [n0, n1, n2]).needs f)).toNat = N) (hn : n ≤ N)
    (hm : aftM (exL A B c d [l0, l1] [n0, n1, n2]) i f n = exL A B c d L' N') (hc : co - n * pr = co') :
    stpS ⟨exL A B c d [l0, l1] [n0, n1, n2], co, pl⟩ i f pr = ⟨exL A B c d L' N', co', fun a b => if a = i ∧ b = f then (n : Int) else pl a b⟩ := by
  have e : stpN ⟨exL A B c d [l0, l1] [n0, n1, n2], co, pl⟩ i f pr = n := by
    unfold stpN
    dsimp only
    rw [hN]
    exact allB_gr ha hn
  unfold stpS
  dsimp only
  rw [if_neg (by rw [hz]; simp), e, hm, hc]
theorem ex0_b (A B : Option Addr) (c d : Nat) : allB (soB (exL A B c d [40, 40] [30, 20, 10]) 0 0 240 5) 30 30 = true := by kernel_rfl
theorem ex0_s (A B : Option Addr) (c d : Nat) (pl : Nat → Nat → Int) : stpS ⟨exL A B c d [40, 40] [30, 20, 10], 240, pl⟩ 0 0 5 = ⟨exL A B c d [10, 40] [0, 20, 10], 90, fun a b => if a = 0 ∧ b = 0 then ((30 : Nat) : Int) else pl a b⟩ :=
  ex_st (by kernel_rfl) (ex0_b A B c d) (by kernel_rfl) (by omega) (by rcases exL_aft A B c d 40 40 30 20 10 ((30 : Nat) : Int) 0 0 with h | h | h; exact h; omega; omega) (by omega)
theorem ex1_b (A B : Option Addr) (c d : Nat) : allB (soB (exL A B c d [10, 40] [0, 20, 10]) 0 1 90 5) 10 0 = true := by kernel_rfl
theorem ex1_s (A B : Option Addr) (c d : Nat) (pl : Nat → Nat → Int) : stpS ⟨exL A B c d [10, 40] [0, 20, 10], 90, pl⟩ 0 1 5 = ⟨exL A B c d [10, 40] [0, 20, 10], 90, fun a b => if a = 0 ∧ b = 1 then ((0 : Nat) : Int) else pl a b⟩ :=
  ex_st (by kernel_rfl) (ex1_b A B c d) (by kernel_rfl) (by omega) (by rcases exL_aft A B c d 10 40 0 20 10 ((0 : Nat) : Int) 0 1 with h | h | h; exact h; omega; omega) (by omega)
theorem ex2_b (A B : Option Addr) (c d : Nat) : allB (soB (exL A B c d [10, 40] [0, 20, 10]) 1 1 90 3) 20 20 = true := by kernel_rfl
theorem ex2_s (A B : Option Addr) (c d : Nat) (pl : Nat → Nat → Int) : stpS ⟨exL A B c d [10, 40] [0, 20, 10], 90, pl⟩ 1 1 3 = ⟨exL A B c d [10, 20] [0, 0, 10], 30, fun a b => if a = 1 ∧ b = 1 then ((20 : Nat) : Int) else pl a b⟩ :=
  ex_st (by kernel_rfl) (ex2_b A B c d) (by kernel_rfl) (by omega) (by rcases exL_aft A B c d 10 40 0 20 10 ((20 : Nat) : Int) 1 1 with h | h | h; exact h; omega; omega) (by omega)
theorem ex3_b (A B : Option Addr) (c d : Nat) : allB (soB (exL A B c d [10, 20] [0, 0, 10]) 1 2 30 3) 10 10 = true := by kernel_rfl
theorem ex3_s (A B : Option Addr) (c d : Nat) (pl : Nat → Nat → Int) : stpS ⟨exL A B c d [10, 20] [0, 0, 10], 30, pl⟩ 1 2 3 = ⟨exL A B c d [10, 10] [0, 0, 0], 0, fun a b => if a = 1 ∧ b = 2 then ((10 : Nat) : Int) else pl a b⟩ :=
  ex_st (by kernel_rfl) (ex3_b A B c d) (by kernel_rfl) (by omega) (by rcases exL_aft A B c d 10 20 0 0 10 ((10 : Nat) : Int) 1 2 with h | h | h; exact h; omega; omega) (by omega)
def px0 : Nat → Nat → Int := fun _ _ => 0
def px1 : Nat → Nat → Int := fun a b => if a = 0 ∧ b = 0 then ((30 : Nat) : Int) else px0 a b
def px2 : Nat → Nat → Int := fun a b => if a = 0 ∧ b = 1 then ((0 : Nat) : Int) else px1 a b
def px3 : Nat → Nat → Int := fun a b => if a = 1 ∧ b = 1 then ((20 : Nat) : Int) else px2 a b
def px4 : Nat → Nat → Int := fun a b => if a = 1 ∧ b = 2 then ((10 : Nat) : Int) else px3 a b
theorem exJ00 (A B : Option Addr) (c d : Nat) : stJ (exL A B c d [40, 40] [30, 20, 10]) exF 0 0 = ⟨exL A B c d [40, 40] [30, 20, 10], 240, px0⟩ := by
  rw [stJ_zero]
  show PSt.mk _ (costI _) _ = _
  rw [← exL_eq, ex_cost]
  rfl
theorem exJ01 (A B : Option Addr) (c d : Nat) : stJ (exL A B c d [40, 40] [30, 20, 10]) exF 0 1 = ⟨exL A B c d [10, 40] [0, 20, 10], 90, px1⟩ := by
  rw [stJ_succ _ exF (show 0 < (exF 0).length by decide), exJ00]
  exact ex0_s A B c d px0
theorem exO1 (A B : Option Addr) (c d : Nat) : stO (exL A B c d [40, 40] [30, 20, 10]) exF 1 = ⟨exL A B c d [10, 40] [0, 20, 10], 90, px2⟩ := by
  have h := stJ_end (exL A B c d [40, 40] [30, 20, 10]) exF 0
  rw [← h]
  show stJ _ exF 0 2 = _
  rw [stJ_succ _ exF (show 1 < (exF 0).length by decide), exJ01]
  exact ex1_s A B c d px1
theorem exJ10 (A B : Option Addr) (c d : Nat) : stJ (exL A B c d [40, 40] [30, 20, 10]) exF 1 0 = ⟨exL A B c d [10, 40] [0, 20, 10], 90, px2⟩ := by rw [stJ_zero, exO1]
theorem exJ11 (A B : Option Addr) (c d : Nat) : stJ (exL A B c d [40, 40] [30, 20, 10]) exF 1 1 = ⟨exL A B c d [10, 20] [0, 0, 10], 30, px3⟩ := by
  rw [stJ_succ _ exF (show 0 < (exF 1).length by decide), exJ10]
  exact ex2_s A B c d px2
theorem exO2 (A B : Option Addr) (c d : Nat) : stO (exL A B c d [40, 40] [30, 20, 10]) exF 2 = ⟨exL A B c d [10, 10] [0, 0, 0], 0, px4⟩ := by
  have h := stJ_end (exL A B c d [40, 40] [30, 20, 10]) exF 1
  rw [← h]
  show stJ _ exF 1 2 = _
  rw [stJ_succ _ exF (show 1 < (exF 1).length by decide), exJ11]
  exact ex3_s A B c d px3
theorem ex_mono (A B : Option Addr) (c d : Nat) : MonoAt (exM 40 A B c d) exF := by
  have j00 := exJ00 A B c d
  have j01 := exJ01 A B c d
  have j10 := exJ10 A B c d
  have j11 := exJ11 A B c d
  have e0 := ex0_b A B c d
  have hn0 : (exL A B c d [40, 40] [30, 20, 10]).needs 0 = 30 := rfl
  have hlen : (exL A B c d [40, 40] [30, 20, 10]).lots.length = 2 := rfl
  have p0 : (exL A B c d [40, 40] [30, 20, 10]).price 0 = 5 := rfl
  have p1 : (exL A B c d [40, 40] [30, 20, 10]).price 1 = 3 := rfl
  rw [exL_eq]
  intro k hk j f hf _ a b h1 h2 h3 h4 h5
  rw [hlen] at hk
  clear hlen
  generalize exL A B c d [40, 40] [30, 20, 10] = m at *
  have hk2 : k = 0 ∨ k = 1 := by omega
  rcases hk2 with rfl | rfl
  · have hf' : ([0, 1] : List Nat)[j]? = some f := hf
    obtain ⟨hj, hf2⟩ := List.getElem?_eq_some_iff.1 hf'
    have hj2 : j = 0 ∨ j = 1 := by simp at hj; omega
    rcases hj2 with rfl | rfl
    · obtain rfl : 0 = f := hf2
      rw [j00] at h3 h4 h5 ⊢
      rw [p0] at h5 ⊢
      exact allB_mono e0 h1 h2 (by have h6 : (b : Int) ≤ m.needs 0 := h4; omega) h5
    · obtain rfl : 1 = f := hf2
      rw [j01] at h3 h4 h5 ⊢
      rw [p0] at h5 ⊢
      exact allB_mono (ex1_b A B c d) h1 h2 (by have : (b : Int) ≤ 10 := h3; omega) h5
  · have hf' : ([1, 2] : List Nat)[j]? = some f := hf
    obtain ⟨hj, hf2⟩ := List.getElem?_eq_some_iff.1 hf'
    have hj2 : j = 0 ∨ j = 1 := by simp at hj; omega
    rcases hj2 with rfl | rfl
    · obtain rfl : 1 = f := hf2
      rw [j10] at h3 h4 h5 ⊢
      rw [p1] at h5 ⊢
      exact allB_mono (ex2_b A B c d) h1 h2 (by have : (b : Int) ≤ 20 := h4; omega) h5
    · obtain rfl : 2 = f := hf2
      rw [j11] at h3 h4 h5 ⊢
      rw [p1] at h5 ⊢
      exact allB_mono (ex3_b A B c d) h1 h2 (by have : (b : Int) ≤ 10 := h4; omega) h5
theorem ex_plan (A B : Option Addr) (c d : Nat) : (stO (exM 40 A B c d) exF 2).pl = px4 := by rw [exL_eq, exO2]
end Go.Proofs.Ytjkefoijhphknaa
