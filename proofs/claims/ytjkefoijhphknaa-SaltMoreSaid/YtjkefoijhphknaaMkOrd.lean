/- The order of rents by their prices, as open sorts them. Condition: rents that can be read. -/
import Derived.Test.YtjkefoijhphknaaMkSet
import Derived.Test.YtjkefoijhphknaaMkLack
namespace Go.Proofs.Ytjkefoijhphknaa
open Go.RowKit Go.IntWalk

/-- What the order says of two rents: the dearer first, then the one that is told first. -/
def dearI (pr : Nat → Int) (a b : Nat) : Int := if cmpI (pr b) (pr a) ≠ 0 then cmpI (pr b) (pr a) else cmpI (a : Int) (b : Int)

set_option maxRecDepth 100000 in
set_option maxHeartbeats 4000000 in
theorem open1_any (a b p c rb ro B : Nat) (pa pb : Int) (w : World) (ha : a < p) (hb : b < p) (k0 : w.cell? ⟨B, 0, none⟩ = some (.slice (some ⟨rb, ro, none⟩) p c))
    (k1 : w.cell? ⟨rb, ro + a * 3 + 1, none⟩ = some (.int .i64 pa)) (k2 : w.cell? ⟨rb, ro + b * 3 + 1, none⟩ = some (.int .i64 pb)) :
    Calls Try.prog 100 #[.int .i64 (a : Int), .int .i64 (b : Int), .pointer (some ⟨B, 0, none⟩)] w fun e w' => e = .returned (.int .i64 (cmpI pb pa)) ∧ ∃ q, w' = w.drewN q := by
  have haI : (a : Int) < (p : Int) := by omega
  have hbI : (b : Int) < (p : Int) := by omega
  go_enter Try.func100, Try.ntmps100
  go_wp2
  go_quiet (first | (go_at_call 101; exact Calls.quiet_of_same ((cmp_any pb pa _).mono (fun _ _ h => ⟨h.1, h.2.symm⟩))))
  go_wp2
  go_ret
  exact ⟨rfl, _, rfl⟩

set_option maxRecDepth 100000 in
set_option maxHeartbeats 4000000 in
theorem inOrderI_any (a b : Nat) (x y : Int) (g c B : Nat) (w : World) (h0 : w.cell? ⟨g, 0, none⟩ = some (.func (.func 100) #[] #[.pointer (some ⟨B, 0, none⟩)])) (h1 : w.cell? ⟨g, 1, none⟩ = some (.func (.func 101) #[] #[]))
    (hF : ∀ q, Calls Try.prog 100 #[.int .i64 (a : Int), .int .i64 (b : Int), .pointer (some ⟨B, 0, none⟩)] (w.drewN q) fun e w' => e = .returned (.int .i64 x) ∧ ∃ q', w' = (w.drewN q).drewN q') (hy : cmpI (a : Int) (b : Int) = y) :
    Calls Try.prog 104 #[.int .i64 (a : Int), .int .i64 (b : Int), .slice (some ⟨g, 0, none⟩) 2 c] w fun e w' => e = .returned (.int .i64 (if x ≠ 0 then x else y)) ∧ ∃ q, w' = w.drewN q := by
  have CF := Lib.hid hF
  have CG := Lib.hid (fun W => cmp_any (a : Int) (b : Int) W)
  rw [hy] at CG
  obtain ⟨r, hr⟩ : ∃ r, (if x ≠ 0 then x else y) = r := ⟨_, rfl⟩
  have HO := Lib.hid hr
  rw [hr]
  clear hF hy hr
  have T0 : ∀ q, (w.drewN q).cell? ⟨g, 0, none⟩ = some (.func (.func 100) #[] #[.pointer (some ⟨B, 0, none⟩)]) := fun q => h0
  have T1 : ∀ q, (w.drewN q).cell? ⟨g, 1, none⟩ = some (.func (.func 101) #[] #[]) := fun q => h1
  go_enter Try.func104, Try.ntmps104
  go_wp2
  go_loopw [12] (fun v W => ∃ k q : Nat, k ≤ 2 ∧ v = .int .i64 k ∧ W = w.drewN q ∧ (1 ≤ k → x = 0) ∧ (2 ≤ k → y = 0)) (fun i _ => 2 - (intOf i).toNat)
  case atStart => exact ⟨0, 0, by omega, rfl, rfl, by omega, by omega⟩
  case round =>
    obtain ⟨k, q, hk, rfl, rfl, ha, hb⟩ := hrel
    have k0 := T0 q
    have k1 := T1 q
    clear T0 T1 h0 h1
    have hk3 : k = 0 ∨ k = 1 ∨ k = 2 := by omega
    rcases hk3 with rfl | rfl | rfl
    · clear ha hb
      by_cases h2 : x = 0
      · subst h2
        go_wp2_with (go_at_call 100; refine (CF.out q).mono ?_; rintro e w' ⟨rfl, q', rfl⟩)
        go_roundw
        case rel => exact ⟨1, q + q', by omega, by simp, by simp, by simp, by omega⟩
        case measure => simp [intOf]
      · have HA := Lib.hid h2
        go_wp2_with (go_at_call 100; refine (CF.out q).mono ?_; rintro e w' ⟨rfl, q', rfl⟩)
        go_ret
        exact ⟨by rw [← HO.out, if_pos HA.out]; rfl, q + q', by simp⟩
    · have ha0 := ha (by omega)
      subst ha0
      clear ha hb
      by_cases h2 : y = 0
      · subst h2
        go_wp2_with (go_at_call 101; refine (CG.out _).mono ?_; rintro e w' ⟨rfl, rfl⟩)
        go_roundw
        case rel => exact ⟨2, q, by omega, by simp, by simp, by simp, by simp⟩
        case measure => simp [intOf]
      · go_wp2_with (go_at_call 101; refine (CG.out _).mono ?_; rintro e w' ⟨rfl, rfl⟩)
        go_ret
        exact ⟨by rw [← HO.out]; simp, q, rfl⟩
    · have ha0 := ha (by omega)
      have hb0 := hb (by omega)
      subst ha0
      subst hb0
      clear ha hb
      go_wp2
      go_ret
      exact ⟨by rw [← HO.out]; simp, q, rfl⟩

/-- Whether one rent is dearer than another, or as dear and told before it. -/
def dLt (pr : Nat → Int) (a b : Nat) : Bool := decide (pr b < pr a ∨ (pr a = pr b ∧ a < b))
theorem dear_lt (pr : Nat → Int) (a b : Nat) : decide (dearI pr a b < 0) = dLt pr a b := by
  unfold dearI dLt cmpI
  rw [decide_eq_decide]
  repeat' split
  all_goals omega
def idV (n : Nat) (i : Fin (n + 1)) : Value := .int .i64 ((i.1 : Nat) : Int)
def idsA (n : Nat) : Array (Fin (n + 1)) := Array.ofFn id
theorem idsA_size (n : Nat) : (idsA n).size = n + 1 := by simp [idsA]
def dearF (pr : Nat → Int) (n : Nat) : List (Fin (n + 1)) := (idsA n).toList.mergeSort fun x y => !(dLt pr y.1 x.1)
def dearL (pr : Nat → Int) (n : Nat) : List Nat := (dearF pr n).map (·.1)
theorem dearF_len (pr : Nat → Int) (n : Nat) : (dearF pr n).length = n + 1 := by unfold dearF; rw [List.length_mergeSort]; simp [idsA]
theorem dearL_len (pr : Nat → Int) (n : Nat) : (dearL pr n).length = n + 1 := by unfold dearL; rw [List.length_map, dearF_len]
theorem dearL_lt {pr : Nat → Int} {n i : Nat} (h : i ∈ dearL pr n) : i < n + 1 := by
  unfold dearL at h
  obtain ⟨x, _, rfl⟩ := List.mem_map.1 h
  exact x.2
end Go.Proofs.Ytjkefoijhphknaa
