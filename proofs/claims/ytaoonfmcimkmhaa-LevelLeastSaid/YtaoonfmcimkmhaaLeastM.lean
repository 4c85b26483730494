/- Readings that are made wider, as far as they may be, fit as if level had made them so; a true survey whose shots are wrong by so much fits with so great an error. Conditions stand at each theorem. -/
import Derived.Test.YtaoonfmcimkmhaaTwinIn
set_option linter.unusedVariables false
namespace Go.Proofs.Ytaoonfmcimkmhaa
open Go.RowKit

def wdSh (w : Int) (x : Sh) : Sh := ⟨x.f, x.t, max (x.lo - w) (-20000000), min (x.hi + w) 20000000⟩
def wdMk (w : Int) (x : Mk) : Mk := ⟨x.p, max (x.lo - w) (-10000000), min (x.hi + w) 10000000⟩
/-- A survey with all readings as much wider, as far as they may be. -/
def wdS (s : Sv) (w : Int) : Sv := { s with shots := s.shots.mapIdx fun _ => wdSh w, marks := s.marks.mapIdx fun _ => wdMk w }
theorem mem_mapIdx' {α : Type} (f : α → α) (l : List α) (x : α) : x ∈ l.mapIdx (fun _ => f) ↔ ∃ y ∈ l, f y = x := by
  constructor
  · intro h
    obtain ⟨k, hk, rfl⟩ := List.getElem_of_mem h
    rw [List.getElem_mapIdx]
    exact ⟨_, List.getElem_mem (by simpa using hk), rfl⟩
  · rintro ⟨y, hy, rfl⟩
    obtain ⟨k, hk, rfl⟩ := List.getElem_of_mem hy
    exact List.mem_of_getElem? (i := k) (by rw [List.getElem?_mapIdx, List.getElem?_eq_getElem hk]; rfl)
theorem wdS_ok {s : Sv} (hok : svOk s = true) {w : Int} (hw : 0 ≤ w) (hw2 : w ≤ 20000000) : svOk (wdS s w) = true := by
  rw [svOk_iff] at hok ⊢
  obtain ⟨⟨h1, h2, h3, h4, h5⟩, h6, h7, h8⟩ := hok
  refine ⟨⟨h1, h2, by simp [wdS]; exact h3, by simp [wdS]; exact h4, h5⟩, fun x hx => ?_, fun x hx => ?_, h8⟩
  · obtain ⟨y, hy, rfl⟩ := (mem_mapIdx' _ _ _).1 hx
    have h9 := shOk_spec (h6 y hy)
    unfold shOk diffB inB spanB wdSh
    have e : (wdS s w).n = s.n := rfl
    rw [e]
    simp only [Bool.and_eq_true, decide_eq_true_eq, bne_iff_ne, ne_eq]
    omega
  · obtain ⟨y, hy, rfl⟩ := (mem_mapIdx' _ _ _).1 hx
    have h9 := mkOk_spec (h7 y hy)
    unfold mkOk inB spanB wdMk
    have e : (wdS s w).n = s.n := rfl
    rw [e]
    simp only [Bool.and_eq_true, decide_eq_true_eq]
    omega
theorem wdS_fit {s : Sv} (hok : svOk s = true) {w : Int} (h : Nat → Int) : FitSv (wdS s w) (fun _ => false) 0 h ↔ FitSv s (fun _ => false) w h := by
  rw [svOk_iff] at hok
  obtain ⟨⟨h1, h2, h3, h4, h5⟩, h6, h7, h8⟩ := hok
  rw [fitSv_mem, fitSv_mem]
  constructor
  · rintro ⟨g1, g2, g3⟩
    refine ⟨g1, fun x hx => ?_, fun x hx => ?_⟩
    · have a := g2 _ ((mem_mapIdx' _ _ _).2 ⟨x, hx, rfl⟩)
      unfold Holds wdSh at a
      unfold Holds
      dsimp only at a
      omega
    · have a := g3 _ ((mem_mapIdx' _ _ _).2 ⟨x, hx, rfl⟩)
      unfold Holds wdMk at a
      unfold Holds
      have e : (wdS s w).n = s.n := rfl
      rw [e] at a
      dsimp only at a ⊢
      omega
  · rintro ⟨g1, g2, g3⟩
    refine ⟨g1, fun x hx => ?_, fun x hx => ?_⟩
    · obtain ⟨y, hy, rfl⟩ := (mem_mapIdx' _ _ _).1 hx
      have a := g2 y hy
      have h9 := shOk_spec (h6 y hy)
      have b1 := g1 y.t.toNat (by omega)
      have b2 := g1 y.f.toNat (by omega)
      unfold Holds at a
      unfold Holds wdSh
      dsimp only
      omega
    · obtain ⟨y, hy, rfl⟩ := (mem_mapIdx' _ _ _).1 hx
      have a := g3 y hy
      have h9 := mkOk_spec (h7 y hy)
      have b1 := g1 y.p.toNat (by omega)
      have e : (wdS s w).n = s.n := rfl
      unfold Holds at a
      unfold Holds wdMk
      rw [e]
      dsimp only at a ⊢
      omega
theorem wdS_D {s : Sv} (hok : svOk s = true) {w : Int} (hw : 0 ≤ w) (hw2 : w ≤ 20000000) : (svD (wdS s w)).2 = (wkD s (fun _ => false) w).2 := by
  have a := svD_iff (wdS_ok hok hw hw2)
  have b := wkD_iff (out := fun _ => false) hok hw hw2
  have c : (∃ h, FitSv (wdS s w) (fun _ => false) 0 h) ↔ ∃ h, FitSv s (fun _ => false) w h := ⟨fun ⟨h, hh⟩ => ⟨h, (wdS_fit hok h).1 hh⟩, fun ⟨h, hh⟩ => ⟨h, (wdS_fit hok h).2 hh⟩⟩
  rw [Bool.eq_iff_iff, a, b, c]
/-- What fits reports. -/
def wdB (s : Sv) (w : Int) : Bool := (lvHeights (wdS s w)).2 == 0
theorem wdB_eq {s : Sv} (hok : svOk s = true) {w : Int} (hw : 0 ≤ w) (hw2 : w ≤ 20000000) : wdB s w = (wkD s (fun _ => false) w).2 := by
  unfold wdB
  rw [hts_ok, wdS_ok hok hw hw2, wdS_D hok hw hw2]
  simp

/-- A true survey whose shots are wrong by so much. -/
def wrI (most : Int) (l : List Int) (i : Nat) : Int := partI (2 * most).toNat l (i + 2) - most
def wrSh (most : Int) (l : List Int) (i : Nat) (x : Sh) : Sh := ⟨x.f, x.t, x.lo + wrI most l i, x.hi + wrI most l i⟩
def wrS (s : Sv) (l : List Int) (most : Int) : Sv := { truS s l with shots := (truS s l).shots.mapIdx (wrSh most l) }
theorem wrI_bd {most : Int} (h : 0 ≤ most) (l : List Int) (i : Nat) : -most ≤ wrI most l i ∧ wrI most l i ≤ most := by
  have := partI_bd (2 * most).toNat l (i + 2)
  unfold wrI
  omega
theorem wrS_ok {s : Sv} (hok : svOk s = true) (l : List Int) {most : Int} (h0 : 0 ≤ most) (h1 : most ≤ 255) : svOk (wrS s l most) = true := by
  obtain ⟨⟨h1', h2, h3, h4, h5⟩, h6, h7, h8⟩ := svOk_spec hok
  have hT := (svOk_iff _).1 (tru_ok hok l)
  rw [svOk_iff]
  refine ⟨⟨h1', h2, by simp [wrS, truS]; exact h3, hT.1.2.2.2.1, h5⟩, fun x hx => ?_, hT.2.2.1, h8⟩
  obtain ⟨k, hk, rfl⟩ := List.getElem_of_mem hx
  simp only [wrS, truS, List.getElem_mapIdx]
  have hk2 : k < s.shots.length := by simpa [wrS, truS] using hk
  have h9 := shOk_spec (h6 _ (List.getElem_mem hk2))
  have b1 := trH_bd l s.shots[k].t.toNat
  have b2 := trH_bd l s.shots[k].f.toNat
  have b3 := partI_bd 40 l (k + 3)
  have b4 := partI_bd 40 l (k + 5)
  have b5 := wrI_bd h0 l k
  unfold shOk diffB inB spanB wrSh trSh
  simp
  omega
theorem wrS_fit {s : Sv} (hok : svOk s = true) (l : List Int) {most : Int} (h0 : 0 ≤ most) : FitSv (wrS s l most) (fun _ => false) most (trF s.n.toNat l) := by
  have h := tru_fit hok l
  rw [fitSv_mem] at h ⊢
  obtain ⟨g1, g2, g3⟩ := h
  refine ⟨g1, fun x hx => ?_, fun x hx => ?_⟩
  · obtain ⟨k, hk, rfl⟩ := List.getElem_of_mem hx
    have hk2 : k < (truS s l).shots.length := by simpa [wrS] using hk
    have a := g2 _ (List.getElem_mem hk2)
    have b5 := wrI_bd h0 l k
    simp only [wrS, List.getElem_mapIdx]
    unfold Holds at a
    unfold Holds wrSh
    dsimp only
    omega
  · have a := g3 x hx
    unfold Holds at a ⊢
    have e : (wrS s l most).n = (truS s l).n := rfl
    rw [e]
    dsimp only at a ⊢
    omega
/-- The least error that is told of it. -/
theorem wrS_wid {s : Sv} (hok : svOk s = true) (l : List Int) {most : Int} (h0 : 0 ≤ most) (h1 : most ≤ 255) : ∃ r : Nat, r ≤ 20000000 ∧ (r : Int) ≤ most ∧ ∀ m : Nat, m ≤ 20000000 → (wkD (wrS s l most) (fun _ => false) (m : Int)).2 = decide (r ≤ m) := by
  obtain ⟨r, hr, hm⟩ := wid_least (fun _ => false) (wrS_ok hok l h0 h1)
  refine ⟨r, hr, ?_, hm⟩
  have h2 := hm most.toNat (by omega)
  have h3 : (wkD (wrS s l most) (fun _ => false) ((most.toNat : Nat) : Int)).2 = true := (wkD_iff (wrS_ok hok l h0 h1) (by omega) (by omega)).2 ⟨_, by rw [Int.toNat_of_nonneg h0]; exact wrS_fit hok l h0⟩
  rw [h3] at h2
  have := of_decide_eq_true h2.symm
  omega

end Go.Proofs.Ytaoonfmcimkmhaa
