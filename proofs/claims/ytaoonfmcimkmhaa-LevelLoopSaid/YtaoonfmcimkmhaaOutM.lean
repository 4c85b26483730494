/- What Fall and Heights answer of a valid survey, when heights fit and when not: for the outright statements. Conditions stand at each theorem. -/
import Derived.Test.YtaoonfmcimkmhaaLevMath
import Derived.Test.YtaoonfmcimkmhaaLevFall
import Derived.Test.YtaoonfmcimkmhaaLevHts
namespace Go.Proofs.Ytaoonfmcimkmhaa
open Go.RowKit

theorem lvFall_fit {s : Sv} (hok : svOk s = true) (hf : (svD s).2 = true) {i j : Nat} (hi : i < s.n.toNat) (hj : j < s.n.toNat) : lvFall s (i : Int) (j : Int) = ((-(svD s).1 i j, (svD s).1 j i), 0) := by
  have h1 : (inB s.n i && inB s.n j) = true := by unfold inB; simp; omega
  unfold lvFall
  rw [hok, hf, h1]
  simp
theorem lvFall_apart {s : Sv} (hok : svOk s = true) (hf : (svD s).2 = false) {i j : Nat} (hi : i < s.n.toNat) (hj : j < s.n.toNat) : lvFall s (i : Int) (j : Int) = ((0, 0), 11) := by
  have h1 : (inB s.n i && inB s.n j) = true := by unfold inB; simp; omega
  unfold lvFall
  rw [hok, hf, h1]
  simp
theorem lvHeights_fit {s : Sv} (hok : svOk s = true) (hf : (svD s).2 = true) : lvHeights s = (htsList s, 0) := by
  unfold lvHeights
  rw [hok, hf]
  simp
theorem lvHeights_apart {s : Sv} (hok : svOk s = true) (hf : (svD s).2 = false) : lvHeights s = ([], 11) := by
  unfold lvHeights
  rw [hok, hf]
  simp
theorem hts_len (s : Sv) : (htsList s).length = s.n.toNat := by simp [htsList]
theorem hts_at (s : Sv) {i : Nat} (hi : i < s.n.toNat) : (htsList s)[i]? = some (-((svD s).1 i s.n.toNat), (svD s).1 s.n.toNat i) := by
  unfold htsList
  rw [List.getElem?_map, List.getElem?_range hi]
  rfl
theorem svD_tri {s : Sv} (hok : svOk s = true) (hf : (svD s).2 = true) {i j k : Nat} (hi : i < s.n.toNat + 1) (hj : j < s.n.toNat + 1) (hk : k < s.n.toNat + 1) : (svD s).1 i k ≤ (svD s).1 i j + (svD s).1 j k :=
  (wkD_spec hok (by omega) (by omega) hf).1 i j k hi hj hk
theorem svD_diag {s : Sv} (hok : svOk s = true) (hf : (svD s).2 = true) {i : Nat} (hi : i < s.n.toNat + 1) : (svD s).1 i i = 0 := (wkD_spec hok (by omega) (by omega) hf).2.1 i hi
theorem svD_bd {s : Sv} (hok : svOk s = true) (hf : (svD s).2 = true) {i j : Nat} (hi : i < s.n.toNat + 1) (hj : j < s.n.toNat + 1) : -20000000 ≤ (svD s).1 i j ∧ (svD s).1 i j ≤ 20000000 :=
  wkD_bounds hok (by omega) (by omega) hf hi hj

theorem fall_as (s : Sv) (a b : Int) (c1 c2 c3 : Nat) (A1 A2 A3 : Option Addr) (w : World)
    (r1 : Rd w w.heap.size A1 shV 4 s.shots) (r2 : Rd w w.heap.size A2 mkV 3 s.marks) (r3 : Rd w w.heap.size A3 shV 4 s.threads) {F1 F2 F3 : Int} (h : lvFall s a b = ((F1, F2), F3)) :
    Calls Try.prog 18 #[.agg #[.int .i64 s.n, .slice A1 s.shots.length c1, .slice A2 s.marks.length c2, .slice A3 s.threads.length c3], .int .i64 a, .int .i64 b] w fun e w' =>
      e = .returned (.tuple #[.agg #[.int .i64 F1, .int .i64 F2], .int .i64 F3]) ∧ Below w.heap.size w w' := by
  have h1 := fall_any s a b c1 c2 c3 A1 A2 A3 w r1 r2 r3
  rw [h] at h1
  exact h1
theorem heights_as (s : Sv) (c1 c2 c3 : Nat) (A1 A2 A3 : Option Addr) (w : World)
    (r1 : Rd w w.heap.size A1 shV 4 s.shots) (r2 : Rd w w.heap.size A2 mkV 3 s.marks) (r3 : Rd w w.heap.size A3 shV 4 s.threads) {L : List (Int × Int)} {E : Int} (h : lvHeights s = (L, E)) :
    Calls Try.prog 16 #[.agg #[.int .i64 s.n, .slice A1 s.shots.length c1, .slice A2 s.marks.length c2, .slice A3 s.threads.length c3]] w fun e w' =>
      (∃ A c, e = .returned (.tuple #[.slice A L.length c, .int .i64 E]) ∧ Rd w' w'.heap.size A spV 2 L) ∧ Below w.heap.size w w' := by
  have h1 := heights_any s c1 c2 c3 A1 A2 A3 w r1 r2 r3
  rw [h] at h1
  exact h1

end Go.Proofs.Ytaoonfmcimkmhaa
