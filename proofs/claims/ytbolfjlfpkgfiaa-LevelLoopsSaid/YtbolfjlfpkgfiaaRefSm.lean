/- The reference's Same: two surveys in memory that read alike are the same. Condition: their slices read below the heap's end. -/
import Derived.Test.YtbolfjlfpkgfiaaLevSlopes
import Derived.BigQuiet
namespace Go.Proofs.Ytbolfjlfpkgfiaa
open Go.RowKit

set_option maxHeartbeats 4000000 in
set_option maxRecDepth 100000 in
theorem same_any (s : Sv) (c1 c2 c3 d1 d2 d3 : Nat) (A1 A2 A3 B1 B2 B3 : Option Addr) (w : World)
    (r1 : Rd w w.heap.size A1 shV 4 s.shots) (r2 : Rd w w.heap.size A2 mkV 3 s.marks) (r3 : Rd w w.heap.size A3 shV 4 s.threads)
    (q1 : Rd w w.heap.size B1 shV 4 s.shots) (q2 : Rd w w.heap.size B2 mkV 3 s.marks) (q3 : Rd w w.heap.size B3 shV 4 s.threads) (l1 : s.shots.length ≤ 1000000) (l2 : s.marks.length ≤ 1000000) (l3 : s.threads.length ≤ 1000000) :
    Calls Try.prog 23 #[.agg #[.int .i64 s.n, .slice A1 s.shots.length c1, .slice A2 s.marks.length c2, .slice A3 s.threads.length c3], .agg #[.int .i64 s.n, .slice B1 s.shots.length d1, .slice B2 s.marks.length d2, .slice B3 s.threads.length d3]] w fun e w' =>
      e = .returned (.bool true) ∧ Below w.heap.size w w' := by
  have R1 := Lib.hid r1
  have R2 := Lib.hid r2
  have R3 := Lib.hid r3
  have Q1 := Lib.hid q1
  have Q2 := Lib.hid q2
  have Q3 := Lib.hid q3
  clear r1 r2 r3 q1 q2 q3
  go_enter Try.func23, Try.ntmps23
  go_wp2
  obtain ⟨w0, hw0⟩ : ∃ w0, (w.alloc (Obj.cells #[Value.int IntKind.i64 s.n, Value.slice A1 s.shots.length c1, Value.slice A2 s.marks.length c2, Value.slice A3 s.threads.length c3] 26)).alloc (Obj.cells #[Value.int IntKind.i64 s.n, Value.slice B1 s.shots.length d1, Value.slice B2 s.marks.length d2, Value.slice B3 s.threads.length d3] 26) = w0 := ⟨_, rfl⟩
  rw [hw0]
  have hb0 : Below w.heap.size w w0 := by rw [← hw0]; (repeat' (first | (with_reducible exact Below.refl _ _) | (with_reducible refine Below.alloc ?_ ?_ _) | (with_reducible refine Below.drew ?_) | (with_reducible refine Below.drewN_ ?_ _) | (with_reducible refine Below.setCell ?_ ?_ _) | (with_reducible refine Below.setRow ?_ ?_ _) | (with_reducible refine Below.via ?_ (by with_reducible assumption) ?_) | go_size))
  have a1 : w0.cell? ⟨w.heap.size, 1, none⟩ = some (.slice A1 s.shots.length c1) := by rw [← hw0]; simp
  have a2 : w0.cell? ⟨w.heap.size, 2, none⟩ = some (.slice A2 s.marks.length c2) := by rw [← hw0]; simp
  have a3 : w0.cell? ⟨w.heap.size, 3, none⟩ = some (.slice A3 s.threads.length c3) := by rw [← hw0]; simp
  have b1 : w0.cell? ⟨w.heap.size + 1, 1, none⟩ = some (.slice B1 s.shots.length d1) := by rw [← hw0]; simp
  have b2 : w0.cell? ⟨w.heap.size + 1, 2, none⟩ = some (.slice B2 s.marks.length d2) := by rw [← hw0]; simp
  have b3 : w0.cell? ⟨w.heap.size + 1, 3, none⟩ = some (.slice B3 s.threads.length d3) := by rw [← hw0]; simp
  clear hw0
  go_loopw [5] (fun i W => ∃ k : Nat, k ≤ s.shots.length ∧ i = .int .i64 k ∧ ∃ n, W = w0.drewN n) (fun i _ => s.shots.length - (intOf i).toNat)
  case atStart => exact ⟨0, by omega, rfl, 0, rfl⟩
  case round =>
    obtain ⟨k, hk, rfl, nn, rfl⟩ := hrel
    by_cases hlt : k < s.shots.length
    · obtain ⟨b, o, rfl, hbl, hcell⟩ := (R1.out.below hb0).at_ hlt
      obtain ⟨b', o', rfl, hbl', hcell'⟩ := (Q1.out.below hb0).at_ hlt
      have u0 := hcell 0 _ rfl
      have v0 := hcell' 0 _ rfl
      have u1 := hcell 1 _ rfl
      have v1 := hcell' 1 _ rfl
      have u2 := hcell 2 _ rfl
      have v2 := hcell' 2 _ rfl
      have u3 := hcell 3 _ rfl
      have v3 := hcell' 3 _ rfl
      simp only [Nat.add_zero] at u0 v0
      clear hcell hcell'
      generalize s.shots[k] = x at *
      go_wp2
      go_quiet (fail)
      go_wp2
      go_roundw
      case rel => exact ⟨k + 1, by omega, by go_num, _, rfl⟩
      case measure => (simp [intOf] <;> omega)
    · go_wp2
      clear hlt hk
      go_loopw [6] (fun i W => ∃ k : Nat, k ≤ s.marks.length ∧ i = .int .i64 k ∧ ∃ n, W = w0.drewN n) (fun i _ => s.marks.length - (intOf i).toNat)
      case atStart => exact ⟨0, by omega, rfl, nn, rfl⟩
      case round =>
        obtain ⟨k, hk, rfl, nn, rfl⟩ := hrel
        by_cases hlt : k < s.marks.length
        · obtain ⟨b, o, rfl, hbl, hcell⟩ := (R2.out.below hb0).at_ hlt
          obtain ⟨b', o', rfl, hbl', hcell'⟩ := (Q2.out.below hb0).at_ hlt
          have u0 := hcell 0 _ rfl
          have v0 := hcell' 0 _ rfl
          have u1 := hcell 1 _ rfl
          have v1 := hcell' 1 _ rfl
          have u2 := hcell 2 _ rfl
          have v2 := hcell' 2 _ rfl
          simp only [Nat.add_zero] at u0 v0
          clear hcell hcell'
          generalize s.marks[k] = x at *
          go_wp2
          go_quiet (fail)
          go_wp2
          go_roundw
          case rel => exact ⟨k + 1, by omega, by go_num, _, rfl⟩
          case measure => (simp [intOf] <;> omega)
        · go_wp2
          clear hlt hk
          go_loopw [7] (fun i W => ∃ k : Nat, k ≤ s.threads.length ∧ i = .int .i64 k ∧ ∃ n, W = w0.drewN n) (fun i _ => s.threads.length - (intOf i).toNat)
          case atStart => exact ⟨0, by omega, rfl, nn, rfl⟩
          case round =>
            obtain ⟨k, hk, rfl, nn, rfl⟩ := hrel
            by_cases hlt : k < s.threads.length
            · obtain ⟨b, o, rfl, hbl, hcell⟩ := (R3.out.below hb0).at_ hlt
              obtain ⟨b', o', rfl, hbl', hcell'⟩ := (Q3.out.below hb0).at_ hlt
              have u0 := hcell 0 _ rfl
              have v0 := hcell' 0 _ rfl
              have u1 := hcell 1 _ rfl
              have v1 := hcell' 1 _ rfl
              have u2 := hcell 2 _ rfl
              have v2 := hcell' 2 _ rfl
              have u3 := hcell 3 _ rfl
              have v3 := hcell' 3 _ rfl
              simp only [Nat.add_zero] at u0 v0
              clear hcell hcell'
              generalize s.threads[k] = x at *
              go_wp2
              go_quiet (fail)
              go_wp2
              go_roundw
              case rel => exact ⟨k + 1, by omega, by go_num, _, rfl⟩
              case measure => (simp [intOf] <;> omega)
            · go_wp2
              go_ret
              exact ⟨rfl, Below.drewN_ hb0 _⟩

end Go.Proofs.Ytbolfjlfpkgfiaa
