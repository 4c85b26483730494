/- Markets as plain data: what rents have to spare for each set of fields. No condition. -/
import Derived.Test.YtjkefoijhphknaaMkBits
import Derived.Deep.WholeRow
namespace Go.Proofs.Ytjkefoijhphknaa
open Go.RowKit

/-- An array of 256 numbers. -/
def arV (F : Nat → Int) : Array Value := Array.ofFn (n := 256) fun k => .int .i64 (F k.1)
theorem arV_size (F : Nat → Int) : (arV F).size = 256 := by unfold arV; simp
theorem arV_get (F : Nat → Int) {i : Nat} (hi : i < 256) : (arV F)[i]? = some (.int .i64 (F i)) := by
  unfold arV
  rw [Array.getElem?_ofFn, dif_pos hi]
theorem arV_set (F : Nat → Int) (i : Nat) (v : Int) : (arV F).setIfInBounds i (.int .i64 v) = arV (fun k => if k = i then v else F k) := by
  apply Array.ext
  · simp [arV]
  · intro k h1 h2
    have hk : k < 256 := by simpa [arV] using h2
    have hs : k < (arV F).size := by rw [arV_size]; exact hk
    rw [Array.getElem_setIfInBounds hs]
    simp only [arV, Array.getElem_ofFn]
    by_cases e : i = k
    · rw [if_pos e, if_pos e.symm]
    · rw [if_neg e, if_neg (fun h => e h.symm)]
theorem arV_one (F : Nat → Int) : (arV F).all (·.oneCell') = true := by
  rw [Array.all_eq_true]
  intro i hi
  simp [arV, Value.oneCell']
theorem arZero : Try.zeroCells166 = arV (fun _ => 0) := by kernel_rfl
theorem infoAr (F : Nat → Int) : (Try.prog.info? 166).map (·.size) = some (arV F).size := by rw [arV_size]; kernel_rfl

/-- A rent at work: its minutes and price, the header of its fields, and whose they are, as bits. -/
structure Lo where
  (mins price : Int) (fA : Option Addr) (fn fc : Nat) (whose : Nat)
def lotV (l : Lo) : List Value := [.int .i64 l.mins, .int .i64 l.price, .slice l.fA l.fn l.fc, .int .i64 (l.whose : Int)]
theorem lotV_len (l : Lo) : (lotV l).length = 4 := rfl
def nnV (n : Nat) : List Value := [.int .i64 (n : Int)]
structure Mk where
  (lots : List Lo) (dear : List Nat) (needs left : Nat → Int)
def mkA (m : Mk) (A1 : Option Addr) (c1 : Nat) (A2 : Option Addr) (c2 : Nat) : Array Value :=
  #[.slice A1 m.lots.length c1, .slice A2 m.dear.length c2, .int .i64 (m.needs 0), .int .i64 (m.needs 1), .int .i64 (m.needs 2), .int .i64 (m.needs 3), .int .i64 (m.needs 4), .int .i64 (m.needs 5), .int .i64 (m.needs 6), .int .i64 (m.needs 7),
    .int .i64 (m.left 0), .int .i64 (m.left 1), .int .i64 (m.left 2), .int .i64 (m.left 3), .int .i64 (m.left 4), .int .i64 (m.left 5), .int .i64 (m.left 6), .int .i64 (m.left 7)]
theorem mkA_needs (m : Mk) (A1 : Option Addr) (c1 : Nat) (A2 : Option Addr) (c2 : Nat) {i : Nat} (hi : i < 8) : (mkA m A1 c1 A2 c2)[2 + i]? = some (.int .i64 (m.needs i)) := by
  have : i = 0 ∨ i = 1 ∨ i = 2 ∨ i = 3 ∨ i = 4 ∨ i = 5 ∨ i = 6 ∨ i = 7 := by omega
  rcases this with rfl | rfl | rfl | rfl | rfl | rfl | rfl | rfl <;> rfl
theorem mkA_left (m : Mk) (A1 : Option Addr) (c1 : Nat) (A2 : Option Addr) (c2 : Nat) {i : Nat} (hi : i < 8) : (mkA m A1 c1 A2 c2)[10 + i]? = some (.int .i64 (m.left i)) := by
  have : i = 0 ∨ i = 1 ∨ i = 2 ∨ i = 3 ∨ i = 4 ∨ i = 5 ∨ i = 6 ∨ i = 7 := by omega
  rcases this with rfl | rfl | rfl | rfl | rfl | rfl | rfl | rfl <;> rfl

/-- Whether two sets have a field in common. -/
def touch (a s : Nat) : Bool := bits BinOp.and IntKind.i64 (a : Int) (s : Int) != 0
def Mk.who (m : Mk) (i : Nat) : Nat := (m.lots[i]?.map (·.whose)).getD 0
theorem Mk.who_get {m : Mk} {i : Nat} (h : i < m.lots.length) : m.who i = (m.lots[i]).whose := by unfold Mk.who; rw [List.getElem?_eq_getElem h]; rfl
/-- What the first rents have for a set, and what the first fields of it need. -/
def spL (m : Mk) (s : Nat) : Nat → Int
  | 0 => 0
  | i + 1 => spL m s i + if touch (m.who i) s then m.left i else 0
def spN (m : Mk) (s : Nat) : Nat → Int
  | 0 => 0
  | f + 1 => spN m s f + if s.testBit f then m.needs f else 0
def spI (m : Mk) (s : Nat) : Int := spL m s m.lots.length - spN m s 8
/-- The array while the set s is summed up. -/
def cur (m : Mk) (s : Nat) (v : Int) : Nat → Int := fun k => if k < s then spI m k else if k = s then v else 0
theorem cur_set (m : Mk) (s : Nat) (v u : Int) : (fun k => if k = s then u else cur m s v k) = cur m s u := by
  funext k
  unfold cur
  repeat' split
  all_goals first | rfl | omega
theorem cur_next (m : Mk) (s : Nat) : cur m s (spI m s) = cur m (s + 1) 0 := by
  funext k
  unfold cur
  repeat' split
  all_goals first | rfl | omega | (have h : k = s := by omega
                                   rw [h])
theorem cur_at (m : Mk) (s : Nat) (v : Int) : cur m s v s = v := by unfold cur; rw [if_neg (by omega), if_pos rfl]
theorem cur_zero (m : Mk) : cur m 0 0 = fun _ => 0 := by
  funext k
  unfold cur
  repeat' split
  all_goals first | rfl | omega
theorem arV_end (m : Mk) (v : Int) : arV (cur m 256 v) = arV (spI m) := by
  unfold arV
  congr 1
  funext k
  unfold cur
  rw [if_pos k.2]

/-- What is asked of a market: few rents, numbers that are no sum of which overflows. -/
structure MkOk (m : Mk) : Prop where
  len : m.lots.length ≤ 8
  who : ∀ l ∈ m.lots, l.whose < 256
  price : ∀ l ∈ m.lots, 0 ≤ l.price ∧ l.price ≤ 100000
  left : ∀ i, -23040 ≤ m.left i ∧ m.left i ≤ 23040
  needs : ∀ i, -23040 ≤ m.needs i ∧ m.needs i ≤ 23040
theorem spL_bnd {m : Mk} (h : MkOk m) (s : Nat) : ∀ i : Nat, i ≤ 8 → -(23040 * (i : Int)) ≤ spL m s i ∧ spL m s i ≤ 23040 * i
  | 0, _ => by simp [spL]
  | i + 1, hi => by
    have ih := spL_bnd h s i (by omega)
    have := h.left i
    unfold spL
    split <;> push_cast <;> omega
theorem spN_bnd {m : Mk} (h : MkOk m) (s : Nat) : ∀ i : Nat, i ≤ 8 → -(23040 * (i : Int)) ≤ spN m s i ∧ spN m s i ≤ 23040 * i
  | 0, _ => by simp [spN]
  | i + 1, hi => by
    have ih := spN_bnd h s i (by omega)
    have := h.needs i
    unfold spN
    split <;> push_cast <;> omega
theorem spI_bnd {m : Mk} (h : MkOk m) (s : Nat) : -400000 ≤ spI m s ∧ spI m s ≤ 400000 := by
  have h1 := spL_bnd h s m.lots.length h.len
  have h2 := spN_bnd h s 8 (by omega)
  have h3 := h.len
  unfold spI
  omega

theorem run_index_ar (F : Nat → Int) (i : Nat) (hi : i < 256) (w : World) : (Instr.index 166 (.agg (arV F)) (.int .i64 (i : Int))).run Try.prog w = .ok (.int .i64 (F i)) w := by
  have h1 : (0 : Int) ≤ i ∧ (i : Int) < 256 := by omega
  have h2 := arV_get F hi
  simp [Instr.index, run_underlying Try.underlying166, asIntOf, h1, go_sem, part, h2, Try.isAgg3]
  intro h
  omega
theorem run_index_needs (F : Nat → Int) (i : Nat) (hi : i < 8) (w : World) : (Instr.index 112 (.agg #[.int .i64 (F 0), .int .i64 (F 1), .int .i64 (F 2), .int .i64 (F 3), .int .i64 (F 4), .int .i64 (F 5), .int .i64 (F 6), .int .i64 (F 7)]) (.int .i64 (i : Int))).run Try.prog w = .ok (.int .i64 (F i)) w := by
  have h1 : (0 : Int) ≤ i ∧ (i : Int) < 8 := by omega
  have : i = 0 ∨ i = 1 ∨ i = 2 ∨ i = 3 ∨ i = 4 ∨ i = 5 ∨ i = 6 ∨ i = 7 := by omega
  rcases this with rfl | rfl | rfl | rfl | rfl | rfl | rfl | rfl <;>
  simp [Instr.index, run_underlying Try.underlying112, asIntOf, go_sem, part, Try.isAgg3]
end Go.Proofs.Ytjkefoijhphknaa
