/- alive: some of the chapter's examples; it answers true in any memory. No condition. -/
import Derived.Test.YtaoonfmcimkmhaaExSv
import Derived.Test.YtaoonfmcimkmhaaFloat
import Derived.Test.YtaoonfmcimkmhaaExSv
import Derived.Test.YtaoonfmcimkmhaaLevHts
import Derived.Test.YtaoonfmcimkmhaaLevFall
import Derived.Test.YtaoonfmcimkmhaaLevLoop
import Derived.Test.YtaoonfmcimkmhaaLevSlopeA
import Derived.Test.YtaoonfmcimkmhaaLevRuns
import Derived.Test.YtaoonfmcimkmhaaLevWid
import Derived.Test.YtaoonfmcimkmhaaLevClash
import Derived.Test.YtaoonfmcimkmhaaRefSpans
import Derived.Test.YtaoonfmcimkmhaaRefSame
import Derived.Laws.BytesArg
set_option linter.unusedVariables false
set_option linter.unusedSimpArgs false
namespace Go.Proofs.Ytaoonfmcimkmhaa
open Go.RowKit

theorem rd_keep {α : Type} {w w' : World} {A : Option Addr} {enc : α → List Value} {sz : Nat} {l : List α} (h : Rd w w.heap.size A enc sz l) (hb : Below w.heap.size w w') : Rd w' w'.heap.size A enc sz l := (h.below hb).more hb.size
theorem row_keep {w w' : World} {g : Nat} {o : Obj} (h : w.heap[g]? = some o) (hb : Below w.heap.size w w') : w'.heap[g]? = some o := (hb.block g (Array.getElem?_eq_some_iff.1 h).1).trans h
theorem below_keep {B : Nat} {w w' w'' : World} (h : Below B w w') (hB : B ≤ w'.heap.size) (hb : Below w'.heap.size w' w'') : Below B w w'' := h.trans (hb.mono hB)

set_option maxRecDepth 100000 in
theorem heights_fal (B1 B2 B3 : Option Addr) (w : World) (q1 : Rd w w.heap.size B1 shV 4 (exS (-160) (-150)).shots) (q2 : Rd w w.heap.size B2 mkV 3 (exS (-160) (-150)).marks) (q3 : Rd w w.heap.size B3 shV 4 (exS (-160) (-150)).threads) :
    Calls Try.prog 16 #[.agg #[.int .i64 4, .slice B1 4 4, .slice B2 1 1, .slice B3 1 1]] w fun e w' => (∃ A c, e = .returned (.tuple #[.slice A 4 c, .int .i64 0]) ∧ Rd w' w'.heap.size A spV 2 [((1000 : Int), (1000 : Int)), (890, 900), (840, 850), (810, 830)]) ∧ Below w.heap.size w w' := by
  have h := heights_any (falS) 4 1 1 B1 B2 B3 w q1 q2 q3
  rw [fal_heights] at h
  exact h

set_option maxRecDepth 100000 in
theorem fall_fal (B1 B2 B3 : Option Addr) (w : World) (q1 : Rd w w.heap.size B1 shV 4 (exS (-160) (-150)).shots) (q2 : Rd w w.heap.size B2 mkV 3 (exS (-160) (-150)).marks) (q3 : Rd w w.heap.size B3 shV 4 (exS (-160) (-150)).threads) :
    Calls Try.prog 18 #[.agg #[.int .i64 4, .slice B1 4 4, .slice B2 1 1, .slice B3 1 1], .int .i64 1, .int .i64 2] w fun e w' => e = .returned (.tuple #[.agg #[.int .i64 45, .int .i64 55], .int .i64 0]) ∧ Below w.heap.size w w' := by
  have h := fall_any (falS) 1 2 4 1 1 B1 B2 B3 w q1 q2 q3
  rw [fal_fall12] at h
  exact h

set_option maxRecDepth 100000 in
theorem loop_fal (B1 B2 B3 : Option Addr) (AP : Option Addr) (w : World) (q1 : Rd w w.heap.size B1 shV 4 (exS (-160) (-150)).shots) (q2 : Rd w w.heap.size B2 mkV 3 (exS (-160) (-150)).marks) (q3 : Rd w w.heap.size B3 shV 4 (exS (-160) (-150)).threads) (rp : Rd w w.heap.size AP inV 1 [(0 : Int), 1, 2]) :
    Calls Try.prog 24 #[.agg #[.int .i64 4, .slice B1 4 4, .slice B2 1 1, .slice B3 1 1], .slice AP 3 3] w fun e w' => e = .returned (.tuple #[.agg #[.int .i64 (-15), .int .i64 15], .int .i64 0]) ∧ Below w.heap.size w w' := by
  have h := lloop_any (falS) [0, 1, 2] 3 4 1 1 AP B1 B2 B3 w q1 q2 q3 rp (by simp)
  rw [fal_loop] at h
  exact h

set_option maxRecDepth 100000 in
theorem slope_fal (B1 B2 B3 : Option Addr) (w : World) (q1 : Rd w w.heap.size B1 shV 4 (exS (-160) (-150)).shots) (q2 : Rd w w.heap.size B2 mkV 3 (exS (-160) (-150)).marks) (q3 : Rd w w.heap.size B3 shV 4 (exS (-160) (-150)).threads) :
    Calls Try.prog 31 #[.agg #[.int .i64 4, .slice B1 4 4, .slice B2 1 1, .slice B3 1 1], .int .i64 0] w fun e w' => e = .returned (.tuple #[.agg #[.int .i64 2, .int .i64 4], .int .i64 0]) ∧ Below w.heap.size w w' := by
  have h := lslope_any (falS) 0 4 1 1 B1 B2 B3 w q1 q2 q3
  rw [fal_slope] at h
  exact h

set_option maxRecDepth 100000 in
theorem runs_fal (B1 B2 B3 : Option Addr) (AP : Option Addr) (w : World) (q1 : Rd w w.heap.size B1 shV 4 (exS (-160) (-150)).shots) (q2 : Rd w w.heap.size B2 mkV 3 (exS (-160) (-150)).marks) (q3 : Rd w w.heap.size B3 shV 4 (exS (-160) (-150)).threads) (rp : Rd w w.heap.size AP inV 1 [(0 : Int), 1, 2, 3]) :
    Calls Try.prog 33 #[.agg #[.int .i64 4, .slice B1 4 4, .slice B2 1 1, .slice B3 1 1], .slice AP 4 4] w fun e w' => (∃ A c, e = .returned (.tuple #[.slice A 3 c, .int .i64 0]) ∧ Rd w' w'.heap.size A u8V 1 [(2 : Int), 2, 2]) ∧ Below w.heap.size w w' := by
  have h := lruns_any (falS) [0, 1, 2, 3] 4 4 1 1 AP B1 B2 B3 w q1 q2 q3 rp
  rw [fal_runs] at h
  exact h

set_option maxRecDepth 100000 in
theorem clash_crk (B1 B2 B3 : Option Addr) (w : World) (q1 : Rd w w.heap.size B1 shV 4 (exS (-180) (-170)).shots) (q2 : Rd w w.heap.size B2 mkV 3 (exS (-180) (-170)).marks) (q3 : Rd w w.heap.size B3 shV 4 (exS (-180) (-170)).threads) :
    Calls Try.prog 26 #[.agg #[.int .i64 4, .slice B1 4 4, .slice B2 1 1, .slice B3 1 1]] w fun e w' => (∃ A c, e = .returned (.tuple #[.slice A 3 c, .int .i64 0]) ∧ Rd w' w'.heap.size A inV 1 [(0 : Int), 1, 2]) ∧ Below w.heap.size w w' := by
  have h := lclash_any (crkS) 4 1 1 B1 B2 B3 w q1 q2 q3
  rw [crk_clash] at h
  exact h

set_option maxRecDepth 100000 in
theorem widen_crk (B1 B2 B3 : Option Addr) (w : World) (q1 : Rd w w.heap.size B1 shV 4 (exS (-180) (-170)).shots) (q2 : Rd w w.heap.size B2 mkV 3 (exS (-180) (-170)).marks) (q3 : Rd w w.heap.size B3 shV 4 (exS (-180) (-170)).threads) :
    Calls Try.prog 28 #[.agg #[.int .i64 4, .slice B1 4 4, .slice B2 1 1, .slice B3 1 1]] w fun e w' => e = .returned (.tuple #[.int .i64 2, .int .i64 0]) ∧ Below w.heap.size w w' :=
  lwiden_fine crkS 4 1 1 B1 B2 B3 w q1 q2 q3 crkS_ok 2 (by omega) crk_wid

/-- falaj and crooked, in literal numbers. -/
def NewEx (a b : Int) (w : World) (e : Ending) (w' : World) : Prop := (∃ B1 B2 B3, e = .returned (.agg #[.int .i64 4, .slice B1 4 4, .slice B2 1 1, .slice B3 1 1]) ∧
  Rd w' w'.heap.size B1 shV 4 (exS a b).shots ∧ Rd w' w'.heap.size B2 mkV 3 (exS a b).marks ∧ Rd w' w'.heap.size B3 shV 4 (exS a b).threads) ∧ Below w.heap.size w w'
theorem falaj_ex (w : World) : Calls Try.prog 68 #[] w (NewEx (-160) (-150) w) := (falaj_any w).mono fun e w' h => h
theorem crooked_ex (w : World) : Calls Try.prog 69 #[] w (NewEx (-180) (-170) w) := (crooked_any w).mono fun e w' h => h

set_option maxRecDepth 100000 in
/-- string(b) of bytes that read as 2, 2, 2. -/
theorem run_convert_222 (w : World) (A : Option Addr) (c : Nat) (r : Rd w w.heap.size A u8V 1 [(2 : Int), 2, 2]) : (convert 61 9 (.slice A 3 c)).run Try.prog w = .ok (.string ⟨#[2, 2, 2]⟩) w := by
  obtain ⟨b, o, h, _, hc⟩ := r (by simp)
  subst h
  refine run_convert_bytes_arg w 61 5 Try.underlying61 Try.underlying5 b o 3 c [2, 2, 2] rfl (fun i hi => ?_) _ Try.underlying9
  have hi3 : i < 3 := hi
  match i, hi3 with
  | 0, _ => exact hc 0 2 rfl 0 _ rfl
  | 1, _ => exact hc 1 2 rfl 0 _ rfl
  | 2, _ => exact hc 2 2 rfl 0 _ rfl

set_option maxRecDepth 100000 in
set_option maxHeartbeats 8000000 in
theorem alive_any (w : World) : Calls Try.prog 35 #[] w fun e w' => e = .returned (.bool true) ∧ Below w.heap.size w w' := by
  go_enter Try.func35, Try.ntmps35
  go_upto_region 2 with (first | (go_at_call 68; refine (falaj_ex _).mono ?_; rintro e wa ⟨⟨B1, B2, B3, rfl, p1, p2, p3⟩, hba⟩; have q1 := Lib.hid p1; have q2 := Lib.hid p2; have q3 := Lib.hid p3; clear p1 p2 p3) | (go_at_call 16; refine (heights_fal B1 B2 B3 wa q1.out q2.out q3.out).mono ?_; rintro e wb ⟨⟨AH, cH, rfl, qh⟩, hbb⟩))
  obtain ⟨v1, hw⟩ : ∃ v1, wb = v1 := ⟨_, rfl⟩
  rw [hw]
  have hza := hba.size
  have hzb := hbb.size
  (try simp only [World.size_alloc] at hza hzb)
  have hK : Below w.heap.size w v1 := by rw [← hw]; (repeat' (first | (with_reducible exact Below.refl _ _) | (with_reducible refine Below.alloc ?_ ?_ _) | (with_reducible refine Below.drew ?_) | (with_reducible refine Below.drewN_ ?_ _) | (with_reducible refine Below.setCell ?_ ?_ _) | (with_reducible refine Below.setRow ?_ ?_ _) | (with_reducible refine Below.via ?_ (by with_reducible assumption) ?_) | go_size))
  clear hza hzb
  have hb0 := hK
  have QH := Lib.hid (show Rd v1 v1.heap.size AH spV 2 _ by rw [← hw]; exact qh)
  clear hw hK hba hbb q1 q2 q3 qh
  go_upto_region 3 with (first | (go_at_call 68; refine (falaj_ex _).mono ?_; rintro e wa ⟨⟨B1, B2, B3, rfl, p1, p2, p3⟩, hba⟩; have q1 := Lib.hid p1; have q2 := Lib.hid p2; have q3 := Lib.hid p3; clear p1 p2 p3) | (go_at_call 18; refine (fall_fal B1 B2 B3 wa q1.out q2.out q3.out).mono ?_; rintro e wb ⟨rfl, hbb⟩))
  obtain ⟨v2, hw⟩ : ∃ v2, wb.alloc (Obj.cells #[.int .i64 45, .int .i64 55] 36) = v2 := ⟨_, rfl⟩
  rw [hw]
  have hza := hba.size
  have hzb := hbb.size
  (try simp only [World.size_alloc] at hza hzb)
  have hK : Below v1.heap.size v1 v2 := by rw [← hw]; (repeat' (first | (with_reducible exact Below.refl _ _) | (with_reducible refine Below.alloc ?_ ?_ _) | (with_reducible refine Below.drew ?_) | (with_reducible refine Below.drewN_ ?_ _) | (with_reducible refine Below.setCell ?_ ?_ _) | (with_reducible refine Below.setRow ?_ ?_ _) | (with_reducible refine Below.via ?_ (by with_reducible assumption) ?_) | go_size))
  clear hza hzb
  obtain ⟨b2, hbk⟩ : ∃ b, wb.heap.size = b := ⟨_, rfl⟩
  rw [hbk]
  have Y2a : v2.heap[b2]? = some (.cells #[.int .i64 (45), .int .i64 55] 36 (0, 0)) := by rw [← hw, ← hbk]; exact heap_alloc_new _ _
  have Y2 := Lib.hid Y2a
  replace QH := Lib.hid (rd_keep QH.out hK)
  replace hb0 := below_keep hb0 hb0.size hK
  clear hw hbk Y2a hK hba hbb q1 q2 q3
  go_upto_region 4 with (first | (go_at_call 68; refine (falaj_ex _).mono ?_; rintro e wa ⟨⟨B1, B2, B3, rfl, p1, p2, p3⟩, hba⟩; have q1 := Lib.hid p1; have q2 := Lib.hid p2; have q3 := Lib.hid p3; clear p1 p2 p3) | (go_at_call 24; (have hbn : Below wa.heap.size wa (wa.alloc (Obj.cells #[.int .i64 0, .int .i64 1, .int .i64 2] 3)) := by (repeat' (first | (with_reducible exact Below.refl _ _) | (with_reducible refine Below.alloc ?_ ?_ _) | (with_reducible refine Below.drew ?_) | (with_reducible refine Below.drewN_ ?_ _) | (with_reducible refine Below.setCell ?_ ?_ _) | (with_reducible refine Below.setRow ?_ ?_ _) | (with_reducible refine Below.via ?_ (by with_reducible assumption) ?_) | go_size))); have rp := rd_row (enc := inV) (sz := 1) (fun _ => rfl) (heap_alloc_new wa (Obj.cells #[.int .i64 0, .int .i64 1, .int .i64 2] 3)) [0, 1, 2] rfl; refine (loop_fal B1 B2 B3 _ (wa.alloc (Obj.cells #[.int .i64 0, .int .i64 1, .int .i64 2] 3)) (rd_keep q1.out hbn) (rd_keep q2.out hbn) (rd_keep q3.out hbn) rp).mono ?_; rintro e wb ⟨rfl, hbb⟩))
  obtain ⟨v3, hw⟩ : ∃ v3, wb.alloc (Obj.cells #[.int .i64 (-15), .int .i64 15] 36) = v3 := ⟨_, rfl⟩
  rw [hw]
  have hza := hba.size
  have hzb := hbb.size
  (try simp only [World.size_alloc] at hza hzb)
  have hK : Below v2.heap.size v2 v3 := by rw [← hw]; (repeat' (first | (with_reducible exact Below.refl _ _) | (with_reducible refine Below.alloc ?_ ?_ _) | (with_reducible refine Below.drew ?_) | (with_reducible refine Below.drewN_ ?_ _) | (with_reducible refine Below.setCell ?_ ?_ _) | (with_reducible refine Below.setRow ?_ ?_ _) | (with_reducible refine Below.via ?_ (by with_reducible assumption) ?_) | go_size))
  clear hza hzb
  obtain ⟨b3, hbk⟩ : ∃ b, wb.heap.size = b := ⟨_, rfl⟩
  rw [hbk]
  have Y3a : v3.heap[b3]? = some (.cells #[.int .i64 (-15), .int .i64 15] 36 (0, 0)) := by rw [← hw, ← hbk]; exact heap_alloc_new _ _
  have Y3 := Lib.hid Y3a
  replace Y2 := Lib.hid (row_keep Y2.out hK)
  replace QH := Lib.hid (rd_keep QH.out hK)
  replace hb0 := below_keep hb0 hb0.size hK
  clear hw hbk Y3a hK hba hbb q1 q2 q3 rp hbn
  go_upto_region 5 with (first | (go_at_call 68; refine (falaj_ex _).mono ?_; rintro e wa ⟨⟨B1, B2, B3, rfl, p1, p2, p3⟩, hba⟩; have q1 := Lib.hid p1; have q2 := Lib.hid p2; have q3 := Lib.hid p3; clear p1 p2 p3) | (go_at_call 31; refine (slope_fal B1 B2 B3 wa q1.out q2.out q3.out).mono ?_; rintro e wb ⟨rfl, hbb⟩))
  obtain ⟨v4, hw⟩ : ∃ v4, wb.alloc (Obj.cells #[.int .i64 2, .int .i64 4] 36) = v4 := ⟨_, rfl⟩
  rw [hw]
  have hza := hba.size
  have hzb := hbb.size
  (try simp only [World.size_alloc] at hza hzb)
  have hK : Below v3.heap.size v3 v4 := by rw [← hw]; (repeat' (first | (with_reducible exact Below.refl _ _) | (with_reducible refine Below.alloc ?_ ?_ _) | (with_reducible refine Below.drew ?_) | (with_reducible refine Below.drewN_ ?_ _) | (with_reducible refine Below.setCell ?_ ?_ _) | (with_reducible refine Below.setRow ?_ ?_ _) | (with_reducible refine Below.via ?_ (by with_reducible assumption) ?_) | go_size))
  clear hza hzb
  obtain ⟨b4, hbk⟩ : ∃ b, wb.heap.size = b := ⟨_, rfl⟩
  rw [hbk]
  have Y4a : v4.heap[b4]? = some (.cells #[.int .i64 (2), .int .i64 4] 36 (0, 0)) := by rw [← hw, ← hbk]; exact heap_alloc_new _ _
  have Y4 := Lib.hid Y4a
  replace Y2 := Lib.hid (row_keep Y2.out hK)
  replace Y3 := Lib.hid (row_keep Y3.out hK)
  replace QH := Lib.hid (rd_keep QH.out hK)
  replace hb0 := below_keep hb0 hb0.size hK
  clear hw hbk Y4a hK hba hbb q1 q2 q3
  go_upto_region 6 with (first | (go_at_call 68; refine (falaj_ex _).mono ?_; rintro e wa ⟨⟨B1, B2, B3, rfl, p1, p2, p3⟩, hba⟩; have q1 := Lib.hid p1; have q2 := Lib.hid p2; have q3 := Lib.hid p3; clear p1 p2 p3) | (go_at_call 33; (have hbn : Below wa.heap.size wa (wa.alloc (Obj.cells #[.int .i64 0, .int .i64 1, .int .i64 2, .int .i64 3] 3)) := by (repeat' (first | (with_reducible exact Below.refl _ _) | (with_reducible refine Below.alloc ?_ ?_ _) | (with_reducible refine Below.drew ?_) | (with_reducible refine Below.drewN_ ?_ _) | (with_reducible refine Below.setCell ?_ ?_ _) | (with_reducible refine Below.setRow ?_ ?_ _) | (with_reducible refine Below.via ?_ (by with_reducible assumption) ?_) | go_size))); have rp := rd_row (enc := inV) (sz := 1) (fun _ => rfl) (heap_alloc_new wa (Obj.cells #[.int .i64 0, .int .i64 1, .int .i64 2, .int .i64 3] 3)) [0, 1, 2, 3] rfl; refine (runs_fal B1 B2 B3 _ (wa.alloc (Obj.cells #[.int .i64 0, .int .i64 1, .int .i64 2, .int .i64 3] 3)) (rd_keep q1.out hbn) (rd_keep q2.out hbn) (rd_keep q3.out hbn) rp).mono ?_; rintro e wb ⟨⟨AR, cR, rfl, qr⟩, hbb⟩))
  obtain ⟨v5, hw⟩ : ∃ v5, wb = v5 := ⟨_, rfl⟩
  rw [hw]
  have hza := hba.size
  have hzb := hbb.size
  (try simp only [World.size_alloc] at hza hzb)
  have hK : Below v4.heap.size v4 v5 := by rw [← hw]; (repeat' (first | (with_reducible exact Below.refl _ _) | (with_reducible refine Below.alloc ?_ ?_ _) | (with_reducible refine Below.drew ?_) | (with_reducible refine Below.drewN_ ?_ _) | (with_reducible refine Below.setCell ?_ ?_ _) | (with_reducible refine Below.setRow ?_ ?_ _) | (with_reducible refine Below.via ?_ (by with_reducible assumption) ?_) | go_size))
  clear hza hzb
  replace Y2 := Lib.hid (row_keep Y2.out hK)
  replace Y3 := Lib.hid (row_keep Y3.out hK)
  replace Y4 := Lib.hid (row_keep Y4.out hK)
  replace QH := Lib.hid (rd_keep QH.out hK)
  replace hb0 := below_keep hb0 hb0.size hK
  have QR := Lib.hid (show Rd v5 v5.heap.size AR u8V 1 _ by rw [← hw]; exact qr)
  clear hw hK hba hbb q1 q2 q3 qr rp hbn
  go_upto_region 7 with (first | (go_at_call 69; refine (crooked_ex _).mono ?_; rintro e wa ⟨⟨B1, B2, B3, rfl, p1, p2, p3⟩, hba⟩; have q1 := Lib.hid p1; have q2 := Lib.hid p2; have q3 := Lib.hid p3; clear p1 p2 p3) | (go_at_call 28; refine (widen_crk B1 B2 B3 wa q1.out q2.out q3.out).mono ?_; rintro e wb ⟨rfl, hbb⟩))
  obtain ⟨v6, hw⟩ : ∃ v6, wb = v6 := ⟨_, rfl⟩
  rw [hw]
  have hza := hba.size
  have hzb := hbb.size
  (try simp only [World.size_alloc] at hza hzb)
  have hK : Below v5.heap.size v5 v6 := by rw [← hw]; (repeat' (first | (with_reducible exact Below.refl _ _) | (with_reducible refine Below.alloc ?_ ?_ _) | (with_reducible refine Below.drew ?_) | (with_reducible refine Below.drewN_ ?_ _) | (with_reducible refine Below.setCell ?_ ?_ _) | (with_reducible refine Below.setRow ?_ ?_ _) | (with_reducible refine Below.via ?_ (by with_reducible assumption) ?_) | go_size))
  clear hza hzb
  replace Y2 := Lib.hid (row_keep Y2.out hK)
  replace Y3 := Lib.hid (row_keep Y3.out hK)
  replace Y4 := Lib.hid (row_keep Y4.out hK)
  replace QH := Lib.hid (rd_keep QH.out hK)
  replace QR := Lib.hid (rd_keep QR.out hK)
  replace hb0 := below_keep hb0 hb0.size hK
  clear hw hK hba hbb q1 q2 q3
  go_upto_region 8 with (first | (go_at_call 69; refine (crooked_ex _).mono ?_; rintro e wa ⟨⟨B1, B2, B3, rfl, p1, p2, p3⟩, hba⟩; have q1 := Lib.hid p1; have q2 := Lib.hid p2; have q3 := Lib.hid p3; clear p1 p2 p3) | (go_at_call 26; refine (clash_crk B1 B2 B3 wa q1.out q2.out q3.out).mono ?_; rintro e wb ⟨⟨AC, cC, rfl, qc⟩, hbb⟩))
  obtain ⟨v7, hw⟩ : ∃ v7, wb = v7 := ⟨_, rfl⟩
  rw [hw]
  have hza := hba.size
  have hzb := hbb.size
  (try simp only [World.size_alloc] at hza hzb)
  have hK : Below v6.heap.size v6 v7 := by rw [← hw]; (repeat' (first | (with_reducible exact Below.refl _ _) | (with_reducible refine Below.alloc ?_ ?_ _) | (with_reducible refine Below.drew ?_) | (with_reducible refine Below.drewN_ ?_ _) | (with_reducible refine Below.setCell ?_ ?_ _) | (with_reducible refine Below.setRow ?_ ?_ _) | (with_reducible refine Below.via ?_ (by with_reducible assumption) ?_) | go_size))
  clear hza hzb
  replace Y2 := Lib.hid (row_keep Y2.out hK)
  replace Y3 := Lib.hid (row_keep Y3.out hK)
  replace Y4 := Lib.hid (row_keep Y4.out hK)
  replace QH := Lib.hid (rd_keep QH.out hK)
  replace QR := Lib.hid (rd_keep QR.out hK)
  replace hb0 := below_keep hb0 hb0.size hK
  have QC := Lib.hid (show Rd v7 v7.heap.size AC inV 1 _ by rw [← hw]; exact qc)
  clear hw hK hba hbb q1 q2 q3 qc
  refine (wpIn_wide (n := 3)).1 ?_
  refine wpIn_region_planYG (X := Nat × Nat) (by kernel_rfl) 64 (by decide +kernel) (by omega)
    (fun x i => if i = 8 then .slice (some ⟨x.1, 0, none⟩) 4 4 else if i = 61 then .slice (some ⟨x.2, 0, none⟩) 3 3 else (#[.int .i64 (0), .bool true, .bool true, .slice AH 4 cH, .agg #[.int .i64 (1000), .int .i64 (1000)], .agg #[.int .i64 (890), .int .i64 (900)], .agg #[.int .i64 (840), .int .i64 (850)], .agg #[.int .i64 (810), .int .i64 (830)], undef, .bool true, .bool true, .bool true, .int .i64 (0), .bool true, .bool true, .bool true, .agg #[.int .i64 (45), .int .i64 (55)], .agg #[.int .i64 (45), .int .i64 (55)], .bool true, .bool true, .bool true, .int .i64 (0), .bool true, .bool true, .bool true, .agg #[.int .i64 (-15), .int .i64 (15)], .agg #[.int .i64 (-15), .int .i64 (15)], .bool true, .bool true, .bool true, .int .i64 (0), .bool true, .bool true, .bool true, .agg #[.int .i64 (2), .int .i64 (4)], .agg #[.int .i64 (2), .int .i64 (4)], .bool true, .bool true, .bool true, .int .i64 (0), .bool true, .bool true, .bool true, .slice AR 3 cR, .string ⟨#[2, 2, 2]⟩, .bool true, .bool true, .bool true, .int .i64 (0), .bool true, .bool true, .bool true, .int .i64 (2), .bool true, .bool true, .bool true, .int .i64 (0), .bool true, .bool true, .bool true, .slice AC 3 cC, undef, .bool true, .bool true] : Array Value).getD i undef)
    (fun L x W => Below v7.heap.size v7 W ∧ (L 8 = true → W.heap[x.1]? = some (Obj.cells #[.int .i64 1000, .int .i64 1000, .int .i64 890, .int .i64 900, .int .i64 840, .int .i64 850, .int .i64 810, .int .i64 830] 36)) ∧ (L 61 = true → W.heap[x.2]? = some (Obj.cells #[.int .i64 0, .int .i64 1, .int .i64 2] 3))) _ _ (0, 0) ?aF ?hA ?hS ?hG ?hstep ?htail
  case hA => intro x; simp [putTo, putIf, dstAt, Act.put, List.range_succ]; rfl
  case hS => exact fun L hL => ⟨(Below.refl _ _).drew, fun h => (by rw [hL] at h; cases h), fun h => (by rw [hL] at h; cases h)⟩
  case hG => intro x; rfl
  case htail =>
    intro L x W hL hW
    obtain ⟨hWb, _, _⟩ := hW
    have hbW := below_keep hb0 hb0.size hWb
    clear hb0 hWb
    simp only [List.append_eq, List.cons_append, List.nil_append, List.drop_succ_cons, List.drop_zero]
    gi_wp2_with fail
    go_wp2
    go_ret
    exact ⟨rfl, by (repeat' (first | (with_reducible exact Below.refl _ _) | (with_reducible refine Below.alloc ?_ ?_ _) | (with_reducible refine Below.drew ?_) | (with_reducible refine Below.drewN_ ?_ _) | (with_reducible refine Below.setCell ?_ ?_ _) | (with_reducible refine Below.setRow ?_ ?_ _) | (with_reducible refine Below.via ?_ (by with_reducible assumption) ?_) | go_size))⟩
  case hstep =>
    intro i o hi ho L x W hL hcl hdep hW
    obtain ⟨hWb, hA, hB⟩ := hW
    have HA := Lib.hid hA
    have HB := Lib.hid hB
    have hzW := hWb.size
    clear hA hB hcl
    simp only [List.append_eq, List.cons_append, List.nil_append] at ho
    refine ⟨fun _ _ => trivial, ?_⟩
    match i, hi, ho with
    | 0, _, ho => simp only [List.getElem?_toArray, List.getElem?_cons_succ, List.getElem?_cons_zero, Option.some.injEq] at ho; subst ho; go_simp; exact ⟨x, fun _ _ => rfl, rfl, hWb, fun h => HA.out (by simpa using h), fun h => HB.out (by simpa using h)⟩
    | 1, _, ho => simp only [List.getElem?_toArray, List.getElem?_cons_succ, List.getElem?_cons_zero, Option.some.injEq] at ho; subst ho; go_simp; exact ⟨x, fun _ _ => rfl, rfl, hWb, fun h => HA.out (by simpa using h), fun h => HB.out (by simpa using h)⟩
    | 2, _, ho => simp only [List.getElem?_toArray, List.getElem?_cons_succ, List.getElem?_cons_zero, Option.some.injEq] at ho; subst ho; go_simp; exact ⟨x, fun _ _ => rfl, rfl, hWb, fun h => HA.out (by simpa using h), fun h => HB.out (by simpa using h)⟩
    | 3, _, ho => simp only [List.getElem?_toArray, List.getElem?_cons_succ, List.getElem?_cons_zero, Option.some.injEq] at ho; subst ho; go_simp; exact ⟨x, fun _ _ => rfl, rfl, hWb, fun h => HA.out (by simpa using h), fun h => HB.out (by simpa using h)⟩
    | 4, _, ho => simp only [List.getElem?_toArray, List.getElem?_cons_succ, List.getElem?_cons_zero, Option.some.injEq] at ho; subst ho; go_simp; refine ⟨by simp, callsIn_wide.2 ((span_any _ _ W).mono ?_)⟩; rintro e w' ⟨rfl, hb⟩; exact ⟨_, rfl, x, fun _ _ => rfl, rfl, hWb.trans (hb.mono hzW), fun h => row_keep (HA.out (by simpa using h)) hb, fun h => row_keep (HB.out (by simpa using h)) hb⟩
    | 5, _, ho => simp only [List.getElem?_toArray, List.getElem?_cons_succ, List.getElem?_cons_zero, Option.some.injEq] at ho; subst ho; go_simp; refine ⟨by simp, callsIn_wide.2 ((span_any _ _ W).mono ?_)⟩; rintro e w' ⟨rfl, hb⟩; exact ⟨_, rfl, x, fun _ _ => rfl, rfl, hWb.trans (hb.mono hzW), fun h => row_keep (HA.out (by simpa using h)) hb, fun h => row_keep (HB.out (by simpa using h)) hb⟩
    | 6, _, ho => simp only [List.getElem?_toArray, List.getElem?_cons_succ, List.getElem?_cons_zero, Option.some.injEq] at ho; subst ho; go_simp; refine ⟨by simp, callsIn_wide.2 ((span_any _ _ W).mono ?_)⟩; rintro e w' ⟨rfl, hb⟩; exact ⟨_, rfl, x, fun _ _ => rfl, rfl, hWb.trans (hb.mono hzW), fun h => row_keep (HA.out (by simpa using h)) hb, fun h => row_keep (HB.out (by simpa using h)) hb⟩
    | 7, _, ho => simp only [List.getElem?_toArray, List.getElem?_cons_succ, List.getElem?_cons_zero, Option.some.injEq] at ho; subst ho; go_simp; refine ⟨by simp, callsIn_wide.2 ((span_any _ _ W).mono ?_)⟩; rintro e w' ⟨rfl, hb⟩; exact ⟨_, rfl, x, fun _ _ => rfl, rfl, hWb.trans (hb.mono hzW), fun h => row_keep (HA.out (by simpa using h)) hb, fun h => row_keep (HB.out (by simpa using h)) hb⟩
    | 8, _, ho => simp only [List.getElem?_toArray, List.getElem?_cons_succ, List.getElem?_cons_zero, Option.some.injEq] at ho; subst ho; go_simp; refine ⟨(W.heap.size, x.2), fun j hj => ?_, rfl, hWb.alloc hzW _, fun _ => heap_alloc_new _ _, fun h => (Below.heap_alloc _ _ _ (Array.getElem?_eq_some_iff.1 (HB.out (by simpa using h))).1).trans (HB.out (by simpa using h))⟩; by_cases e : j = 8; (rw [e, hL] at hj; cases hj); (dsimp only; rw [if_neg e, if_neg e])
    | 9, _, ho => simp only [List.getElem?_toArray, List.getElem?_cons_succ, List.getElem?_cons_zero, Option.some.injEq] at ho; subst ho; have h8 : L 8 = true := hdep { on := 8, ground := Ground.data } (by simp) rfl; have hs := sameSpans_any [((1000 : Int), (1000 : Int)), (890, 900), (840, 850), (810, 830)] [((1000 : Int), (1000 : Int)), (890, 900), (840, 850), (810, 830)] cH 4 AH (some ⟨x.1, 0, none⟩) W (rd_keep QH.out hWb) (rd_row spV_len (HA.out h8) [((1000 : Int), (1000 : Int)), (890, 900), (840, 850), (810, 830)] rfl) (by simp) (by simp); rw [decide_eq_true rfl] at hs; go_simp; refine ⟨by simp, callsIn_wide.2 (hs.mono ?_)⟩; rintro e w' ⟨rfl, hb⟩; exact ⟨_, rfl, x, fun _ _ => rfl, rfl, hWb.trans (hb.mono hzW), fun h => row_keep (HA.out (by simpa using h)) hb, fun h => row_keep (HB.out (by simpa using h)) hb⟩
    | 10, _, ho => simp only [List.getElem?_toArray, List.getElem?_cons_succ, List.getElem?_cons_zero, Option.some.injEq] at ho; subst ho; go_simp; exact ⟨x, fun _ _ => rfl, rfl, hWb, fun h => HA.out (by simpa using h), fun h => HB.out (by simpa using h)⟩
    | 11, _, ho => simp only [List.getElem?_toArray, List.getElem?_cons_succ, List.getElem?_cons_zero, Option.some.injEq] at ho; subst ho; go_simp; exact ⟨x, fun _ _ => rfl, rfl, hWb, fun h => HA.out (by simpa using h), fun h => HB.out (by simpa using h)⟩
    | 12, _, ho => simp only [List.getElem?_toArray, List.getElem?_cons_succ, List.getElem?_cons_zero, Option.some.injEq] at ho; subst ho; go_simp; exact ⟨x, fun _ _ => rfl, rfl, hWb, fun h => HA.out (by simpa using h), fun h => HB.out (by simpa using h)⟩
    | 13, _, ho => simp only [List.getElem?_toArray, List.getElem?_cons_succ, List.getElem?_cons_zero, Option.some.injEq] at ho; subst ho; go_simp; exact ⟨x, fun _ _ => rfl, rfl, hWb, fun h => HA.out (by simpa using h), fun h => HB.out (by simpa using h)⟩
    | 14, _, ho => simp only [List.getElem?_toArray, List.getElem?_cons_succ, List.getElem?_cons_zero, Option.some.injEq] at ho; subst ho; go_simp; exact ⟨x, fun _ _ => rfl, rfl, hWb, fun h => HA.out (by simpa using h), fun h => HB.out (by simpa using h)⟩
    | 15, _, ho => simp only [List.getElem?_toArray, List.getElem?_cons_succ, List.getElem?_cons_zero, Option.some.injEq] at ho; subst ho; go_simp; exact ⟨x, fun _ _ => rfl, rfl, hWb, fun h => HA.out (by simpa using h), fun h => HB.out (by simpa using h)⟩
    | 16, _, ho => simp only [List.getElem?_toArray, List.getElem?_cons_succ, List.getElem?_cons_zero, Option.some.injEq] at ho; subst ho; have yr := row_keep Y2.out hWb; have y0 := cell_of_row W b2 0 _ _ _ yr; have y1 := cell_of_row W b2 1 _ _ _ yr; simp only [List.getElem?_toArray, List.getElem?_cons_zero, List.getElem?_cons_succ] at y0 y1; clear yr; go_simp; exact ⟨x, fun _ _ => rfl, rfl, hWb, fun h => HA.out (by simpa using h), fun h => HB.out (by simpa using h)⟩
    | 17, _, ho => simp only [List.getElem?_toArray, List.getElem?_cons_succ, List.getElem?_cons_zero, Option.some.injEq] at ho; subst ho; go_simp; refine ⟨by simp, callsIn_wide.2 ((span_any _ _ W).mono ?_)⟩; rintro e w' ⟨rfl, hb⟩; exact ⟨_, rfl, x, fun _ _ => rfl, rfl, hWb.trans (hb.mono hzW), fun h => row_keep (HA.out (by simpa using h)) hb, fun h => row_keep (HB.out (by simpa using h)) hb⟩
    | 18, _, ho => simp only [List.getElem?_toArray, List.getElem?_cons_succ, List.getElem?_cons_zero, Option.some.injEq] at ho; subst ho; go_simp; exact ⟨x, fun _ _ => rfl, rfl, hWb, fun h => HA.out (by simpa using h), fun h => HB.out (by simpa using h)⟩
    | 19, _, ho => simp only [List.getElem?_toArray, List.getElem?_cons_succ, List.getElem?_cons_zero, Option.some.injEq] at ho; subst ho; go_simp; exact ⟨x, fun _ _ => rfl, rfl, hWb, fun h => HA.out (by simpa using h), fun h => HB.out (by simpa using h)⟩
    | 20, _, ho => simp only [List.getElem?_toArray, List.getElem?_cons_succ, List.getElem?_cons_zero, Option.some.injEq] at ho; subst ho; go_simp; exact ⟨x, fun _ _ => rfl, rfl, hWb, fun h => HA.out (by simpa using h), fun h => HB.out (by simpa using h)⟩
    | 21, _, ho => simp only [List.getElem?_toArray, List.getElem?_cons_succ, List.getElem?_cons_zero, Option.some.injEq] at ho; subst ho; go_simp; exact ⟨x, fun _ _ => rfl, rfl, hWb, fun h => HA.out (by simpa using h), fun h => HB.out (by simpa using h)⟩
    | 22, _, ho => simp only [List.getElem?_toArray, List.getElem?_cons_succ, List.getElem?_cons_zero, Option.some.injEq] at ho; subst ho; go_simp; exact ⟨x, fun _ _ => rfl, rfl, hWb, fun h => HA.out (by simpa using h), fun h => HB.out (by simpa using h)⟩
    | 23, _, ho => simp only [List.getElem?_toArray, List.getElem?_cons_succ, List.getElem?_cons_zero, Option.some.injEq] at ho; subst ho; go_simp; exact ⟨x, fun _ _ => rfl, rfl, hWb, fun h => HA.out (by simpa using h), fun h => HB.out (by simpa using h)⟩
    | 24, _, ho => simp only [List.getElem?_toArray, List.getElem?_cons_succ, List.getElem?_cons_zero, Option.some.injEq] at ho; subst ho; go_simp; exact ⟨x, fun _ _ => rfl, rfl, hWb, fun h => HA.out (by simpa using h), fun h => HB.out (by simpa using h)⟩
    | 25, _, ho => simp only [List.getElem?_toArray, List.getElem?_cons_succ, List.getElem?_cons_zero, Option.some.injEq] at ho; subst ho; have yr := row_keep Y3.out hWb; have y0 := cell_of_row W b3 0 _ _ _ yr; have y1 := cell_of_row W b3 1 _ _ _ yr; simp only [List.getElem?_toArray, List.getElem?_cons_zero, List.getElem?_cons_succ] at y0 y1; clear yr; go_simp; exact ⟨x, fun _ _ => rfl, rfl, hWb, fun h => HA.out (by simpa using h), fun h => HB.out (by simpa using h)⟩
    | 26, _, ho => simp only [List.getElem?_toArray, List.getElem?_cons_succ, List.getElem?_cons_zero, Option.some.injEq] at ho; subst ho; go_simp; refine ⟨by simp, callsIn_wide.2 ((span_any _ _ W).mono ?_)⟩; rintro e w' ⟨rfl, hb⟩; exact ⟨_, rfl, x, fun _ _ => rfl, rfl, hWb.trans (hb.mono hzW), fun h => row_keep (HA.out (by simpa using h)) hb, fun h => row_keep (HB.out (by simpa using h)) hb⟩
    | 27, _, ho => simp only [List.getElem?_toArray, List.getElem?_cons_succ, List.getElem?_cons_zero, Option.some.injEq] at ho; subst ho; go_simp; exact ⟨x, fun _ _ => rfl, rfl, hWb, fun h => HA.out (by simpa using h), fun h => HB.out (by simpa using h)⟩
    | 28, _, ho => simp only [List.getElem?_toArray, List.getElem?_cons_succ, List.getElem?_cons_zero, Option.some.injEq] at ho; subst ho; go_simp; exact ⟨x, fun _ _ => rfl, rfl, hWb, fun h => HA.out (by simpa using h), fun h => HB.out (by simpa using h)⟩
    | 29, _, ho => simp only [List.getElem?_toArray, List.getElem?_cons_succ, List.getElem?_cons_zero, Option.some.injEq] at ho; subst ho; go_simp; exact ⟨x, fun _ _ => rfl, rfl, hWb, fun h => HA.out (by simpa using h), fun h => HB.out (by simpa using h)⟩
    | 30, _, ho => simp only [List.getElem?_toArray, List.getElem?_cons_succ, List.getElem?_cons_zero, Option.some.injEq] at ho; subst ho; go_simp; exact ⟨x, fun _ _ => rfl, rfl, hWb, fun h => HA.out (by simpa using h), fun h => HB.out (by simpa using h)⟩
    | 31, _, ho => simp only [List.getElem?_toArray, List.getElem?_cons_succ, List.getElem?_cons_zero, Option.some.injEq] at ho; subst ho; go_simp; exact ⟨x, fun _ _ => rfl, rfl, hWb, fun h => HA.out (by simpa using h), fun h => HB.out (by simpa using h)⟩
    | 32, _, ho => simp only [List.getElem?_toArray, List.getElem?_cons_succ, List.getElem?_cons_zero, Option.some.injEq] at ho; subst ho; go_simp; exact ⟨x, fun _ _ => rfl, rfl, hWb, fun h => HA.out (by simpa using h), fun h => HB.out (by simpa using h)⟩
    | 33, _, ho => simp only [List.getElem?_toArray, List.getElem?_cons_succ, List.getElem?_cons_zero, Option.some.injEq] at ho; subst ho; go_simp; exact ⟨x, fun _ _ => rfl, rfl, hWb, fun h => HA.out (by simpa using h), fun h => HB.out (by simpa using h)⟩
    | 34, _, ho => simp only [List.getElem?_toArray, List.getElem?_cons_succ, List.getElem?_cons_zero, Option.some.injEq] at ho; subst ho; have yr := row_keep Y4.out hWb; have y0 := cell_of_row W b4 0 _ _ _ yr; have y1 := cell_of_row W b4 1 _ _ _ yr; simp only [List.getElem?_toArray, List.getElem?_cons_zero, List.getElem?_cons_succ] at y0 y1; clear yr; go_simp; exact ⟨x, fun _ _ => rfl, rfl, hWb, fun h => HA.out (by simpa using h), fun h => HB.out (by simpa using h)⟩
    | 35, _, ho => simp only [List.getElem?_toArray, List.getElem?_cons_succ, List.getElem?_cons_zero, Option.some.injEq] at ho; subst ho; go_simp; refine ⟨by simp, callsIn_wide.2 ((span_any _ _ W).mono ?_)⟩; rintro e w' ⟨rfl, hb⟩; exact ⟨_, rfl, x, fun _ _ => rfl, rfl, hWb.trans (hb.mono hzW), fun h => row_keep (HA.out (by simpa using h)) hb, fun h => row_keep (HB.out (by simpa using h)) hb⟩
    | 36, _, ho => simp only [List.getElem?_toArray, List.getElem?_cons_succ, List.getElem?_cons_zero, Option.some.injEq] at ho; subst ho; go_simp; exact ⟨x, fun _ _ => rfl, rfl, hWb, fun h => HA.out (by simpa using h), fun h => HB.out (by simpa using h)⟩
    | 37, _, ho => simp only [List.getElem?_toArray, List.getElem?_cons_succ, List.getElem?_cons_zero, Option.some.injEq] at ho; subst ho; go_simp; exact ⟨x, fun _ _ => rfl, rfl, hWb, fun h => HA.out (by simpa using h), fun h => HB.out (by simpa using h)⟩
    | 38, _, ho => simp only [List.getElem?_toArray, List.getElem?_cons_succ, List.getElem?_cons_zero, Option.some.injEq] at ho; subst ho; go_simp; exact ⟨x, fun _ _ => rfl, rfl, hWb, fun h => HA.out (by simpa using h), fun h => HB.out (by simpa using h)⟩
    | 39, _, ho => simp only [List.getElem?_toArray, List.getElem?_cons_succ, List.getElem?_cons_zero, Option.some.injEq] at ho; subst ho; go_simp; exact ⟨x, fun _ _ => rfl, rfl, hWb, fun h => HA.out (by simpa using h), fun h => HB.out (by simpa using h)⟩
    | 40, _, ho => simp only [List.getElem?_toArray, List.getElem?_cons_succ, List.getElem?_cons_zero, Option.some.injEq] at ho; subst ho; go_simp; exact ⟨x, fun _ _ => rfl, rfl, hWb, fun h => HA.out (by simpa using h), fun h => HB.out (by simpa using h)⟩
    | 41, _, ho => simp only [List.getElem?_toArray, List.getElem?_cons_succ, List.getElem?_cons_zero, Option.some.injEq] at ho; subst ho; go_simp; exact ⟨x, fun _ _ => rfl, rfl, hWb, fun h => HA.out (by simpa using h), fun h => HB.out (by simpa using h)⟩
    | 42, _, ho => simp only [List.getElem?_toArray, List.getElem?_cons_succ, List.getElem?_cons_zero, Option.some.injEq] at ho; subst ho; go_simp; exact ⟨x, fun _ _ => rfl, rfl, hWb, fun h => HA.out (by simpa using h), fun h => HB.out (by simpa using h)⟩
    | 43, _, ho => simp only [List.getElem?_toArray, List.getElem?_cons_succ, List.getElem?_cons_zero, Option.some.injEq] at ho; subst ho; go_simp; exact ⟨x, fun _ _ => rfl, rfl, hWb, fun h => HA.out (by simpa using h), fun h => HB.out (by simpa using h)⟩
    | 44, _, ho => simp only [List.getElem?_toArray, List.getElem?_cons_succ, List.getElem?_cons_zero, Option.some.injEq] at ho; subst ho; have hcv := run_convert_222 W AR cR (rd_keep QR.out hWb); go_simp; exact ⟨x, fun _ _ => rfl, rfl, hWb, fun h => HA.out (by simpa using h), fun h => HB.out (by simpa using h)⟩
    | 45, _, ho => simp only [List.getElem?_toArray, List.getElem?_cons_succ, List.getElem?_cons_zero, Option.some.injEq] at ho; subst ho; go_simp; exact ⟨x, fun _ _ => rfl, rfl, hWb, fun h => HA.out (by simpa using h), fun h => HB.out (by simpa using h)⟩
    | 46, _, ho => simp only [List.getElem?_toArray, List.getElem?_cons_succ, List.getElem?_cons_zero, Option.some.injEq] at ho; subst ho; go_simp; exact ⟨x, fun _ _ => rfl, rfl, hWb, fun h => HA.out (by simpa using h), fun h => HB.out (by simpa using h)⟩
    | 47, _, ho => simp only [List.getElem?_toArray, List.getElem?_cons_succ, List.getElem?_cons_zero, Option.some.injEq] at ho; subst ho; go_simp; exact ⟨x, fun _ _ => rfl, rfl, hWb, fun h => HA.out (by simpa using h), fun h => HB.out (by simpa using h)⟩
    | 48, _, ho => simp only [List.getElem?_toArray, List.getElem?_cons_succ, List.getElem?_cons_zero, Option.some.injEq] at ho; subst ho; go_simp; exact ⟨x, fun _ _ => rfl, rfl, hWb, fun h => HA.out (by simpa using h), fun h => HB.out (by simpa using h)⟩
    | 49, _, ho => simp only [List.getElem?_toArray, List.getElem?_cons_succ, List.getElem?_cons_zero, Option.some.injEq] at ho; subst ho; go_simp; exact ⟨x, fun _ _ => rfl, rfl, hWb, fun h => HA.out (by simpa using h), fun h => HB.out (by simpa using h)⟩
    | 50, _, ho => simp only [List.getElem?_toArray, List.getElem?_cons_succ, List.getElem?_cons_zero, Option.some.injEq] at ho; subst ho; go_simp; exact ⟨x, fun _ _ => rfl, rfl, hWb, fun h => HA.out (by simpa using h), fun h => HB.out (by simpa using h)⟩
    | 51, _, ho => simp only [List.getElem?_toArray, List.getElem?_cons_succ, List.getElem?_cons_zero, Option.some.injEq] at ho; subst ho; go_simp; exact ⟨x, fun _ _ => rfl, rfl, hWb, fun h => HA.out (by simpa using h), fun h => HB.out (by simpa using h)⟩
    | 52, _, ho => simp only [List.getElem?_toArray, List.getElem?_cons_succ, List.getElem?_cons_zero, Option.some.injEq] at ho; subst ho; go_simp; exact ⟨x, fun _ _ => rfl, rfl, hWb, fun h => HA.out (by simpa using h), fun h => HB.out (by simpa using h)⟩
    | 53, _, ho => simp only [List.getElem?_toArray, List.getElem?_cons_succ, List.getElem?_cons_zero, Option.some.injEq] at ho; subst ho; go_simp; exact ⟨x, fun _ _ => rfl, rfl, hWb, fun h => HA.out (by simpa using h), fun h => HB.out (by simpa using h)⟩
    | 54, _, ho => simp only [List.getElem?_toArray, List.getElem?_cons_succ, List.getElem?_cons_zero, Option.some.injEq] at ho; subst ho; go_simp; exact ⟨x, fun _ _ => rfl, rfl, hWb, fun h => HA.out (by simpa using h), fun h => HB.out (by simpa using h)⟩
    | 55, _, ho => simp only [List.getElem?_toArray, List.getElem?_cons_succ, List.getElem?_cons_zero, Option.some.injEq] at ho; subst ho; go_simp; exact ⟨x, fun _ _ => rfl, rfl, hWb, fun h => HA.out (by simpa using h), fun h => HB.out (by simpa using h)⟩
    | 56, _, ho => simp only [List.getElem?_toArray, List.getElem?_cons_succ, List.getElem?_cons_zero, Option.some.injEq] at ho; subst ho; go_simp; exact ⟨x, fun _ _ => rfl, rfl, hWb, fun h => HA.out (by simpa using h), fun h => HB.out (by simpa using h)⟩
    | 57, _, ho => simp only [List.getElem?_toArray, List.getElem?_cons_succ, List.getElem?_cons_zero, Option.some.injEq] at ho; subst ho; go_simp; exact ⟨x, fun _ _ => rfl, rfl, hWb, fun h => HA.out (by simpa using h), fun h => HB.out (by simpa using h)⟩
    | 58, _, ho => simp only [List.getElem?_toArray, List.getElem?_cons_succ, List.getElem?_cons_zero, Option.some.injEq] at ho; subst ho; go_simp; exact ⟨x, fun _ _ => rfl, rfl, hWb, fun h => HA.out (by simpa using h), fun h => HB.out (by simpa using h)⟩
    | 59, _, ho => simp only [List.getElem?_toArray, List.getElem?_cons_succ, List.getElem?_cons_zero, Option.some.injEq] at ho; subst ho; go_simp; exact ⟨x, fun _ _ => rfl, rfl, hWb, fun h => HA.out (by simpa using h), fun h => HB.out (by simpa using h)⟩
    | 60, _, ho => simp only [List.getElem?_toArray, List.getElem?_cons_succ, List.getElem?_cons_zero, Option.some.injEq] at ho; subst ho; go_simp; exact ⟨x, fun _ _ => rfl, rfl, hWb, fun h => HA.out (by simpa using h), fun h => HB.out (by simpa using h)⟩
    | 61, _, ho => simp only [List.getElem?_toArray, List.getElem?_cons_succ, List.getElem?_cons_zero, Option.some.injEq] at ho; subst ho; go_simp; refine ⟨(x.1, W.heap.size), fun j hj => ?_, rfl, hWb.alloc hzW _, fun h => (Below.heap_alloc _ _ _ (Array.getElem?_eq_some_iff.1 (HA.out (by simpa using h))).1).trans (HA.out (by simpa using h)), fun _ => heap_alloc_new _ _⟩; by_cases e : j = 61; (rw [e, hL] at hj; cases hj); (dsimp only; by_cases e8 : j = 8; (rw [if_pos e8, if_pos e8]); (rw [if_neg e8, if_neg e8, if_neg e, if_neg e]))
    | 62, _, ho => simp only [List.getElem?_toArray, List.getElem?_cons_succ, List.getElem?_cons_zero, Option.some.injEq] at ho; subst ho; have h8 : L 61 = true := hdep { on := 61, ground := Ground.data } (by simp) rfl; have hs := sameInts_any [0, 1, 2] [0, 1, 2] cC 3 AC (some ⟨x.2, 0, none⟩) W (rd_keep QC.out hWb) (rd_row (enc := inV) (sz := 1) (fun _ => rfl) (HB.out h8) [0, 1, 2] rfl) (by simp) (by simp); rw [decide_eq_true rfl] at hs; go_simp; refine ⟨by simp, callsIn_wide.2 (hs.mono ?_)⟩; rintro e w' ⟨rfl, hb⟩; exact ⟨_, rfl, x, fun _ _ => rfl, rfl, hWb.trans (hb.mono hzW), fun h => row_keep (HA.out (by simpa using h)) hb, fun h => row_keep (HB.out (by simpa using h)) hb⟩
    | 63, _, ho => simp only [List.getElem?_toArray, List.getElem?_cons_succ, List.getElem?_cons_zero, Option.some.injEq] at ho; subst ho; go_simp; exact ⟨x, fun _ _ => rfl, rfl, hWb, fun h => HA.out (by simpa using h), fun h => HB.out (by simpa using h)⟩
    | k + 64, hk, _ => omega

end Go.Proofs.Ytaoonfmcimkmhaa
