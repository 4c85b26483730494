/- alive: some of the chapter's examples; it answers true in any memory. No condition. -/
import Derived.Test.YtjkefoijhphknaaAliveA
set_option linter.unusedSimpArgs false
set_option linter.unusedVariables false
namespace Go.Proofs.Ytjkefoijhphknaa
open Go.RowKit

set_option maxRecDepth 100000 in
set_option maxHeartbeats 8000000 in
theorem alive_any (w : World) : Calls Try.prog 33 #[] w fun e w' => e = .returned (.bool true) ∧ Below w.heap.size w w' := by
  have F := Lib.hid field_any
  have SP := Lib.hid span_any
  go_enter Try.func33, Try.ntmps33
  go_upto_region 2 with (first
    | (go_at_call 68; refine (F.out _).mono ?_; rintro e wa ⟨rfl, hba⟩)
    | (go_at_call 38; refine (SP.out _ _ _).mono ?_; rintro e wb ⟨rfl, hbb⟩)
    | (go_at_call 12; refine (ex_after1 _).mono ?_; rintro e v1 ⟨⟨A1, c1, rfl, rd1⟩, hbc⟩))
  have B1 := below_keep (below_keep hba hba.size hbb) (Nat.le_trans hba.size hbb.size) hbc
  have R1 := Lib.hid rd1
  clear rd1 hba hbb hbc
  go_upto_region 3 with (first
    | (go_at_call 68; refine (F.out _).mono ?_; rintro e wa ⟨rfl, hba⟩)
    | (go_at_call 38; refine (SP.out _ _ _).mono ?_; rintro e wb ⟨rfl, hbb⟩)
    | (go_at_call 12; refine (ex_after2 _).mono ?_; rintro e v2 ⟨⟨A2, c2, rfl, rd2⟩, hbc⟩))
  have hK := below_keep (below_keep hba hba.size hbb) (Nat.le_trans hba.size hbb.size) hbc
  have B2 := below_keep B1 B1.size hK
  replace R1 := Lib.hid (rd_keep R1.out hK)
  have R2 := Lib.hid rd2
  clear rd2 hba hbb hbc hK B1
  go_upto_region 4 with (first
    | (go_at_call 68; refine (F.out _).mono ?_; rintro e wa ⟨rfl, hba⟩)
    | (go_at_call 14; refine (ex_need _).mono ?_; rintro e v3 ⟨rfl, hbc⟩))
  have hK := below_keep hba hba.size hbc
  have B3 := below_keep B2 B2.size hK
  replace R1 := Lib.hid (rd_keep R1.out hK)
  replace R2 := Lib.hid (rd_keep R2.out hK)
  clear hba hbc hK B2
  go_upto_region 5 with (first
    | (go_at_call 69; refine (needs_any _).mono ?_; rintro e wa ⟨⟨An, rfl, rn⟩, hba⟩)
    | (go_at_call 70; refine (rents_any _ _).mono ?_; rintro e wb ⟨⟨Ar, C, D, rfl, rr, rf⟩, hbb⟩)
    | (go_at_call 27; refine (ex_planC An Ar C D wb (rd_keep rn hbb) rr rf).mono ?_; rintro e v4 ⟨⟨Ap, a, b, rfl, rp, rpf⟩, hbc⟩))
  have hK := below_keep (below_keep hba hba.size hbb) (Nat.le_trans hba.size hbb.size) hbc
  have B4 := below_keep B3 B3.size hK
  replace R1 := Lib.hid (rd_keep R1.out hK)
  replace R2 := Lib.hid (rd_keep R2.out hK)
  have RP := Lib.hid rp
  have RPF := Lib.hid rpf
  clear hba hbb hbc hK B3 rn rr rf rp rpf
  go_upto_region 6 with (first
    | (go_at_call 69; refine (needs_any _).mono ?_; rintro e wa ⟨⟨An, rfl, rn⟩, hba⟩)
    | (go_at_call 70; refine (rents_any _ _).mono ?_; rintro e wb ⟨⟨Ar, C, D, rfl, rr, rf⟩, hbb⟩)
    | (go_at_call 29; refine (ex_lack An Ar C D wb (rd_keep rn hbb) rr rf).mono ?_; rintro e v5 ⟨⟨Al, cl, rfl, rl⟩, hbc⟩))
  have hK := below_keep (below_keep hba hba.size hbb) (Nat.le_trans hba.size hbb.size) hbc
  have B5 := below_keep B4 B4.size hK
  replace R1 := Lib.hid (rd_keep R1.out hK)
  replace R2 := Lib.hid (rd_keep R2.out hK)
  replace RP := Lib.hid (rd_keep RP.out hK)
  replace RPF := Lib.hid (RPF.out.below hK)
  have RL := Lib.hid rl
  clear hba hbb hbc hK B4 rn rr rf rl
  have S1 := Lib.hid (fun (W : World) (g : Nat) (hW : Below v5.heap.size v5 W) (r : W.heap[g]? = some (.cells #[.int .i64 6000, .int .i64 8300, .int .i64 7000, .int .i64 10600] 23)) =>
    sameSpans_any [((6000 : Int), (8300 : Int)), (7000, 10600)] [((6000 : Int), (8300 : Int)), (7000, 10600)] c1 2 A1 (some ⟨g, 0, none⟩) W (rd_keep R1.out hW) (rd_row spV_len r _ rfl) (by simp) (by simp))
  have S2 := Lib.hid (fun (W : World) (g : Nat) (hW : Below v5.heap.size v5 W) (r : W.heap[g]? = some (.cells #[.int .i64 3300, .int .i64 6900] 23)) =>
    sameSpans_any [((3300 : Int), (6900 : Int))] [((3300 : Int), (6900 : Int))] c2 1 A2 (some ⟨g, 0, none⟩) W (rd_keep R2.out hW) (rd_row spV_len r _ rfl) (by simp) (by simp))
  have S3 := Lib.hid (fun (V : World) (hV : Below v5.heap.size v5 V) =>
    sameLists_any (exP a b) (exP (some ⟨V.heap.size, 0, none⟩) (some ⟨V.heap.size + 1, 0, none⟩)) 2 2 Ap (some ⟨V.heap.size + 1 + 1, 0, none⟩) (exW V) (rd_keep RP.out (exW_b hV hV.size).1) (ex_rows V).1 (RPF.out.below (exW_b hV hV.size).1) (ex_rows V).2 (by simp [exP]) (by simp [exP]))
  have S4 := Lib.hid (fun (W : World) (g : Nat) (hW : Below v5.heap.size v5 W) (r : W.heap[g]? = some (.cells #[.int .i64 0] 3)) =>
    sameInts_any [0] [0] cl 1 Al (some ⟨g, 0, none⟩) W (rd_nn (rd_keep RL.out hW)) (rd_row (enc := inV) (sz := 1) (fun _ => rfl) r [0] rfl) (by simp) (by simp))
  simp only [decide_true] at S1 S2 S4
  have hdl : ∀ u v, decide ((exP a b).map (·.l) = (exP u v).map (·.l)) = true := fun u v => by simp [exP]
  simp only [hdl] at S3
  clear hdl R1 R2 RP RPF RL
  have t1 : Hid True := Lib.hid trivial
  have t2 : Hid True := Lib.hid trivial
  have t3 : Hid True := Lib.hid trivial
  go_upto_region 7 with (first
    | (go_at_call 38; first
      | (have _t := t1; clear t1 _t; refine (SP.out _ _ _).mono ?_; rintro e wa ⟨rfl, hba⟩)
      | (have _t := t2; clear t2 _t; refine (SP.out _ _ _).mono ?_; rintro e wb ⟨rfl, hbb⟩; have K2 := below_keep hba hba.size hbb)
      | (have _t := t3; clear t3 _t; refine (SP.out _ _ _).mono ?_; rintro e wd ⟨rfl, hbd⟩; have K4 := below_keep K3 K3.size hbd))
    | (go_at_call 18; first
      | (refine (S1.out _ wb.heap.size (K2.alloc K2.size _) (heap_alloc_new _ _)).mono ?_; clear S1; rintro e wc ⟨rfl, hbc⟩; have K3 := below_keep (K2.alloc K2.size _) (by have := K2.size; simp; omega) hbc)
      | (refine (S2.out _ wd.heap.size (K4.alloc K4.size _) (heap_alloc_new _ _)).mono ?_; clear S2; rintro e we ⟨rfl, hbe⟩; have K5 := below_keep (K4.alloc K4.size _) (by have := K4.size; simp; omega) hbe))
    | (go_at_call 31; refine (S3.out we K5).mono ?_; rintro e wf ⟨rfl, hbf⟩; have K7 := below_keep (exW_b K5 K5.size).1 (exW_b K5 K5.size).2 hbf)
    | (go_at_call 23; refine (S4.out _ wf.heap.size (K7.alloc K7.size _) (heap_alloc_new _ _)).mono ?_; rintro e wg ⟨rfl, hbg⟩; have K8 := below_keep (K7.alloc K7.size _) (by have := K7.size; simp; omega) hbg))
  go_ret
  exact ⟨rfl, below_keep B5 B5.size K8⟩
end Go.Proofs.Ytjkefoijhphknaa
