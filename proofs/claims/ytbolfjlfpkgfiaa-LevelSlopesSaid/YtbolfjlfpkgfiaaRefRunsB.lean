/- aflajref01.Runs, where all goes well: what it answers of every survey that reads as plain data, and of every list of numbers. Condition: the slices read below the heap's end. -/
import Derived.Test.YtbolfjlfpkgfiaaRuns
import Derived.Test.YtbolfjlfpkgfiaaRefRuns
import Derived.Test.YtbolfjlfpkgfiaaFloatX
set_option linter.unusedVariables false
set_option linter.unusedSimpArgs false
namespace Go.Proofs.Ytbolfjlfpkgfiaa
open Go.RowKit
attribute [local go_sem] wx_cell wx_frozen

set_option maxRecDepth 100000 in
set_option maxHeartbeats 4000000 in
theorem rruns_fine (s : Sv) (xs : List Int) (cp c1 c2 c3 : Nat) (AP A1 A2 A3 : Option Addr) (w : World)
    (r1 : Rd w w.heap.size A1 shV 4 s.shots) (r2 : Rd w w.heap.size A2 mkV 3 s.marks) (r3 : Rd w w.heap.size A3 shV 4 s.threads) (rp : Rd w w.heap.size AP inV 1 xs) (hok : svOk s = true) (hle : xs.length ≤ 20) (hin0 : xs.all (inB s.n) = true) (D : Mat) (hR : svD s = (D, true)) :
    Calls Try.prog 34 #[.agg #[.int .i64 s.n, .slice A1 s.shots.length c1, .slice A2 s.marks.length c2, .slice A3 s.threads.length c3], .slice AP xs.length cp] w fun e w' =>
      (∃ A c, e = .returned (.tuple #[.slice A (lvRuns s xs).1.length c, .int .i64 (lvRuns s xs).2]) ∧ Rd w' w'.heap.size A u8V 1 (lvRuns s xs).1) ∧ Below w.heap.size w w' := by
  have HSM := Lib.hid (fun (a b : Nat) ha hb => svD_order hok hR (a := a) (b := b) ha hb)
  have hb0 : Below w.heap.size w (w.alloc (Obj.cells #[Value.int IntKind.i64 s.n, Value.slice A1 s.shots.length c1, Value.slice A2 s.marks.length c2, Value.slice A3 s.threads.length c3] 26)) := by (repeat' (first | (with_reducible exact Below.refl _ _) | (with_reducible refine Below.alloc ?_ ?_ _) | (with_reducible refine Below.drew ?_) | (with_reducible refine Below.drewN_ ?_ _) | (with_reducible refine Below.setCell ?_ ?_ _) | (with_reducible refine Below.setRow ?_ ?_ _) | (with_reducible refine Below.via ?_ (by with_reducible assumption) ?_) | go_size))
  have R1 := Lib.hid ((r1.below hb0).more hb0.size)
  have R2 := Lib.hid ((r2.below hb0).more hb0.size)
  have R3 := Lib.hid ((r3.below hb0).more hb0.size)
  have RP := Lib.hid rp
  have P1 := Lib.hid r1
  have P2 := Lib.hid r2
  clear r1 r2 r3 rp
  have HC := Lib.hid (rcheck_any s c1 c2 c3 A1 A2 A3 (w.alloc (Obj.cells #[Value.int IntKind.i64 s.n, Value.slice A1 s.shots.length c1, Value.slice A2 s.marks.length c2, Value.slice A3 s.threads.length c3] 26)) R1.out R2.out R3.out)
  have e1 : svErr s = 0 := by unfold svErr; rw [hok]; rfl
  rw [e1] at HC
  obtain ⟨⟨n1, n2, g3, g4, _⟩, _⟩ := svOk_spec hok
  have hsub : IntKind.i64.wrap (s.n - 1) = s.n - 1 := IntWalk.i64_in _ (by omega)
  have hn20 : s.n.toNat ≤ 20 := by omega
  rw [lvRuns_fine hok hle hin0 hR]
  have HIN := Lib.hid hin0
  have HSN := Lib.hid (fun (W : World) gc cc (hb : Below w.heap.size w W) hBo => sides_yes s c1 c2 c3 A1 A2 A3 W hok ((P1.out.below hb).more hb.size) ((P2.out.below hb).more hb.size) gc cc hBo D hR)
  clear e1 hok hin0 hR P1 P2
  have hle2 : ¬ (20 : Int) < (xs.length : Int) := by omega
  go_enter Try.func34, Try.ntmps34
  go_upto_region 6 with (go_at_call 21; refine HC.out.mono ?_; rintro e w' ⟨rfl, hb1⟩; obtain ⟨hc1, hf1⟩ := bcell hb1; have hz1 := hb1.size; (try simp at hz1); (try have hy1 : w.heap.size < w'.heap.size := by omega))
  have s0 : w'.cell? ⟨w.heap.size, 0, none⟩ = some (.int .i64 s.n) := by rw [hc1 _ _ (by simp)]; simp
  have s1 : w'.cell? ⟨w.heap.size, 1, none⟩ = some (.slice A1 s.shots.length c1) := by rw [hc1 _ _ (by simp)]; simp
  have s2 : w'.cell? ⟨w.heap.size, 2, none⟩ = some (.slice A2 s.marks.length c2) := by rw [hc1 _ _ (by simp)]; simp
  have s3 : w'.cell? ⟨w.heap.size, 3, none⟩ = some (.slice A3 s.threads.length c3) := by rw [hc1 _ _ (by simp)]; simp
  have hb3 : Below w.heap.size w w' := by (repeat' (first | (with_reducible exact Below.refl _ _) | (with_reducible refine Below.alloc ?_ ?_ _) | (with_reducible refine Below.drew ?_) | (with_reducible refine Below.drewN_ ?_ _) | (with_reducible refine Below.setCell ?_ ?_ _) | (with_reducible refine Below.setRow ?_ ?_ _) | (with_reducible refine Below.via ?_ (by with_reducible assumption) ?_) | go_size))
  have hws : w.heap.size < w'.heap.size := by omega
  have SP := Lib.hid ((RP.out.below hb3).more hb3.size)
  clear hc1 hf1 hb1 hb0 hz1 R1 R2 R3 RP HC hy1
  go_loopw [6] (fun i W => ∃ k : Nat, k ≤ xs.length ∧ i = .int .i64 k ∧ (∀ j, j < k → inB s.n (xs.getD j 0) = true) ∧ Below w'.heap.size w' W) (fun i _ => xs.length - (intOf i).toNat)
  case atStart => exact ⟨0, by omega, rfl, fun j hj => by omega, Below.refl _ _⟩
  case round =>
    obtain ⟨k, hk, rfl, hall, hb⟩ := hrel
    have HA := Lib.hid hall
    clear hall
    have m0 := (hb.cell (p := ⟨w.heap.size, 0, none⟩) hws).trans s0
    have m1 := (hb.cell (p := ⟨w.heap.size, 1, none⟩) hws).trans s1
    have m2 := (hb.cell (p := ⟨w.heap.size, 2, none⟩) hws).trans s2
    have m3 := (hb.cell (p := ⟨w.heap.size, 3, none⟩) hws).trans s3
    clear s0 s1 s2 s3
    have hwr : w.heap.size < wr.heap.size := Nat.lt_of_lt_of_le hws hb.size
    have hbr := hb3.trans (hb.mono (by omega))
    by_cases hlt : k < xs.length
    · obtain ⟨b, o, rfl, hbl, hcell⟩ := (SP.out.below hb).at_ hlt
      have q0 := hcell 0 _ rfl
      simp only [Nat.add_zero, Nat.mul_one] at q0
      clear hcell
      have HX := Lib.hid (by rw [List.getD_eq_getElem?_getD, List.getElem?_eq_getElem hlt]; rfl : xs.getD k 0 = xs[k])
      have HXM := Lib.hid (List.getElem_mem hlt)
      generalize xs[k] = x at *
      cases hin : inB s.n x
      · exfalso
        have h := HIN.out
        rw [List.all_eq_true] at h
        have h3 := h x HXM.out
        rw [hin] at h3
        cases h3
      · have HN : Hid (∀ j, j < k + 1 → inB s.n (xs.getD j 0) = true) := Lib.hid (fun j hj => by
          by_cases h : j < k
          · exact HA.out j h
          · rw [show j = k by omega, HX.out, hin])
        rw [← inR_inB] at hin
        go_wp2
        go_quiet (first | (go_at_call 50; refine Calls.quiet_of_same ((rwithin_any _ _ _ _).mono (fun _ _ h => ⟨h.1, h.2.symm⟩))))
        try rw [hin]
        go_wp2
        go_roundw
        case rel => exact ⟨k + 1, by omega, by go_num, HN.out, hb.trans (by (repeat' (first | (with_reducible exact Below.refl _ _) | (with_reducible refine Below.alloc ?_ ?_ _) | (with_reducible refine Below.drew ?_) | (with_reducible refine Below.drewN_ ?_ _) | (with_reducible refine Below.setCell ?_ ?_ _) | (with_reducible refine Below.setRow ?_ ?_ _) | (with_reducible refine Below.via ?_ (by with_reducible assumption) ?_) | go_size)))⟩
        case measure => simp [intOf]; omega
    · go_upto_region 10 with fail
      go_cut [7, 8] from 11 to 40 (fun a b W => ∃ g R, a = .slice (some ⟨g, 0, none⟩) (s.n.toNat + 1) (s.n.toNat + 1) ∧ b = .bool true ∧ RowsUp W g g (s.n.toNat + 1) (s.n.toNat + 1) R D ∧ Below wr.heap.size wr W)
      case first =>
        go_region_with (first
          | (go_at_call 48; refine (every_any s.n s.shots.length s.marks.length c1 c2 A1 A2 _ _ (by omega) (by omega)).mono ?_; rintro e w3 ⟨⟨gc, rfl, hgc, hBo⟩, hb4⟩; have n0 := (hb4.cell (p := ⟨w.heap.size, 0, none⟩) hwr).trans m0; have n1 := (hb4.cell (p := ⟨w.heap.size, 1, none⟩) hwr).trans m1; have n2 := (hb4.cell (p := ⟨w.heap.size, 2, none⟩) hwr).trans m2; have n3 := (hb4.cell (p := ⟨w.heap.size, 3, none⟩) hwr).trans m3; have HBO := Lib.hid hBo; clear hBo)
          | (go_at_call 47; refine (HSN.out _ _ _ (hbr.drew.trans (hb4.mono hbr.size)) HBO.out).mono ?_; rintro e w4 ⟨⟨g, R, rfl, hg4, hU⟩, hb5⟩; have HU := Lib.hid hU; clear hU))
        all_goals
          go_wp2_with fail
          go_meet
          exact ⟨g, R, rfl, rfl, HU.out, (Below.refl _ _).drew.trans (hb4.trans (hb5.mono hb4.size))⟩
      case rest =>
        obtain ⟨g, R, rfl, rfl, hU, hbc⟩ := hcut
        have HU := Lib.hid hU
        have hglt := hU.glt
        have T := Lib.hid ((SP.out.below (hb.trans (hbc.mono hb.size))).more (hb.trans (hbc.mono hb.size)).size)
        have hb03 : Below w.heap.size w wc := hbr.trans (hbc.mono hbr.size)
        clear hU hbc hlt hk HA m0 m1 m2 m3 hwr hbr hb hb3 hws SP HSN
        obtain ⟨i0, hi0, hz0, hz1, hz2⟩ := info_parts infoU8
        have I0 := Lib.hid (And.intro hi0 (And.intro hz0 (And.intro hz1 hz2)))
        clear hi0 hz0 hz1 hz2
        go_upto_region 15 with fail
        go_loopw [9, 10] (fun v9 v10 W => ∃ k : Nat, (k + 1 ≤ xs.length ∨ k = 0) ∧ v10 = .int .i64 k ∧ Own W wc.heap.size 5 v9 u8V 1 ((runsOf D xs).take k) ∧ Below wc.heap.size wc W) (fun _ i _ => xs.length - (intOf i).toNat)
        case atStart => exact ⟨0, .inr rfl, rfl, Own.nil_ _ _ _ _ _, Below.refl _ _⟩
        case round =>
          obtain ⟨k, hk, rfl, hO, hbk⟩ := hrel
          have HO := Lib.hid hO
          clear hO
          by_cases hlt : k + 1 < xs.length
          · have HT := Lib.hid (runsOf_take (D := D) hlt)
            have hRT := T.out.below hbk
            obtain ⟨b, o, rfl, hbl, hcell⟩ := hRT.at_ hlt
            have q1 := hcell 0 _ rfl
            obtain ⟨b', o', hbo, hbl', hcell'⟩ := hRT.at_ (show k < xs.length by omega)
            have q0 := hcell' 0 _ rfl
            injection hbo with hbo
            injection hbo with hbo1 hbo2 _
            subst hbo1 hbo2
            simp only [Nat.add_zero, Nat.mul_one] at q0 q1
            clear hcell hcell' hRT hbl'
            have i0' := ptIn HIN.out (show k < xs.length by omega)
            have i1' := ptIn HIN.out hlt
            have hg0 : xs.getD k 0 = xs[k] := by rw [List.getD_eq_getElem?_getD, List.getElem?_eq_getElem (show k < xs.length by omega)]; rfl
            have hg1 : xs.getD (k + 1) 0 = xs[k + 1] := by rw [List.getD_eq_getElem?_getD, List.getElem?_eq_getElem hlt]; rfl
            rw [hg0] at i0'
            rw [hg1] at i1'
            have HRA2 : Hid (runAt D xs k = aboveB (-(D xs[k].toNat xs[k + 1].toNat)) (D xs[k + 1].toNat xs[k].toNat)) := Lib.hid (by unfold runAt; rw [hg0, hg1])
            clear hg0 hg1
            generalize xs[k] = x0 at *
            generalize xs[k + 1] = x1 at *
            obtain ⟨y0, hy0⟩ := Int.eq_ofNat_of_zero_le i0'.1
            obtain ⟨y1, hy1⟩ := Int.eq_ofNat_of_zero_le i1'.1
            subst hy0 hy1
            have ly0 : y0 < s.n.toNat + 1 := by omega
            have ly1 : y1 < s.n.toNat + 1 := by omega
            clear i0' i1'
            have hlt0 : k < xs.length := by omega
            have hblr : b < wr.heap.size := Nat.lt_of_lt_of_le hbl hbk.size
            have hord := HSM.out y0 y1 ly0 ly1
            have hord2 := HSM.out y1 y0 ly1 ly0
            have HRA3 : Hid (runAt D xs k = aboveB (-(D y0 y1)) (D y1 y0)) := HRA2
            clear HRA2
            have HRF := Lib.hid (fun (W : World) (c : Nat) (h : Below wr.heap.size wr W) => rfall_any (c := c) D g (s.n.toNat + 1) y0 y1 R g W ((HU.out.below hbk (Nat.le_refl _)).below h (Nat.le_refl _)) ly0 ly1 (by omega) (by omega))
            generalize D y0 y1 = du at *
            generalize D y1 y0 = dv at *
            have hlk : ((runsOf D xs).take k).length ≤ 20 := by rw [List.length_take, runsOf_len]; omega
            have hk1 : IntKind.i64.wrap ((k : Int) + 1) = (k : Int) + 1 := IntWalk.i64_in _ (by omega)
            go_wp2
            refine (wpIn_wide (n := 3)).1 ?_
            refine wpIn_region_planXA (X := Nat) (by kernel_rfl) 12 (by kernel_rfl) (by kernel_rfl) (by omega)
              (fun x i => if i = 11 then .pointer (some ⟨x, 0, none⟩) else (#[.slice (some ⟨g, 0, none⟩) (s.n.toNat + 1) (s.n.toNat + 1), .slice (some ⟨b, o, none⟩) xs.length cp, .int .i64 k, .pointer (some ⟨b, o + k, none⟩), .int .i64 y0, .slice (some ⟨b, o, none⟩) xs.length cp, .int .i64 k, .int .i64 ((k : Int) + 1), .pointer (some ⟨b, o + (k + 1), none⟩), .int .i64 y1, .agg #[.int .i64 (-du), .int .i64 dv]] : Array Value).getD i undef)
              (fun L x W => Below wr.heap.size wr W ∧ (L 11 = true → wr.heap.size ≤ x ∧ W.heap[x]? = some (.cells #[.int .i64 0, .int .i64 0] 36 (0, 0)))) _ _ 0 ?aF ?hA ?hS ?hstep ?htail
            case hA => intro x; simp [putTo, putIf, dstAt, Act.put, List.range_succ]; rfl
            case hS => exact fun L hL => ⟨(Below.refl _ _).drew, fun h => by rw [hL] at h; cases h⟩
            case hstep =>
              intro i o' hi ho L x W hL hW
              obtain ⟨hW, hW11⟩ := hW
              have HW11 := Lib.hid hW11
              clear hW11
              refine ⟨fun _ _ => trivial, ?_⟩
              have p0 := (hW.cell (p := ⟨b, o + k, none⟩) hblr).trans q0
              have p1 := (hW.cell (p := ⟨b, o + (k + 1), none⟩) hblr).trans q1
              have hi' : i = 0 ∨ i = 1 ∨ i = 2 ∨ i = 3 ∨ i = 4 ∨ i = 5 ∨ i = 6 ∨ i = 7 ∨ i = 8 ∨ i = 9 ∨ i = 10 ∨ i = 11 := by omega
              rcases hi' with rfl | rfl | rfl | rfl | rfl | rfl | rfl | rfl | rfl | rfl | rfl | rfl
              all_goals (simp only [List.getElem?_toArray, List.getElem?_cons_succ, List.getElem?_cons_zero, Option.some.injEq] at ho; subst ho)
              case inr.inr.inr.inr.inr.inr.inr.inr.inr.inr.inl =>
                go_simp
                refine ⟨fun _ => by omega, callsIn_wide.2 ((HRF.out W _ hW).mono ?_)⟩
                rintro e w' ⟨rfl, hb'⟩
                exact ⟨_, rfl, x, fun _ _ => rfl, rfl, hW.trans (hb'.mono hW.size), fun h => ⟨(HW11.out (by simpa using h)).1, (hb'.block x (Array.getElem?_eq_some_iff.1 (HW11.out (by simpa using h)).2).1).trans (HW11.out (by simpa using h)).2⟩⟩
              case inr.inr.inr.inr.inr.inr.inr.inr.inr.inr.inr =>
                go_simp
                refine ⟨W.heap.size, fun j hj => ?_, rfl, hW.alloc hW.size _, fun _ => ⟨hW.size, heap_alloc_new _ _⟩⟩
                by_cases e : j = 11
                · rw [e, hL] at hj; cases hj
                · dsimp only; rw [if_neg e, if_neg e]
              all_goals go_simp
              all_goals exact ⟨x, fun _ _ => rfl, rfl, hW, fun h => HW11.out (by simpa using h)⟩
            case htail =>
              intro L x W hL hW
              obtain ⟨hbW, hW⟩ := hW
              obtain ⟨hx, hrow⟩ := hW (hL 11 (by omega))
              clear hW hL
              have HROW := Lib.hid hrow
              have hxl : x < W.heap.size := (Array.getElem?_eq_some_iff.1 hrow).1
              clear hrow
              have f0 := frozen_of_row W x 0 _ _ HROW.out
              have f00 := frozen_of_row W x 1 _ _ HROW.out
              have y00 := cell_of_row W x 0 _ _ _ HROW.out
              have y01 := cell_of_row W x 1 _ _ _ HROW.out
              simp at y00 y01
              simp only [List.drop_succ_cons, List.drop_zero]
              gi_wp2_with fail
              obtain ⟨ws, hws⟩ : ∃ ws, ((W.setCell ⟨x, 0, none⟩ (.int .i64 (-du))).setCell ⟨x, 1, none⟩ (.int .i64 dv)) = ws := ⟨_, rfl⟩
              rw [hws]
              have hbs : Below wr.heap.size wr ws := by rw [← hws]; exact (Below.setCell (Below.setCell hbW hx _) hx _)
              have HRS := Lib.hid (show ws.heap[x]? = some (.cells #[.int .i64 (-du), .int .i64 dv] 36 (0, 0)) by rw [← hws]; exact heap_set2 HROW.out)
              clear hws HROW f0 f00 y00 y01 hbW hxl W
              have z0 := cell_of_row ws x 0 _ _ _ HRS.out
              have z1 := cell_of_row ws x 1 _ _ _ HRS.out
              simp at z0 z1
              have hv : (0 < -du ∧ ¬ dv ≤ 0 ∧ aboveB (-du) dv = 2) ∨ (¬ 0 < -du ∧ dv ≤ 0 ∧ aboveB (-du) dv = 0) ∨ (¬ 0 < -du ∧ ¬ dv ≤ 0 ∧ aboveB (-du) dv = 1) := by
                unfold aboveB
                by_cases h1 : 0 < -du
                · exact .inl ⟨h1, by omega, if_pos h1⟩
                · by_cases h2 : dv ≤ 0
                  · exact .inr (.inl ⟨h1, h2, by rw [if_neg h1, if_pos h2]⟩)
                  · exact .inr (.inr ⟨h1, h2, by rw [if_neg h1, if_neg h2]⟩)
              rcases hv with ⟨hv1, hv2, hv⟩ | ⟨hv1, hv2, hv⟩ | ⟨hv1, hv2, hv⟩
              all_goals
                have HV := Lib.hid hv
                clear hv
              · go_wp2_with (at_builtin; refine wpList_append_rd rfl (.tmp 67) (.tmp 69) 61 rfl i0 _ 1 Try.underlying61 I0.out.1 I0.out.2.1 I0.out.2.2.1 I0.out.2.2.2 rfl (by omega) u8V_len u8V_one rfl (HO.out.below (hbs.alloc hbs.size _)) rfl rfl (Rd.one _ (2 : Int) #[.int .u8 2] 5 rfl) (by simp; omega) (by omega) (by simp; have := hbs.size; have := hbk.size; omega) ?_; intro v' w5 ho5 hg5 hat5; have hg6 : World.grownBy _ w5 u9.ownBlock := hg5; have hb5 : Below wc.heap.size wc w5 := ((hbk.trans (hbs.mono hbk.size)).alloc (by have := hbs.size; have := hbk.size; omega) _).trans (below_grown hg6 (by simp; have := hbs.size; have := hbk.size; omega) (fun b hb => (HO.out.lt b hb).1)); have HO5 := Lib.hid ho5; clear ho5 hg5 hg6 hat5)
                go_roundw
                case rel => exact ⟨k + 1, by omega, by go_num, by rw [HT.out, HRA3.out, HV.out]; exact HO5.out, hb5⟩
                case measure => (simp [intOf] <;> omega)
              · go_wp2_with (at_builtin; refine wpList_append_rd rfl (.tmp 67) (.tmp 69) 61 rfl i0 _ 1 Try.underlying61 I0.out.1 I0.out.2.1 I0.out.2.2.1 I0.out.2.2.2 rfl (by omega) u8V_len u8V_one rfl (HO.out.below (hbs.alloc hbs.size _)) rfl rfl (Rd.one _ (0 : Int) #[.int .u8 0] 5 rfl) (by simp; omega) (by omega) (by simp; have := hbs.size; have := hbk.size; omega) ?_; intro v' w5 ho5 hg5 hat5; have hg6 : World.grownBy _ w5 u9.ownBlock := hg5; have hb5 : Below wc.heap.size wc w5 := ((hbk.trans (hbs.mono hbk.size)).alloc (by have := hbs.size; have := hbk.size; omega) _).trans (below_grown hg6 (by simp; have := hbs.size; have := hbk.size; omega) (fun b hb => (HO.out.lt b hb).1)); have HO5 := Lib.hid ho5; clear ho5 hg5 hg6 hat5)
                go_roundw
                case rel => exact ⟨k + 1, by omega, by go_num, by rw [HT.out, HRA3.out, HV.out]; exact HO5.out, hb5⟩
                case measure => (simp [intOf] <;> omega)
              · go_wp2_with (at_builtin; refine wpList_append_rd rfl (.tmp 67) (.tmp 69) 61 rfl i0 _ 1 Try.underlying61 I0.out.1 I0.out.2.1 I0.out.2.2.1 I0.out.2.2.2 rfl (by omega) u8V_len u8V_one rfl (HO.out.below (hbs.alloc hbs.size _)) rfl rfl (Rd.one _ (1 : Int) #[.int .u8 1] 5 rfl) (by simp; omega) (by omega) (by simp; have := hbs.size; have := hbk.size; omega) ?_; intro v' w5 ho5 hg5 hat5; have hg6 : World.grownBy _ w5 u9.ownBlock := hg5; have hb5 : Below wc.heap.size wc w5 := ((hbk.trans (hbs.mono hbk.size)).alloc (by have := hbs.size; have := hbk.size; omega) _).trans (below_grown hg6 (by simp; have := hbs.size; have := hbk.size; omega) (fun b hb => (HO.out.lt b hb).1)); have HO5 := Lib.hid ho5; clear ho5 hg5 hg6 hat5)
                go_roundw
                case rel => exact ⟨k + 1, by omega, by go_num, by rw [HT.out, HRA3.out, HV.out]; exact HO5.out, hb5⟩
                case measure => (simp [intOf] <;> omega)
          · have HO6 : Hid (Own wr wc.heap.size 5 u9 u8V 1 (runsOf D xs)) := Lib.hid (by have h := HO.out; rw [runsOf_all (by omega)] at h; exact h)
            go_wp2
            go_ret2
            obtain ⟨A, c, rfl⟩ := HO6.out.form
            exact ⟨⟨A, c, rfl, HO6.out.rd u8V_len⟩, hb03.trans (hbk.mono hb03.size)⟩

/-- aflajref01.Runs answers lvRuns. -/
theorem rruns_any (s : Sv) (xs : List Int) (cp c1 c2 c3 : Nat) (AP A1 A2 A3 : Option Addr) (w : World)
    (r1 : Rd w w.heap.size A1 shV 4 s.shots) (r2 : Rd w w.heap.size A2 mkV 3 s.marks) (r3 : Rd w w.heap.size A3 shV 4 s.threads) (rp : Rd w w.heap.size AP inV 1 xs) :
    Calls Try.prog 34 #[.agg #[.int .i64 s.n, .slice A1 s.shots.length c1, .slice A2 s.marks.length c2, .slice A3 s.threads.length c3], .slice AP xs.length cp] w fun e w' =>
      (∃ A c, e = .returned (.tuple #[.slice A (lvRuns s xs).1.length c, .int .i64 (lvRuns s xs).2]) ∧ Rd w' w'.heap.size A u8V 1 (lvRuns s xs).1) ∧ Below w.heap.size w w' := by
  cases hok : svOk s
  · exact rruns_bad s xs cp c1 c2 c3 AP A1 A2 A3 w r1 r2 r3 rp hok
  · by_cases hl : 20 < xs.length
    · exact rruns_many s xs cp c1 c2 c3 AP A1 A2 A3 w r1 r2 r3 rp hok hl
    · cases hin : xs.all (inB s.n)
      · exact rruns_arg s xs cp c1 c2 c3 AP A1 A2 A3 w r1 r2 r3 rp hok (by omega) hin
      · obtain ⟨D, b, hR⟩ : ∃ D b, svD s = (D, b) := ⟨_, _, rfl⟩
        cases b
        · exact rruns_apart s xs cp c1 c2 c3 AP A1 A2 A3 w r1 r2 r3 rp hok (by omega) hin D hR
        · exact rruns_fine s xs cp c1 c2 c3 AP A1 A2 A3 w r1 r2 r3 rp hok (by omega) hin D hR

end Go.Proofs.Ytbolfjlfpkgfiaa
