/- ParseConf of the model. -/
import Derived.Test.YtdapnhahccpebaaDoorParsePart
namespace Go.Proofs.YtdapnhahccpebaaDoor
open Go.RowKit
set_option maxRecDepth 100000
set_option linter.unusedVariables false

set_option maxRecDepth 100000 in
set_option maxHeartbeats 4000000 in
theorem parseConfS_any (s : ByteArray) (w : World) : Calls Tryd.prog 16 #[.string s] w (RetConf w (parseS s.data.toList)) := by
  have hsl : s.data.toList.length = s.size := by simp
  obtain ⟨res, hres⟩ : ∃ res, parseS s.data.toList = res := ⟨_, rfl⟩
  have HR := Lib.hid hres
  rw [hres]
  clear hres
  by_cases h100 : 100 < s.size
  · have HN := Lib.hid (show res = ([], false) by rw [← HR.out]; unfold parseS; rw [if_pos (by omega)])
    have i0 : (100 : Int) < (s.size : Int) := by omega
    go_enter Tryd.func16, Tryd.ntmps16
    go_wp2
    go_ret2
    exact retNone (Below.refl _ _) HN.out
  · have HP := Lib.hid (show okOf (allOf dbOf (splitB 59 [] s.data.toList)) = res by rw [← HR.out]; unfold parseS; rw [if_neg (by omega)])
    have HL := Lib.hid hsl
    clear hsl
    have i0 : ¬ ((100 : Int) < (s.size : Int)) := by omega
    obtain ⟨j0, hj0, hz0, hz1, hz2⟩ := info_parts Tryd.infoDb
    go_enter Tryd.func16, Tryd.ntmps16
    go_wp2_with fail
    refine (l3Split_any s 59 w (by omega)).mono ?_
    rintro e W1 ⟨A, c, L, rfl, hL, hrows, hcm, _, hb⟩
    have S : All (fun w' => Below w.heap.size w w' ∧ Below W1.heap.size W1 w') W1 := ⟨hb, Below.refl _ _⟩
    have HLL := Lib.hid hL
    have HW1 := Lib.hid hb
    clear hb hL
    have hlen : L.length ≤ 101 := by
      have h9 := @split_count 59 s.data.toList []
      rw [← HLL.out, List.length_map, HL.out] at h9
      omega
    go_wp2_with fail
    have S1 := S.alloc (.cells #[] 35)
    have hown0 := rows_lit' W1 35 dbR (by decide) (Nat.le_refl _)
    go_loopw [5, 6] (fun v i wr => ∃ (k : Nat) (xs : List Db) (fp : List Nat), k ≤ L.length ∧ i = .int .i64 k ∧ Hid (ReadTo (splitB 59 [] s.data.toList) k xs ∧ ∀ x, x ∈ xs → x.name.size ≤ 100) ∧ Rep.OwnRows dbR 35 wr W1.heap.size v xs fp ∧ All (fun w' => Below w.heap.size w w' ∧ Below W1.heap.size W1 w') wr) (fun _ i _ => L.length - (intOf i).toNat)
    case atStart => exact ⟨0, [], _, by omega, rfl, Lib.hid ⟨ReadTo.zero _, by simp⟩, hown0, S1⟩
    case round =>
      obtain ⟨k, xs, fp, hk, rfl, hrd, hown, S2⟩ := hrel
      clear S1 S hown0
      by_cases hlt : k < L.length
      · obtain ⟨x, hx⟩ := Rep.getElem?_of_lt rfl hlt
        have hrw := (hrows.keep fun p hp => S2.out.2.cell hp).more S2.out.2.size
        obtain ⟨bA, off, _, _, rfl, _, _, _, _⟩ := hrw.elem hlt (show 0 < 1 by omega)
        obtain ⟨cx, hbx⟩ := str_cells hrw k x hx
        clear hrw
        have hxs : x.size ≤ 100 := by have := part_len HLL.out hx; rw [HL.out] at this; omega
        have i1 : (0 : Int) ≤ (k : Int) := by omega
        have i2 : (k : Int) < (L.length : Int) := by omega
        go_wp2_with fail
        refine (l3Split_any x 58 wr (by omega)).mono ?_
        rintro e W3 ⟨A3, c3, ps, rfl, hp, hrows3, hcm3, hge3, hb⟩
        have HFP := Lib.hid (show (∀ g, g ∈ fp → g < wr.heap.size) ∧ (∀ b off, A3 = some ⟨b, off, none⟩ → wr.heap.size ≤ b) from ⟨fun g hg => (hown.lt g hg).2, hge3⟩)
        have HN0 := Lib.hid hb.size
        clear hge3
        replace S2 := S2.later hb
        have hown3 := hown.of_below hb
        have S : All (fun w' => (Below w.heap.size w w' ∧ Below W1.heap.size W1 w') ∧ Rep.RowsAt stR w' w'.heap.size A3 ps.length ps ∧ Rep.OwnRows dbR 35 w' W1.heap.size u5 xs fp) _ := ⟨S2.out, hrows3, hown3⟩
        have HPS := Lib.hid (show ps.map bl = splitB 58 [] (bl x) from hp)
        have HX := Lib.hid (show (splitB 59 [] s.data.toList)[k]? = some (bl x) by rw [← HLL.out, List.getElem?_map, hx]; rfl)
        clear S2 hown hown3 hb hrows3 hp cx hbx hx
        by_cases h2 : ps.length = 2
        · have b2 : ((ps.length : Int) != (2 : Int)) = false := by simp; omega
          have j1 : (1 : Int) < (ps.length : Int) := by omega
          have j0' : (0 : Int) < (ps.length : Int) := by omega
          obtain ⟨y, hy⟩ := Rep.getElem?_of_lt h2 (show 1 < 2 by omega)
          obtain ⟨b3, off3, _, _, rfl, _, _, _, _⟩ := S.out.2.1.elem (show 0 < ps.length by omega) (show 0 < 1 by omega)
          obtain ⟨cy, hby⟩ := str_cells S.out.2.1 1 y hy
          have hys : y.size ≤ 100 := by have := part_len HPS.out hy; simp [bl] at this; omega
          have HFP2 := Lib.hid (show ∀ g, g ∈ fp → g < b3 from fun g hg => Nat.lt_of_lt_of_le (HFP.out.1 g hg) (HFP.out.2 _ _ rfl))
          go_wp2_with fail
          refine (l3Split_any y 47 _ (by omega)).mono ?_
          rintro e W4 ⟨A4, c4, qs, rfl, hq, hrows4, hcm4, _, hb⟩
          have hq' : qs.map bl = splitB 47 [] (bl (gs ps 1)) := by rw [gs_of hy]; exact hq
          have S2 : All (fun w' => ((Below w.heap.size w w' ∧ Below W1.heap.size W1 w') ∧ Rep.RowsAt stR w' w'.heap.size (some ⟨b3, off3, none⟩) ps.length ps ∧ Rep.OwnRows dbR 35 w' W1.heap.size u5 xs fp) ∧ Rep.RowsAt stR w' w'.heap.size A4 qs.length qs) W4 := ⟨Keeps.keeps (F := fun w' => (Below w.heap.size w w' ∧ Below W1.heap.size W1 w') ∧ Rep.RowsAt stR w' w'.heap.size (some ⟨b3, off3, none⟩) ps.length ps ∧ Rep.OwnRows dbR 35 w' W1.heap.size u5 xs fp) hb S.out, hrows4⟩
          have HQ := Lib.hid hq'
          have HN4 := Lib.hid (Nat.le_trans HN0.out hb.size)
          have HYS := Lib.hid (show (bl (gs ps 1)).length ≤ 100 by rw [gs_of hy]; simpa [bl] using hys)
          clear S hb hrows4 hq hq' cy hby hy
          by_cases h4 : qs.length = 4
          · have b4 : ((qs.length : Int) != (4 : Int)) = false := by simp; omega
            have HG := Lib.hid (fun (ho : ∀ j, j < 4 → pnOk (bl (gs qs j)) 99 = true) => dbOf_good HPS.out h2 HQ.out h4 ho)
            have HB := Lib.hid (fun (j : Nat) (hj : j < 4) (hbad : pnOk (bl (gs qs j)) 99 = false) => show res = ([], false) by
              rw [← HP.out, hrd.out.1.bad HX.out (dbOf_bad HPS.out h2 HQ.out h4 hj hbad)]
              rfl)
            have HS5 := S2.out.2.elem (show 0 < qs.length by omega) (show 0 < 1 by omega)
            have n4 : 4 ≤ qs.length := by omega
            have n2 : 2 ≤ ps.length := by omega
            have HGE := Lib.hid (fun (j : Nat) (hj : j < 4) => Rep.getElem?_of_lt h4 hj)
            clear h4 h2
            obtain ⟨b5, off5, _, _, rfl, _, _, _, _⟩ := HS5
            go_wp2_with fail
            have V0 := heap_alloc_new W4 (.cells (numsTo qs 0) 3)
            have hb0 := Later.alloc W4 (.cells (numsTo qs 0) 3)
            go_loopw [10] (fun i wr => ∃ (j : Nat), j ≤ 4 ∧ i = .int .i64 j ∧ Hid (wr.heap[W4.heap.size]? = some (.cells (numsTo qs j) 3 (0, 0))) ∧ Hid (∀ j', j' < j → pnOk (bl (gs qs j')) 99 = true) ∧ Below W4.heap.size W4 wr) (fun i _ => 4 - (intOf i).toNat)
            case atStart => exact ⟨0, by omega, rfl, Lib.hid V0, Lib.hid fun j' h => absurd h (by omega), hb0⟩
            case round =>
              clear V0 hb0
              obtain ⟨j, hj, rfl, hv, hok, hbj⟩ := hrel
              have S3 := S2.later hbj
              have hD : W4.heap.size < wr.heap.size := (Array.getElem?_eq_some_iff.1 hv.out).1
              by_cases hj4 : j < 4
              · obtain ⟨q, hq⟩ := HGE.out j hj4
                obtain ⟨cq, hbq⟩ := str_cells S3.out.2 j q hq
                have hqs : q.size ≤ 100 := by have h9 := part_len HQ.out hq; have := HYS.out; omega
                have HQJ := Lib.hid (gs_of hq)
                obtain ⟨u, hu⟩ := numsTo_at qs hj4
                have cD : wr.cell? ⟨W4.heap.size, j, none⟩ = some u := (var_cell hv.out j).trans hu
                have fD := var_frozen hv.out j
                have n0 : (0 : Int) ≤ (j : Int) := by omega
                have n1 : (j : Int) < (4 : Int) := by omega
                have n3 : (j : Int) < (qs.length : Int) := by omega
                obtain ⟨y5, hy5⟩ : ∃ y, pnOk q.data.toList 99 = y := ⟨_, rfl⟩
                have HY5 := Lib.hid hy5
                clear hq hy5 S3 hu
                go_wp2_with fail
                refine (parseNumS_any q 99 wr (by omega)).mono ?_
                rintro e W5 ⟨rfl, rfl⟩
                rw [HY5.out]
                cases y5
                · have HN := Lib.hid (HB.out j hj4 (by rw [HQJ.out]; exact HY5.out))
                  go_wp2_with fail
                  go_ret2
                  exact retNone (S2.later hbj).out.1.1.1 HN.out
                · go_wp2_with fail
                  go_roundw
                  case rel => exact ⟨j + 1, by omega, by go_num, Lib.hid (by rw [← numsTo_set qs hj4, HQJ.out]; exact var_set hv.out j _), Lib.hid (fun j' h => by
                    by_cases he : j' < j
                    · exact hok.out j' he
                    · obtain rfl : j' = j := by omega
                      rw [HQJ.out]; exact HY5.out), Below.setCell hbj (Nat.le_refl _) _⟩
                  case measure => simp [intOf]; omega
              · have he : j = 4 := by omega
                have hv4 : wr.heap[W4.heap.size]? = some (.cells #[.int .i64 (pnVal (bl (gs qs 0)) 99), .int .i64 (pnVal (bl (gs qs 1)) 99), .int .i64 (pnVal (bl (gs qs 2)) 99), .int .i64 (pnVal (bl (gs qs 3)) 99)] 3 (0, 0)) := by
                  have h9 := hv.out
                  rw [he] at h9
                  exact h9
                have HD := Lib.hid (HG.out fun j' h => hok.out j' (by omega))
                have n1 : ¬ ((j : Int) < (4 : Int)) := by omega
                clear he
                obtain ⟨p0, hp0⟩ : ∃ x, ps[0]? = some x := ⟨ps[0], List.getElem?_eq_getElem (by omega)⟩
                have cp : wr.cell? ⟨b3, off3, none⟩ = some (.string p0) := (str_cells S3.out.1.2.1 0 p0 hp0).1
                have HP0 := Lib.hid (gs_of hp0)
                have hp0s : p0.size ≤ 100 := by have := part_len HPS.out hp0; simp [bl] at this; omega
                have c0 := var_cell hv4 0
                have c1 := var_cell hv4 1
                have c2 := var_cell hv4 2
                have c3' := var_cell hv4 3
                have T : All (fun w' => (Below w.heap.size w w' ∧ Below W1.heap.size W1 w') ∧ Rep.OwnRows dbR 35 w' W1.heap.size u5 xs fp ∧ (w'.cell? ⟨b3, off3, none⟩ = some (.string p0) ∧ w'.cell? ⟨W4.heap.size, 0, none⟩ = some (.int .i64 (pnVal (bl (gs qs 0)) 99)) ∧ w'.cell? ⟨W4.heap.size, 1, none⟩ = some (.int .i64 (pnVal (bl (gs qs 1)) 99)) ∧ w'.cell? ⟨W4.heap.size, 2, none⟩ = some (.int .i64 (pnVal (bl (gs qs 2)) 99)) ∧ w'.cell? ⟨W4.heap.size, 3, none⟩ = some (.int .i64 (pnVal (bl (gs qs 3)) 99)))) wr := ⟨S3.out.1.1, S3.out.1.2.2, cp, c0, c1, c2, c3'⟩
                have HXS := Lib.hid (hrd.out.1.succ HX.out HD.out)
                have HXN := Lib.hid (show ∀ z, z ∈ xs ++ [dbP (gs ps 0) qs] → z.name.size ≤ 100 by
                  intro z hz
                  rcases List.mem_append.1 hz with h | h
                  · exact hrd.out.2 z h
                  · rw [List.mem_singleton.1 h]
                    show (gs ps 0).size ≤ 100
                    rw [HP0.out]
                    exact hp0s)
                have hxk : xs.length ≤ 101 := by have := hrd.out.1.1; omega
                clear S3 S2 cp c0 c1 c2 c3' hv4 hp0 hv hok hbj hD
                go_wp2_with fail
                refine wp_region_lex' 100 [0, 1, 2, 3, 4, 5, 6, 7, 8, 9, 10, 11, 12, 13, 14, 15, 16] [17, 18, 19] (fun w' => w'.cell? ⟨b3, off3, none⟩ = some (.string p0) ∧ w'.cell? ⟨W4.heap.size, 0, none⟩ = some (.int .i64 (pnVal (bl (gs qs 0)) 99)) ∧ w'.cell? ⟨W4.heap.size, 1, none⟩ = some (.int .i64 (pnVal (bl (gs qs 1)) 99)) ∧ w'.cell? ⟨W4.heap.size, 2, none⟩ = some (.int .i64 (pnVal (bl (gs qs 2)) 99)) ∧ w'.cell? ⟨W4.heap.size, 3, none⟩ = some (.int .i64 (pnVal (bl (gs qs 3)) 99))) (by kernel_rfl) (by kernel_rfl) T.drew.out.2.2 ?_
                replace T := T.drew
                iterate 17 (refine LexR.cons rfl ?_ (fun w' hw => ?_) ?_; rotate_left; focus (obtain ⟨e1, e2, e3, e4, e5⟩ := hw; go_simp; (try exact rfl)); (try go_frame))
                refine LexR.nil (LexW.cons rfl ?_)
                go_wp2_with fail
                have TA := T.alloc (.cells #[.string p0, .int .i64 (pnVal (bl (gs qs 0)) 99), .int .i64 (pnVal (bl (gs qs 1)) 99), .int .i64 (pnVal (bl (gs qs 2)) 99), .int .i64 (pnVal (bl (gs qs 3)) 99)] 35)
                have hnew := reads_lit wr.drew #[.string p0, .int .i64 (pnVal (bl (gs qs 0)) 99), .int .i64 (pnVal (bl (gs qs 1)) 99), .int .i64 (pnVal (bl (gs qs 2)) 99), .int .i64 (pnVal (bl (gs qs 3)) 99)] 5 1 35 (g := wr.drew.heap.size) rfl rfl (by simp [maxLen])
                refine ⟨fun _ => TA.out.2.2, LexW.cons rfl ?_⟩
                try go_frame
                refine Rep.wpList_push _ rfl (.tmp 63) (.tmp 80) _ rfl dbR W1.heap.size 35 j0 _ 48 Tryd.underlying24 hj0 hz0 hz1 hz2 rfl (by decide) u5 xs fp rfl TA.out.2.1 _ 1 _ (dbP p0 qs) [] rfl hnew (by simp [Value.oneCell']) (db_own _ _ (dbP p0 qs)) (fun g hg hg' => by cases hg) (by simp only [maxLen]; omega) (by omega) (by have := TA.out.1.2.size; simpa using this) ?_
                intro A2 c2 w2 fp2 hown2 hg2 hf2 hv2
                have hb2 : Below W1.heap.size W1 w2 := TA.out.1.2.grown hg2 TA.out.1.2.size (fun j hj => (hv2 j hj).1)
                have hbl : ∀ g, g < wr.heap.size → g ∉ fp → w2.heap[g]? = wr.heap[g]? := fun g hg hn => (hg2.block g (by simp; omega) (fun e => hn (hv2 g e.symm).2)).trans (Below.heap_alloc wr.drew _ g hg)
                have hT : (∀ (p : Addr) (v : Value), wr.cell? p = some v → p.block ∉ fp → w2.cell? p = some v) := fun p v hp hn => (World.cell?_of_block (hbl _ (World.block_lt_of_cell? _ _ hp) hn)).trans hp
                have nb3 : b3 ∉ fp := fun e => absurd (HFP2.out _ e) (by omega)
                have nD : W4.heap.size ∉ fp := fun e => absurd (HFP.out.1 _ e) (by have := HN4.out; omega)
                obtain ⟨_, _, e1, e2, e3, e4, e5⟩ := T.out
                have T2 : Hid (w2.cell? ⟨b3, off3, none⟩ = some (.string p0) ∧ w2.cell? ⟨W4.heap.size, 0, none⟩ = some (.int .i64 (pnVal (bl (gs qs 0)) 99)) ∧ w2.cell? ⟨W4.heap.size, 1, none⟩ = some (.int .i64 (pnVal (bl (gs qs 1)) 99)) ∧ w2.cell? ⟨W4.heap.size, 2, none⟩ = some (.int .i64 (pnVal (bl (gs qs 2)) 99)) ∧ w2.cell? ⟨W4.heap.size, 3, none⟩ = some (.int .i64 (pnVal (bl (gs qs 3)) 99))) :=
                  Lib.hid ⟨hT _ _ e1 nb3, hT _ _ e2 nD, hT _ _ e3 nD, hT _ _ e4 nD, hT _ _ e5 nD⟩
                have hown5 : Hid (Rep.OwnRows dbR 35 w2 W1.heap.size (.slice A2 (xs.length + 1) c2) (xs ++ [dbP (gs ps 0) qs]) fp2) := Lib.hid (by rw [HP0.out]; exact hown2)
                clear e1 e2 e3 e4 e5 hT hbl hv2 hf2 hg2 hown2 hnew TA T nb3 nD
                refine ⟨fun _ => T2.out, LexW.cons rfl ?_⟩
                try go_frame
                go_wp2_with fail
                refine ⟨fun _ => T2.out, LexW.nil ?_⟩
                go_wp2_with fail
                go_roundw
                case rel => exact ⟨k + 1, _, fp2, by omega, by go_num, Lib.hid ⟨HXS.out, HXN.out⟩, hown5.out, ⟨Later.trans HW1.out hb2, hb2⟩⟩
                case measure => simp [intOf]; omega
          · have b4 : ((qs.length : Int) != (4 : Int)) = true := by simp; omega
            have HN := Lib.hid (show res = ([], false) by
              rw [← HP.out, hrd.out.1.bad HX.out (dbOf_q4 HPS.out h2 HQ.out h4)]
              rfl)
            go_wp2_with fail
            go_ret2
            exact retNone S2.out.1.1.1 HN.out
        · have b2 : ((ps.length : Int) != (2 : Int)) = true := by simp; omega
          have HN := Lib.hid (show res = ([], false) by
            rw [← HP.out, hrd.out.1.bad HX.out (dbOf_n2 HPS.out h2)]
            rfl)
          go_wp2_with fail
          go_ret2
          exact retNone S.out.1.1 HN.out
      · have he : k = L.length := by omega
        have hre := hrd.out.1
        rw [he, ← show (splitB 59 [] s.data.toList).length = L.length by rw [← HLL.out, List.length_map]] at hre
        have hall := hre.all
        have hxl : xs.length = L.length := by rw [hrd.out.1.1]; exact he
        have HF := Lib.hid (show FitsDbs xs from ⟨by omega, fun x hx => by have := hrd.out.2 x hx; omega⟩)
        obtain ⟨A9, c9, rfl, hle9, hcm9, hrows9⟩ := hown.reads
        have i2 : ¬ ((k : Int) < (L.length : Int)) := by omega
        obtain ⟨y, hy⟩ : ∃ y, confB xs = y := ⟨_, rfl⟩
        have HR2 := Lib.hid (show res = if y = true then (xs, true) else ([], false) by
          rw [← HP.out, hall, ← hy]
          rfl)
        have HY := Lib.hid hy
        clear hre hall hy hxl he
        go_wp2_with fail
        refine (confOkS_any A9 c9 xs wr hrows9 HF.out).mono ?_
        rintro e W9 ⟨rfl, hb⟩
        rw [HY.out]
        replace S2 := S2.later hb
        have hown9 := hown.of_below hb
        clear hown hb hrows9
        cases y
        · go_wp2_with fail
          go_ret2
          exact retNone S2.out.1 HR2.out
        · go_wp2_with fail
          go_ret2
          exact ⟨A9, c9, fp, by rw [HR2.out]; rfl, by rw [HR2.out]; exact ⟨_, rfl, hown9.low HW1.out.size⟩, S2.out.1⟩
end Go.Proofs.YtdapnhahccpebaaDoor
