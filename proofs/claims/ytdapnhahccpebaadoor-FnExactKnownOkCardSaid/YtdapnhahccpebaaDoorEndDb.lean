/- endDb: the collected parts become a database. -/
import Derived.Test.YtdapnhahccpebaaDoorReadConf0
namespace Go.Proofs.YtdapnhahccpebaaDoor
open Go.RowKit
set_option maxRecDepth 100000
set_option linter.unusedVariables false

set_option maxRecDepth 100000 in
set_option maxHeartbeats 4000000 in
theorem endDb_any (C : Nat) (Ap : Option Addr) (cp : Nat) (vd : Value) (ps : List ByteArray) (xs : List Db) (fp : List Nat) (base : Nat) (w : World) (ht : Tab w) (hps : ps.length = 5) (hsz : ∀ (i : Nat) (x : ByteArray), ps[i]? = some x → x.size ≤ 100000000)
    (hC : w.heap[C]? = some (.cells #[vd, .slice Ap ps.length cp] 127 (0, 0))) (hrow : Rep.RowsAt stR w w.heap.size Ap ps.length ps) (hown : Rep.OwnRows dbR 35 w base vd xs fp) (hb : C < base) (hx : xs.length ≤ 140000000) (hbw : base ≤ w.heap.size) :
    Calls Tryd.prog 96 #[.pointer (some ⟨C, 0, none⟩)] w fun e w' =>
      (endDb (ps.map bl) = none ∧ e = .returned (.bool false) ∧ Below C w w') ∨
      (∃ vd' fp', endDb (ps.map bl) = some (dbI ps) ∧ e = .returned (.bool true) ∧ w'.heap[C]? = some (.cells #[vd', .slice none 0 0] 127 (0, 0)) ∧ Rep.OwnRows dbR 35 w' base vd' (xs ++ [dbI ps]) fp' ∧ (∀ g, g < w.heap.size → g ≠ C → g ∉ fp → w'.heap[g]? = w.heap[g]?) ∧ Below C w w') := by
  obtain ⟨j0, hj0, hz0, hz1, hz2⟩ := info_parts Tryd.infoDb
  have HCs := Lib.hid hC
  have cC1 : w.cell? ⟨C, 1, none⟩ = some (.slice Ap ps.length cp) := var_cell hC 1
  have hCl : C < w.heap.size := (Array.getElem?_eq_some_iff.1 hC).1
  have HG := Lib.hid (fun (ho : ∀ j, j < 4 → pnOk (bl (gs ps (j + 1))) 65535 = true) => endDb_good hps ho)
  have HB := Lib.hid (fun (j : Nat) (hj : j < 4) (hbad : pnOk (bl (gs ps (j + 1))) 65535 = false) => endDb_bad hps hj hbad)
  have HGE := Lib.hid (fun (j : Nat) (hj : j < 5) => Rep.getElem?_of_lt hps hj)
  have n5 : 5 ≤ ps.length := by omega
  clear hps hC
  obtain ⟨b, off, _, _, rfl, _, _, _, _⟩ := hrow.elem (show 0 < ps.length by omega) (show 0 < 1 by omega)
  obtain ⟨p0, hp0⟩ := HGE.out 0 (by omega)
  obtain ⟨c0, hbl⟩ := str_cells hrow 0 p0 hp0
  have c0' : w.cell? ⟨b, off, none⟩ = some (.string p0) := c0
  have HP0 := Lib.hid (gs_of hp0)
  have HR := Lib.hid hrow
  have HO := Lib.hid hown
  have HT := Lib.hid ht
  clear c0 hp0 hrow hown ht
  have j1 : (0 : Int) < (ps.length : Int) := by omega
  go_enter Tryd.func96, Tryd.ntmps96
  go_wp2_with fail
  have V0 : ((w.alloc (.cells #[.string p0, .int .i64 0, .int .i64 0, .int .i64 0, .int .i64 0] 35)).alloc (.cells (ptrs w.heap.size) 148)).heap[w.heap.size]? = some (.cells (dbTo ps 0) 35 (0, 0)) := by
    unfold dbTo
    rw [HP0.out]
    exact (Below.heap_alloc _ _ _ (by simp)).trans (heap_alloc_new w _)
  have V1 : ((w.alloc (.cells #[.string p0, .int .i64 0, .int .i64 0, .int .i64 0, .int .i64 0] 35)).alloc (.cells (ptrs w.heap.size) 148)).heap[w.heap.size + 1]? = some (.cells (ptrs w.heap.size) 148 (0, 0)) := heap_alloc_new' _ _ (by simp)
  have hb0 : Below w.heap.size w ((w.alloc (.cells #[.string p0, .int .i64 0, .int .i64 0, .int .i64 0, .int .i64 0] 35)).alloc (.cells (ptrs w.heap.size) 148)) := ((Below.refl _ _).alloc (Nat.le_refl _) _).alloc (by simp) _
  go_loopw [21] (fun i wr => ∃ (j : Nat), j ≤ 4 ∧ i = .int .i64 j ∧ Hid (wr.heap[w.heap.size]? = some (.cells (dbTo ps j) 35 (0, 0))) ∧ Hid (wr.heap[w.heap.size + 1]? = some (.cells (ptrs w.heap.size) 148 (0, 0))) ∧ Hid (∀ j', j' < j → pnOk (bl (gs ps (j' + 1))) 65535 = true) ∧ Below w.heap.size w wr) (fun i _ => 4 - (intOf i).toNat)
  case atStart => exact ⟨0, by omega, rfl, Lib.hid V0, Lib.hid V1, Lib.hid fun j' h => absurd h (by omega), hb0⟩
  case round =>
    clear V0 V1 hb0 c0'
    obtain ⟨j, hj, rfl, hv, hv1, hok, hbj⟩ := hrel
    by_cases hj4 : j < 4
    · obtain ⟨q, hq⟩ := HGE.out (j + 1) (by omega)
      obtain ⟨cq, hbq⟩ := str_cells ((HR.out.keep fun p hp => hbj.cell hp).more hbj.size) (j + 1) q hq
      have hqs := hsz _ _ hq
      have HQJ := Lib.hid (gs_of hq)
      obtain ⟨u, hu⟩ := dbTo_at ps hj4
      have cD : wr.cell? ⟨w.heap.size, 1 + j, none⟩ = some u := (var_cell hv.out (1 + j)).trans hu
      have fD := var_frozen hv.out (1 + j)
      have cP : wr.cell? ⟨w.heap.size + 1, j, none⟩ = some (.pointer (some ⟨w.heap.size, 1 + j, none⟩)) := (var_cell hv1.out j).trans (ptrs_at _ hj4)
      have cC : wr.cell? ⟨C, 1, none⟩ = some (.slice (some ⟨b, off, none⟩) ps.length cp) := (hbj.cell hCl).trans cC1
      have cq' : wr.cell? ⟨b, off + (j + 1), none⟩ = some (.string q) := cq
      have n0 : (0 : Int) ≤ (j : Int) := by omega
      have n1 : (j : Int) < (4 : Int) := by omega
      have n3 : (j : Int) + 1 < (ps.length : Int) := by omega
      have n4 : (0 : Int) ≤ (j : Int) + 1 := by omega
      have HTw := Lib.hid (HT.out.below hbj)
      obtain ⟨y5, hy5⟩ : ∃ y, pnOk q.data.toList 65535 = y := ⟨_, rfl⟩
      have HY5 := Lib.hid hy5
      clear hq hy5 hu cq cC1
      go_wp2_with fail
      refine (parseNum_any q 65535 wr HTw.out hqs).mono ?_
      rintro e W5 ⟨rfl, hb5⟩
      rw [HY5.out]
      have hDl : w.heap.size < wr.heap.size := (Array.getElem?_eq_some_iff.1 hv.out).1
      have hPl : w.heap.size + 1 < wr.heap.size := (Array.getElem?_eq_some_iff.1 hv1.out).1
      have hv5 := Lib.hid ((hb5.block _ hDl).trans hv.out)
      have hv15 := Lib.hid ((hb5.block _ hPl).trans hv1.out)
      have cD5 : W5.cell? ⟨w.heap.size, 1 + j, none⟩ = some u := (hb5.cell hDl).trans cD
      have fD5 := var_frozen hv5.out (1 + j)
      have hb6 := Later.trans hbj hb5
      clear hv hv1 cD fD cP cC cq' hb5 HTw hbj
      cases y5
      · have HN := Lib.hid (HB.out j hj4 (by rw [HQJ.out]; exact HY5.out))
        go_wp2_with fail
        go_ret
        exact .inl ⟨HN.out, rfl, Below.mono hb6 (by omega)⟩
      · go_wp2_with fail
        go_roundw
        case rel => exact ⟨j + 1, by omega, by go_num, Lib.hid (by rw [← dbTo_set ps hj4]; unfold numI; rw [HQJ.out]; exact var_set hv5.out (1 + j) _), Lib.hid ((heap_setCell_other _ _ _ _ (by simp)).trans hv15.out), Lib.hid (fun j' h => by
          by_cases he : j' < j
          · exact hok.out j' he
          · obtain rfl : j' = j := by omega
            rw [HQJ.out]; exact HY5.out), Below.setCell hb6 (Nat.le_refl _) _⟩
        case measure => simp [intOf]; omega
    · have he : j = 4 := by omega
      have hv4 : wr.heap[w.heap.size]? = some (.cells #[.string (gs ps 0), .int .i64 (numI ps 0), .int .i64 (numI ps 1), .int .i64 (numI ps 2), .int .i64 (numI ps 3)] 35 (0, 0)) := by
        have h9 := hv.out
        rw [he] at h9
        exact h9
      have HD := Lib.hid (HG.out fun j' h => hok.out j' (by omega))
      have n1 : ¬ ((j : Int) < (4 : Int)) := by omega
      clear he
      have hCw : wr.heap[C]? = some (.cells #[vd, .slice (some ⟨b, off, none⟩) ps.length cp] 127 (0, 0)) := (hbj.block _ hCl).trans HCs.out
      have T : All (fun w' => Below w.heap.size w w' ∧ Rep.OwnRows dbR 35 w' base vd xs fp ∧ Hid (w'.heap[C]? = some (.cells #[vd, .slice (some ⟨b, off, none⟩) ps.length cp] 127 (0, 0))) ∧ (w'.cell? ⟨C, 0, none⟩ = some vd ∧ w'.cell? ⟨w.heap.size, 0, none⟩ = some (.string (gs ps 0)) ∧ w'.cell? ⟨w.heap.size, 1, none⟩ = some (.int .i64 (numI ps 0)) ∧ w'.cell? ⟨w.heap.size, 2, none⟩ = some (.int .i64 (numI ps 1)) ∧ w'.cell? ⟨w.heap.size, 3, none⟩ = some (.int .i64 (numI ps 2)) ∧ w'.cell? ⟨w.heap.size, 4, none⟩ = some (.int .i64 (numI ps 3)))) wr := ⟨hbj, HO.out.of_below hbj, Lib.hid hCw, var_cell hCw 0, var_cell hv4 0, var_cell hv4 1, var_cell hv4 2, var_cell hv4 3, var_cell hv4 4⟩
      have HLT := Lib.hid (show ∀ g, g ∈ fp → g < w.heap.size from fun g hg => (HO.out.lt g hg).2)
      clear hCw hv4 hv hv1 hok hbj cC1
      go_wp2_with fail
      refine wp_region_lex' 10 [0, 1, 2, 3, 4, 5] [6, 7, 8, 9, 10] (fun w' => w'.cell? ⟨C, 0, none⟩ = some vd ∧ w'.cell? ⟨w.heap.size, 0, none⟩ = some (.string (gs ps 0)) ∧ w'.cell? ⟨w.heap.size, 1, none⟩ = some (.int .i64 (numI ps 0)) ∧ w'.cell? ⟨w.heap.size, 2, none⟩ = some (.int .i64 (numI ps 1)) ∧ w'.cell? ⟨w.heap.size, 3, none⟩ = some (.int .i64 (numI ps 2)) ∧ w'.cell? ⟨w.heap.size, 4, none⟩ = some (.int .i64 (numI ps 3))) (by kernel_rfl) (by kernel_rfl) T.drew.out.2.2.2 ?_
      replace T := T.drew
      iterate 6 (refine LexR.cons rfl ?_ (fun w' hw => ?_) ?_; rotate_left; focus (obtain ⟨e0, e1, e2, e3, e4, e5⟩ := hw; go_simp; (try exact rfl)); (try go_frame))
      refine LexR.nil (LexW.cons rfl ?_)
      go_wp2_with fail
      have TA := T.alloc (.cells #[.string (gs ps 0), .int .i64 (numI ps 0), .int .i64 (numI ps 1), .int .i64 (numI ps 2), .int .i64 (numI ps 3)] 35)
      have hnew := reads_lit wr.drew #[.string (gs ps 0), .int .i64 (numI ps 0), .int .i64 (numI ps 1), .int .i64 (numI ps 2), .int .i64 (numI ps 3)] 5 1 35 (g := wr.drew.heap.size) rfl rfl (by simp [maxLen])
      refine ⟨fun _ => TA.out.2.2.2, LexW.cons rfl ?_⟩
      try go_frame
      refine Rep.wpList_push _ rfl (.tmp 48) (.tmp 50) _ rfl dbR base 35 j0 _ 48 Tryd.underlying24 hj0 hz0 hz1 hz2 rfl (by decide) vd xs fp rfl TA.out.2.1 _ 1 _ (dbI ps) [] rfl hnew (by simp [Value.oneCell']) (db_own _ _ (dbI ps)) (fun g hg hg' => by cases hg) (by simp only [maxLen]; omega) (by omega) (by have := TA.out.1.size; have h8 := TA.out.1.size; simp at h8 ⊢; omega) ?_
      intro A2 c2 w2 fp2 hown2 hg2 hf2 hv2
      have hCS := TA.out.1.size
      have hb2 : Below C w w2 := (Below.mono TA.out.1 (show C ≤ w.heap.size by omega)).grown hg2 (by omega) (fun j hj => by have := (hv2 j hj).1; omega)
      have hbl : ∀ g, g < wr.heap.size → g ∉ fp → w2.heap[g]? = wr.heap[g]? := fun g hg hn => (hg2.block g (by simp; omega) (fun e => hn (hv2 g e.symm).2)).trans (Below.heap_alloc wr.drew _ g hg)
      have nC : C ∉ fp := fun e => absurd ((T.out.2.1.lt C e).1) (by omega)
      have nD : w.heap.size ∉ fp := fun e => absurd (HLT.out _ e) (by omega)
      have hT : (∀ (p : Addr) (v : Value), wr.cell? p = some v → p.block ∉ fp → w2.cell? p = some v) := fun p v hp hn => (World.cell?_of_block (hbl _ (World.block_lt_of_cell? _ _ hp) hn)).trans hp
      obtain ⟨tb, _, hC9, e0, e1, e2, e3, e4, e5⟩ := T.out
      have hoth := Lib.hid (show ∀ g, g < w.heap.size → g ∉ fp → w2.heap[g]? = w.heap[g]? from fun g hg hn => (hbl g (Nat.lt_of_lt_of_le hg (by have := tb.size; simpa using this)) hn).trans (tb.block g hg))
      have hC2 : w2.heap[C]? = some (.cells #[vd, .slice (some ⟨b, off, none⟩) ps.length cp] 127 (0, 0)) := (hbl C (by have := tb.size; simp at this; omega) nC).trans hC9.out
      have T2 : Hid (w2.cell? ⟨C, 0, none⟩ = some vd ∧ w2.cell? ⟨w.heap.size, 0, none⟩ = some (.string (gs ps 0)) ∧ w2.cell? ⟨w.heap.size, 1, none⟩ = some (.int .i64 (numI ps 0)) ∧ w2.cell? ⟨w.heap.size, 2, none⟩ = some (.int .i64 (numI ps 1)) ∧ w2.cell? ⟨w.heap.size, 3, none⟩ = some (.int .i64 (numI ps 2)) ∧ w2.cell? ⟨w.heap.size, 4, none⟩ = some (.int .i64 (numI ps 3))) :=
        Lib.hid ⟨hT _ _ e0 nC, hT _ _ e1 nD, hT _ _ e2 nD, hT _ _ e3 nD, hT _ _ e4 nD, hT _ _ e5 nD⟩
      have cz := var_cell hC2 0
      have fz := var_frozen hC2 0
      have cz1 : (w2.setCell ⟨C, 0, none⟩ (.slice A2 (xs.length + 1) c2)).cell? ⟨C, 1, none⟩ = some (.slice (some ⟨b, off, none⟩) ps.length cp) := var_cell (var_set hC2 0 _) 1
      have fz1 : (w2.setCell ⟨C, 0, none⟩ (.slice A2 (xs.length + 1) c2)).frozen? ⟨C, 1, none⟩ = false := var_frozen (var_set hC2 0 _) 1
      have hC3 := Lib.hid (var_set (var_set hC2 0 (.slice A2 (xs.length + 1) c2)) 1 (.slice none 0 0))
      have hown5 : Hid (Rep.OwnRows dbR 35 w2 base (.slice A2 (xs.length + 1) c2) (xs ++ [dbI ps]) fp2) := Lib.hid hown2
      clear e0 e1 e2 e3 e4 e5 hT hbl hv2 hf2 hg2 hown2 hnew TA T nD hC2 hC9 tb hCS
      refine ⟨fun _ => T2.out, LexW.cons rfl ?_⟩
      try go_frame
      go_wp2_with fail
      refine ⟨fun _ => T2.out, LexW.cons rfl ?_⟩
      try go_frame
      go_wp2_with fail
      refine ⟨fun _ => T2.out, LexW.cons rfl ?_⟩
      try go_frame
      go_wp2_with fail
      refine ⟨fun h => absurd rfl h, LexW.nil ?_⟩
      go_wp2_with fail
      go_ret
      exact .inr ⟨_, fp2, HD.out, rfl, hC3.out, (hown5.out.setLow hb _).setLow hb _, fun g hg hgC hn => (heap_setCell_other _ _ _ _ hgC).trans ((heap_setCell_other _ _ _ _ hgC).trans (hoth.out g hg hn)), (hb2.setCell (Nat.le_refl _) _).setCell (Nat.le_refl _) _⟩
end Go.Proofs.YtdapnhahccpebaaDoor
