/- syncDisk_any (written by gen_sync.py). -/
import Derived.Test.YtoaaogacaibedaaDriveSync
namespace Go.Proofs.Ytoaaogacaibedaa
open Go.RowKit Go.Maps
set_option linter.unusedVariables false

set_option maxRecDepth 100000 in
set_option maxHeartbeats 4000000 in
theorem syncDisk_any (cs : List Value) (d : Disk) (w : World) (h : diskR.at_ w w.heap.size cs d) (hf : Fits d) :
    Calls Try.prog 44 #[.agg cs.toArray] w (RetDisk w (syncDisk d)) := by
  obtain ⟨Ad, cd, Bd, ed, rfl⟩ := disk_at_shape h
  have Td := h
  clear h
  have HBw := Below.refl w.heap.size w
  obtain ⟨y, hy⟩ : ∃ y, diskOk d = y := ⟨_, rfl⟩
  have HOK := Lib.hid hy
  clear hy
  have f1 := hf.1
  have f3 := hf.2.2.1
  go_enter Try.func44, Try.ntmps44
  go_wp2_with fail
  have ho := Rep.only_alloc w (.cells #[.slice Ad d.secs.length cd, .slice Bd d.cache.length ed, .int .i64 d.fuse, .bool d.down] 37)
  have hv := heap_alloc_new w (.cells #[.slice Ad d.secs.length cd, .slice Bd d.cache.length ed, .int .i64 d.fuse, .bool d.down] 37)
  have hs : (w.alloc (.cells #[.slice Ad d.secs.length cd, .slice Bd d.cache.length ed, .int .i64 d.fuse, .bool d.down] 37)).heap.size = w.heap.size + 1 := by simp
  generalize hgW : w.alloc (.cells #[.slice Ad d.secs.length cd, .slice Bd d.cache.length ed, .int .i64 d.fuse, .bool d.down] 37) = W1 at ho hv hs ⊢
  clear hgW
  have SW1 : w.heap.size ≤ W1.heap.size := ho.size
  have HBW1 := Rep.Only.below HBw ho (by omega) (fun a ha => by cases ha)
  replace Td := Rep.at_only Td ho (by omega) (fun a ha => by cases ha)
  clear HBw
  have Vd := Lib.hid hv
  clear hv ho
  have ZW1 : w.heap.size < W1.heap.size := by omega
  have EW1 := Lib.hid hs
  clear hs
  have ho := Rep.only_alloc W1 (.cells #[.slice none 0 0, .slice none 0 0, .int .i64 0, .bool false] 37)
  have hv := heap_alloc_new' W1 (.cells #[.slice none 0 0, .slice none 0 0, .int .i64 0, .bool false] 37) (n := w.heap.size + 1) (by have := EW1.out; omega)
  have hs : (W1.alloc (.cells #[.slice none 0 0, .slice none 0 0, .int .i64 0, .bool false] 37)).heap.size = W1.heap.size + 1 := by simp
  generalize hgW : W1.alloc (.cells #[.slice none 0 0, .slice none 0 0, .int .i64 0, .bool false] 37) = W2 at ho hv hs ⊢
  clear hgW
  have SW2 : W1.heap.size ≤ W2.heap.size := ho.size
  have HBW2 := Rep.Only.below HBW1 ho (by omega) (fun a ha => by cases ha)
  replace Td := Rep.at_only Td ho (by omega) (fun a ha => by cases ha)
  replace Vd := Rep.var_only Vd ho (by omega) (fun hb => by cases hb)
  clear HBW1
  have Vr := Lib.hid hv
  clear hv ho
  have ZW2 : W1.heap.size < W2.heap.size := by omega
  have YW2 : w.heap.size + 1 < W2.heap.size := by have := EW1.out; omega
  have EW2 := Lib.hid hs
  clear hs
  refine (copyDisk_any [.slice Ad d.secs.length cd, .slice Bd d.cache.length ed, .int .i64 d.fuse, .bool d.down] d W2 (Rep.more diskR Td (by omega)) hf).mono ?_
  rintro e W3 ⟨cs, fp4, rfl, Oo, hb⟩
  obtain ⟨A5, c6, B7, d8, rfl⟩ := disk_own_shape Oo
  have ho := Rep.only_of_below hb
  have L9 := Lib.hid (Rep.lt diskR Oo)
  clear hb
  have SW3 : W2.heap.size ≤ W3.heap.size := ho.size
  have HBW3 := Rep.Only.below HBW2 ho (by omega) (fun a ha => by cases ha)
  replace Td := Rep.at_only Td ho (by omega) (fun a ha => by cases ha)
  replace Vd := Rep.var_only Vd ho (by omega) (fun hb => by cases hb)
  replace Vr := Rep.var_only Vr ho (by omega) (fun hb => by cases hb)
  clear HBW2
  clear ho
  have qd_0 : W3.cell? ⟨w.heap.size, 0, none⟩ = some (.slice Ad d.secs.length cd) := var_cell Vd.out 0
  have qd_1 : W3.cell? ⟨w.heap.size, 1, none⟩ = some (.slice Bd d.cache.length ed) := var_cell Vd.out 1
  have qd_2 : W3.cell? ⟨w.heap.size, 2, none⟩ = some (.int .i64 d.fuse) := var_cell Vd.out 2
  have qd_3 : W3.cell? ⟨w.heap.size, 3, none⟩ = some (.bool d.down) := var_cell Vd.out 3
  have ld : w.heap.size < W3.heap.size := by omega
  go_wp2_with fail
  clear qd_0 qd_1 qd_2 qd_3 ld
  have ho := Rep.only_alloc W3 (.cells #[.slice A5 d.secs.length c6, .slice B7 d.cache.length d8, .int .i64 d.fuse, .bool d.down] 37)
  have hv := heap_alloc_new W3 (.cells #[.slice A5 d.secs.length c6, .slice B7 d.cache.length d8, .int .i64 d.fuse, .bool d.down] 37)
  have hs : (W3.alloc (.cells #[.slice A5 d.secs.length c6, .slice B7 d.cache.length d8, .int .i64 d.fuse, .bool d.down] 37)).heap.size = W3.heap.size + 1 := by simp
  generalize hgW : W3.alloc (.cells #[.slice A5 d.secs.length c6, .slice B7 d.cache.length d8, .int .i64 d.fuse, .bool d.down] 37) = W10 at ho hv hs ⊢
  clear hgW
  have SW10 : W3.heap.size ≤ W10.heap.size := ho.size
  have HBW10 := Rep.Only.below HBW3 ho (by omega) (fun a ha => by cases ha)
  replace Td := Rep.at_only Td ho (by omega) (fun a ha => by cases ha)
  replace Oo := Rep.own_only Oo ho (fun a ha hb => by cases hb)
  replace Vd := Rep.var_only Vd ho (by omega) (fun hb => by cases hb)
  replace Vr := Rep.var_only Vr ho (by omega) (fun hb => by cases hb)
  clear HBW3
  have Vo := Lib.hid hv
  clear hv ho
  have ZW10 : W3.heap.size < W10.heap.size := by omega
  have EW10 := Lib.hid hs
  clear hs
  refine (diskOk_any [.slice Ad d.secs.length cd, .slice Bd d.cache.length ed, .int .i64 d.fuse, .bool d.down] d W10 (Rep.more diskR Td (by omega)) hf).mono ?_
  rintro e W11 ⟨rfl, hb⟩
  rw [HOK.out]
  have ho := Rep.only_of_below hb
  clear hb
  have SW11 : W10.heap.size ≤ W11.heap.size := ho.size
  have HBW11 := Rep.Only.below HBW10 ho (by omega) (fun a ha => by cases ha)
  replace Td := Rep.at_only Td ho (by omega) (fun a ha => by cases ha)
  replace Oo := Rep.own_only Oo ho (fun a ha hb => by cases hb)
  replace Vd := Rep.var_only Vd ho (by omega) (fun hb => by cases hb)
  replace Vr := Rep.var_only Vr ho (by omega) (fun hb => by cases hb)
  replace Vo := Rep.var_only Vo ho (by omega) (fun hb => by cases hb)
  clear HBW10
  clear ho
  cases y with
  | false =>
    have HR := Lib.hid (syncDisk_no (fun hh => diskOk_bad HOK.out hh.1))
    have qo_0 : W11.cell? ⟨W3.heap.size, 0, none⟩ = some (.slice A5 d.secs.length c6) := var_cell Vo.out 0
    have qo_1 : W11.cell? ⟨W3.heap.size, 1, none⟩ = some (.slice B7 d.cache.length d8) := var_cell Vo.out 1
    have qo_2 : W11.cell? ⟨W3.heap.size, 2, none⟩ = some (.int .i64 d.fuse) := var_cell Vo.out 2
    have qo_3 : W11.cell? ⟨W3.heap.size, 3, none⟩ = some (.bool d.down) := var_cell Vo.out 3
    have lo : W3.heap.size < W11.heap.size := by omega
    have qd_0 : W11.cell? ⟨w.heap.size, 0, none⟩ = some (.slice Ad d.secs.length cd) := var_cell Vd.out 0
    have qd_1 : W11.cell? ⟨w.heap.size, 1, none⟩ = some (.slice Bd d.cache.length ed) := var_cell Vd.out 1
    have qd_2 : W11.cell? ⟨w.heap.size, 2, none⟩ = some (.int .i64 d.fuse) := var_cell Vd.out 2
    have qd_3 : W11.cell? ⟨w.heap.size, 3, none⟩ = some (.bool d.down) := var_cell Vd.out 3
    have ld : w.heap.size < W11.heap.size := by omega
    have qr_0 : W11.cell? ⟨w.heap.size + 1, 0, none⟩ = some (.slice none 0 0) := var_cell Vr.out 0
    have qr_1 : W11.cell? ⟨w.heap.size + 1, 1, none⟩ = some (.slice none 0 0) := var_cell Vr.out 1
    have qr_2 : W11.cell? ⟨w.heap.size + 1, 2, none⟩ = some (.int .i64 0) := var_cell Vr.out 2
    have qr_3 : W11.cell? ⟨w.heap.size + 1, 3, none⟩ = some (.bool false) := var_cell Vr.out 3
    have lr : w.heap.size + 1 < W11.heap.size := by omega
    have fr_0 := var_frozen Vr.out 0
    have fr_1 := var_frozen Vr.out 1
    have fr_2 := var_frozen Vr.out 2
    have fr_3 := var_frozen Vr.out 3
    go_wp2_with fail
    refine bodyPost_ret (v := .agg #[.slice A5 d.secs.length c6, .slice B7 d.cache.length d8, .int .i64 d.fuse, .bool d.down]) (by simp [results, Try.results44, go_sem, qr_0, qr_1, qr_2, qr_3]) rfl ⟨_, fp4, rfl, ?_, ?_⟩
    · rw [HR.out]; refine diskR.low (base := W2.heap.size) ?_ (by omega)
      repeat (refine Rep.setLow ?_ (by first | (simp; done) | (simp; omega)) _)
      exact Oo
    · repeat (refine Below.setCell ?_ (by first | (simp; done) | (simp; omega)) _)
      exact HBW11
  | true =>
    have hg := diskOk_good HOK.out
    rcases hdn : d.down with _ | _
    rotate_left
    · have HR := Lib.hid (syncDisk_no (d := d) (fun hh => by have := hh.2; rw [hdn] at this; cases this))
      have qo_0 : W11.cell? ⟨W3.heap.size, 0, none⟩ = some (.slice A5 d.secs.length c6) := var_cell Vo.out 0
      have qo_1 : W11.cell? ⟨W3.heap.size, 1, none⟩ = some (.slice B7 d.cache.length d8) := var_cell Vo.out 1
      have qo_2 : W11.cell? ⟨W3.heap.size, 2, none⟩ = some (.int .i64 d.fuse) := var_cell Vo.out 2
      have qo_3 : W11.cell? ⟨W3.heap.size, 3, none⟩ = some (.bool d.down) := var_cell Vo.out 3
      have lo : W3.heap.size < W11.heap.size := by omega
      have qd_0 : W11.cell? ⟨w.heap.size, 0, none⟩ = some (.slice Ad d.secs.length cd) := var_cell Vd.out 0
      have qd_1 : W11.cell? ⟨w.heap.size, 1, none⟩ = some (.slice Bd d.cache.length ed) := var_cell Vd.out 1
      have qd_2 : W11.cell? ⟨w.heap.size, 2, none⟩ = some (.int .i64 d.fuse) := var_cell Vd.out 2
      have qd_3 : W11.cell? ⟨w.heap.size, 3, none⟩ = some (.bool d.down) := var_cell Vd.out 3
      have ld : w.heap.size < W11.heap.size := by omega
      have qr_0 : W11.cell? ⟨w.heap.size + 1, 0, none⟩ = some (.slice none 0 0) := var_cell Vr.out 0
      have qr_1 : W11.cell? ⟨w.heap.size + 1, 1, none⟩ = some (.slice none 0 0) := var_cell Vr.out 1
      have qr_2 : W11.cell? ⟨w.heap.size + 1, 2, none⟩ = some (.int .i64 0) := var_cell Vr.out 2
      have qr_3 : W11.cell? ⟨w.heap.size + 1, 3, none⟩ = some (.bool false) := var_cell Vr.out 3
      have lr : w.heap.size + 1 < W11.heap.size := by omega
      have fr_0 := var_frozen Vr.out 0
      have fr_1 := var_frozen Vr.out 1
      have fr_2 := var_frozen Vr.out 2
      have fr_3 := var_frozen Vr.out 3
      go_wp2_with fail
      refine bodyPost_ret (v := .agg #[.slice A5 d.secs.length c6, .slice B7 d.cache.length d8, .int .i64 d.fuse, .bool d.down]) (by simp [results, Try.results44, go_sem, qr_0, qr_1, qr_2, qr_3, hdn]) rfl ⟨_, fp4, rfl, ?_, ?_⟩
      · rw [HR.out]; refine diskR.low (base := W2.heap.size) ?_ (by omega)
        repeat (refine Rep.setLow ?_ (by first | (simp; done) | (simp; omega)) _)
        exact Oo
      · repeat (refine Below.setCell ?_ (by first | (simp; done) | (simp; omega)) _)
        exact HBW11
    have HG : Hid (SyncGood d) := Lib.hid ⟨hg, hdn⟩
    have hfu1 : -1 ≤ d.fuse := hg.2.2.2.1
    have hfu2 : d.fuse ≤ 1000 := hg.2.2.2.2
    have h30 : d.cache.length ≤ 30 := hg.1.2.2
    obtain ⟨u1, u2, ff, fc, hcs, ho1, ho2, hfp, hnd⟩ := disk_inv Oo
    have e1 : u1 = .slice A5 d.secs.length c6 := by injection hcs with h1 _; exact h1.symm
    have e2 : u2 = .slice B7 d.cache.length d8 := by injection hcs with _ h2; injection h2 with h2 _; exact h2.symm
    subst e1 e2
    clear hcs
    have HN := Lib.hid hnd
    have HFP := Lib.hid hfp
    clear hnd hfp Oo
    have LS := Lib.hid (fun a ha => L9.out a (by rw [HFP.out]; exact List.mem_append_left _ ha))
    have LC := Lib.hid (fun a ha => L9.out a (by rw [HFP.out]; exact List.mem_append_right _ ha))
    obtain ⟨sc, cells, fps, fcs, hff, hfc, hM⟩ := Mid.start ho1 ho2 (by rw [← HFP.out]; exact HN.out)
    have LM := Lib.hid (fun a (ha : a ∈ ((Value.slice A5 d.secs.length c6).ownBlock.toList ++ fps.flatten) ++ ((Value.slice B7 d.cache.length d8).ownBlock.toList ++ fcs.flatten)) => (show W2.heap.size ≤ a ∧ a < W3.heap.size from by rcases List.mem_append.1 ha with h | h; exact LS.out a (by rw [hff]; exact h); exact LC.out a (by rw [hfc]; exact h)))
    have hl1 : 1 ≤ d.secs.length := hg.1.1
    have f40 : d.secs.length ≤ 40 := hg.1.2.1
    have HKO : Hid (KeysOk d) := Lib.hid (fun x hx => ⟨(hg.2.2.1 x hx).1, (hg.2.2.1 x hx).2.1⟩)
    obtain ⟨gs, hgs, hgs1, _⟩ := hM.block hl1
    subst hgs
    have hrd : Reads W11 W11.heap.size 2 B7 d.cache.length cells := Reads.of_own hM.crow
    have HE := Lib.hid (fun i x (hx : d.cache[i]? = some x) => (show wrR.at_ W11 W11.heap.size (Rep.seg 2 i cells) x from by obtain ⟨f, hf⟩ := Rep.getElem?_of_lt (xs := fcs) rfl (show i < fcs.length by rw [hM.clen]; exact (List.getElem?_eq_some_iff.1 hx).1); exact Rep.reads wrR (hM.cache i x f hx hf)))
    have HW := Lib.hid (wf_key hg)
    clear hg hff hfc
    have qo_0 : W11.cell? ⟨W3.heap.size, 0, none⟩ = some (.slice (some ⟨gs, 0, none⟩) d.secs.length c6) := var_cell Vo.out 0
    have qo_1 : W11.cell? ⟨W3.heap.size, 1, none⟩ = some (.slice B7 d.cache.length d8) := var_cell Vo.out 1
    have qo_2 : W11.cell? ⟨W3.heap.size, 2, none⟩ = some (.int .i64 d.fuse) := var_cell Vo.out 2
    have qo_3 : W11.cell? ⟨W3.heap.size, 3, none⟩ = some (.bool d.down) := var_cell Vo.out 3
    have lo : W3.heap.size < W11.heap.size := by omega
    have qd_0 : W11.cell? ⟨w.heap.size, 0, none⟩ = some (.slice Ad d.secs.length cd) := var_cell Vd.out 0
    have qd_1 : W11.cell? ⟨w.heap.size, 1, none⟩ = some (.slice Bd d.cache.length ed) := var_cell Vd.out 1
    have qd_2 : W11.cell? ⟨w.heap.size, 2, none⟩ = some (.int .i64 d.fuse) := var_cell Vd.out 2
    have qd_3 : W11.cell? ⟨w.heap.size, 3, none⟩ = some (.bool d.down) := var_cell Vd.out 3
    have ld : w.heap.size < W11.heap.size := by omega
    go_wp2_with fail
    clear qo_0 qo_1 qo_2 qo_3 lo qd_0 qd_1 qd_2 qd_3 ld
    have hD := driveOf_any (some ⟨gs, 0, none⟩) B7 c6 d8 d cells W11 hrd HE.out f3 HW.out
    rw [hdn] at hD
    refine hD.mono ?_
    have HDN := Lib.hid hdn
    clear hD hdn
    rintro e W12 ⟨gd, mb, rfl, vd, hmd, hb, hgd1, hgd2, hgd3⟩
    have ho := Rep.only_of_below hb
    replace hM := hM.kept (fun a ha => hb.block a (by have := (LM.out a ha).2; omega))
    replace ho1 := ho1.of_below hb
    replace ho2 := ho2.of_below hb
    clear hb hrd HE
    have SW12 : W11.heap.size ≤ W12.heap.size := ho.size
    have HBW12 := Rep.Only.below HBW11 ho (by omega) (fun a ha => by cases ha)
    replace Td := Rep.at_only Td ho (by omega) (fun a ha => by cases ha)
    replace Vd := Rep.var_only Vd ho (by omega) (fun hb => by cases hb)
    replace Vr := Rep.var_only Vr ho (by omega) (fun hb => by cases hb)
    replace Vo := Rep.var_only Vo ho (by omega) (fun hb => by cases hb)
    clear HBW11
    clear ho
    have Vd2 := Lib.hid vd
    clear vd
    have hgl : gd < W12.heap.size := World.block_lt_of_cell? _ ⟨gd, 0, none⟩ (var_cell Vd2.out 0)
    have hml := hmd.lt
    by_cases hz : d.fuse = 0
    · have HR := Lib.hid (syncDisk_zero HG.out hz)
      have Vz : Hid (W12.heap[gd]? = some (.cells #[.slice (some ⟨gs, 0, none⟩) d.secs.length c6, .slice B7 d.cache.length d8, .int .i64 0, .bool d.down, .map (some mb)] 75 (0, 0))) := Lib.hid (by have := Vd2.out; rw [hz] at this; exact this)
      clear hz
      go_wp2_with fail
      refine (driveSync_zero gd (.slice (some ⟨gs, 0, none⟩) d.secs.length c6) (.slice B7 d.cache.length d8) (.map (some mb)) d.down W12 Vz.out).mono ?_
      rintro e W13 ⟨rfl, Vd3, ho⟩
      have LF := Lib.hid (fun a (ha : a ∈ [gd]) => (by simp at ha; omega : W11.heap.size ≤ a ∧ a < W12.heap.size))
      replace ho1 := ho1.kept (fun a ha => ho.block a (by have := (LS.out a ha).2; omega) (by have := (LS.out a ha).2; simp; omega))
      replace ho2 := ho2.kept (fun a ha => ho.block a (by have := (LC.out a ha).2; omega) (by have := (LC.out a ha).2; simp; omega))
      have SW13 : W12.heap.size ≤ W13.heap.size := ho.size
      have HBW13 := Rep.Only.below HBW12 ho (by omega) (fun a ha => by have := (LF.out a ha).1; omega)
      replace Td := Rep.at_only Td ho (by omega) (fun a ha => by have := (LF.out a ha).1; omega)
      replace Vd := Rep.var_only Vd ho (by omega) (fun hb => by have := LF.out _ hb; omega)
      replace Vr := Rep.var_only Vr ho (by omega) (fun hb => by have := LF.out _ hb; omega)
      replace Vo := Rep.var_only Vo ho (by omega) (fun hb => by have := LF.out _ hb; omega)
      clear HBW12
      clear ho LF
      have d0 : W13.cell? ⟨gd, 0, none⟩ = some (.slice (some ⟨gs, 0, none⟩) d.secs.length c6) := var_cell Vd3.out 0
      have d1 : W13.cell? ⟨gd, 1, none⟩ = some (.slice B7 d.cache.length d8) := var_cell Vd3.out 1
      have d2 : W13.cell? ⟨gd, 2, none⟩ = some (.int .i64 (-1)) := var_cell Vd3.out 2
      have d3 : W13.cell? ⟨gd, 3, none⟩ = some (.bool true) := var_cell Vd3.out 3
      have qr_0 : W13.cell? ⟨w.heap.size + 1, 0, none⟩ = some (.slice none 0 0) := var_cell Vr.out 0
      have qr_1 : W13.cell? ⟨w.heap.size + 1, 1, none⟩ = some (.slice none 0 0) := var_cell Vr.out 1
      have qr_2 : W13.cell? ⟨w.heap.size + 1, 2, none⟩ = some (.int .i64 0) := var_cell Vr.out 2
      have qr_3 : W13.cell? ⟨w.heap.size + 1, 3, none⟩ = some (.bool false) := var_cell Vr.out 3
      have lr : w.heap.size + 1 < W13.heap.size := by omega
      have fr_0 := var_frozen Vr.out 0
      have fr_1 := var_frozen Vr.out 1
      have fr_2 := var_frozen Vr.out 2
      have fr_3 := var_frozen Vr.out 3
      go_wp2_with fail
      refine bodyPost_ret (v := .agg #[.slice (some ⟨gs, 0, none⟩) d.secs.length c6, .slice B7 d.cache.length d8, .int .i64 (-1), .bool true]) (by simp [results, Try.results44, go_sem, qr_0, qr_1, qr_2, qr_3]) rfl ⟨_, ff ++ fc, rfl, ?_, ?_⟩
      · rw [HR.out]; refine diskR.low (base := W2.heap.size) ?_ (by omega)
        repeat (refine Rep.setLow ?_ (by first | (simp; done) | (simp; omega)) _)
        exact disk_own2 (d := ⟨d.secs, d.cache, -1, true⟩) ho1 ho2 (by rw [← HFP.out]; exact HN.out)
      · repeat (refine Below.setCell ?_ (by first | (simp; done) | (simp; omega)) _)
        exact HBW13
    have HR := Lib.hid (syncDisk_go HG.out hz)
    have HZ := Lib.hid hz
    clear hz
    go_wp2_with fail
    refine (driveSync_go gd mb d.cache.length W2.heap.size gs c6 B7 d8 d.fuse d.down d sc cells fps fcs _ W12 Vd2.out hmd hM (idx_ok d _ (Nat.le_refl _)) HKO.out f1 (fun a ha => by have := (LM.out a ha).2; constructor <;> omega) hgd3 HZ.out hfu1 hfu2).mono ?_
    rintro e W14 ⟨rfl, Vd3, hM3, ho⟩
    have hgs2 : gs < W11.heap.size := by have := (LM.out gs (by simp [Value.ownBlock])).2; omega
    have LF := Lib.hid (fun a (ha : a ∈ [gd, mb, gs]) => (by simp at ha; omega : W2.heap.size ≤ a ∧ a < W12.heap.size))
    have SW14 : W12.heap.size ≤ W14.heap.size := ho.size
    have HBW14 := Rep.Only.below HBW12 ho (by omega) (fun a ha => by have := (LF.out a ha).1; omega)
    replace Td := Rep.at_only Td ho (by omega) (fun a ha => by have := (LF.out a ha).1; omega)
    replace Vd := Rep.var_only Vd ho (by omega) (fun hb => by have := LF.out _ hb; omega)
    replace Vr := Rep.var_only Vr ho (by omega) (fun hb => by have := LF.out _ hb; omega)
    clear HBW12
    clear ho LF
    obtain ⟨fp9, hfl, hmem⟩ := hM3.done (idx_ok d _ (Nat.le_refl _))
    clear hM3 hmem hM
    have d0 : W14.cell? ⟨gd, 0, none⟩ = some (.slice (some ⟨gs, 0, none⟩) d.secs.length c6) := var_cell Vd3.out 0
    have d1 : W14.cell? ⟨gd, 1, none⟩ = some (.slice none 0 0) := var_cell Vd3.out 1
    have d2 : W14.cell? ⟨gd, 2, none⟩ = some (.int .i64 (fuseAfter d.fuse)) := var_cell Vd3.out 2
    have d3 : W14.cell? ⟨gd, 3, none⟩ = some (.bool d.down) := var_cell Vd3.out 3
    have hl7 := flushSecs_length d (idxC (key d.cache) d.cache.length)
    have qr_0 : W14.cell? ⟨w.heap.size + 1, 0, none⟩ = some (.slice none 0 0) := var_cell Vr.out 0
    have qr_1 : W14.cell? ⟨w.heap.size + 1, 1, none⟩ = some (.slice none 0 0) := var_cell Vr.out 1
    have qr_2 : W14.cell? ⟨w.heap.size + 1, 2, none⟩ = some (.int .i64 0) := var_cell Vr.out 2
    have qr_3 : W14.cell? ⟨w.heap.size + 1, 3, none⟩ = some (.bool false) := var_cell Vr.out 3
    have lr : w.heap.size + 1 < W14.heap.size := by omega
    have fr_0 := var_frozen Vr.out 0
    have fr_1 := var_frozen Vr.out 1
    have fr_2 := var_frozen Vr.out 2
    have fr_3 := var_frozen Vr.out 3
    go_wp2_with fail
    refine bodyPost_ret (v := .agg #[.slice (some ⟨gs, 0, none⟩) d.secs.length c6, .slice none 0 0, .int .i64 (fuseAfter d.fuse), .bool d.down]) (by simp [results, Try.results44, go_sem, qr_0, qr_1, qr_2, qr_3]) rfl ⟨_, fp9 ++ [], rfl, ?_, ?_⟩
    · rw [HR.out]; refine diskR.low (base := W2.heap.size) ?_ (by omega)
      repeat (refine Rep.setLow ?_ (by first | (simp; done) | (simp; omega)) _)
      exact disk_own2 (d := ⟨flushSecs d (idxC (key d.cache) d.cache.length), [], fuseAfter d.fuse, d.down⟩) hfl (nil_cache _ _ _) (by simpa using Rep.nodup secsR (w := W14) (base := W2.heap.size) (cs := [.slice (some ⟨gs, 0, none⟩) d.secs.length c6]) ⟨_, rfl, hfl⟩)
    · repeat (refine Below.setCell ?_ (by first | (simp; done) | (simp; omega)) _)
      exact HBW14

end Go.Proofs.Ytoaaogacaibedaa
