/- What the theorem needs, out of many texts. -/
import Derived.Test.YtoaaogacaibedaaGreatDoorShc17
namespace Go.Proofs.YtoaaogacaibedaaGreatDoor
open Go.RowKit Go.Maps
set_option maxRecDepth 2000000
set_option linter.unusedVariables false
set_option maxRecDepth 100000 in
set_option maxHeartbeats 4000000 in
theorem syncDiskS_any (cs : List Value) (d : Disk) (w : World) (h : diskR.at_ w w.heap.size cs d) (hf : Fits d) :
  Calls Tryz.prog 41 #[.agg cs.toArray] w (RetDisk w (syncDisk d)) := by
 obtain ⟨Ad, cd, Bd, ed, rfl⟩ := disk_at_shape h
 have Td := h
 clear h
 have HBw := Below.refl w.heap.size w
 obtain ⟨y, hy⟩ : ∃ y, diskOk d = y := ⟨_, rfl⟩
 have HOK := Lib.hid hy
 clear hy
 have f1 := hf.1
 have f3 := hf.2.2.1
 go_enter Tryz.func41, Tryz.ntmps41
 go_wp2_with fail
 have ho := Rep.only_alloc w (.cells #[.slice Ad d.secs.length cd, .slice Bd d.cache.length ed, .int .i64 d.fuse, .bool d.down] 27)
 have hv := heap_alloc_new w (.cells #[.slice Ad d.secs.length cd, .slice Bd d.cache.length ed, .int .i64 d.fuse, .bool d.down] 27)
 have hs : (w.alloc (.cells #[.slice Ad d.secs.length cd, .slice Bd d.cache.length ed, .int .i64 d.fuse, .bool d.down] 27)).heap.size = w.heap.size + 1 := by simp
 generalize hgW : w.alloc (.cells #[.slice Ad d.secs.length cd, .slice Bd d.cache.length ed, .int .i64 d.fuse, .bool d.down] 27) = W1 at ho hv hs ⊢
 clear hgW
 have SW1 : w.heap.size ≤ W1.heap.size := ho.size
 have HBW1 := Rep.Only.below HBw ho (by omega) (fun a ha => by cases ha)
 replace Td := Rep.at_only Td ho (by omega) (fun a ha => by cases ha)
 clear HBw
 have Vd := Lib.hid hv
 clear hv ho
 have ZW1 : w.heap.size < W1.heap.size := by omega
 have EW1 := Lib.hid hs
 clear hs
 have ho := Rep.only_alloc W1 (.cells #[.slice none 0 0, .slice none 0 0, .int .i64 0, .bool false] 27)
 have hv := heap_alloc_new' W1 (.cells #[.slice none 0 0, .slice none 0 0, .int .i64 0, .bool false] 27) (n := w.heap.size + 1) (by have := EW1.out; omega)
 have hs : (W1.alloc (.cells #[.slice none 0 0, .slice none 0 0, .int .i64 0, .bool false] 27)).heap.size = W1.heap.size + 1 := by simp
 generalize hgW : W1.alloc (.cells #[.slice none 0 0, .slice none 0 0, .int .i64 0, .bool false] 27) = W2 at ho hv hs ⊢
 clear hgW
 have SW2 : W1.heap.size ≤ W2.heap.size := ho.size
 have HBW2 := Rep.Only.below HBW1 ho (by omega) (fun a ha => by cases ha)
 replace Td := Rep.at_only Td ho (by omega) (fun a ha => by cases ha)
 replace Vd := Rep.var_only Vd ho (by omega) (fun hb => by cases hb)
 clear HBW1
 have Vr := Lib.hid hv
 clear hv ho
 have ZW2 : W1.heap.size < W2.heap.size := by omega
 have YW2 : w.heap.size + 1 < W2.heap.size := by have := EW1.out; omega
 have EW2 := Lib.hid hs
 clear hs
 refine (l2Copy_any [.slice Ad d.secs.length cd, .slice Bd d.cache.length ed, .int .i64 d.fuse, .bool d.down] d W2 (Rep.more diskR Td (by omega)) hf).mono ?_
 rintro e W3 ⟨cs, fp4, rfl, Oo, hb⟩
 obtain ⟨A5, c6, B7, d8, rfl⟩ := disk_own_shape Oo
 have ho := Rep.only_of_below hb
 have L9 := Lib.hid (Rep.lt diskR Oo)
 clear hb
 have SW3 : W2.heap.size ≤ W3.heap.size := ho.size
 have HBW3 := Rep.Only.below HBW2 ho (by omega) (fun a ha => by cases ha)
 replace Td := Rep.at_only Td ho (by omega) (fun a ha => by cases ha)
 replace Vd := Rep.var_only Vd ho (by omega) (fun hb => by cases hb)
 replace Vr := Rep.var_only Vr ho (by omega) (fun hb => by cases hb)
 clear HBW2
 clear ho
 have qd_0 : W3.cell? ⟨w.heap.size, 0, none⟩ = some (.slice Ad d.secs.length cd) := var_cell Vd.out 0
 have qd_1 : W3.cell? ⟨w.heap.size, 1, none⟩ = some (.slice Bd d.cache.length ed) := var_cell Vd.out 1
 have qd_2 : W3.cell? ⟨w.heap.size, 2, none⟩ = some (.int .i64 d.fuse) := var_cell Vd.out 2
 have qd_3 : W3.cell? ⟨w.heap.size, 3, none⟩ = some (.bool d.down) := var_cell Vd.out 3
 have ld : w.heap.size < W3.heap.size := by omega
 go_wp2_with fail
 clear qd_0 qd_1 qd_2 qd_3 ld
 have ho := Rep.only_alloc W3 (.cells #[.slice A5 d.secs.length c6, .slice B7 d.cache.length d8, .int .i64 d.fuse, .bool d.down] 27)
 have hv := heap_alloc_new W3 (.cells #[.slice A5 d.secs.length c6, .slice B7 d.cache.length d8, .int .i64 d.fuse, .bool d.down] 27)
 have hs : (W3.alloc (.cells #[.slice A5 d.secs.length c6, .slice B7 d.cache.length d8, .int .i64 d.fuse, .bool d.down] 27)).heap.size = W3.heap.size + 1 := by simp
 generalize hgW : W3.alloc (.cells #[.slice A5 d.secs.length c6, .slice B7 d.cache.length d8, .int .i64 d.fuse, .bool d.down] 27) = W10 at ho hv hs ⊢
 clear hgW
 have SW10 : W3.heap.size ≤ W10.heap.size := ho.size
 have HBW10 := Rep.Only.below HBW3 ho (by omega) (fun a ha => by cases ha)
 replace Td := Rep.at_only Td ho (by omega) (fun a ha => by cases ha)
 replace Oo := Rep.own_only Oo ho (fun a ha hb => by cases hb)
 replace Vd := Rep.var_only Vd ho (by omega) (fun hb => by cases hb)
 replace Vr := Rep.var_only Vr ho (by omega) (fun hb => by cases hb)
 clear HBW3
 have Vo := Lib.hid hv
 clear hv ho
 have ZW10 : W3.heap.size < W10.heap.size := by omega
 have EW10 := Lib.hid hs
 clear hs
 refine (diskOkS_any [.slice Ad d.secs.length cd, .slice Bd d.cache.length ed, .int .i64 d.fuse, .bool d.down] d W10 (Rep.more diskR Td (by omega)) hf).mono ?_
 rintro e W11 ⟨rfl, hb⟩
 rw [HOK.out]
 have ho := Rep.only_of_below hb
 clear hb
 have SW11 : W10.heap.size ≤ W11.heap.size := ho.size
 have HBW11 := Rep.Only.below HBW10 ho (by omega) (fun a ha => by cases ha)
 replace Td := Rep.at_only Td ho (by omega) (fun a ha => by cases ha)
 replace Oo := Rep.own_only Oo ho (fun a ha hb => by cases hb)
 replace Vd := Rep.var_only Vd ho (by omega) (fun hb => by cases hb)
 replace Vr := Rep.var_only Vr ho (by omega) (fun hb => by cases hb)
 replace Vo := Rep.var_only Vo ho (by omega) (fun hb => by cases hb)
 clear HBW10
 clear ho
 cases y with
 | false =>
  have HR := Lib.hid (syncDisk_no (fun hh => diskOk_bad HOK.out hh.1))
  have qo_0 : W11.cell? ⟨W3.heap.size, 0, none⟩ = some (.slice A5 d.secs.length c6) := var_cell Vo.out 0
  have qo_1 : W11.cell? ⟨W3.heap.size, 1, none⟩ = some (.slice B7 d.cache.length d8) := var_cell Vo.out 1
  have qo_2 : W11.cell? ⟨W3.heap.size, 2, none⟩ = some (.int .i64 d.fuse) := var_cell Vo.out 2
  have qo_3 : W11.cell? ⟨W3.heap.size, 3, none⟩ = some (.bool d.down) := var_cell Vo.out 3
  have lo : W3.heap.size < W11.heap.size := by omega
  have qd_0 : W11.cell? ⟨w.heap.size, 0, none⟩ = some (.slice Ad d.secs.length cd) := var_cell Vd.out 0
  have qd_1 : W11.cell? ⟨w.heap.size, 1, none⟩ = some (.slice Bd d.cache.length ed) := var_cell Vd.out 1
  have qd_2 : W11.cell? ⟨w.heap.size, 2, none⟩ = some (.int .i64 d.fuse) := var_cell Vd.out 2
  have qd_3 : W11.cell? ⟨w.heap.size, 3, none⟩ = some (.bool d.down) := var_cell Vd.out 3
  have ld : w.heap.size < W11.heap.size := by omega
  have qr_0 : W11.cell? ⟨w.heap.size + 1, 0, none⟩ = some (.slice none 0 0) := var_cell Vr.out 0
  have qr_1 : W11.cell? ⟨w.heap.size + 1, 1, none⟩ = some (.slice none 0 0) := var_cell Vr.out 1
  have qr_2 : W11.cell? ⟨w.heap.size + 1, 2, none⟩ = some (.int .i64 0) := var_cell Vr.out 2
  have qr_3 : W11.cell? ⟨w.heap.size + 1, 3, none⟩ = some (.bool false) := var_cell Vr.out 3
  have lr : w.heap.size + 1 < W11.heap.size := by omega
  have fr_0 := var_frozen Vr.out 0
  have fr_1 := var_frozen Vr.out 1
  have fr_2 := var_frozen Vr.out 2
  have fr_3 := var_frozen Vr.out 3
  go_wp2_with fail
  refine bodyPost_ret (v := .agg #[.slice A5 d.secs.length c6, .slice B7 d.cache.length d8, .int .i64 d.fuse, .bool d.down]) (by simp [results, Tryz.results41, go_sem, qr_0, qr_1, qr_2, qr_3]) rfl ⟨_, fp4, rfl, ?_, ?_⟩
  ·rw [HR.out]; refine diskR.low (base := W2.heap.size) ?_ (by omega)
   repeat (refine Rep.setLow ?_ (by first | (simp; done) | (simp; omega)) _)
   exact Oo
  ·repeat (refine Below.setCell ?_ (by first | (simp; done) | (simp; omega)) _)
   exact HBW11
 | true =>
  have hg := diskOk_good HOK.out
  rcases hdn : d.down with _ | _
  rotate_left
  ·have HR := Lib.hid (syncDisk_no (d := d) (fun hh => by have := hh.2; rw [hdn] at this; cases this))
   have qo_0 : W11.cell? ⟨W3.heap.size, 0, none⟩ = some (.slice A5 d.secs.length c6) := var_cell Vo.out 0
   have qo_1 : W11.cell? ⟨W3.heap.size, 1, none⟩ = some (.slice B7 d.cache.length d8) := var_cell Vo.out 1
   have qo_2 : W11.cell? ⟨W3.heap.size, 2, none⟩ = some (.int .i64 d.fuse) := var_cell Vo.out 2
   have qo_3 : W11.cell? ⟨W3.heap.size, 3, none⟩ = some (.bool d.down) := var_cell Vo.out 3
   have lo : W3.heap.size < W11.heap.size := by omega
   have qd_0 : W11.cell? ⟨w.heap.size, 0, none⟩ = some (.slice Ad d.secs.length cd) := var_cell Vd.out 0
   have qd_1 : W11.cell? ⟨w.heap.size, 1, none⟩ = some (.slice Bd d.cache.length ed) := var_cell Vd.out 1
   have qd_2 : W11.cell? ⟨w.heap.size, 2, none⟩ = some (.int .i64 d.fuse) := var_cell Vd.out 2
   have qd_3 : W11.cell? ⟨w.heap.size, 3, none⟩ = some (.bool d.down) := var_cell Vd.out 3
   have ld : w.heap.size < W11.heap.size := by omega
   have qr_0 : W11.cell? ⟨w.heap.size + 1, 0, none⟩ = some (.slice none 0 0) := var_cell Vr.out 0
   have qr_1 : W11.cell? ⟨w.heap.size + 1, 1, none⟩ = some (.slice none 0 0) := var_cell Vr.out 1
   have qr_2 : W11.cell? ⟨w.heap.size + 1, 2, none⟩ = some (.int .i64 0) := var_cell Vr.out 2
   have qr_3 : W11.cell? ⟨w.heap.size + 1, 3, none⟩ = some (.bool false) := var_cell Vr.out 3
   have lr : w.heap.size + 1 < W11.heap.size := by omega
   have fr_0 := var_frozen Vr.out 0
   have fr_1 := var_frozen Vr.out 1
   have fr_2 := var_frozen Vr.out 2
   have fr_3 := var_frozen Vr.out 3
   go_wp2_with fail
   refine bodyPost_ret (v := .agg #[.slice A5 d.secs.length c6, .slice B7 d.cache.length d8, .int .i64 d.fuse, .bool d.down]) (by simp [results, Tryz.results41, go_sem, qr_0, qr_1, qr_2, qr_3, hdn]) rfl ⟨_, fp4, rfl, ?_, ?_⟩
   ·rw [HR.out]; refine diskR.low (base := W2.heap.size) ?_ (by omega)
    repeat (refine Rep.setLow ?_ (by first | (simp; done) | (simp; omega)) _)
    exact Oo
   ·repeat (refine Below.setCell ?_ (by first | (simp; done) | (simp; omega)) _)
    exact HBW11
  have HG : Hid (SyncGood d) := Lib.hid ⟨hg, hdn⟩
  have hfu1 : -1 ≤ d.fuse := hg.2.2.2.1
  have hfu2 : d.fuse ≤ 1000 := hg.2.2.2.2
  have h30 : d.cache.length ≤ 30 := hg.1.2.2
  obtain ⟨u1, u2, ff, fc, hcs, ho1, ho2, hfp, hnd⟩ := disk_inv Oo
  have e1 : u1 = .slice A5 d.secs.length c6 := by injection hcs with h1 _; exact h1.symm
  have e2 : u2 = .slice B7 d.cache.length d8 := by injection hcs with _ h2; injection h2 with h2 _; exact h2.symm
  subst e1 e2
  clear hcs
  have HN := Lib.hid hnd
  have HFP := Lib.hid hfp
  clear hnd hfp Oo
  have LS := Lib.hid (fun a ha => L9.out a (by rw [HFP.out]; exact List.mem_append_left _ ha))
  have LC := Lib.hid (fun a ha => L9.out a (by rw [HFP.out]; exact List.mem_append_right _ ha))
  by_cases hz : d.fuse = 0
  ·have HR := Lib.hid (syncDisk_zero HG.out hz)
   have Vz : Hid (W11.heap[W3.heap.size]? = some (.cells #[.slice A5 d.secs.length c6, .slice B7 d.cache.length d8, .int .i64 0, .bool d.down] 27 (0, 0))) := Lib.hid (by have := Vo.out; rw [hz] at this; exact this)
   clear hz
   have qd_0 : W11.cell? ⟨w.heap.size, 0, none⟩ = some (.slice Ad d.secs.length cd) := var_cell Vd.out 0
   have qd_1 : W11.cell? ⟨w.heap.size, 1, none⟩ = some (.slice Bd d.cache.length ed) := var_cell Vd.out 1
   have qd_2 : W11.cell? ⟨w.heap.size, 2, none⟩ = some (.int .i64 d.fuse) := var_cell Vd.out 2
   have qd_3 : W11.cell? ⟨w.heap.size, 3, none⟩ = some (.bool d.down) := var_cell Vd.out 3
   have ld : w.heap.size < W11.heap.size := by omega
   go_wp2_with fail
   clear qd_0 qd_1 qd_2 qd_3 ld
   refine (l2Fuse_zero W3.heap.size (.slice A5 d.secs.length c6) (.slice B7 d.cache.length d8) d.down W11 Vz.out).mono ?_
   rintro e W12 ⟨rfl, vv, ho⟩
   have LF := Lib.hid (fun a (ha : a ∈ [W3.heap.size]) => (by simp at ha; omega : W3.heap.size ≤ a ∧ a < W3.heap.size + 1))
   replace ho1 := ho1.kept (fun a ha => ho.block a (by have := (LS.out a ha).2; omega) (by have := (LS.out a ha).2; simp; omega))
   replace ho2 := ho2.kept (fun a ha => ho.block a (by have := (LC.out a ha).2; omega) (by have := (LC.out a ha).2; simp; omega))
   have SW12 : W11.heap.size ≤ W12.heap.size := ho.size
   have HBW12 := Rep.Only.below HBW11 ho (by omega) (fun a ha => by have := (LF.out a ha).1; omega)
   replace Td := Rep.at_only Td ho (by omega) (fun a ha => by have := (LF.out a ha).1; omega)
   replace Vd := Rep.var_only Vd ho (by omega) (fun hb => by have := LF.out _ hb; omega)
   replace Vr := Rep.var_only Vr ho (by omega) (fun hb => by have := LF.out _ hb; omega)
   clear HBW11
   clear ho LF
   clear Vo
   have Vo := vv
   clear vv
   have qo_0 : W12.cell? ⟨W3.heap.size, 0, none⟩ = some (.slice A5 d.secs.length c6) := var_cell Vo.out 0
   have qo_1 : W12.cell? ⟨W3.heap.size, 1, none⟩ = some (.slice B7 d.cache.length d8) := var_cell Vo.out 1
   have qo_2 : W12.cell? ⟨W3.heap.size, 2, none⟩ = some (.int .i64 (-1)) := var_cell Vo.out 2
   have qo_3 : W12.cell? ⟨W3.heap.size, 3, none⟩ = some (.bool true) := var_cell Vo.out 3
   have lo : W3.heap.size < W12.heap.size := by omega
   have qr_0 : W12.cell? ⟨w.heap.size + 1, 0, none⟩ = some (.slice none 0 0) := var_cell Vr.out 0
   have qr_1 : W12.cell? ⟨w.heap.size + 1, 1, none⟩ = some (.slice none 0 0) := var_cell Vr.out 1
   have qr_2 : W12.cell? ⟨w.heap.size + 1, 2, none⟩ = some (.int .i64 0) := var_cell Vr.out 2
   have qr_3 : W12.cell? ⟨w.heap.size + 1, 3, none⟩ = some (.bool false) := var_cell Vr.out 3
   have lr : w.heap.size + 1 < W12.heap.size := by omega
   have fr_0 := var_frozen Vr.out 0
   have fr_1 := var_frozen Vr.out 1
   have fr_2 := var_frozen Vr.out 2
   have fr_3 := var_frozen Vr.out 3
   go_wp2_with fail
   refine bodyPost_ret (v := .agg #[.slice A5 d.secs.length c6, .slice B7 d.cache.length d8, .int .i64 (-1), .bool true]) (by simp [results, Tryz.results41, go_sem, qr_0, qr_1, qr_2, qr_3]) rfl ⟨_, ff ++ fc, rfl, ?_, ?_⟩
   ·rw [HR.out]; refine diskR.low (base := W2.heap.size) ?_ (by omega)
    repeat (refine Rep.setLow ?_ (by first | (simp; done) | (simp; omega)) _)
    exact disk_own2 (d := ⟨d.secs, d.cache, -1, true⟩) ho1 ho2 (by rw [← HFP.out]; exact HN.out)
   ·repeat (refine Below.setCell ?_ (by first | (simp; done) | (simp; omega)) _)
    exact HBW12
  have HR := Lib.hid (syncDisk_go HG.out hz)
  have HZ := Lib.hid hz
  clear hz
  have qd_0 : W11.cell? ⟨w.heap.size, 0, none⟩ = some (.slice Ad d.secs.length cd) := var_cell Vd.out 0
  have qd_1 : W11.cell? ⟨w.heap.size, 1, none⟩ = some (.slice Bd d.cache.length ed) := var_cell Vd.out 1
  have qd_2 : W11.cell? ⟨w.heap.size, 2, none⟩ = some (.int .i64 d.fuse) := var_cell Vd.out 2
  have qd_3 : W11.cell? ⟨w.heap.size, 3, none⟩ = some (.bool d.down) := var_cell Vd.out 3
  have ld : w.heap.size < W11.heap.size := by omega
  go_wp2_with fail
  clear qd_0 qd_1 qd_2 qd_3 ld
  refine (l2Fuse_go W3.heap.size (.slice A5 d.secs.length c6) (.slice B7 d.cache.length d8) d.fuse d.down W11 Vo.out HZ.out hfu1 hfu2).mono ?_
  rintro e W13 ⟨rfl, vv, ho⟩
  have LF := Lib.hid (fun a (ha : a ∈ [W3.heap.size]) => (by simp at ha; omega : W3.heap.size ≤ a ∧ a < W3.heap.size + 1))
  replace ho1 := ho1.kept (fun a ha => ho.block a (by have := (LS.out a ha).2; omega) (by have := (LS.out a ha).2; simp; omega))
  replace ho2 := ho2.kept (fun a ha => ho.block a (by have := (LC.out a ha).2; omega) (by have := (LC.out a ha).2; simp; omega))
  have SW13 : W11.heap.size ≤ W13.heap.size := ho.size
  have HBW13 := Rep.Only.below HBW11 ho (by omega) (fun a ha => by have := (LF.out a ha).1; omega)
  replace Td := Rep.at_only Td ho (by omega) (fun a ha => by have := (LF.out a ha).1; omega)
  replace Vd := Rep.var_only Vd ho (by omega) (fun hb => by have := LF.out _ hb; omega)
  replace Vr := Rep.var_only Vr ho (by omega) (fun hb => by have := LF.out _ hb; omega)
  clear HBW11
  clear ho LF
  clear Vo
  have Vo := vv
  clear vv
  obtain ⟨sc, ccs, fps, fcs, hff, hfc, hM⟩ := Mid.start ho1 ho2 (by rw [← HFP.out]; exact HN.out)
  have LM := Lib.hid (fun a (ha : a ∈ ((Value.slice A5 d.secs.length c6).ownBlock.toList ++ fps.flatten) ++ ((Value.slice B7 d.cache.length d8).ownBlock.toList ++ fcs.flatten)) => (show W2.heap.size ≤ a ∧ a < W3.heap.size from by rcases List.mem_append.1 ha with h | h; exact LS.out a (by rw [hff]; exact h); exact LC.out a (by rw [hfc]; exact h)))
  have hl1 : 1 ≤ d.secs.length := hg.1.1
  have f40 : d.secs.length ≤ 40 := hg.1.2.1
  have HWO := Lib.hid (fun x (hx : x ∈ d.cache) => hg.2.2.1 x hx)
  obtain ⟨gs, hgs, hgs1, _⟩ := hM.block hl1
  subst hgs
  have hgs2 : gs < W3.heap.size := (LM.out gs (by simp [Value.ownBlock])).2
  clear hg ho1 ho2 hff hfc
  replace hM := hM.weak (idx' := idxC (key d.cache) 0) (fun _ => rfl)
  have hz0 := Nat.le_refl W13.heap.size
  go_wp2_with fail
  go_loopw [4] (fun i wr => ∃ k : Nat, k ≤ d.cache.length ∧ i = .int .i64 k ∧ Mid wr W2.heap.size (.slice (some ⟨gs, 0, none⟩) d.secs.length c6) (.slice B7 d.cache.length d8) d sc ccs fps fcs (idxC (key d.cache) k) ∧ Hid (wr.heap[W3.heap.size]? = some (.cells #[.slice (some ⟨gs, 0, none⟩) d.secs.length c6, .slice B7 d.cache.length d8, .int .i64 (fuseAfter d.fuse), .bool d.down] 27 (0, 0))) ∧ Hid (wr.heap[w.heap.size + 1]? = some (.cells #[.slice none 0 0, .slice none 0 0, .int .i64 0, .bool false] 27 (0, 0))) ∧ Below w.heap.size w wr ∧ W13.heap.size ≤ wr.heap.size) (fun i _ => d.cache.length - (intOf i).toNat)
  case atStart => exact ⟨0, by omega, rfl, hM, Vo, Vr, HBW13, hz0⟩
  case round =>
   obtain ⟨k, hk, rfl, hM, vo, vr, hb, hz⟩ := hrel
   clear Vo Vr HBW13 hz0
   by_cases hlt : k < d.cache.length
   ·obtain ⟨b, off, A2, c2, x, rfl, hbl, hx, e0, e1, hgd⟩ := hM.elem hlt
    obtain ⟨hx0, hx1, _⟩ := HWO.out x (List.mem_of_getElem? hx)
    obtain ⟨n0, hn0⟩ := Int.eq_ofNat_of_zero_le hx0
    rw [hn0] at e0
    have hn1 : n0 < d.secs.length := by omega
    have HX := Lib.hid hx
    have HN0 := Lib.hid hn0
    have HGD := Lib.hid hgd
    obtain ⟨⟨u0, hcl⟩, hfr⟩ := hM.there hn1
    clear hx hn0 hgd hx0 hx1
    have i1 : (0 : Int) ≤ (k : Int) := by omega
    have i2 : (k : Int) < (d.cache.length : Int) := by omega
    have i3 : (0 : Int) ≤ (n0 : Int) := by omega
    have i4 : (n0 : Int) < (d.secs.length : Int) := by omega
    have e00 : wr.cell? ⟨W3.heap.size, 0, none⟩ = some (.slice (some ⟨gs, 0, none⟩) d.secs.length c6) := var_cell vo.out 0
    have e01 : wr.cell? ⟨W3.heap.size, 1, none⟩ = some (.slice (some ⟨b, off, none⟩) d.cache.length d8) := var_cell vo.out 1
    go_wp2_with fail
    refine wp_region_lex' 15 [0, 1, 2, 3, 4, 5, 6, 7, 8, 9, 10, 11, 12, 13, 14] [15] (fun w' => w'.cell? ⟨W3.heap.size, 0, none⟩ = some (.slice (some ⟨gs, 0, none⟩) d.secs.length c6) ∧ w'.cell? ⟨W3.heap.size, 1, none⟩ = some (.slice (some ⟨b, off, none⟩) d.cache.length d8) ∧ w'.cell? ⟨b, off + k * 2, none⟩ = some (.int .i64 n0) ∧ w'.cell? ⟨b, off + k * 2 + 1, none⟩ = some (.slice A2 x.b.length c2)) (by kernel_rfl) (by kernel_rfl) ⟨e00, e01, e0, e1⟩ ?_
    iterate 15 (refine LexR.cons rfl ?_ (fun w' hw => ?_) ?_; rotate_left; focus (obtain ⟨e1, e2, e3, e4⟩ := hw; go_simp; (try exact rfl)); (try go_frame))
    refine LexR.nil (LexW.cons rfl ?_)
    try go_frame
    go_wp2_with fail
    refine ⟨fun h => absurd rfl h, LexW.nil ?_⟩
    have hM2 := hM.store (k := k) (idx' := idxC (key d.cache) (k + 1)) hn1 ?hstep
    rotate_left
    ·intro i
     show (if key d.cache k i = true then some k else idxC (key d.cache) k i) = _
     rw [key_eq HX.out i]
     rw [HN0.out]
     by_cases he : (n0 : Int) = i
     ·rw [if_pos he, if_pos (by simpa using he)]
     ·rw [if_neg he, if_neg (by simpa using he)]
    rw [HGD.out] at hM2
    replace hM2 := hM2.kept (w' := (wr.setCell ⟨gs, n0, none⟩ (.slice A2 x.b.length c2)).drew) (fun _ _ => rfl)
    have hq1 : (wr.setCell ⟨gs, n0, none⟩ (.slice A2 x.b.length c2)).drew.heap[W3.heap.size]? = wr.heap[W3.heap.size]? := heap_setCell_other wr ⟨gs, n0, none⟩ (W3.heap.size) (.slice A2 x.b.length c2) (by simp; omega)
    have hq2 : (wr.setCell ⟨gs, n0, none⟩ (.slice A2 x.b.length c2)).drew.heap[w.heap.size + 1]? = wr.heap[w.heap.size + 1]? := heap_setCell_other wr ⟨gs, n0, none⟩ (w.heap.size + 1) (.slice A2 x.b.length c2) (by simp; omega)
    have VO2 := Lib.hid (hq1.trans vo.out)
    have VR2 := Lib.hid (hq2.trans vr.out)
    have HB2 : Below w.heap.size w (wr.setCell ⟨gs, n0, none⟩ (.slice A2 x.b.length c2)).drew := belowD (hb.setCell (p := ⟨gs, n0, none⟩) (by simp; omega) (.slice A2 x.b.length c2)) 1
    have hz2 : W13.heap.size ≤ (wr.setCell ⟨gs, n0, none⟩ (.slice A2 x.b.length c2)).drew.heap.size := by simpa using hz
    generalize hgw : (wr.setCell ⟨gs, n0, none⟩ (.slice A2 x.b.length c2)).drew = w2 at hM2 VO2 VR2 HB2 hz2 ⊢
    clear hgw hq1 hq2 hM vo vr hb hz e0 e1 e00 e01 hcl hfr
    go_wp2_with fail
    go_roundw
    case rel => exact ⟨k + 1, by omega, by go_num, hM2, VO2, VR2, HB2, hz2⟩
    case measure => simp [intOf]; omega
   ·have he : k = d.cache.length := by omega
    subst he
    obtain ⟨fp9, hfl, hmem⟩ := hM.done (idx_ok d _ (Nat.le_refl _))
    have HM9 := Lib.hid (fun a ha => LM.out a (hmem a ha))
    clear hM hmem
    have HBr := hb
    have e00 : wr.cell? ⟨W3.heap.size, 0, none⟩ = some (.slice (some ⟨gs, 0, none⟩) d.secs.length c6) := var_cell vo.out 0
    have e01 : wr.cell? ⟨W3.heap.size, 1, none⟩ = some (.slice B7 d.cache.length d8) := var_cell vo.out 1
    have e02 : wr.cell? ⟨W3.heap.size, 2, none⟩ = some (.int .i64 (fuseAfter d.fuse)) := var_cell vo.out 2
    have e03 : wr.cell? ⟨W3.heap.size, 3, none⟩ = some (.bool d.down) := var_cell vo.out 3
    have f01 := var_frozen vo.out 1
    have lo : W3.heap.size < wr.heap.size := by omega
    have Vr := vr
    have qr_0 : wr.cell? ⟨w.heap.size + 1, 0, none⟩ = some (.slice none 0 0) := var_cell Vr.out 0
    have qr_1 : wr.cell? ⟨w.heap.size + 1, 1, none⟩ = some (.slice none 0 0) := var_cell Vr.out 1
    have qr_2 : wr.cell? ⟨w.heap.size + 1, 2, none⟩ = some (.int .i64 0) := var_cell Vr.out 2
    have qr_3 : wr.cell? ⟨w.heap.size + 1, 3, none⟩ = some (.bool false) := var_cell Vr.out 3
    have lr : w.heap.size + 1 < wr.heap.size := by omega
    have fr_0 := var_frozen Vr.out 0
    have fr_1 := var_frozen Vr.out 1
    have fr_2 := var_frozen Vr.out 2
    have fr_3 := var_frozen Vr.out 3
    go_wp2_with fail
    refine bodyPost_ret (v := .agg #[.slice (some ⟨gs, 0, none⟩) d.secs.length c6, .slice (some ⟨wr.heap.size, 0, none⟩) 0 0, .int .i64 (fuseAfter d.fuse), .bool d.down]) (by simp [results, Tryz.results41, go_sem, lr, qr_0, qr_1, qr_2, qr_3, hdn]) rfl ⟨_, fp9 ++ [wr.heap.size], rfl, ?_, ?_⟩
    ·rw [HR.out]; refine diskR.low (base := W2.heap.size) ?_ (by omega)
     refine disk_own2 (d := ⟨flushSecs d (idxC (key d.cache) d.cache.length), [], fuseAfter d.fuse, d.down⟩) (hfl.kept fun a ha => ?_) ((no_cache _ _ (by simp)).low (by simp; omega)) (Rep.nodup_append_of (Rep.nodup secsR (w := wr) (base := W2.heap.size) (cs := [.slice (some ⟨gs, 0, none⟩) d.secs.length c6]) ⟨_, rfl, hfl⟩) (by simp) (fun a ha hc => by have := (HM9.out a ha).2; simp at hc; omega))
     have h9 := HM9.out a ha
     rw [Below.heap_alloc _ _ _ (by simp; omega)]
     repeat rw [heap_setCell_other _ _ _ _ (by simp; omega)]
    ·refine Below.alloc ?_ (by simp; have := hb.size; omega) _
     repeat (refine Below.setCell ?_ (by first | (simp; done) | (simp; omega)) _)
     exact hb
end Go.Proofs.YtoaaogacaibedaaGreatDoor
namespace Go.Proofs.YtoaaogacaibedaaGreatDoor
open Go.RowKit Go.Maps Go.ChangeMaps Go.MapKept Go.WideShapes
set_option maxRecDepth 2000000
set_option linter.unusedVariables false
theorem run_clear {w : World} {mb k : Nat} {cells : List Value} {idx : Int → Option Nat} (h : MapIs w mb k cells idx) :
  ∃ w', (∀ ty, (Builtin.clear_ #[104] ty #[.map (some mb)]).run Tryz.prog w = .ok (.tuple #[]) w') ∧ MapIs w' mb 0 cells (fun _ => none) ∧ w.mapTurned w' mb := by
 obtain ⟨D, ⟨es, clock, hb, hF, hs, hD⟩, hI, hi⟩ := h
 refine ⟨setBlock w mb (.map #[] clock), fun ty => ?_, ⟨.map [], ⟨#[], clock, heap_setBlock_same hb _, ⟨by simp, stamped_empty clock, by simp⟩, Nat.le_refl _, rfl⟩, isMap_empty, fun i _ => ⟨rfl, fun j hj => by cases hj⟩⟩, ⟨es, clock, #[], clock, hb, rfl⟩⟩
 simp [Builtin.clear_, run_underlying Tryz.underlying104, MapKept.run_getObj_map hb, MapKept.run_setObj_map _ hb, Result.andThen, setBlock]
theorem mapNext (w : World) {ops : Array Oper} {rest : List Oper} {o : Oper} {a : Act} {Q : Exit → Act → World → Prop} (hgd : o.guard = none) (it : Operand) (hop : o.op = Op.next it false) (mb r n : Nat) (D : DataW Value) (left : Lit → Bool) (cnt : Nat)
  (hit : a.eval it = .pointer (some ⟨r, 0, none⟩)) (h : w.ranges Tryz.prog 3 heldR mb r n D left cnt)
  (hDone : cnt = 0 → (∀ kl, left kl = false) → wpList Tryz.prog ops Q rest (a.put o.dst (.tuple #[.bool false])) w)
  (hMore : ∀ (x : Int) (c : Value) (w' : World) (cnt' : Nat), (Lit.int .i64 x).wf = true → left (.int .i64 x) = true → (∀ zd, D.atKey (.int .i64 x) zd = .held c) → w'.ranges Tryz.prog 3 heldR mb r n D (fun z => left z && !z.sameKey (.int .i64 x)) cnt' → cnt' < cnt →
   w.grownBy w' (some r) → w'.heap.size = w.heap.size → (Instr.entry (.pointer (some ⟨r, 0, none⟩))).run Tryz.prog w' = .ok (.tuple #[.int .i64 x, c]) w' → wpList Tryz.prog ops Q rest (a.put o.dst (.tuple #[.bool true, .int .i64 x, c])) w') :
  wpList Tryz.prog ops Q (o :: rest) a w := by
 refine wpList_next_ranges (α := Int) (β := Value) w hgd it hop 3 int_law heldR (Value.int .i64) (fun v => v) (fun key kl hkey => ?_) (fun v y _ => ⟨v, rfl⟩) mb r n D left cnt hit h hDone (fun x c kl y w' cnt' hkey hlk hv hat hrg hlt hgr hsz hen => ?_)
 ·obtain ⟨x, rfl, _⟩ := Maps.keyOf_int_inv Tryz.underlying3 hkey
  exact ⟨x, rfl⟩
 ·obtain ⟨x', ex, rfl, hwx⟩ := Maps.keyOf_int_inv Tryz.underlying3 hkey
  cases ex
  replace hv : some (DataW.held c, ([] : List MemPlace)) = some y := hv
  injection hv with hv
  subst hv
  exact hMore x c w' cnt' hwx hlk hat hrg hlt hgr hsz hen
theorem mapRange (w : World) {ops : Array Oper} {rest : List Oper} {o : Oper} {a : Act} {Q : Exit → Act → World → Prop} (hgd : o.guard = none) (m : Operand) (hop : o.op = Op.range 104 m) (mb n : Nat) (D : DataW Value)
  (hm : a.eval m = .map (some mb)) (hown : w.ownsMap Tryz.prog 3 heldR mb n D)
  (hK : ∀ w', w'.ranges Tryz.prog 3 heldR mb w.heap.size n D (Maps.has D) (Maps.size D) → w.grownBy w' none → w'.heap.size = w.heap.size + 1 → wpList Tryz.prog ops Q rest (a.put o.dst (.pointer (some ⟨w.heap.size, 0, none⟩))) w') :
  wpList Tryz.prog ops Q (o :: rest) a w :=
 wpList_range_own w hgd m 104 hop 3 22 int_law Tryz.underlying104 heldR mb n D hm hown hK
theorem Rep.Only.drop_new {w w' : World} {r : Nat} {fp : List Nat} (h : Rep.Only w w' (r :: fp)) (hr : w.heap.size ≤ r) : Rep.Only w w' fp :=
 ⟨h.os, h.tape, h.output, h.size, fun k hk hn => h.block k hk (by simp only [List.mem_cons, not_or]; exact ⟨by omega, hn⟩)⟩
theorem Rep.Only.grown_new {w wr w1 : World} {r : Nat} {fp : List Nat} (h : Rep.Only w wr fp) (hg : wr.grownBy w1 (some r)) (hr : w.heap.size ≤ r) : Rep.Only w w1 fp :=
 ((h.mono (fun a ha => List.mem_cons_of_mem r ha)).trans (Rep.Only.of_grown hg (fun a ha => by injection ha with ha; subst ha; simp))).drop_new hr
def idxL (left : Lit → Bool) (idx : Int → Option Nat) (i : Int) : Option Nat := if left (.int .i64 i) = true then none else idx i
def KeysOk (d : Disk) : Prop := ∀ x, x ∈ d.cache → 0 ≤ x.n ∧ x.n < (d.secs.length : Int)
theorem idxL_start {d : Disk} {D : DataW Value} {cells : List Value} {idx : Int → Option Nat} (hI : IdxOk d idx) (hk : KeysOk d) (hf : d.secs.length ≤ 1048576) (hi : ∀ i, (Lit.int .i64 i).wf = true → has D (.int .i64 i) = (idx i).isSome ∧ ∀ j, idx i = some j → ∀ z, D.atKey (.int .i64 i) z = .held (cells.getD (2 * j + 1) undef)) :
  ∀ i, (fun _ : Int => (none : Option Nat)) i = idxL (has D) idx i := by
 intro i
 show none = if has D (.int .i64 i) = true then none else idx i
 split
 ·rfl
 ·rename_i hh
  rcases he : idx i with _ | j
  ·rfl
  ·exfalso
   obtain ⟨x, hx, hxn⟩ := hI i j he
   obtain ⟨h0, h1⟩ := hk x (List.mem_of_getElem? hx)
   have hw : (Lit.int .i64 i).wf = true := WalkArith.wf_i64 (by omega)
   exact hh (by rw [(hi i hw).1, he]; rfl)
theorem idxL_step {left : Lit → Bool} {idx : Int → Option Nat} {n0 j : Nat} (hj : idx (n0 : Int) = some j) : ∀ i, idxL (fun z => left z && !z.sameKey (.int .i64 (n0 : Int))) idx i = if (n0 : Int) = i then some j else idxL left idx i := by
 intro i
 unfold idxL
 by_cases he : (n0 : Int) = i
 ·subst he
  have hs : (Lit.int .i64 (n0 : Int)).sameKey (.int .i64 (n0 : Int)) = true := by simp [Lit.sameKey]
  have e1 : (fun z : Lit => left z && !z.sameKey (.int .i64 (n0 : Int))) (.int .i64 (n0 : Int)) = false := by show (left _ && !(Lit.int .i64 (n0 : Int)).sameKey (.int .i64 (n0 : Int))) = false; rw [hs]; simp
  rw [e1]
  simp [hj]
 ·have hs : (Lit.int .i64 i).sameKey (.int .i64 (n0 : Int)) = false := Maps.sameKey_ne (fun e => he (by injection e with _ e; exact e.symm))
  have e1 : (fun z : Lit => left z && !z.sameKey (.int .i64 (n0 : Int))) (.int .i64 i) = left (.int .i64 i) := by show (left _ && !(Lit.int .i64 i).sameKey (.int .i64 (n0 : Int))) = _; rw [hs]; simp
  rw [e1, if_neg he]
set_option maxRecDepth 100000 in
set_option maxHeartbeats 2000000 in
theorem driveFlush_any (g mb m base gs c : Nat) (B : Option Addr) (c' : Nat) (vf vd : Value) (d : Disk) (sc cc : List Value) (fps fcs : List (List Nat)) (idx : Int → Option Nat) (w : World)
  (hv : w.heap[g]? = some (.cells #[.slice (some ⟨gs, 0, none⟩) d.secs.length c, .slice B d.cache.length c', vf, vd, .map (some mb)] 106 (0, 0)))
  (hm : MapIs w mb m cc idx) (hM : Mid w base (.slice (some ⟨gs, 0, none⟩) d.secs.length c) (.slice B d.cache.length c') d sc cc fps fcs (fun _ => none)) (hI : IdxOk d idx) (hk : KeysOk d) (hf : d.secs.length ≤ 1048576)
  (hg1 : ∀ a, a ∈ ((Value.slice (some ⟨gs, 0, none⟩) d.secs.length c).ownBlock.toList ++ fps.flatten) ++ ((Value.slice B d.cache.length c').ownBlock.toList ++ fcs.flatten) → a ≠ g ∧ a ≠ mb) (hgm : g ≠ mb) :
  Calls Tryz.prog 115 #[.pointer (some ⟨g, 0, none⟩)] w fun e w' => e = .returned (.tuple #[]) ∧ Hid (w'.heap[g]? = some (.cells #[.slice (some ⟨gs, 0, none⟩) d.secs.length c, .slice none 0 0, vf, vd, .map (some mb)] 106 (0, 0))) ∧
   Mid w' base (.slice (some ⟨gs, 0, none⟩) d.secs.length c) (.slice B d.cache.length c') d sc cc fps fcs idx ∧ Rep.Only w w' [g, mb, gs] := by
 have c4 : w.cell? ⟨g, 4, none⟩ = some (.map (some mb)) := var_cell hv 4
 have hgl : g < w.heap.size := World.block_lt_of_cell? w ⟨g, 4, none⟩ c4
 have hml := hm.lt
 have hgsm := hg1 gs (by simp [Value.ownBlock])
 have LT := Lib.hid hM.lts
 have HG1 := Lib.hid hg1
 have HV := Lib.hid hv
 obtain ⟨D, ho, hD, hi⟩ := hm
 have HI := Lib.hid hi
 have hgsl : gs < w.heap.size := (LT.out gs (by simp [Value.ownBlock])).2
 have hMs := hM.weak (idxL_start hI hk hf hi)
 clear hv hi hg1 hM
 go_enter Tryz.func115, Tryz.ntmps115
 go_wp2_with (first
  | (at_range; refine mapRange w rfl _ rfl mb m D rfl ho ?_; intro w0 hrg0 hg0 hs0)
  | go_in)
 have hO0 : Rep.Only w w0 [g, mb, gs] := Rep.Only.of_grown hg0 (fun a ha => by cases ha)
 have V0 := Lib.hid ((hg0.block g hgl (by simp)).trans HV.out)
 have hM0 := hMs.kept (w' := w0) (fun a ha => hg0.block a (LT.out a ha).2 (by simp))
 have hz0 : w.heap.size < w0.heap.size := by omega
 clear hg0 hs0 hMs c4
 go_frame
 go_loopw [2, 3] (fun _ _ wr => ∃ (left : Lit → Bool) (cnt : Nat), wr.ranges Tryz.prog 3 heldR mb w.heap.size m D left cnt ∧ Mid wr base (.slice (some ⟨gs, 0, none⟩) d.secs.length c) (.slice B d.cache.length c') d sc cc fps fcs (idxL left idx) ∧
   Hid (wr.heap[g]? = some (.cells #[.slice (some ⟨gs, 0, none⟩) d.secs.length c, .slice B d.cache.length c', vf, vd, .map (some mb)] 106 (0, 0))) ∧ Rep.Only w wr [g, mb, gs] ∧ w.heap.size < wr.heap.size) (fun _ _ wr => wr.rangeLeft mb w.heap.size)
 case atStart => exact ⟨_, _, hrg0, hM0, V0, hO0, hz0⟩
 case round =>
  obtain ⟨left, cnt, hrg, hM, vo, hO, hz⟩ := hrel
  clear hrg0 hM0 V0 hO0 hz0
  go_wp2_with (first
   | (at_next; refine mapNext _ rfl _ rfl mb w.heap.size m D left cnt rfl hrg ?_ ?_)
   | go_in)
  ·intro hc0 hl0
   have hM9 := hM.weak (idx' := idx) (fun i => by show (if left (.int .i64 i) = true then none else idx i) = idx i; rw [hl0, if_neg (by simp)])
   have e4 : wr.cell? ⟨g, 4, none⟩ = some (.map (some mb)) := var_cell vo.out 4
   have e1 : wr.cell? ⟨g, 1, none⟩ = some (.slice B d.cache.length c') := var_cell vo.out 1
   have f1 := var_frozen vo.out 1
   have hmr : MapIs wr mb m cc idx := ⟨D, hrg.owns, hD, HI.out⟩
   clear hM
   obtain ⟨w5, hrun, hm5, ht5⟩ := run_clear hmr
   have hg5 := ht5.grown
   have V5 := Lib.hid ((hg5.block g (by have := hO.size; omega) (by simp; omega)).trans vo.out)
   have hM5 := hM9.kept (w' := w5) (fun a ha => hg5.block a (by have := (LT.out a ha).2; omega) (by have := (HG1.out a ha).2; simp; omega))
   have hO5 : Rep.Only w w5 [g, mb, gs] := hO.trans (Rep.Only.of_grown hg5 (fun a ha => by injection ha with ha; simp [ha]))
   have e5 : w5.cell? ⟨g, 1, none⟩ = some (.slice B d.cache.length c') := var_cell V5.out 1
   have q5 : w5.frozen? ⟨g, 1, none⟩ = false := var_frozen V5.out 1
   clear hg5 ht5 hM9 hO hmr e1 f1
   go_wp2_with fail
   go_end0
   exact ⟨rfl, Lib.hid (var_set V5.out 1 (.slice none 0 0)), hM5.kept (fun a ha => heap_setCell_other _ _ _ _ (by have := (HG1.out a ha).1; simp; omega)), hO5.trans (Rep.Only.setCell _ (by simp) _)⟩
  ·intro x v w1 cnt1 hwx hlx hat hrg1 hlt hg1 hs1 hen
   rcases hix : idx x with _ | j
   ·exfalso
    obtain ⟨h1, _⟩ := HI.out x hwx
    rw [hix] at h1
    have q1 := hat (.held (.int .i64 0))
    have q2 := hat (.held (.int .i64 1))
    rw [atKey_of_not_has h1] at q1 q2
    rw [← q2] at q1
    simp at q1
   ·obtain ⟨y, hy, hyn⟩ := hI x j hix
    obtain ⟨h0, h1⟩ := hk y (List.mem_of_getElem? hy)
    obtain ⟨n0, rfl⟩ := Int.eq_ofNat_of_zero_le (show 0 ≤ x by omega)
    have hn1 : n0 < d.secs.length := by omega
    have hjl : j < d.cache.length := (List.getElem?_eq_some_iff.1 hy).1
    have hM1 := hM.kept (w' := w1) (fun a ha => hg1.block a (by have := (LT.out a ha).2; omega) (by have := (LT.out a ha).2; simp; omega))
    obtain ⟨b, off, A2, c2, x2, _, _, _, _, _, hgd⟩ := hM1.elem hjl
    have hvv : v = .slice A2 x2.b.length c2 := by
     have := (HI.out _ hwx).2 j hix (.held undef)
     rw [hat, hgd] at this
     injection this
    subst hvv
    obtain ⟨⟨u0, hcl⟩, hfr⟩ := hM1.there hn1
    have hM2 := hM1.store (k := j) hn1 (idxL_step (left := left) hix)
    rw [hgd] at hM2
    have vo1 := Lib.hid ((hg1.block g (by omega) (by simp; omega)).trans vo.out)
    have e0 : w1.cell? ⟨g, 0, none⟩ = some (.slice (some ⟨gs, 0, none⟩) d.secs.length c) := var_cell vo1.out 0
    have i1 : (0 : Int) ≤ (n0 : Int) := by omega
    have i2 : (n0 : Int) < (d.secs.length : Int) := by omega
    have hO1 := hO.grown_new hg1 (Nat.le_refl _)
    clear hM hM1 hgd hy hyn hat vo
    go_wp2_with fail
    have hg2 : w1.grownBy (w1.setCell ⟨gs, n0, none⟩ (.slice A2 x2.b.length c2)) (some gs) := ⟨rfl, rfl, rfl, by simp, fun k _ hk => heap_setCell_other w1 ⟨gs, n0, none⟩ k _ (fun e => hk (by simp [e]))⟩
    have hrg2 := hrg1.kept hg2 (fun e => by have := Option.some.inj e; omega) (fun e => by have := Option.some.inj e; omega)
    have V2 := Lib.hid ((heap_setCell_other w1 ⟨gs, n0, none⟩ g (.slice A2 x2.b.length c2) (by simp; omega)).trans vo1.out)
    have hO2 : Rep.Only w (w1.setCell ⟨gs, n0, none⟩ (.slice A2 x2.b.length c2)) [g, mb, gs] := hO1.trans (Rep.Only.setCell _ (by simp) _)
    go_roundw
    case rel => exact ⟨_, cnt1, hrg2, hM2, V2, hO2, by simp; omega⟩
    case measure => rw [hrg2.left_eq, hrg.left_eq]; exact hlt
end Go.Proofs.YtoaaogacaibedaaGreatDoor
namespace Go.Proofs.YtoaaogacaibedaaGreatDoor
open Go.RowKit Go.Maps
set_option maxRecDepth 2000000
set_option linter.unusedVariables false
set_option maxHeartbeats 1000000 in
theorem driveSync_zero (g : Nat) (vs vc vm : Value) (dn : Bool) (w : World) (hv : w.heap[g]? = some (.cells #[vs, vc, .int .i64 0, .bool dn, vm] 106 (0, 0))) :
  Calls Tryz.prog 103 #[.pointer (some ⟨g, 0, none⟩)] w fun e w' => e = .returned (.tuple #[]) ∧ Hid (w'.heap[g]? = some (.cells #[vs, vc, .int .i64 (-1), .bool true, vm] 106 (0, 0))) ∧ Rep.Only w w' [g] := by
 have HV := Lib.hid hv
 clear hv
 go_enter Tryz.func103, Tryz.ntmps103
 go_wp2_with fail
 refine (powered_zero g vs vc vm dn w HV.out).mono ?_
 rintro e w1 ⟨rfl, vv, ho⟩
 go_wp2_with fail
 go_end0
 exact ⟨rfl, vv, ho⟩
set_option maxHeartbeats 1000000 in
theorem driveSync_go (g mb m base gs c : Nat) (B : Option Addr) (c' : Nat) (f : Int) (dn : Bool) (d : Disk) (sc cc : List Value) (fps fcs : List (List Nat)) (idx : Int → Option Nat) (w : World)
  (hv : w.heap[g]? = some (.cells #[.slice (some ⟨gs, 0, none⟩) d.secs.length c, .slice B d.cache.length c', .int .i64 f, .bool dn, .map (some mb)] 106 (0, 0)))
  (hm : MapIs w mb m cc idx) (hM : Mid w base (.slice (some ⟨gs, 0, none⟩) d.secs.length c) (.slice B d.cache.length c') d sc cc fps fcs (fun _ => none)) (hI : IdxOk d idx) (hk : KeysOk d) (hf : d.secs.length ≤ 1048576)
  (hg1 : ∀ a, a ∈ ((Value.slice (some ⟨gs, 0, none⟩) d.secs.length c).ownBlock.toList ++ fps.flatten) ++ ((Value.slice B d.cache.length c').ownBlock.toList ++ fcs.flatten) → a ≠ g ∧ a ≠ mb) (hgm : g ≠ mb)
  (h0 : f ≠ 0) (h1 : -1 ≤ f) (h2 : f ≤ 1000) :
  Calls Tryz.prog 103 #[.pointer (some ⟨g, 0, none⟩)] w fun e w' => e = .returned (.tuple #[]) ∧ Hid (w'.heap[g]? = some (.cells #[.slice (some ⟨gs, 0, none⟩) d.secs.length c, .slice none 0 0, .int .i64 (fuseAfter f), .bool dn, .map (some mb)] 106 (0, 0))) ∧
   Mid w' base (.slice (some ⟨gs, 0, none⟩) d.secs.length c) (.slice B d.cache.length c') d sc cc fps fcs idx ∧ Rep.Only w w' [g, mb, gs] := by
 have HV := Lib.hid hv
 have HG1 := Lib.hid hg1
 have HI := Lib.hid hI
 have HK := Lib.hid hk
 have hlm := Lib.hid hM.lts
 have hml := hm.lt
 clear hv hg1 hI hk
 go_enter Tryz.func103, Tryz.ntmps103
 go_wp2_with fail
 refine (powered_go g (.slice (some ⟨gs, 0, none⟩) d.secs.length c) (.slice B d.cache.length c') (.map (some mb)) f dn w HV.out h0 h1 h2).mono ?_
 rintro e w1 ⟨rfl, vv, ho⟩
 have hM1 := hM.kept (w' := w1) (fun a ha => ho.block a (hlm.out a ha).2 (by have := (HG1.out a ha).1; simpa using this))
 have hm1 := hm.of_block (w' := w1) (ho.block mb hml (by simp; omega))
 clear hM hm
 go_wp2_with fail
 refine (driveFlush_any g mb m base gs c B c' (.int .i64 (fuseAfter f)) (.bool dn) d sc cc fps fcs idx w1 vv.out hm1 hM1 HI.out HK.out hf HG1.out hgm).mono ?_
 rintro e w2 ⟨rfl, v2, hM2, ho2⟩
 go_wp2_with fail
 go_end0
 exact ⟨rfl, v2, hM2, (ho.mono (by simp)).trans ho2⟩
set_option maxRecDepth 100000 in
set_option maxHeartbeats 4000000 in
theorem syncDisk_any (cs : List Value) (d : Disk) (w : World) (h : diskR.at_ w w.heap.size cs d) (hf : Fits d) :
  Calls Tryz.prog 50 #[.agg cs.toArray] w (RetDisk w (syncDisk d)) := by
 obtain ⟨Ad, cd, Bd, ed, rfl⟩ := disk_at_shape h
 have Td := h
 clear h
 have HBw := Below.refl w.heap.size w
 obtain ⟨y, hy⟩ : ∃ y, diskOk d = y := ⟨_, rfl⟩
 have HOK := Lib.hid hy
 clear hy
 have f1 := hf.1
 have f3 := hf.2.2.1
 go_enter Tryz.func50, Tryz.ntmps50
 go_wp2_with fail
 have ho := Rep.only_alloc w (.cells #[.slice Ad d.secs.length cd, .slice Bd d.cache.length ed, .int .i64 d.fuse, .bool d.down] 27)
 have hv := heap_alloc_new w (.cells #[.slice Ad d.secs.length cd, .slice Bd d.cache.length ed, .int .i64 d.fuse, .bool d.down] 27)
 have hs : (w.alloc (.cells #[.slice Ad d.secs.length cd, .slice Bd d.cache.length ed, .int .i64 d.fuse, .bool d.down] 27)).heap.size = w.heap.size + 1 := by simp
 generalize hgW : w.alloc (.cells #[.slice Ad d.secs.length cd, .slice Bd d.cache.length ed, .int .i64 d.fuse, .bool d.down] 27) = W1 at ho hv hs ⊢
 clear hgW
 have SW1 : w.heap.size ≤ W1.heap.size := ho.size
 have HBW1 := Rep.Only.below HBw ho (by omega) (fun a ha => by cases ha)
 replace Td := Rep.at_only Td ho (by omega) (fun a ha => by cases ha)
 clear HBw
 have Vd := Lib.hid hv
 clear hv ho
 have ZW1 : w.heap.size < W1.heap.size := by omega
 have EW1 := Lib.hid hs
 clear hs
 have ho := Rep.only_alloc W1 (.cells #[.slice none 0 0, .slice none 0 0, .int .i64 0, .bool false] 27)
 have hv := heap_alloc_new' W1 (.cells #[.slice none 0 0, .slice none 0 0, .int .i64 0, .bool false] 27) (n := w.heap.size + 1) (by have := EW1.out; omega)
 have hs : (W1.alloc (.cells #[.slice none 0 0, .slice none 0 0, .int .i64 0, .bool false] 27)).heap.size = W1.heap.size + 1 := by simp
 generalize hgW : W1.alloc (.cells #[.slice none 0 0, .slice none 0 0, .int .i64 0, .bool false] 27) = W2 at ho hv hs ⊢
 clear hgW
 have SW2 : W1.heap.size ≤ W2.heap.size := ho.size
 have HBW2 := Rep.Only.below HBW1 ho (by omega) (fun a ha => by cases ha)
 replace Td := Rep.at_only Td ho (by omega) (fun a ha => by cases ha)
 replace Vd := Rep.var_only Vd ho (by omega) (fun hb => by cases hb)
 clear HBW1
 have Vr := Lib.hid hv
 clear hv ho
 have ZW2 : W1.heap.size < W2.heap.size := by omega
 have YW2 : w.heap.size + 1 < W2.heap.size := by have := EW1.out; omega
 have EW2 := Lib.hid hs
 clear hs
 refine (copyDisk_any [.slice Ad d.secs.length cd, .slice Bd d.cache.length ed, .int .i64 d.fuse, .bool d.down] d W2 (Rep.more diskR Td (by omega)) hf).mono ?_
 rintro e W3 ⟨cs, fp4, rfl, Oo, hb⟩
 obtain ⟨A5, c6, B7, d8, rfl⟩ := disk_own_shape Oo
 have ho := Rep.only_of_below hb
 have L9 := Lib.hid (Rep.lt diskR Oo)
 clear hb
 have SW3 : W2.heap.size ≤ W3.heap.size := ho.size
 have HBW3 := Rep.Only.below HBW2 ho (by omega) (fun a ha => by cases ha)
 replace Td := Rep.at_only Td ho (by omega) (fun a ha => by cases ha)
 replace Vd := Rep.var_only Vd ho (by omega) (fun hb => by cases hb)
 replace Vr := Rep.var_only Vr ho (by omega) (fun hb => by cases hb)
 clear HBW2
 clear ho
 have qd_0 : W3.cell? ⟨w.heap.size, 0, none⟩ = some (.slice Ad d.secs.length cd) := var_cell Vd.out 0
 have qd_1 : W3.cell? ⟨w.heap.size, 1, none⟩ = some (.slice Bd d.cache.length ed) := var_cell Vd.out 1
 have qd_2 : W3.cell? ⟨w.heap.size, 2, none⟩ = some (.int .i64 d.fuse) := var_cell Vd.out 2
 have qd_3 : W3.cell? ⟨w.heap.size, 3, none⟩ = some (.bool d.down) := var_cell Vd.out 3
 have ld : w.heap.size < W3.heap.size := by omega
 go_wp2_with fail
 clear qd_0 qd_1 qd_2 qd_3 ld
 have ho := Rep.only_alloc W3 (.cells #[.slice A5 d.secs.length c6, .slice B7 d.cache.length d8, .int .i64 d.fuse, .bool d.down] 27)
 have hv := heap_alloc_new W3 (.cells #[.slice A5 d.secs.length c6, .slice B7 d.cache.length d8, .int .i64 d.fuse, .bool d.down] 27)
 have hs : (W3.alloc (.cells #[.slice A5 d.secs.length c6, .slice B7 d.cache.length d8, .int .i64 d.fuse, .bool d.down] 27)).heap.size = W3.heap.size + 1 := by simp
 generalize hgW : W3.alloc (.cells #[.slice A5 d.secs.length c6, .slice B7 d.cache.length d8, .int .i64 d.fuse, .bool d.down] 27) = W10 at ho hv hs ⊢
 clear hgW
 have SW10 : W3.heap.size ≤ W10.heap.size := ho.size
 have HBW10 := Rep.Only.below HBW3 ho (by omega) (fun a ha => by cases ha)
 replace Td := Rep.at_only Td ho (by omega) (fun a ha => by cases ha)
 replace Oo := Rep.own_only Oo ho (fun a ha hb => by cases hb)
 replace Vd := Rep.var_only Vd ho (by omega) (fun hb => by cases hb)
 replace Vr := Rep.var_only Vr ho (by omega) (fun hb => by cases hb)
 clear HBW3
 have Vo := Lib.hid hv
 clear hv ho
 have ZW10 : W3.heap.size < W10.heap.size := by omega
 have EW10 := Lib.hid hs
 clear hs
 refine (diskOk_any [.slice Ad d.secs.length cd, .slice Bd d.cache.length ed, .int .i64 d.fuse, .bool d.down] d W10 (Rep.more diskR Td (by omega)) hf).mono ?_
 rintro e W11 ⟨rfl, hb⟩
 rw [HOK.out]
 have ho := Rep.only_of_below hb
 clear hb
 have SW11 : W10.heap.size ≤ W11.heap.size := ho.size
 have HBW11 := Rep.Only.below HBW10 ho (by omega) (fun a ha => by cases ha)
 replace Td := Rep.at_only Td ho (by omega) (fun a ha => by cases ha)
 replace Oo := Rep.own_only Oo ho (fun a ha hb => by cases hb)
 replace Vd := Rep.var_only Vd ho (by omega) (fun hb => by cases hb)
 replace Vr := Rep.var_only Vr ho (by omega) (fun hb => by cases hb)
 replace Vo := Rep.var_only Vo ho (by omega) (fun hb => by cases hb)
 clear HBW10
 clear ho
 cases y with
 | false =>
  have HR := Lib.hid (syncDisk_no (fun hh => diskOk_bad HOK.out hh.1))
  have qo_0 : W11.cell? ⟨W3.heap.size, 0, none⟩ = some (.slice A5 d.secs.length c6) := var_cell Vo.out 0
  have qo_1 : W11.cell? ⟨W3.heap.size, 1, none⟩ = some (.slice B7 d.cache.length d8) := var_cell Vo.out 1
  have qo_2 : W11.cell? ⟨W3.heap.size, 2, none⟩ = some (.int .i64 d.fuse) := var_cell Vo.out 2
  have qo_3 : W11.cell? ⟨W3.heap.size, 3, none⟩ = some (.bool d.down) := var_cell Vo.out 3
  have lo : W3.heap.size < W11.heap.size := by omega
  have qd_0 : W11.cell? ⟨w.heap.size, 0, none⟩ = some (.slice Ad d.secs.length cd) := var_cell Vd.out 0
  have qd_1 : W11.cell? ⟨w.heap.size, 1, none⟩ = some (.slice Bd d.cache.length ed) := var_cell Vd.out 1
  have qd_2 : W11.cell? ⟨w.heap.size, 2, none⟩ = some (.int .i64 d.fuse) := var_cell Vd.out 2
  have qd_3 : W11.cell? ⟨w.heap.size, 3, none⟩ = some (.bool d.down) := var_cell Vd.out 3
  have ld : w.heap.size < W11.heap.size := by omega
  have qr_0 : W11.cell? ⟨w.heap.size + 1, 0, none⟩ = some (.slice none 0 0) := var_cell Vr.out 0
  have qr_1 : W11.cell? ⟨w.heap.size + 1, 1, none⟩ = some (.slice none 0 0) := var_cell Vr.out 1
  have qr_2 : W11.cell? ⟨w.heap.size + 1, 2, none⟩ = some (.int .i64 0) := var_cell Vr.out 2
  have qr_3 : W11.cell? ⟨w.heap.size + 1, 3, none⟩ = some (.bool false) := var_cell Vr.out 3
  have lr : w.heap.size + 1 < W11.heap.size := by omega
  have fr_0 := var_frozen Vr.out 0
  have fr_1 := var_frozen Vr.out 1
  have fr_2 := var_frozen Vr.out 2
  have fr_3 := var_frozen Vr.out 3
  go_wp2_with fail
  refine bodyPost_ret (v := .agg #[.slice A5 d.secs.length c6, .slice B7 d.cache.length d8, .int .i64 d.fuse, .bool d.down]) (by simp [results, Tryz.results50, go_sem, qr_0, qr_1, qr_2, qr_3]) rfl ⟨_, fp4, rfl, ?_, ?_⟩
  ·rw [HR.out]; refine diskR.low (base := W2.heap.size) ?_ (by omega)
   repeat (refine Rep.setLow ?_ (by first | (simp; done) | (simp; omega)) _)
   exact Oo
  ·repeat (refine Below.setCell ?_ (by first | (simp; done) | (simp; omega)) _)
   exact HBW11
 | true =>
  have hg := diskOk_good HOK.out
  rcases hdn : d.down with _ | _
  rotate_left
  ·have HR := Lib.hid (syncDisk_no (d := d) (fun hh => by have := hh.2; rw [hdn] at this; cases this))
   have qo_0 : W11.cell? ⟨W3.heap.size, 0, none⟩ = some (.slice A5 d.secs.length c6) := var_cell Vo.out 0
   have qo_1 : W11.cell? ⟨W3.heap.size, 1, none⟩ = some (.slice B7 d.cache.length d8) := var_cell Vo.out 1
   have qo_2 : W11.cell? ⟨W3.heap.size, 2, none⟩ = some (.int .i64 d.fuse) := var_cell Vo.out 2
   have qo_3 : W11.cell? ⟨W3.heap.size, 3, none⟩ = some (.bool d.down) := var_cell Vo.out 3
   have lo : W3.heap.size < W11.heap.size := by omega
   have qd_0 : W11.cell? ⟨w.heap.size, 0, none⟩ = some (.slice Ad d.secs.length cd) := var_cell Vd.out 0
   have qd_1 : W11.cell? ⟨w.heap.size, 1, none⟩ = some (.slice Bd d.cache.length ed) := var_cell Vd.out 1
   have qd_2 : W11.cell? ⟨w.heap.size, 2, none⟩ = some (.int .i64 d.fuse) := var_cell Vd.out 2
   have qd_3 : W11.cell? ⟨w.heap.size, 3, none⟩ = some (.bool d.down) := var_cell Vd.out 3
   have ld : w.heap.size < W11.heap.size := by omega
   have qr_0 : W11.cell? ⟨w.heap.size + 1, 0, none⟩ = some (.slice none 0 0) := var_cell Vr.out 0
   have qr_1 : W11.cell? ⟨w.heap.size + 1, 1, none⟩ = some (.slice none 0 0) := var_cell Vr.out 1
   have qr_2 : W11.cell? ⟨w.heap.size + 1, 2, none⟩ = some (.int .i64 0) := var_cell Vr.out 2
   have qr_3 : W11.cell? ⟨w.heap.size + 1, 3, none⟩ = some (.bool false) := var_cell Vr.out 3
   have lr : w.heap.size + 1 < W11.heap.size := by omega
   have fr_0 := var_frozen Vr.out 0
   have fr_1 := var_frozen Vr.out 1
   have fr_2 := var_frozen Vr.out 2
   have fr_3 := var_frozen Vr.out 3
   go_wp2_with fail
   refine bodyPost_ret (v := .agg #[.slice A5 d.secs.length c6, .slice B7 d.cache.length d8, .int .i64 d.fuse, .bool d.down]) (by simp [results, Tryz.results50, go_sem, qr_0, qr_1, qr_2, qr_3, hdn]) rfl ⟨_, fp4, rfl, ?_, ?_⟩
   ·rw [HR.out]; refine diskR.low (base := W2.heap.size) ?_ (by omega)
    repeat (refine Rep.setLow ?_ (by first | (simp; done) | (simp; omega)) _)
    exact Oo
   ·repeat (refine Below.setCell ?_ (by first | (simp; done) | (simp; omega)) _)
    exact HBW11
  have HG : Hid (SyncGood d) := Lib.hid ⟨hg, hdn⟩
  have hfu1 : -1 ≤ d.fuse := hg.2.2.2.1
  have hfu2 : d.fuse ≤ 1000 := hg.2.2.2.2
  have h30 : d.cache.length ≤ 30 := hg.1.2.2
  obtain ⟨u1, u2, ff, fc, hcs, ho1, ho2, hfp, hnd⟩ := disk_inv Oo
  have e1 : u1 = .slice A5 d.secs.length c6 := by injection hcs with h1 _; exact h1.symm
  have e2 : u2 = .slice B7 d.cache.length d8 := by injection hcs with _ h2; injection h2 with h2 _; exact h2.symm
  subst e1 e2
  clear hcs
  have HN := Lib.hid hnd
  have HFP := Lib.hid hfp
  clear hnd hfp Oo
  have LS := Lib.hid (fun a ha => L9.out a (by rw [HFP.out]; exact List.mem_append_left _ ha))
  have LC := Lib.hid (fun a ha => L9.out a (by rw [HFP.out]; exact List.mem_append_right _ ha))
  obtain ⟨sc, cells, fps, fcs, hff, hfc, hM⟩ := Mid.start ho1 ho2 (by rw [← HFP.out]; exact HN.out)
  have LM := Lib.hid (fun a (ha : a ∈ ((Value.slice A5 d.secs.length c6).ownBlock.toList ++ fps.flatten) ++ ((Value.slice B7 d.cache.length d8).ownBlock.toList ++ fcs.flatten)) => (show W2.heap.size ≤ a ∧ a < W3.heap.size from by rcases List.mem_append.1 ha with h | h; exact LS.out a (by rw [hff]; exact h); exact LC.out a (by rw [hfc]; exact h)))
  have hl1 : 1 ≤ d.secs.length := hg.1.1
  have f40 : d.secs.length ≤ 40 := hg.1.2.1
  have HKO : Hid (KeysOk d) := Lib.hid (fun x hx => ⟨(hg.2.2.1 x hx).1, (hg.2.2.1 x hx).2.1⟩)
  obtain ⟨gs, hgs, hgs1, _⟩ := hM.block hl1
  subst hgs
  have hrd : Reads W11 W11.heap.size 2 B7 d.cache.length cells := Reads.of_own hM.crow
  have HE := Lib.hid (fun i x (hx : d.cache[i]? = some x) => (show wrR.at_ W11 W11.heap.size (Rep.seg 2 i cells) x from by obtain ⟨f, hf⟩ := Rep.getElem?_of_lt (xs := fcs) rfl (show i < fcs.length by rw [hM.clen]; exact (List.getElem?_eq_some_iff.1 hx).1); exact Rep.reads wrR (hM.cache i x f hx hf)))
  have HW := Lib.hid (wf_key hg)
  clear hg hff hfc
  have qo_0 : W11.cell? ⟨W3.heap.size, 0, none⟩ = some (.slice (some ⟨gs, 0, none⟩) d.secs.length c6) := var_cell Vo.out 0
  have qo_1 : W11.cell? ⟨W3.heap.size, 1, none⟩ = some (.slice B7 d.cache.length d8) := var_cell Vo.out 1
  have qo_2 : W11.cell? ⟨W3.heap.size, 2, none⟩ = some (.int .i64 d.fuse) := var_cell Vo.out 2
  have qo_3 : W11.cell? ⟨W3.heap.size, 3, none⟩ = some (.bool d.down) := var_cell Vo.out 3
  have lo : W3.heap.size < W11.heap.size := by omega
  have qd_0 : W11.cell? ⟨w.heap.size, 0, none⟩ = some (.slice Ad d.secs.length cd) := var_cell Vd.out 0
  have qd_1 : W11.cell? ⟨w.heap.size, 1, none⟩ = some (.slice Bd d.cache.length ed) := var_cell Vd.out 1
  have qd_2 : W11.cell? ⟨w.heap.size, 2, none⟩ = some (.int .i64 d.fuse) := var_cell Vd.out 2
  have qd_3 : W11.cell? ⟨w.heap.size, 3, none⟩ = some (.bool d.down) := var_cell Vd.out 3
  have ld : w.heap.size < W11.heap.size := by omega
  go_wp2_with fail
  clear qo_0 qo_1 qo_2 qo_3 lo qd_0 qd_1 qd_2 qd_3 ld
  have hD := driveOf_any (some ⟨gs, 0, none⟩) B7 c6 d8 d cells W11 hrd HE.out f3 HW.out
  rw [hdn] at hD
  refine hD.mono ?_
  have HDN := Lib.hid hdn
  clear hD hdn
  rintro e W12 ⟨gd, mb, rfl, vd, hmd, hb, hgd1, hgd2, hgd3⟩
  have ho := Rep.only_of_below hb
  replace hM := hM.kept (fun a ha => hb.block a (by have := (LM.out a ha).2; omega))
  replace ho1 := ho1.of_below hb
  replace ho2 := ho2.of_below hb
  clear hb hrd HE
  have SW12 : W11.heap.size ≤ W12.heap.size := ho.size
  have HBW12 := Rep.Only.below HBW11 ho (by omega) (fun a ha => by cases ha)
  replace Td := Rep.at_only Td ho (by omega) (fun a ha => by cases ha)
  replace Vd := Rep.var_only Vd ho (by omega) (fun hb => by cases hb)
  replace Vr := Rep.var_only Vr ho (by omega) (fun hb => by cases hb)
  replace Vo := Rep.var_only Vo ho (by omega) (fun hb => by cases hb)
  clear HBW11
  clear ho
  have Vd2 := Lib.hid vd
  clear vd
  have hgl : gd < W12.heap.size := World.block_lt_of_cell? _ ⟨gd, 0, none⟩ (var_cell Vd2.out 0)
  have hml := hmd.lt
  by_cases hz : d.fuse = 0
  ·have HR := Lib.hid (syncDisk_zero HG.out hz)
   have Vz : Hid (W12.heap[gd]? = some (.cells #[.slice (some ⟨gs, 0, none⟩) d.secs.length c6, .slice B7 d.cache.length d8, .int .i64 0, .bool d.down, .map (some mb)] 106 (0, 0))) := Lib.hid (by have := Vd2.out; rw [hz] at this; exact this)
   clear hz
   go_wp2_with fail
   refine (driveSync_zero gd (.slice (some ⟨gs, 0, none⟩) d.secs.length c6) (.slice B7 d.cache.length d8) (.map (some mb)) d.down W12 Vz.out).mono ?_
   rintro e W13 ⟨rfl, Vd3, ho⟩
   have LF := Lib.hid (fun a (ha : a ∈ [gd]) => (by simp at ha; omega : W11.heap.size ≤ a ∧ a < W12.heap.size))
   replace ho1 := ho1.kept (fun a ha => ho.block a (by have := (LS.out a ha).2; omega) (by have := (LS.out a ha).2; simp; omega))
   replace ho2 := ho2.kept (fun a ha => ho.block a (by have := (LC.out a ha).2; omega) (by have := (LC.out a ha).2; simp; omega))
   have SW13 : W12.heap.size ≤ W13.heap.size := ho.size
   have HBW13 := Rep.Only.below HBW12 ho (by omega) (fun a ha => by have := (LF.out a ha).1; omega)
   replace Td := Rep.at_only Td ho (by omega) (fun a ha => by have := (LF.out a ha).1; omega)
   replace Vd := Rep.var_only Vd ho (by omega) (fun hb => by have := LF.out _ hb; omega)
   replace Vr := Rep.var_only Vr ho (by omega) (fun hb => by have := LF.out _ hb; omega)
   replace Vo := Rep.var_only Vo ho (by omega) (fun hb => by have := LF.out _ hb; omega)
   clear HBW12
   clear ho LF
   have d0 : W13.cell? ⟨gd, 0, none⟩ = some (.slice (some ⟨gs, 0, none⟩) d.secs.length c6) := var_cell Vd3.out 0
   have d1 : W13.cell? ⟨gd, 1, none⟩ = some (.slice B7 d.cache.length d8) := var_cell Vd3.out 1
   have d2 : W13.cell? ⟨gd, 2, none⟩ = some (.int .i64 (-1)) := var_cell Vd3.out 2
   have d3 : W13.cell? ⟨gd, 3, none⟩ = some (.bool true) := var_cell Vd3.out 3
   have qr_0 : W13.cell? ⟨w.heap.size + 1, 0, none⟩ = some (.slice none 0 0) := var_cell Vr.out 0
   have qr_1 : W13.cell? ⟨w.heap.size + 1, 1, none⟩ = some (.slice none 0 0) := var_cell Vr.out 1
   have qr_2 : W13.cell? ⟨w.heap.size + 1, 2, none⟩ = some (.int .i64 0) := var_cell Vr.out 2
   have qr_3 : W13.cell? ⟨w.heap.size + 1, 3, none⟩ = some (.bool false) := var_cell Vr.out 3
   have lr : w.heap.size + 1 < W13.heap.size := by omega
   have fr_0 := var_frozen Vr.out 0
   have fr_1 := var_frozen Vr.out 1
   have fr_2 := var_frozen Vr.out 2
   have fr_3 := var_frozen Vr.out 3
   go_wp2_with fail
   refine bodyPost_ret (v := .agg #[.slice (some ⟨gs, 0, none⟩) d.secs.length c6, .slice B7 d.cache.length d8, .int .i64 (-1), .bool true]) (by simp [results, Tryz.results50, go_sem, qr_0, qr_1, qr_2, qr_3]) rfl ⟨_, ff ++ fc, rfl, ?_, ?_⟩
   ·rw [HR.out]; refine diskR.low (base := W2.heap.size) ?_ (by omega)
    repeat (refine Rep.setLow ?_ (by first | (simp; done) | (simp; omega)) _)
    exact disk_own2 (d := ⟨d.secs, d.cache, -1, true⟩) ho1 ho2 (by rw [← HFP.out]; exact HN.out)
   ·repeat (refine Below.setCell ?_ (by first | (simp; done) | (simp; omega)) _)
    exact HBW13
  have HR := Lib.hid (syncDisk_go HG.out hz)
  have HZ := Lib.hid hz
  clear hz
  go_wp2_with fail
  refine (driveSync_go gd mb d.cache.length W2.heap.size gs c6 B7 d8 d.fuse d.down d sc cells fps fcs _ W12 Vd2.out hmd hM (idx_ok d _ (Nat.le_refl _)) HKO.out f1 (fun a ha => by have := (LM.out a ha).2; constructor <;> omega) hgd3 HZ.out hfu1 hfu2).mono ?_
  rintro e W14 ⟨rfl, Vd3, hM3, ho⟩
  have hgs2 : gs < W11.heap.size := by have := (LM.out gs (by simp [Value.ownBlock])).2; omega
  have LF := Lib.hid (fun a (ha : a ∈ [gd, mb, gs]) => (by simp at ha; omega : W2.heap.size ≤ a ∧ a < W12.heap.size))
  have SW14 : W12.heap.size ≤ W14.heap.size := ho.size
  have HBW14 := Rep.Only.below HBW12 ho (by omega) (fun a ha => by have := (LF.out a ha).1; omega)
  replace Td := Rep.at_only Td ho (by omega) (fun a ha => by have := (LF.out a ha).1; omega)
  replace Vd := Rep.var_only Vd ho (by omega) (fun hb => by have := LF.out _ hb; omega)
  replace Vr := Rep.var_only Vr ho (by omega) (fun hb => by have := LF.out _ hb; omega)
  clear HBW12
  clear ho LF
  obtain ⟨fp9, hfl, hmem⟩ := hM3.done (idx_ok d _ (Nat.le_refl _))
  clear hM3 hmem hM
  have d0 : W14.cell? ⟨gd, 0, none⟩ = some (.slice (some ⟨gs, 0, none⟩) d.secs.length c6) := var_cell Vd3.out 0
  have d1 : W14.cell? ⟨gd, 1, none⟩ = some (.slice none 0 0) := var_cell Vd3.out 1
  have d2 : W14.cell? ⟨gd, 2, none⟩ = some (.int .i64 (fuseAfter d.fuse)) := var_cell Vd3.out 2
  have d3 : W14.cell? ⟨gd, 3, none⟩ = some (.bool d.down) := var_cell Vd3.out 3
  have hl7 := flushSecs_length d (idxC (key d.cache) d.cache.length)
  have qr_0 : W14.cell? ⟨w.heap.size + 1, 0, none⟩ = some (.slice none 0 0) := var_cell Vr.out 0
  have qr_1 : W14.cell? ⟨w.heap.size + 1, 1, none⟩ = some (.slice none 0 0) := var_cell Vr.out 1
  have qr_2 : W14.cell? ⟨w.heap.size + 1, 2, none⟩ = some (.int .i64 0) := var_cell Vr.out 2
  have qr_3 : W14.cell? ⟨w.heap.size + 1, 3, none⟩ = some (.bool false) := var_cell Vr.out 3
  have lr : w.heap.size + 1 < W14.heap.size := by omega
  have fr_0 := var_frozen Vr.out 0
  have fr_1 := var_frozen Vr.out 1
  have fr_2 := var_frozen Vr.out 2
  have fr_3 := var_frozen Vr.out 3
  go_wp2_with fail
  refine bodyPost_ret (v := .agg #[.slice (some ⟨gs, 0, none⟩) d.secs.length c6, .slice none 0 0, .int .i64 (fuseAfter d.fuse), .bool d.down]) (by simp [results, Tryz.results50, go_sem, qr_0, qr_1, qr_2, qr_3]) rfl ⟨_, fp9 ++ [], rfl, ?_, ?_⟩
  ·rw [HR.out]; refine diskR.low (base := W2.heap.size) ?_ (by omega)
   repeat (refine Rep.setLow ?_ (by first | (simp; done) | (simp; omega)) _)
   exact disk_own2 (d := ⟨flushSecs d (idxC (key d.cache) d.cache.length), [], fuseAfter d.fuse, d.down⟩) hfl (nil_cache _ _ _) (by simpa using Rep.nodup secsR (w := W14) (base := W2.heap.size) (cs := [.slice (some ⟨gs, 0, none⟩) d.secs.length c6]) ⟨_, rfl, hfl⟩)
  ·repeat (refine Below.setCell ?_ (by first | (simp; done) | (simp; omega)) _)
   exact HBW14
end Go.Proofs.YtoaaogacaibedaaGreatDoor
