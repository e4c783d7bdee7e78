/- syncDiskS_any (written by gen_sync.py). -/
import Derived.Test.YtoaaogacaibedaaFlush
namespace Go.Proofs.Ytoaaogacaibedaa
open Go.RowKit Go.Maps
set_option linter.unusedVariables false

set_option maxRecDepth 100000 in
set_option maxHeartbeats 4000000 in
theorem syncDiskS_any (cs : List Value) (d : Disk) (w : World) (h : diskR.at_ w w.heap.size cs d) (hf : Fits d) :
    Calls Try.prog 41 #[.agg cs.toArray] w (RetDisk w (syncDisk d)) := by
  obtain ⟨Ad, cd, Bd, ed, rfl⟩ := disk_at_shape h
  have Td := h
  clear h
  have HBw := Below.refl w.heap.size w
  obtain ⟨y, hy⟩ : ∃ y, diskOk d = y := ⟨_, rfl⟩
  have HOK := Lib.hid hy
  clear hy
  have f1 := hf.1
  have f3 := hf.2.2.1
  go_enter Try.func41, Try.ntmps41
  go_wp2_with fail
  have ho := Rep.only_alloc w (.cells #[.slice Ad d.secs.length cd, .slice Bd d.cache.length ed, .int .i64 d.fuse, .bool d.down] 37)
  have hv := heap_alloc_new w (.cells #[.slice Ad d.secs.length cd, .slice Bd d.cache.length ed, .int .i64 d.fuse, .bool d.down] 37)
  have hs : (w.alloc (.cells #[.slice Ad d.secs.length cd, .slice Bd d.cache.length ed, .int .i64 d.fuse, .bool d.down] 37)).heap.size = w.heap.size + 1 := by simp
  generalize hgW : w.alloc (.cells #[.slice Ad d.secs.length cd, .slice Bd d.cache.length ed, .int .i64 d.fuse, .bool d.down] 37) = W1 at ho hv hs ⊢
  clear hgW
  have SW1 : w.heap.size ≤ W1.heap.size := ho.size
  have HBW1 := Rep.Only.below HBw ho (by omega) (fun a ha => by cases ha)
  replace Td := Rep.at_only Td ho (by omega) (fun a ha => by cases ha)
  clear HBw
  have Vd := Lib.hid hv
  clear hv ho
  have ZW1 : w.heap.size < W1.heap.size := by omega
  have EW1 := Lib.hid hs
  clear hs
  have ho := Rep.only_alloc W1 (.cells #[.slice none 0 0, .slice none 0 0, .int .i64 0, .bool false] 37)
  have hv := heap_alloc_new' W1 (.cells #[.slice none 0 0, .slice none 0 0, .int .i64 0, .bool false] 37) (n := w.heap.size + 1) (by have := EW1.out; omega)
  have hs : (W1.alloc (.cells #[.slice none 0 0, .slice none 0 0, .int .i64 0, .bool false] 37)).heap.size = W1.heap.size + 1 := by simp
  generalize hgW : W1.alloc (.cells #[.slice none 0 0, .slice none 0 0, .int .i64 0, .bool false] 37) = W2 at ho hv hs ⊢
  clear hgW
  have SW2 : W1.heap.size ≤ W2.heap.size := ho.size
  have HBW2 := Rep.Only.below HBW1 ho (by omega) (fun a ha => by cases ha)
  replace Td := Rep.at_only Td ho (by omega) (fun a ha => by cases ha)
  replace Vd := Rep.var_only Vd ho (by omega) (fun hb => by cases hb)
  clear HBW1
  have Vr := Lib.hid hv
  clear hv ho
  have ZW2 : W1.heap.size < W2.heap.size := by omega
  have YW2 : w.heap.size + 1 < W2.heap.size := by have := EW1.out; omega
  have EW2 := Lib.hid hs
  clear hs
  refine (l2Copy_any [.slice Ad d.secs.length cd, .slice Bd d.cache.length ed, .int .i64 d.fuse, .bool d.down] d W2 (Rep.more diskR Td (by omega)) hf).mono ?_
  rintro e W3 ⟨cs, fp4, rfl, Oo, hb⟩
  obtain ⟨A5, c6, B7, d8, rfl⟩ := disk_own_shape Oo
  have ho := Rep.only_of_below hb
  have L9 := Lib.hid (Rep.lt diskR Oo)
  clear hb
  have SW3 : W2.heap.size ≤ W3.heap.size := ho.size
  have HBW3 := Rep.Only.below HBW2 ho (by omega) (fun a ha => by cases ha)
  replace Td := Rep.at_only Td ho (by omega) (fun a ha => by cases ha)
  replace Vd := Rep.var_only Vd ho (by omega) (fun hb => by cases hb)
  replace Vr := Rep.var_only Vr ho (by omega) (fun hb => by cases hb)
  clear HBW2
  clear ho
  have qd_0 : W3.cell? ⟨w.heap.size, 0, none⟩ = some (.slice Ad d.secs.length cd) := var_cell Vd.out 0
  have qd_1 : W3.cell? ⟨w.heap.size, 1, none⟩ = some (.slice Bd d.cache.length ed) := var_cell Vd.out 1
  have qd_2 : W3.cell? ⟨w.heap.size, 2, none⟩ = some (.int .i64 d.fuse) := var_cell Vd.out 2
  have qd_3 : W3.cell? ⟨w.heap.size, 3, none⟩ = some (.bool d.down) := var_cell Vd.out 3
  have ld : w.heap.size < W3.heap.size := by omega
  go_wp2_with fail
  clear qd_0 qd_1 qd_2 qd_3 ld
  have ho := Rep.only_alloc W3 (.cells #[.slice A5 d.secs.length c6, .slice B7 d.cache.length d8, .int .i64 d.fuse, .bool d.down] 37)
  have hv := heap_alloc_new W3 (.cells #[.slice A5 d.secs.length c6, .slice B7 d.cache.length d8, .int .i64 d.fuse, .bool d.down] 37)
  have hs : (W3.alloc (.cells #[.slice A5 d.secs.length c6, .slice B7 d.cache.length d8, .int .i64 d.fuse, .bool d.down] 37)).heap.size = W3.heap.size + 1 := by simp
  generalize hgW : W3.alloc (.cells #[.slice A5 d.secs.length c6, .slice B7 d.cache.length d8, .int .i64 d.fuse, .bool d.down] 37) = W10 at ho hv hs ⊢
  clear hgW
  have SW10 : W3.heap.size ≤ W10.heap.size := ho.size
  have HBW10 := Rep.Only.below HBW3 ho (by omega) (fun a ha => by cases ha)
  replace Td := Rep.at_only Td ho (by omega) (fun a ha => by cases ha)
  replace Oo := Rep.own_only Oo ho (fun a ha hb => by cases hb)
  replace Vd := Rep.var_only Vd ho (by omega) (fun hb => by cases hb)
  replace Vr := Rep.var_only Vr ho (by omega) (fun hb => by cases hb)
  clear HBW3
  have Vo := Lib.hid hv
  clear hv ho
  have ZW10 : W3.heap.size < W10.heap.size := by omega
  have EW10 := Lib.hid hs
  clear hs
  refine (diskOkS_any [.slice Ad d.secs.length cd, .slice Bd d.cache.length ed, .int .i64 d.fuse, .bool d.down] d W10 (Rep.more diskR Td (by omega)) hf).mono ?_
  rintro e W11 ⟨rfl, hb⟩
  rw [HOK.out]
  have ho := Rep.only_of_below hb
  clear hb
  have SW11 : W10.heap.size ≤ W11.heap.size := ho.size
  have HBW11 := Rep.Only.below HBW10 ho (by omega) (fun a ha => by cases ha)
  replace Td := Rep.at_only Td ho (by omega) (fun a ha => by cases ha)
  replace Oo := Rep.own_only Oo ho (fun a ha hb => by cases hb)
  replace Vd := Rep.var_only Vd ho (by omega) (fun hb => by cases hb)
  replace Vr := Rep.var_only Vr ho (by omega) (fun hb => by cases hb)
  replace Vo := Rep.var_only Vo ho (by omega) (fun hb => by cases hb)
  clear HBW10
  clear ho
  cases y with
  | false =>
    have HR := Lib.hid (syncDisk_no (fun hh => diskOk_bad HOK.out hh.1))
    have qo_0 : W11.cell? ⟨W3.heap.size, 0, none⟩ = some (.slice A5 d.secs.length c6) := var_cell Vo.out 0
    have qo_1 : W11.cell? ⟨W3.heap.size, 1, none⟩ = some (.slice B7 d.cache.length d8) := var_cell Vo.out 1
    have qo_2 : W11.cell? ⟨W3.heap.size, 2, none⟩ = some (.int .i64 d.fuse) := var_cell Vo.out 2
    have qo_3 : W11.cell? ⟨W3.heap.size, 3, none⟩ = some (.bool d.down) := var_cell Vo.out 3
    have lo : W3.heap.size < W11.heap.size := by omega
    have qd_0 : W11.cell? ⟨w.heap.size, 0, none⟩ = some (.slice Ad d.secs.length cd) := var_cell Vd.out 0
    have qd_1 : W11.cell? ⟨w.heap.size, 1, none⟩ = some (.slice Bd d.cache.length ed) := var_cell Vd.out 1
    have qd_2 : W11.cell? ⟨w.heap.size, 2, none⟩ = some (.int .i64 d.fuse) := var_cell Vd.out 2
    have qd_3 : W11.cell? ⟨w.heap.size, 3, none⟩ = some (.bool d.down) := var_cell Vd.out 3
    have ld : w.heap.size < W11.heap.size := by omega
    have qr_0 : W11.cell? ⟨w.heap.size + 1, 0, none⟩ = some (.slice none 0 0) := var_cell Vr.out 0
    have qr_1 : W11.cell? ⟨w.heap.size + 1, 1, none⟩ = some (.slice none 0 0) := var_cell Vr.out 1
    have qr_2 : W11.cell? ⟨w.heap.size + 1, 2, none⟩ = some (.int .i64 0) := var_cell Vr.out 2
    have qr_3 : W11.cell? ⟨w.heap.size + 1, 3, none⟩ = some (.bool false) := var_cell Vr.out 3
    have lr : w.heap.size + 1 < W11.heap.size := by omega
    have fr_0 := var_frozen Vr.out 0
    have fr_1 := var_frozen Vr.out 1
    have fr_2 := var_frozen Vr.out 2
    have fr_3 := var_frozen Vr.out 3
    go_wp2_with fail
    refine bodyPost_ret (v := .agg #[.slice A5 d.secs.length c6, .slice B7 d.cache.length d8, .int .i64 d.fuse, .bool d.down]) (by simp [results, Try.results41, go_sem, qr_0, qr_1, qr_2, qr_3]) rfl ⟨_, fp4, rfl, ?_, ?_⟩
    · rw [HR.out]; refine diskR.low (base := W2.heap.size) ?_ (by omega)
      repeat (refine Rep.setLow ?_ (by first | (simp; done) | (simp; omega)) _)
      exact Oo
    · repeat (refine Below.setCell ?_ (by first | (simp; done) | (simp; omega)) _)
      exact HBW11
  | true =>
    have hg := diskOk_good HOK.out
    rcases hdn : d.down with _ | _
    rotate_left
    · have HR := Lib.hid (syncDisk_no (d := d) (fun hh => by have := hh.2; rw [hdn] at this; cases this))
      have qo_0 : W11.cell? ⟨W3.heap.size, 0, none⟩ = some (.slice A5 d.secs.length c6) := var_cell Vo.out 0
      have qo_1 : W11.cell? ⟨W3.heap.size, 1, none⟩ = some (.slice B7 d.cache.length d8) := var_cell Vo.out 1
      have qo_2 : W11.cell? ⟨W3.heap.size, 2, none⟩ = some (.int .i64 d.fuse) := var_cell Vo.out 2
      have qo_3 : W11.cell? ⟨W3.heap.size, 3, none⟩ = some (.bool d.down) := var_cell Vo.out 3
      have lo : W3.heap.size < W11.heap.size := by omega
      have qd_0 : W11.cell? ⟨w.heap.size, 0, none⟩ = some (.slice Ad d.secs.length cd) := var_cell Vd.out 0
      have qd_1 : W11.cell? ⟨w.heap.size, 1, none⟩ = some (.slice Bd d.cache.length ed) := var_cell Vd.out 1
      have qd_2 : W11.cell? ⟨w.heap.size, 2, none⟩ = some (.int .i64 d.fuse) := var_cell Vd.out 2
      have qd_3 : W11.cell? ⟨w.heap.size, 3, none⟩ = some (.bool d.down) := var_cell Vd.out 3
      have ld : w.heap.size < W11.heap.size := by omega
      have qr_0 : W11.cell? ⟨w.heap.size + 1, 0, none⟩ = some (.slice none 0 0) := var_cell Vr.out 0
      have qr_1 : W11.cell? ⟨w.heap.size + 1, 1, none⟩ = some (.slice none 0 0) := var_cell Vr.out 1
      have qr_2 : W11.cell? ⟨w.heap.size + 1, 2, none⟩ = some (.int .i64 0) := var_cell Vr.out 2
      have qr_3 : W11.cell? ⟨w.heap.size + 1, 3, none⟩ = some (.bool false) := var_cell Vr.out 3
      have lr : w.heap.size + 1 < W11.heap.size := by omega
      have fr_0 := var_frozen Vr.out 0
      have fr_1 := var_frozen Vr.out 1
      have fr_2 := var_frozen Vr.out 2
      have fr_3 := var_frozen Vr.out 3
      go_wp2_with fail
      refine bodyPost_ret (v := .agg #[.slice A5 d.secs.length c6, .slice B7 d.cache.length d8, .int .i64 d.fuse, .bool d.down]) (by simp [results, Try.results41, go_sem, qr_0, qr_1, qr_2, qr_3, hdn]) rfl ⟨_, fp4, rfl, ?_, ?_⟩
      · rw [HR.out]; refine diskR.low (base := W2.heap.size) ?_ (by omega)
        repeat (refine Rep.setLow ?_ (by first | (simp; done) | (simp; omega)) _)
        exact Oo
      · repeat (refine Below.setCell ?_ (by first | (simp; done) | (simp; omega)) _)
        exact HBW11
    have HG : Hid (SyncGood d) := Lib.hid ⟨hg, hdn⟩
    have hfu1 : -1 ≤ d.fuse := hg.2.2.2.1
    have hfu2 : d.fuse ≤ 1000 := hg.2.2.2.2
    have h30 : d.cache.length ≤ 30 := hg.1.2.2
    obtain ⟨u1, u2, ff, fc, hcs, ho1, ho2, hfp, hnd⟩ := disk_inv Oo
    have e1 : u1 = .slice A5 d.secs.length c6 := by injection hcs with h1 _; exact h1.symm
    have e2 : u2 = .slice B7 d.cache.length d8 := by injection hcs with _ h2; injection h2 with h2 _; exact h2.symm
    subst e1 e2
    clear hcs
    have HN := Lib.hid hnd
    have HFP := Lib.hid hfp
    clear hnd hfp Oo
    have LS := Lib.hid (fun a ha => L9.out a (by rw [HFP.out]; exact List.mem_append_left _ ha))
    have LC := Lib.hid (fun a ha => L9.out a (by rw [HFP.out]; exact List.mem_append_right _ ha))
    by_cases hz : d.fuse = 0
    · have HR := Lib.hid (syncDisk_zero HG.out hz)
      have Vz : Hid (W11.heap[W3.heap.size]? = some (.cells #[.slice A5 d.secs.length c6, .slice B7 d.cache.length d8, .int .i64 0, .bool d.down] 37 (0, 0))) := Lib.hid (by have := Vo.out; rw [hz] at this; exact this)
      clear hz
      have qd_0 : W11.cell? ⟨w.heap.size, 0, none⟩ = some (.slice Ad d.secs.length cd) := var_cell Vd.out 0
      have qd_1 : W11.cell? ⟨w.heap.size, 1, none⟩ = some (.slice Bd d.cache.length ed) := var_cell Vd.out 1
      have qd_2 : W11.cell? ⟨w.heap.size, 2, none⟩ = some (.int .i64 d.fuse) := var_cell Vd.out 2
      have qd_3 : W11.cell? ⟨w.heap.size, 3, none⟩ = some (.bool d.down) := var_cell Vd.out 3
      have ld : w.heap.size < W11.heap.size := by omega
      go_wp2_with fail
      clear qd_0 qd_1 qd_2 qd_3 ld
      refine (l2Fuse_zero W3.heap.size (.slice A5 d.secs.length c6) (.slice B7 d.cache.length d8) d.down W11 Vz.out).mono ?_
      rintro e W12 ⟨rfl, vv, ho⟩
      have LF := Lib.hid (fun a (ha : a ∈ [W3.heap.size]) => (by simp at ha; omega : W3.heap.size ≤ a ∧ a < W3.heap.size + 1))
      replace ho1 := ho1.kept (fun a ha => ho.block a (by have := (LS.out a ha).2; omega) (by have := (LS.out a ha).2; simp; omega))
      replace ho2 := ho2.kept (fun a ha => ho.block a (by have := (LC.out a ha).2; omega) (by have := (LC.out a ha).2; simp; omega))
      have SW12 : W11.heap.size ≤ W12.heap.size := ho.size
      have HBW12 := Rep.Only.below HBW11 ho (by omega) (fun a ha => by have := (LF.out a ha).1; omega)
      replace Td := Rep.at_only Td ho (by omega) (fun a ha => by have := (LF.out a ha).1; omega)
      replace Vd := Rep.var_only Vd ho (by omega) (fun hb => by have := LF.out _ hb; omega)
      replace Vr := Rep.var_only Vr ho (by omega) (fun hb => by have := LF.out _ hb; omega)
      clear HBW11
      clear ho LF
      clear Vo
      have Vo := vv
      clear vv
      have qo_0 : W12.cell? ⟨W3.heap.size, 0, none⟩ = some (.slice A5 d.secs.length c6) := var_cell Vo.out 0
      have qo_1 : W12.cell? ⟨W3.heap.size, 1, none⟩ = some (.slice B7 d.cache.length d8) := var_cell Vo.out 1
      have qo_2 : W12.cell? ⟨W3.heap.size, 2, none⟩ = some (.int .i64 (-1)) := var_cell Vo.out 2
      have qo_3 : W12.cell? ⟨W3.heap.size, 3, none⟩ = some (.bool true) := var_cell Vo.out 3
      have lo : W3.heap.size < W12.heap.size := by omega
      have qr_0 : W12.cell? ⟨w.heap.size + 1, 0, none⟩ = some (.slice none 0 0) := var_cell Vr.out 0
      have qr_1 : W12.cell? ⟨w.heap.size + 1, 1, none⟩ = some (.slice none 0 0) := var_cell Vr.out 1
      have qr_2 : W12.cell? ⟨w.heap.size + 1, 2, none⟩ = some (.int .i64 0) := var_cell Vr.out 2
      have qr_3 : W12.cell? ⟨w.heap.size + 1, 3, none⟩ = some (.bool false) := var_cell Vr.out 3
      have lr : w.heap.size + 1 < W12.heap.size := by omega
      have fr_0 := var_frozen Vr.out 0
      have fr_1 := var_frozen Vr.out 1
      have fr_2 := var_frozen Vr.out 2
      have fr_3 := var_frozen Vr.out 3
      go_wp2_with fail
      refine bodyPost_ret (v := .agg #[.slice A5 d.secs.length c6, .slice B7 d.cache.length d8, .int .i64 (-1), .bool true]) (by simp [results, Try.results41, go_sem, qr_0, qr_1, qr_2, qr_3]) rfl ⟨_, ff ++ fc, rfl, ?_, ?_⟩
      · rw [HR.out]; refine diskR.low (base := W2.heap.size) ?_ (by omega)
        repeat (refine Rep.setLow ?_ (by first | (simp; done) | (simp; omega)) _)
        exact disk_own2 (d := ⟨d.secs, d.cache, -1, true⟩) ho1 ho2 (by rw [← HFP.out]; exact HN.out)
      · repeat (refine Below.setCell ?_ (by first | (simp; done) | (simp; omega)) _)
        exact HBW12
    have HR := Lib.hid (syncDisk_go HG.out hz)
    have HZ := Lib.hid hz
    clear hz
    have qd_0 : W11.cell? ⟨w.heap.size, 0, none⟩ = some (.slice Ad d.secs.length cd) := var_cell Vd.out 0
    have qd_1 : W11.cell? ⟨w.heap.size, 1, none⟩ = some (.slice Bd d.cache.length ed) := var_cell Vd.out 1
    have qd_2 : W11.cell? ⟨w.heap.size, 2, none⟩ = some (.int .i64 d.fuse) := var_cell Vd.out 2
    have qd_3 : W11.cell? ⟨w.heap.size, 3, none⟩ = some (.bool d.down) := var_cell Vd.out 3
    have ld : w.heap.size < W11.heap.size := by omega
    go_wp2_with fail
    clear qd_0 qd_1 qd_2 qd_3 ld
    refine (l2Fuse_go W3.heap.size (.slice A5 d.secs.length c6) (.slice B7 d.cache.length d8) d.fuse d.down W11 Vo.out HZ.out hfu1 hfu2).mono ?_
    rintro e W13 ⟨rfl, vv, ho⟩
    have LF := Lib.hid (fun a (ha : a ∈ [W3.heap.size]) => (by simp at ha; omega : W3.heap.size ≤ a ∧ a < W3.heap.size + 1))
    replace ho1 := ho1.kept (fun a ha => ho.block a (by have := (LS.out a ha).2; omega) (by have := (LS.out a ha).2; simp; omega))
    replace ho2 := ho2.kept (fun a ha => ho.block a (by have := (LC.out a ha).2; omega) (by have := (LC.out a ha).2; simp; omega))
    have SW13 : W11.heap.size ≤ W13.heap.size := ho.size
    have HBW13 := Rep.Only.below HBW11 ho (by omega) (fun a ha => by have := (LF.out a ha).1; omega)
    replace Td := Rep.at_only Td ho (by omega) (fun a ha => by have := (LF.out a ha).1; omega)
    replace Vd := Rep.var_only Vd ho (by omega) (fun hb => by have := LF.out _ hb; omega)
    replace Vr := Rep.var_only Vr ho (by omega) (fun hb => by have := LF.out _ hb; omega)
    clear HBW11
    clear ho LF
    clear Vo
    have Vo := vv
    clear vv
    obtain ⟨sc, ccs, fps, fcs, hff, hfc, hM⟩ := Mid.start ho1 ho2 (by rw [← HFP.out]; exact HN.out)
    have LM := Lib.hid (fun a (ha : a ∈ ((Value.slice A5 d.secs.length c6).ownBlock.toList ++ fps.flatten) ++ ((Value.slice B7 d.cache.length d8).ownBlock.toList ++ fcs.flatten)) => (show W2.heap.size ≤ a ∧ a < W3.heap.size from by rcases List.mem_append.1 ha with h | h; exact LS.out a (by rw [hff]; exact h); exact LC.out a (by rw [hfc]; exact h)))
    have hl1 : 1 ≤ d.secs.length := hg.1.1
    have f40 : d.secs.length ≤ 40 := hg.1.2.1
    have HWO := Lib.hid (fun x (hx : x ∈ d.cache) => hg.2.2.1 x hx)
    obtain ⟨gs, hgs, hgs1, _⟩ := hM.block hl1
    subst hgs
    have hgs2 : gs < W3.heap.size := (LM.out gs (by simp [Value.ownBlock])).2
    clear hg ho1 ho2 hff hfc
    replace hM := hM.weak (idx' := idxC (key d.cache) 0) (fun _ => rfl)
    have hz0 := Nat.le_refl W13.heap.size
    go_wp2_with fail
    go_loopw [4] (fun i wr => ∃ k : Nat, k ≤ d.cache.length ∧ i = .int .i64 k ∧ Mid wr W2.heap.size (.slice (some ⟨gs, 0, none⟩) d.secs.length c6) (.slice B7 d.cache.length d8) d sc ccs fps fcs (idxC (key d.cache) k) ∧ Hid (wr.heap[W3.heap.size]? = some (.cells #[.slice (some ⟨gs, 0, none⟩) d.secs.length c6, .slice B7 d.cache.length d8, .int .i64 (fuseAfter d.fuse), .bool d.down] 37 (0, 0))) ∧ Hid (wr.heap[w.heap.size + 1]? = some (.cells #[.slice none 0 0, .slice none 0 0, .int .i64 0, .bool false] 37 (0, 0))) ∧ Below w.heap.size w wr ∧ W13.heap.size ≤ wr.heap.size) (fun i _ => d.cache.length - (intOf i).toNat)
    case atStart => exact ⟨0, by omega, rfl, hM, Vo, Vr, HBW13, hz0⟩
    case round =>
      obtain ⟨k, hk, rfl, hM, vo, vr, hb, hz⟩ := hrel
      clear Vo Vr HBW13 hz0
      by_cases hlt : k < d.cache.length
      · obtain ⟨b, off, A2, c2, x, rfl, hbl, hx, e0, e1, hgd⟩ := hM.elem hlt
        obtain ⟨hx0, hx1, _⟩ := HWO.out x (List.mem_of_getElem? hx)
        obtain ⟨n0, hn0⟩ := Int.eq_ofNat_of_zero_le hx0
        rw [hn0] at e0
        have hn1 : n0 < d.secs.length := by omega
        have HX := Lib.hid hx
        have HN0 := Lib.hid hn0
        have HGD := Lib.hid hgd
        obtain ⟨⟨u0, hcl⟩, hfr⟩ := hM.there hn1
        clear hx hn0 hgd hx0 hx1
        have i1 : (0 : Int) ≤ (k : Int) := by omega
        have i2 : (k : Int) < (d.cache.length : Int) := by omega
        have i3 : (0 : Int) ≤ (n0 : Int) := by omega
        have i4 : (n0 : Int) < (d.secs.length : Int) := by omega
        have e00 : wr.cell? ⟨W3.heap.size, 0, none⟩ = some (.slice (some ⟨gs, 0, none⟩) d.secs.length c6) := var_cell vo.out 0
        have e01 : wr.cell? ⟨W3.heap.size, 1, none⟩ = some (.slice (some ⟨b, off, none⟩) d.cache.length d8) := var_cell vo.out 1
        go_wp2_with fail
        refine wp_region_lex' 15 [0, 1, 2, 3, 4, 5, 6, 7, 8, 9, 10, 11, 12, 13, 14] [15] (fun w' => w'.cell? ⟨W3.heap.size, 0, none⟩ = some (.slice (some ⟨gs, 0, none⟩) d.secs.length c6) ∧ w'.cell? ⟨W3.heap.size, 1, none⟩ = some (.slice (some ⟨b, off, none⟩) d.cache.length d8) ∧ w'.cell? ⟨b, off + k * 2, none⟩ = some (.int .i64 n0) ∧ w'.cell? ⟨b, off + k * 2 + 1, none⟩ = some (.slice A2 x.b.length c2)) (by kernel_rfl) (by kernel_rfl) ⟨e00, e01, e0, e1⟩ ?_
        iterate 15 (refine LexR.cons rfl ?_ (fun w' hw => ?_) ?_; rotate_left; focus (obtain ⟨e1, e2, e3, e4⟩ := hw; go_simp; (try exact rfl)); (try go_frame))
        refine LexR.nil (LexW.cons rfl ?_)
        try go_frame
        go_wp2_with fail
        refine ⟨fun h => absurd rfl h, LexW.nil ?_⟩
        have hM2 := hM.store (k := k) (idx' := idxC (key d.cache) (k + 1)) hn1 ?hstep
        rotate_left
        · intro i
          show (if key d.cache k i = true then some k else idxC (key d.cache) k i) = _
          rw [key_eq HX.out i]
          rw [HN0.out]
          by_cases he : (n0 : Int) = i
          · rw [if_pos he, if_pos (by simpa using he)]
          · rw [if_neg he, if_neg (by simpa using he)]
        rw [HGD.out] at hM2
        replace hM2 := hM2.kept (w' := (wr.setCell ⟨gs, n0, none⟩ (.slice A2 x.b.length c2)).drew) (fun _ _ => rfl)
        have hq1 : (wr.setCell ⟨gs, n0, none⟩ (.slice A2 x.b.length c2)).drew.heap[W3.heap.size]? = wr.heap[W3.heap.size]? := heap_setCell_other wr ⟨gs, n0, none⟩ (W3.heap.size) (.slice A2 x.b.length c2) (by simp; omega)
        have hq2 : (wr.setCell ⟨gs, n0, none⟩ (.slice A2 x.b.length c2)).drew.heap[w.heap.size + 1]? = wr.heap[w.heap.size + 1]? := heap_setCell_other wr ⟨gs, n0, none⟩ (w.heap.size + 1) (.slice A2 x.b.length c2) (by simp; omega)
        have VO2 := Lib.hid (hq1.trans vo.out)
        have VR2 := Lib.hid (hq2.trans vr.out)
        have HB2 : Below w.heap.size w (wr.setCell ⟨gs, n0, none⟩ (.slice A2 x.b.length c2)).drew := belowD (hb.setCell (p := ⟨gs, n0, none⟩) (by simp; omega) (.slice A2 x.b.length c2)) 1
        have hz2 : W13.heap.size ≤ (wr.setCell ⟨gs, n0, none⟩ (.slice A2 x.b.length c2)).drew.heap.size := by simpa using hz
        generalize hgw : (wr.setCell ⟨gs, n0, none⟩ (.slice A2 x.b.length c2)).drew = w2 at hM2 VO2 VR2 HB2 hz2 ⊢
        clear hgw hq1 hq2 hM vo vr hb hz e0 e1 e00 e01 hcl hfr
        go_wp2_with fail
        go_roundw
        case rel => exact ⟨k + 1, by omega, by go_num, hM2, VO2, VR2, HB2, hz2⟩
        case measure => simp [intOf]; omega
      · have he : k = d.cache.length := by omega
        subst he
        obtain ⟨fp9, hfl, hmem⟩ := hM.done (idx_ok d _ (Nat.le_refl _))
        have HM9 := Lib.hid (fun a ha => LM.out a (hmem a ha))
        clear hM hmem
        have HBr := hb
        have e00 : wr.cell? ⟨W3.heap.size, 0, none⟩ = some (.slice (some ⟨gs, 0, none⟩) d.secs.length c6) := var_cell vo.out 0
        have e01 : wr.cell? ⟨W3.heap.size, 1, none⟩ = some (.slice B7 d.cache.length d8) := var_cell vo.out 1
        have e02 : wr.cell? ⟨W3.heap.size, 2, none⟩ = some (.int .i64 (fuseAfter d.fuse)) := var_cell vo.out 2
        have e03 : wr.cell? ⟨W3.heap.size, 3, none⟩ = some (.bool d.down) := var_cell vo.out 3
        have f01 := var_frozen vo.out 1
        have lo : W3.heap.size < wr.heap.size := by omega
        have Vr := vr
        have qr_0 : wr.cell? ⟨w.heap.size + 1, 0, none⟩ = some (.slice none 0 0) := var_cell Vr.out 0
        have qr_1 : wr.cell? ⟨w.heap.size + 1, 1, none⟩ = some (.slice none 0 0) := var_cell Vr.out 1
        have qr_2 : wr.cell? ⟨w.heap.size + 1, 2, none⟩ = some (.int .i64 0) := var_cell Vr.out 2
        have qr_3 : wr.cell? ⟨w.heap.size + 1, 3, none⟩ = some (.bool false) := var_cell Vr.out 3
        have lr : w.heap.size + 1 < wr.heap.size := by omega
        have fr_0 := var_frozen Vr.out 0
        have fr_1 := var_frozen Vr.out 1
        have fr_2 := var_frozen Vr.out 2
        have fr_3 := var_frozen Vr.out 3
        go_wp2_with fail
        refine bodyPost_ret (v := .agg #[.slice (some ⟨gs, 0, none⟩) d.secs.length c6, .slice (some ⟨wr.heap.size, 0, none⟩) 0 0, .int .i64 (fuseAfter d.fuse), .bool d.down]) (by simp [results, Try.results41, go_sem, lr, qr_0, qr_1, qr_2, qr_3, hdn]) rfl ⟨_, fp9 ++ [wr.heap.size], rfl, ?_, ?_⟩
        · rw [HR.out]; refine diskR.low (base := W2.heap.size) ?_ (by omega)
          refine disk_own2 (d := ⟨flushSecs d (idxC (key d.cache) d.cache.length), [], fuseAfter d.fuse, d.down⟩) (hfl.kept fun a ha => ?_) ((no_cache _ _ (by simp)).low (by simp; omega)) (Rep.nodup_append_of (Rep.nodup secsR (w := wr) (base := W2.heap.size) (cs := [.slice (some ⟨gs, 0, none⟩) d.secs.length c6]) ⟨_, rfl, hfl⟩) (by simp) (fun a ha hc => by have := (HM9.out a ha).2; simp at hc; omega))
          have h9 := HM9.out a ha
          rw [Below.heap_alloc _ _ _ (by simp; omega)]
          repeat rw [heap_setCell_other _ _ _ _ (by simp; omega)]
        · refine Below.alloc ?_ (by simp; have := hb.size; omega) _
          repeat (refine Below.setCell ?_ (by first | (simp; done) | (simp; omega)) _)
          exact hb

end Go.Proofs.Ytoaaogacaibedaa
