/- What the theorem needs, out of many texts. -/
import Derived.Test.YtoaaogacaibedaaGreatDoorShx21
namespace Go.Proofs.YtoaaogacaibedaaGreatDoor
open Go.RowKit Go.Maps
set_option maxRecDepth 2000000
set_option linter.unusedVariables false
set_option maxRecDepth 100000 in
set_option maxHeartbeats 4000000 in
theorem writeSec_any (cs cs2 : List Value) (d : Disk) (n : Int) (b : List UInt8) (w : World) (h : diskR.at_ w w.heap.size cs d) (h2 : byR.at_ w w.heap.size cs2 b) (hf : Fits d) (hfb : b.length ≤ 1048576) (hwn : (Lit.int .i64 n).wf = true) :
    Calls Tryz.prog 51 #[.agg cs.toArray, .int .i64 n, cs2.headD undef] w (RetDisk w (writeSec d n b)) := by
  obtain ⟨Ab, cb, rfl⟩ := byte_at_shape h2
  obtain ⟨Ad, cd, Bd, ed, rfl⟩ := disk_at_shape h
  have Td := h
  clear h
  have HBw := Below.refl w.heap.size w
  have Tb := h2
  clear h2
  obtain ⟨y, hy⟩ : ∃ y, diskOk d = y := ⟨_, rfl⟩
  have HOK := Lib.hid hy
  clear hy
  have f1 := hf.1
  have f3 := hf.2.2.1
  go_enter Tryz.func51, Tryz.ntmps51
  go_wp2_with fail
  have ho := Rep.only_alloc w (.cells #[.slice Ad d.secs.length cd, .slice Bd d.cache.length ed, .int .i64 d.fuse, .bool d.down] 27)
  have hv := heap_alloc_new w (.cells #[.slice Ad d.secs.length cd, .slice Bd d.cache.length ed, .int .i64 d.fuse, .bool d.down] 27)
  have hs : (w.alloc (.cells #[.slice Ad d.secs.length cd, .slice Bd d.cache.length ed, .int .i64 d.fuse, .bool d.down] 27)).heap.size = w.heap.size + 1 := by simp
  generalize hgW : w.alloc (.cells #[.slice Ad d.secs.length cd, .slice Bd d.cache.length ed, .int .i64 d.fuse, .bool d.down] 27) = W1 at ho hv hs ⊢
  clear hgW
  have SW1 : w.heap.size ≤ W1.heap.size := ho.size
  have HBW1 := Rep.Only.below HBw ho (by omega) (fun a ha => by cases ha)
  replace Td := Rep.at_only Td ho (by omega) (fun a ha => by cases ha)
  replace Tb := Rep.at_only Tb ho (by omega) (fun a ha => by cases ha)
  clear HBw
  have Vd := Lib.hid hv
  clear hv ho
  have ZW1 : w.heap.size < W1.heap.size := by omega
  have EW1 := Lib.hid hs
  clear hs
  have ho := Rep.only_alloc W1 (.cells #[.slice none 0 0, .slice none 0 0, .int .i64 0, .bool false] 27)
  have hv := heap_alloc_new' W1 (.cells #[.slice none 0 0, .slice none 0 0, .int .i64 0, .bool false] 27) (n := w.heap.size + 1) (by have := EW1.out; omega)
  have hs : (W1.alloc (.cells #[.slice none 0 0, .slice none 0 0, .int .i64 0, .bool false] 27)).heap.size = W1.heap.size + 1 := by simp
  generalize hgW : W1.alloc (.cells #[.slice none 0 0, .slice none 0 0, .int .i64 0, .bool false] 27) = W2 at ho hv hs ⊢
  clear hgW
  have SW2 : W1.heap.size ≤ W2.heap.size := ho.size
  have HBW2 := Rep.Only.below HBW1 ho (by omega) (fun a ha => by cases ha)
  replace Td := Rep.at_only Td ho (by omega) (fun a ha => by cases ha)
  replace Tb := Rep.at_only Tb ho (by omega) (fun a ha => by cases ha)
  replace Vd := Rep.var_only Vd ho (by omega) (fun hb => by cases hb)
  clear HBW1
  have Vr := Lib.hid hv
  clear hv ho
  have ZW2 : W1.heap.size < W2.heap.size := by omega
  have YW2 : w.heap.size + 1 < W2.heap.size := by have := EW1.out; omega
  have EW2 := Lib.hid hs
  clear hs
  refine (copyDisk_any [.slice Ad d.secs.length cd, .slice Bd d.cache.length ed, .int .i64 d.fuse, .bool d.down] d W2 (Rep.more diskR Td (by omega)) hf).mono ?_
  rintro e W3 ⟨cs, fp4, rfl, Oo, hb⟩
  obtain ⟨A5, c6, B7, d8, rfl⟩ := disk_own_shape Oo
  have ho := Rep.only_of_below hb
  have L9 := Lib.hid (Rep.lt diskR Oo)
  clear hb
  have SW3 : W2.heap.size ≤ W3.heap.size := ho.size
  have HBW3 := Rep.Only.below HBW2 ho (by omega) (fun a ha => by cases ha)
  replace Td := Rep.at_only Td ho (by omega) (fun a ha => by cases ha)
  replace Tb := Rep.at_only Tb ho (by omega) (fun a ha => by cases ha)
  replace Vd := Rep.var_only Vd ho (by omega) (fun hb => by cases hb)
  replace Vr := Rep.var_only Vr ho (by omega) (fun hb => by cases hb)
  clear HBW2
  clear ho
  have qd_0 : W3.cell? ⟨w.heap.size, 0, none⟩ = some (.slice Ad d.secs.length cd) := var_cell Vd.out 0
  have qd_1 : W3.cell? ⟨w.heap.size, 1, none⟩ = some (.slice Bd d.cache.length ed) := var_cell Vd.out 1
  have qd_2 : W3.cell? ⟨w.heap.size, 2, none⟩ = some (.int .i64 d.fuse) := var_cell Vd.out 2
  have qd_3 : W3.cell? ⟨w.heap.size, 3, none⟩ = some (.bool d.down) := var_cell Vd.out 3
  have ld : w.heap.size < W3.heap.size := by omega
  go_wp2_with fail
  clear qd_0 qd_1 qd_2 qd_3 ld
  have ho := Rep.only_alloc W3 (.cells #[.slice A5 d.secs.length c6, .slice B7 d.cache.length d8, .int .i64 d.fuse, .bool d.down] 27)
  have hv := heap_alloc_new W3 (.cells #[.slice A5 d.secs.length c6, .slice B7 d.cache.length d8, .int .i64 d.fuse, .bool d.down] 27)
  have hs : (W3.alloc (.cells #[.slice A5 d.secs.length c6, .slice B7 d.cache.length d8, .int .i64 d.fuse, .bool d.down] 27)).heap.size = W3.heap.size + 1 := by simp
  generalize hgW : W3.alloc (.cells #[.slice A5 d.secs.length c6, .slice B7 d.cache.length d8, .int .i64 d.fuse, .bool d.down] 27) = W10 at ho hv hs ⊢
  clear hgW
  have SW10 : W3.heap.size ≤ W10.heap.size := ho.size
  have HBW10 := Rep.Only.below HBW3 ho (by omega) (fun a ha => by cases ha)
  replace Td := Rep.at_only Td ho (by omega) (fun a ha => by cases ha)
  replace Tb := Rep.at_only Tb ho (by omega) (fun a ha => by cases ha)
  replace Oo := Rep.own_only Oo ho (fun a ha hb => by cases hb)
  replace Vd := Rep.var_only Vd ho (by omega) (fun hb => by cases hb)
  replace Vr := Rep.var_only Vr ho (by omega) (fun hb => by cases hb)
  clear HBW3
  have Vo := Lib.hid hv
  clear hv ho
  have ZW10 : W3.heap.size < W10.heap.size := by omega
  have EW10 := Lib.hid hs
  clear hs
  refine (diskOk_any [.slice Ad d.secs.length cd, .slice Bd d.cache.length ed, .int .i64 d.fuse, .bool d.down] d W10 (Rep.more diskR Td (by omega)) hf).mono ?_
  rintro e W11 ⟨rfl, hb⟩
  rw [HOK.out]
  have ho := Rep.only_of_below hb
  clear hb
  have SW11 : W10.heap.size ≤ W11.heap.size := ho.size
  have HBW11 := Rep.Only.below HBW10 ho (by omega) (fun a ha => by cases ha)
  replace Td := Rep.at_only Td ho (by omega) (fun a ha => by cases ha)
  replace Tb := Rep.at_only Tb ho (by omega) (fun a ha => by cases ha)
  replace Oo := Rep.own_only Oo ho (fun a ha hb => by cases hb)
  replace Vd := Rep.var_only Vd ho (by omega) (fun hb => by cases hb)
  replace Vr := Rep.var_only Vr ho (by omega) (fun hb => by cases hb)
  replace Vo := Rep.var_only Vo ho (by omega) (fun hb => by cases hb)
  clear HBW10
  clear ho
  cases y with
  | false =>
    have HR := Lib.hid (writeSec_no (n := n) (b := b) (fun hh => diskOk_bad HOK.out hh.1))
    have qo_0 : W11.cell? ⟨W3.heap.size, 0, none⟩ = some (.slice A5 d.secs.length c6) := var_cell Vo.out 0
    have qo_1 : W11.cell? ⟨W3.heap.size, 1, none⟩ = some (.slice B7 d.cache.length d8) := var_cell Vo.out 1
    have qo_2 : W11.cell? ⟨W3.heap.size, 2, none⟩ = some (.int .i64 d.fuse) := var_cell Vo.out 2
    have qo_3 : W11.cell? ⟨W3.heap.size, 3, none⟩ = some (.bool d.down) := var_cell Vo.out 3
    have lo : W3.heap.size < W11.heap.size := by omega
    have qd_0 : W11.cell? ⟨w.heap.size, 0, none⟩ = some (.slice Ad d.secs.length cd) := var_cell Vd.out 0
    have qd_1 : W11.cell? ⟨w.heap.size, 1, none⟩ = some (.slice Bd d.cache.length ed) := var_cell Vd.out 1
    have qd_2 : W11.cell? ⟨w.heap.size, 2, none⟩ = some (.int .i64 d.fuse) := var_cell Vd.out 2
    have qd_3 : W11.cell? ⟨w.heap.size, 3, none⟩ = some (.bool d.down) := var_cell Vd.out 3
    have ld : w.heap.size < W11.heap.size := by omega
    have qr_0 : W11.cell? ⟨w.heap.size + 1, 0, none⟩ = some (.slice none 0 0) := var_cell Vr.out 0
    have qr_1 : W11.cell? ⟨w.heap.size + 1, 1, none⟩ = some (.slice none 0 0) := var_cell Vr.out 1
    have qr_2 : W11.cell? ⟨w.heap.size + 1, 2, none⟩ = some (.int .i64 0) := var_cell Vr.out 2
    have qr_3 : W11.cell? ⟨w.heap.size + 1, 3, none⟩ = some (.bool false) := var_cell Vr.out 3
    have lr : w.heap.size + 1 < W11.heap.size := by omega
    have fr_0 := var_frozen Vr.out 0
    have fr_1 := var_frozen Vr.out 1
    have fr_2 := var_frozen Vr.out 2
    have fr_3 := var_frozen Vr.out 3
    go_wp2_with fail
    refine bodyPost_ret (v := .agg #[.slice A5 d.secs.length c6, .slice B7 d.cache.length d8, .int .i64 d.fuse, .bool d.down]) (by simp [results, Tryz.results51, go_sem, qr_0, qr_1, qr_2, qr_3]) rfl ⟨_, fp4, rfl, ?_, ?_⟩
    · rw [HR.out]; refine diskR.low (base := W2.heap.size) ?_ (by omega)
      repeat (refine Rep.setLow ?_ (by first | (simp; done) | (simp; omega)) _)
      exact Oo
    · repeat (refine Below.setCell ?_ (by first | (simp; done) | (simp; omega)) _)
      exact HBW11
  | true =>
    have hg := diskOk_good HOK.out
    rcases hdn : d.down with _ | _
    rotate_left
    · have HR := Lib.hid (writeSec_no (d := d) (n := n) (b := b) (fun hh => by have := hh.2.1; rw [hdn] at this; cases this))
      have qo_0 : W11.cell? ⟨W3.heap.size, 0, none⟩ = some (.slice A5 d.secs.length c6) := var_cell Vo.out 0
      have qo_1 : W11.cell? ⟨W3.heap.size, 1, none⟩ = some (.slice B7 d.cache.length d8) := var_cell Vo.out 1
      have qo_2 : W11.cell? ⟨W3.heap.size, 2, none⟩ = some (.int .i64 d.fuse) := var_cell Vo.out 2
      have qo_3 : W11.cell? ⟨W3.heap.size, 3, none⟩ = some (.bool d.down) := var_cell Vo.out 3
      have lo : W3.heap.size < W11.heap.size := by omega
      have qd_0 : W11.cell? ⟨w.heap.size, 0, none⟩ = some (.slice Ad d.secs.length cd) := var_cell Vd.out 0
      have qd_1 : W11.cell? ⟨w.heap.size, 1, none⟩ = some (.slice Bd d.cache.length ed) := var_cell Vd.out 1
      have qd_2 : W11.cell? ⟨w.heap.size, 2, none⟩ = some (.int .i64 d.fuse) := var_cell Vd.out 2
      have qd_3 : W11.cell? ⟨w.heap.size, 3, none⟩ = some (.bool d.down) := var_cell Vd.out 3
      have ld : w.heap.size < W11.heap.size := by omega
      have qr_0 : W11.cell? ⟨w.heap.size + 1, 0, none⟩ = some (.slice none 0 0) := var_cell Vr.out 0
      have qr_1 : W11.cell? ⟨w.heap.size + 1, 1, none⟩ = some (.slice none 0 0) := var_cell Vr.out 1
      have qr_2 : W11.cell? ⟨w.heap.size + 1, 2, none⟩ = some (.int .i64 0) := var_cell Vr.out 2
      have qr_3 : W11.cell? ⟨w.heap.size + 1, 3, none⟩ = some (.bool false) := var_cell Vr.out 3
      have lr : w.heap.size + 1 < W11.heap.size := by omega
      have fr_0 := var_frozen Vr.out 0
      have fr_1 := var_frozen Vr.out 1
      have fr_2 := var_frozen Vr.out 2
      have fr_3 := var_frozen Vr.out 3
      go_wp2_with fail
      refine bodyPost_ret (v := .agg #[.slice A5 d.secs.length c6, .slice B7 d.cache.length d8, .int .i64 d.fuse, .bool d.down]) (by simp [results, Tryz.results51, go_sem, qr_0, qr_1, qr_2, qr_3, hdn]) rfl ⟨_, fp4, rfl, ?_, ?_⟩
      · rw [HR.out]; refine diskR.low (base := W2.heap.size) ?_ (by omega)
        repeat (refine Rep.setLow ?_ (by first | (simp; done) | (simp; omega)) _)
        exact Oo
      · repeat (refine Below.setCell ?_ (by first | (simp; done) | (simp; omega)) _)
        exact HBW11
    by_cases hin : 0 ≤ n ∧ n < (d.secs.length : Int)
    rotate_left
    · have HR := Lib.hid (writeSec_no (d := d) (n := n) (b := b) (fun hh => hin ⟨hh.2.2.1.1, by have := hh.2.2.1.2; omega⟩))
      have Hin := Lib.hid hin
      clear hin
      have qd_0 : W11.cell? ⟨w.heap.size, 0, none⟩ = some (.slice Ad d.secs.length cd) := var_cell Vd.out 0
      have qd_1 : W11.cell? ⟨w.heap.size, 1, none⟩ = some (.slice Bd d.cache.length ed) := var_cell Vd.out 1
      have qd_2 : W11.cell? ⟨w.heap.size, 2, none⟩ = some (.int .i64 d.fuse) := var_cell Vd.out 2
      have qd_3 : W11.cell? ⟨w.heap.size, 3, none⟩ = some (.bool d.down) := var_cell Vd.out 3
      have ld : w.heap.size < W11.heap.size := by omega
      go_wp2_with fail
      clear qd_0 qd_1 qd_2 qd_3 ld
      refine (hasSec_no [.slice Ad d.secs.length cd, .slice Bd d.cache.length ed, .int .i64 d.fuse, .bool false] d n W11 (by have hq : diskR.at_ W11 W11.heap.size [.slice Ad d.secs.length cd, .slice Bd d.cache.length ed, .int .i64 d.fuse, .bool d.down] d := (Rep.more diskR Td (by omega)); rw [hdn] at hq; exact hq) Hin.out).mono ?_
      rintro e W12 ⟨rfl, hb⟩
      have ho := Rep.only_of_below hb
      clear hb
      have SW12 : W11.heap.size ≤ W12.heap.size := ho.size
      have HBW12 := Rep.Only.below HBW11 ho (by omega) (fun a ha => by cases ha)
      replace Td := Rep.at_only Td ho (by omega) (fun a ha => by cases ha)
      replace Tb := Rep.at_only Tb ho (by omega) (fun a ha => by cases ha)
      replace Oo := Rep.own_only Oo ho (fun a ha hb => by cases hb)
      replace Vd := Rep.var_only Vd ho (by omega) (fun hb => by cases hb)
      replace Vr := Rep.var_only Vr ho (by omega) (fun hb => by cases hb)
      replace Vo := Rep.var_only Vo ho (by omega) (fun hb => by cases hb)
      clear HBW11
      clear ho
      have qo_0 : W12.cell? ⟨W3.heap.size, 0, none⟩ = some (.slice A5 d.secs.length c6) := var_cell Vo.out 0
      have qo_1 : W12.cell? ⟨W3.heap.size, 1, none⟩ = some (.slice B7 d.cache.length d8) := var_cell Vo.out 1
      have qo_2 : W12.cell? ⟨W3.heap.size, 2, none⟩ = some (.int .i64 d.fuse) := var_cell Vo.out 2
      have qo_3 : W12.cell? ⟨W3.heap.size, 3, none⟩ = some (.bool d.down) := var_cell Vo.out 3
      have lo : W3.heap.size < W12.heap.size := by omega
      have qd_0 : W12.cell? ⟨w.heap.size, 0, none⟩ = some (.slice Ad d.secs.length cd) := var_cell Vd.out 0
      have qd_1 : W12.cell? ⟨w.heap.size, 1, none⟩ = some (.slice Bd d.cache.length ed) := var_cell Vd.out 1
      have qd_2 : W12.cell? ⟨w.heap.size, 2, none⟩ = some (.int .i64 d.fuse) := var_cell Vd.out 2
      have qd_3 : W12.cell? ⟨w.heap.size, 3, none⟩ = some (.bool d.down) := var_cell Vd.out 3
      have ld : w.heap.size < W12.heap.size := by omega
      have qr_0 : W12.cell? ⟨w.heap.size + 1, 0, none⟩ = some (.slice none 0 0) := var_cell Vr.out 0
      have qr_1 : W12.cell? ⟨w.heap.size + 1, 1, none⟩ = some (.slice none 0 0) := var_cell Vr.out 1
      have qr_2 : W12.cell? ⟨w.heap.size + 1, 2, none⟩ = some (.int .i64 0) := var_cell Vr.out 2
      have qr_3 : W12.cell? ⟨w.heap.size + 1, 3, none⟩ = some (.bool false) := var_cell Vr.out 3
      have lr : w.heap.size + 1 < W12.heap.size := by omega
      have fr_0 := var_frozen Vr.out 0
      have fr_1 := var_frozen Vr.out 1
      have fr_2 := var_frozen Vr.out 2
      have fr_3 := var_frozen Vr.out 3
      go_wp2_with fail
      refine bodyPost_ret (v := .agg #[.slice A5 d.secs.length c6, .slice B7 d.cache.length d8, .int .i64 d.fuse, .bool d.down]) (by simp [results, Tryz.results51, go_sem, qr_0, qr_1, qr_2, qr_3, hdn]) rfl ⟨_, fp4, rfl, ?_, ?_⟩
      · rw [HR.out]; refine diskR.low (base := W2.heap.size) ?_ (by omega)
        repeat (refine Rep.setLow ?_ (by first | (simp; done) | (simp; omega)) _)
        exact Oo
      · repeat (refine Below.setCell ?_ (by first | (simp; done) | (simp; omega)) _)
        exact HBW12
    have Hin := Lib.hid hin
    clear hin
    have qd_0 : W11.cell? ⟨w.heap.size, 0, none⟩ = some (.slice Ad d.secs.length cd) := var_cell Vd.out 0
    have qd_1 : W11.cell? ⟨w.heap.size, 1, none⟩ = some (.slice Bd d.cache.length ed) := var_cell Vd.out 1
    have qd_2 : W11.cell? ⟨w.heap.size, 2, none⟩ = some (.int .i64 d.fuse) := var_cell Vd.out 2
    have qd_3 : W11.cell? ⟨w.heap.size, 3, none⟩ = some (.bool d.down) := var_cell Vd.out 3
    have ld : w.heap.size < W11.heap.size := by omega
    go_wp2_with fail
    clear qd_0 qd_1 qd_2 qd_3 ld
    refine (hasSec_yes [.slice Ad d.secs.length cd, .slice Bd d.cache.length ed, .int .i64 d.fuse, .bool false] d n W11 (by have hq : diskR.at_ W11 W11.heap.size [.slice Ad d.secs.length cd, .slice Bd d.cache.length ed, .int .i64 d.fuse, .bool d.down] d := (Rep.more diskR Td (by omega)); rw [hdn] at hq; exact hq) Hin.out.1 Hin.out.2).mono ?_
    rintro e W13 ⟨rfl, hb⟩
    have ho := Rep.only_of_below hb
    clear hb
    have SW13 : W11.heap.size ≤ W13.heap.size := ho.size
    have HBW13 := Rep.Only.below HBW11 ho (by omega) (fun a ha => by cases ha)
    replace Td := Rep.at_only Td ho (by omega) (fun a ha => by cases ha)
    replace Tb := Rep.at_only Tb ho (by omega) (fun a ha => by cases ha)
    replace Oo := Rep.own_only Oo ho (fun a ha hb => by cases hb)
    replace Vd := Rep.var_only Vd ho (by omega) (fun hb => by cases hb)
    replace Vr := Rep.var_only Vr ho (by omega) (fun hb => by cases hb)
    replace Vo := Rep.var_only Vo ho (by omega) (fun hb => by cases hb)
    clear HBW11
    clear ho
    have HDN := Lib.hid hdn
    clear hdn
    by_cases h160 : b.length ≤ 160
    rotate_left
    · have HR := Lib.hid (writeSec_no (d := d) (n := n) (b := b) (fun hh => h160 hh.2.2.2.1))
      have qo_0 : W13.cell? ⟨W3.heap.size, 0, none⟩ = some (.slice A5 d.secs.length c6) := var_cell Vo.out 0
      have qo_1 : W13.cell? ⟨W3.heap.size, 1, none⟩ = some (.slice B7 d.cache.length d8) := var_cell Vo.out 1
      have qo_2 : W13.cell? ⟨W3.heap.size, 2, none⟩ = some (.int .i64 d.fuse) := var_cell Vo.out 2
      have qo_3 : W13.cell? ⟨W3.heap.size, 3, none⟩ = some (.bool d.down) := var_cell Vo.out 3
      have lo : W3.heap.size < W13.heap.size := by omega
      have qd_0 : W13.cell? ⟨w.heap.size, 0, none⟩ = some (.slice Ad d.secs.length cd) := var_cell Vd.out 0
      have qd_1 : W13.cell? ⟨w.heap.size, 1, none⟩ = some (.slice Bd d.cache.length ed) := var_cell Vd.out 1
      have qd_2 : W13.cell? ⟨w.heap.size, 2, none⟩ = some (.int .i64 d.fuse) := var_cell Vd.out 2
      have qd_3 : W13.cell? ⟨w.heap.size, 3, none⟩ = some (.bool d.down) := var_cell Vd.out 3
      have ld : w.heap.size < W13.heap.size := by omega
      have qr_0 : W13.cell? ⟨w.heap.size + 1, 0, none⟩ = some (.slice none 0 0) := var_cell Vr.out 0
      have qr_1 : W13.cell? ⟨w.heap.size + 1, 1, none⟩ = some (.slice none 0 0) := var_cell Vr.out 1
      have qr_2 : W13.cell? ⟨w.heap.size + 1, 2, none⟩ = some (.int .i64 0) := var_cell Vr.out 2
      have qr_3 : W13.cell? ⟨w.heap.size + 1, 3, none⟩ = some (.bool false) := var_cell Vr.out 3
      have lr : w.heap.size + 1 < W13.heap.size := by omega
      have fr_0 := var_frozen Vr.out 0
      have fr_1 := var_frozen Vr.out 1
      have fr_2 := var_frozen Vr.out 2
      have fr_3 := var_frozen Vr.out 3
      go_wp2_with fail
      refine bodyPost_ret (v := .agg #[.slice A5 d.secs.length c6, .slice B7 d.cache.length d8, .int .i64 d.fuse, .bool d.down]) (by simp [results, Tryz.results51, go_sem, qr_0, qr_1, qr_2, qr_3]) rfl ⟨_, fp4, rfl, ?_, ?_⟩
      · rw [HR.out]; refine diskR.low (base := W2.heap.size) ?_ (by omega)
        repeat (refine Rep.setLow ?_ (by first | (simp; done) | (simp; omega)) _)
        exact Oo
      · repeat (refine Below.setCell ?_ (by first | (simp; done) | (simp; omega)) _)
        exact HBW13
    by_cases h30 : d.cache.length = 30
    · have HR := Lib.hid (writeSec_no (d := d) (n := n) (b := b) (fun hh => hh.2.2.2.2 h30))
      have g30 : ((d.cache.length : Int) == 30) = true := by simp; omega
      clear h30
      have qo_0 : W13.cell? ⟨W3.heap.size, 0, none⟩ = some (.slice A5 d.secs.length c6) := var_cell Vo.out 0
      have qo_1 : W13.cell? ⟨W3.heap.size, 1, none⟩ = some (.slice B7 d.cache.length d8) := var_cell Vo.out 1
      have qo_2 : W13.cell? ⟨W3.heap.size, 2, none⟩ = some (.int .i64 d.fuse) := var_cell Vo.out 2
      have qo_3 : W13.cell? ⟨W3.heap.size, 3, none⟩ = some (.bool d.down) := var_cell Vo.out 3
      have lo : W3.heap.size < W13.heap.size := by omega
      have qd_0 : W13.cell? ⟨w.heap.size, 0, none⟩ = some (.slice Ad d.secs.length cd) := var_cell Vd.out 0
      have qd_1 : W13.cell? ⟨w.heap.size, 1, none⟩ = some (.slice Bd d.cache.length ed) := var_cell Vd.out 1
      have qd_2 : W13.cell? ⟨w.heap.size, 2, none⟩ = some (.int .i64 d.fuse) := var_cell Vd.out 2
      have qd_3 : W13.cell? ⟨w.heap.size, 3, none⟩ = some (.bool d.down) := var_cell Vd.out 3
      have ld : w.heap.size < W13.heap.size := by omega
      have qr_0 : W13.cell? ⟨w.heap.size + 1, 0, none⟩ = some (.slice none 0 0) := var_cell Vr.out 0
      have qr_1 : W13.cell? ⟨w.heap.size + 1, 1, none⟩ = some (.slice none 0 0) := var_cell Vr.out 1
      have qr_2 : W13.cell? ⟨w.heap.size + 1, 2, none⟩ = some (.int .i64 0) := var_cell Vr.out 2
      have qr_3 : W13.cell? ⟨w.heap.size + 1, 3, none⟩ = some (.bool false) := var_cell Vr.out 3
      have lr : w.heap.size + 1 < W13.heap.size := by omega
      have fr_0 := var_frozen Vr.out 0
      have fr_1 := var_frozen Vr.out 1
      have fr_2 := var_frozen Vr.out 2
      have fr_3 := var_frozen Vr.out 3
      go_wp2_with fail
      refine bodyPost_ret (v := .agg #[.slice A5 d.secs.length c6, .slice B7 d.cache.length d8, .int .i64 d.fuse, .bool d.down]) (by simp [results, Tryz.results51, go_sem, qr_0, qr_1, qr_2, qr_3]) rfl ⟨_, fp4, rfl, ?_, ?_⟩
      · rw [HR.out]; refine diskR.low (base := W2.heap.size) ?_ (by omega)
        repeat (refine Rep.setLow ?_ (by first | (simp; done) | (simp; omega)) _)
        exact Oo
      · repeat (refine Below.setCell ?_ (by first | (simp; done) | (simp; omega)) _)
        exact HBW13
    have g30 : ((d.cache.length : Int) == 30) = false := by simp; omega
    have HG : Hid (WriteGood d n b) := Lib.hid ⟨hg, HDN.out, ⟨Hin.out.1, by have := Hin.out.2; omega⟩, h160, h30⟩
    have hfu1 : -1 ≤ d.fuse := hg.2.2.2.1
    have hfu2 : d.fuse ≤ 1000 := hg.2.2.2.2
    have h29 : d.cache.length ≤ 30 := hg.1.2.2
    have HW := Lib.hid (wf_key hg)
    clear h30 hg
    obtain ⟨u1, u2, ff, fc, hcs, ho1, ho2, hfp, hnd⟩ := disk_inv Oo
    have e1 : u1 = .slice A5 d.secs.length c6 := by injection hcs with h1 _; exact h1.symm
    have e2 : u2 = .slice B7 d.cache.length d8 := by injection hcs with _ h2; injection h2 with h2 _; exact h2.symm
    subst e1 e2
    clear hcs
    have HN := Lib.hid hnd
    have HFP := Lib.hid hfp
    clear hnd hfp Oo
    have LS := Lib.hid (fun a ha => L9.out a (by rw [HFP.out]; exact List.mem_append_left _ ha))
    have LC := Lib.hid (fun a ha => L9.out a (by rw [HFP.out]; exact List.mem_append_right _ ha))
    obtain ⟨Ax, cx, hax, _, hrs⟩ := ho1.reads
    injection hax with hax1 _ hax2
    subst hax1 hax2
    obtain ⟨Ay, cy, hay, hcy, hmy, hrc⟩ := ho2.reads
    injection hay with hay1 _ hay2
    subst hay1 hay2
    obtain ⟨_, cells, hrd, hel⟩ := hrc
    have HE := Lib.hid hel
    clear hel hrs
    have qo_0 : W13.cell? ⟨W3.heap.size, 0, none⟩ = some (.slice A5 d.secs.length c6) := var_cell Vo.out 0
    have qo_1 : W13.cell? ⟨W3.heap.size, 1, none⟩ = some (.slice B7 d.cache.length d8) := var_cell Vo.out 1
    have qo_2 : W13.cell? ⟨W3.heap.size, 2, none⟩ = some (.int .i64 d.fuse) := var_cell Vo.out 2
    have qo_3 : W13.cell? ⟨W3.heap.size, 3, none⟩ = some (.bool d.down) := var_cell Vo.out 3
    have lo : W3.heap.size < W13.heap.size := by omega
    have qd_0 : W13.cell? ⟨w.heap.size, 0, none⟩ = some (.slice Ad d.secs.length cd) := var_cell Vd.out 0
    have qd_1 : W13.cell? ⟨w.heap.size, 1, none⟩ = some (.slice Bd d.cache.length ed) := var_cell Vd.out 1
    have qd_2 : W13.cell? ⟨w.heap.size, 2, none⟩ = some (.int .i64 d.fuse) := var_cell Vd.out 2
    have qd_3 : W13.cell? ⟨w.heap.size, 3, none⟩ = some (.bool d.down) := var_cell Vd.out 3
    have ld : w.heap.size < W13.heap.size := by omega
    go_wp2_with fail
    clear qo_0 qo_1 qo_2 qo_3 lo qd_0 qd_1 qd_2 qd_3 ld
    refine (driveOf_any A5 B7 c6 d8 d cells W13 hrd HE.out f3 HW.out).mono ?_
    rintro e W14 ⟨gd, mb, rfl, vd, hmd, hb, hgd1, hgd2, hgd3⟩
    have ho := Rep.only_of_below hb
    replace ho1 := ho1.of_below hb
    replace ho2 := ho2.of_below hb
    clear hb hrd
    have SW14 : W13.heap.size ≤ W14.heap.size := ho.size
    have HBW14 := Rep.Only.below HBW13 ho (by omega) (fun a ha => by cases ha)
    replace Td := Rep.at_only Td ho (by omega) (fun a ha => by cases ha)
    replace Tb := Rep.at_only Tb ho (by omega) (fun a ha => by cases ha)
    replace Vd := Rep.var_only Vd ho (by omega) (fun hb => by cases hb)
    replace Vr := Rep.var_only Vr ho (by omega) (fun hb => by cases hb)
    replace Vo := Rep.var_only Vo ho (by omega) (fun hb => by cases hb)
    clear HBW13
    clear ho
    have Vd2 := Lib.hid vd
    clear vd
    have hgl : gd < W14.heap.size := World.block_lt_of_cell? _ ⟨gd, 0, none⟩ (var_cell Vd2.out 0)
    have hml := hmd.lt
    by_cases hz : d.fuse = 0
    · have HR := Lib.hid (writeSec_zero HG.out hz)
      have Vz : Hid (W14.heap[gd]? = some (.cells #[.slice A5 d.secs.length c6, .slice B7 d.cache.length d8, .int .i64 0, .bool d.down, .map (some mb)] 106 (0, 0))) := Lib.hid (by have := Vd2.out; rw [hz] at this; exact this)
      clear hz
      go_wp2_with fail
      refine (driveWrite_zero gd (.slice A5 d.secs.length c6) (.slice B7 d.cache.length d8) (.map (some mb)) d.down n _ W14 Vz.out).mono ?_
      rintro e W15 ⟨rfl, Vd3, ho⟩
      have LF := Lib.hid (fun a (ha : a ∈ [gd]) => (by simp at ha; omega : W13.heap.size ≤ a ∧ a < W14.heap.size))
      replace ho1 := ho1.kept (fun a ha => ho.block a (by have := (LS.out a ha).2; omega) (by have := (LS.out a ha).2; simp; omega))
      replace ho2 := ho2.kept (fun a ha => ho.block a (by have := (LC.out a ha).2; omega) (by have := (LC.out a ha).2; simp; omega))
      have SW15 : W14.heap.size ≤ W15.heap.size := ho.size
      have HBW15 := Rep.Only.below HBW14 ho (by omega) (fun a ha => by have := (LF.out a ha).1; omega)
      replace Td := Rep.at_only Td ho (by omega) (fun a ha => by have := (LF.out a ha).1; omega)
      replace Tb := Rep.at_only Tb ho (by omega) (fun a ha => by have := (LF.out a ha).1; omega)
      replace Vd := Rep.var_only Vd ho (by omega) (fun hb => by have := LF.out _ hb; omega)
      replace Vr := Rep.var_only Vr ho (by omega) (fun hb => by have := LF.out _ hb; omega)
      replace Vo := Rep.var_only Vo ho (by omega) (fun hb => by have := LF.out _ hb; omega)
      clear HBW14
      clear ho LF
      have d0 : W15.cell? ⟨gd, 0, none⟩ = some (.slice A5 d.secs.length c6) := var_cell Vd3.out 0
      have d1 : W15.cell? ⟨gd, 1, none⟩ = some (.slice B7 d.cache.length d8) := var_cell Vd3.out 1
      have d2 : W15.cell? ⟨gd, 2, none⟩ = some (.int .i64 (-1)) := var_cell Vd3.out 2
      have d3 : W15.cell? ⟨gd, 3, none⟩ = some (.bool true) := var_cell Vd3.out 3
      have qr_0 : W15.cell? ⟨w.heap.size + 1, 0, none⟩ = some (.slice none 0 0) := var_cell Vr.out 0
      have qr_1 : W15.cell? ⟨w.heap.size + 1, 1, none⟩ = some (.slice none 0 0) := var_cell Vr.out 1
      have qr_2 : W15.cell? ⟨w.heap.size + 1, 2, none⟩ = some (.int .i64 0) := var_cell Vr.out 2
      have qr_3 : W15.cell? ⟨w.heap.size + 1, 3, none⟩ = some (.bool false) := var_cell Vr.out 3
      have lr : w.heap.size + 1 < W15.heap.size := by omega
      have fr_0 := var_frozen Vr.out 0
      have fr_1 := var_frozen Vr.out 1
      have fr_2 := var_frozen Vr.out 2
      have fr_3 := var_frozen Vr.out 3
      go_wp2_with fail
      refine bodyPost_ret (v := .agg #[.slice A5 d.secs.length c6, .slice B7 d.cache.length d8, .int .i64 (-1), .bool true]) (by simp [results, Tryz.results51, go_sem, qr_0, qr_1, qr_2, qr_3]) rfl ⟨_, ff ++ fc, rfl, ?_, ?_⟩
      · rw [HR.out]; refine diskR.low (base := W2.heap.size) ?_ (by omega)
        repeat (refine Rep.setLow ?_ (by first | (simp; done) | (simp; omega)) _)
        exact disk_own2 (d := ⟨d.secs, d.cache, -1, true⟩) ho1 ho2 (by rw [← HFP.out]; exact HN.out)
      · repeat (refine Below.setCell ?_ (by first | (simp; done) | (simp; omega)) _)
        exact HBW15
    have HR := Lib.hid (writeSec_go HG.out hz)
    have HZ := Lib.hid hz
    clear hz
    go_wp2_with fail
    obtain ⟨_, _, hb1, _, hrb⟩ := Tb
    injection hb1 with hb1
    injection hb1 with hb1 _ hb2
    subst hb1 hb2
    have hgc : gd ∉ fc := fun h => by have := (LC.out _ h).2; omega
    have hmc : mb ∉ fc := fun h => by have := (LC.out _ h).2; omega
    refine (driveWrite_go gd mb d.cache.length (W2.heap.size) w.heap.size (.slice A5 d.secs.length c6) B7 d8 d.cache fc d.fuse d.down n Ab cb b cells _ W14 Vd2.out hmd f3 ho2 hgc hmc hgd3 hrb (by omega) (by omega) (by omega) (by omega) HZ.out hfu1 hfu2 hfb f3 hwn).mono ?_
    rintro e W16 ⟨A4, c4, fp4, rfl, Vd3, ho2s, hf4, ho⟩
    have LF := Lib.hid (fun a (ha : a ∈ gd :: mb :: fc) => (by simp at ha; rcases ha with rfl | rfl | ha; (omega); (omega); (have := LC.out a ha; omega) : W2.heap.size ≤ a ∧ a < W14.heap.size))
    have ho1s := ho1.kept (fun a ha => ho.block a (by have := (LS.out a ha).2; omega) (fun hc => by simp at hc; rcases hc with rfl | rfl | hc; (have := (LS.out _ ha).2; omega); (have := (LS.out _ ha).2; omega); exact (List.nodup_append.1 (HFP.out ▸ HN.out)).2.2 a ha a hc rfl))
    have hdis : ∀ a, a ∈ ff → a ∈ fp4 → False := fun a ha hc => by
          rcases hf4.out a hc with h | h
          · exact (List.nodup_append.1 (HFP.out ▸ HN.out)).2.2 a ha a h rfl
          · have h2 := (LS.out a ha).2; omega
    have HD := Lib.hid hdis
    clear hdis
    have SW16 : W14.heap.size ≤ W16.heap.size := ho.size
    have HBW16 := Rep.Only.below HBW14 ho (by omega) (fun a ha => by have := (LF.out a ha).1; omega)
    replace Td := Rep.at_only Td ho (by omega) (fun a ha => by have := (LF.out a ha).1; omega)
    replace Vd := Rep.var_only Vd ho (by omega) (fun hb => by have := LF.out _ hb; omega)
    replace Vr := Rep.var_only Vr ho (by omega) (fun hb => by have := LF.out _ hb; omega)
    clear HBW14
    clear ho LF
    have hl5 : (d.cache ++ [(⟨n, b⟩ : Wr)]).length = d.cache.length + 1 := by simp
    have d0 : W16.cell? ⟨gd, 0, none⟩ = some (.slice A5 d.secs.length c6) := var_cell Vd3.out 0
    have d1 : W16.cell? ⟨gd, 1, none⟩ = some (.slice A4 (d.cache.length + 1) c4) := var_cell Vd3.out 1
    have d2 : W16.cell? ⟨gd, 2, none⟩ = some (.int .i64 (fuseAfter d.fuse)) := var_cell Vd3.out 2
    have d3 : W16.cell? ⟨gd, 3, none⟩ = some (.bool d.down) := var_cell Vd3.out 3
    have qr_0 : W16.cell? ⟨w.heap.size + 1, 0, none⟩ = some (.slice none 0 0) := var_cell Vr.out 0
    have qr_1 : W16.cell? ⟨w.heap.size + 1, 1, none⟩ = some (.slice none 0 0) := var_cell Vr.out 1
    have qr_2 : W16.cell? ⟨w.heap.size + 1, 2, none⟩ = some (.int .i64 0) := var_cell Vr.out 2
    have qr_3 : W16.cell? ⟨w.heap.size + 1, 3, none⟩ = some (.bool false) := var_cell Vr.out 3
    have lr : w.heap.size + 1 < W16.heap.size := by omega
    have fr_0 := var_frozen Vr.out 0
    have fr_1 := var_frozen Vr.out 1
    have fr_2 := var_frozen Vr.out 2
    have fr_3 := var_frozen Vr.out 3
    go_wp2_with fail
    refine bodyPost_ret (v := .agg #[.slice A5 d.secs.length c6, .slice A4 (d.cache.length + 1) c4, .int .i64 (fuseAfter d.fuse), .bool d.down]) (by simp [results, Tryz.results51, go_sem, qr_0, qr_1, qr_2, qr_3]) rfl ⟨_, ff ++ fp4, rfl, ?_, ?_⟩
    · rw [HR.out]; refine diskR.low (base := W2.heap.size) ?_ (by omega)
      repeat (refine Rep.setLow ?_ (by first | (simp; done) | (simp; omega)) _)
      exact disk_own2 (d := ⟨d.secs, d.cache ++ [⟨n, b⟩], fuseAfter d.fuse, d.down⟩) ho1s ho2s (Rep.nodup_append_of (List.nodup_append.1 (HFP.out ▸ HN.out)).1 (Rep.nodup cacheR (w := W16) (base := W2.heap.size) (cs := [.slice A4 (d.cache.length + 1) c4]) ⟨_, rfl, ho2s⟩) HD.out)
    · repeat (refine Below.setCell ?_ (by first | (simp; done) | (simp; omega)) _)
      exact HBW16
end Go.Proofs.YtoaaogacaibedaaGreatDoor
