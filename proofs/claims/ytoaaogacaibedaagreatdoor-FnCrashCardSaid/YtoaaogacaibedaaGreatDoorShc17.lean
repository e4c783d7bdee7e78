/- What the theorem needs, out of many texts. -/
import Derived.Test.YtoaaogacaibedaaGreatDoorShc15
namespace Go.Proofs.YtoaaogacaibedaaGreatDoor
open Go.RowKit Go.Maps
set_option maxRecDepth 2000000
set_option linter.unusedVariables false
set_option maxRecDepth 100000 in
set_option maxHeartbeats 4000000 in
theorem writeSec_any (cs cs2 : List Value) (d : Disk) (n : Int) (b : List UInt8) (w : World) (h : diskR.at_ w w.heap.size cs d) (h2 : byR.at_ w w.heap.size cs2 b) (hf : Fits d) (hfb : b.length ≤ 1048576) (hwn : (Lit.int .i64 n).wf = true) :
    Calls Tryz.prog 51 #[.agg cs.toArray, .int .i64 n, cs2.headD undef] w (RetDisk w (writeSec d n b)) := by
  obtain ⟨Ab, cb, rfl⟩ := byte_at_shape h2
  obtain ⟨Ad, cd, Bd, ed, rfl⟩ := disk_at_shape h
  have Td := h
  clear h
  have HBw := Below.refl w.heap.size w
  have Tb := h2
  clear h2
  obtain ⟨y, hy⟩ : ∃ y, diskOk d = y := ⟨_, rfl⟩
  have HOK := Lib.hid hy
  clear hy
  have f1 := hf.1
  have f3 := hf.2.2.1
  go_enter Tryz.func51, Tryz.ntmps51
  go_wp2_with fail
  have ho := Rep.only_alloc w (.cells #[.slice Ad d.secs.length cd, .slice Bd d.cache.length ed, .int .i64 d.fuse, .bool d.down] 27)
  have hv := heap_alloc_new w (.cells #[.slice Ad d.secs.length cd, .slice Bd d.cache.length ed, .int .i64 d.fuse, .bool d.down] 27)
  have hs : (w.alloc (.cells #[.slice Ad d.secs.length cd, .slice Bd d.cache.length ed, .int .i64 d.fuse, .bool d.down] 27)).heap.size = w.heap.size + 1 := by simp
  generalize hgW : w.alloc (.cells #[.slice Ad d.secs.length cd, .slice Bd d.cache.length ed, .int .i64 d.fuse, .bool d.down] 27) = W1 at ho hv hs ⊢
  clear hgW
  have SW1 : w.heap.size ≤ W1.heap.size := ho.size
  have HBW1 := Rep.Only.below HBw ho (by omega) (fun a ha => by cases ha)
  replace Td := Rep.at_only Td ho (by omega) (fun a ha => by cases ha)
  replace Tb := Rep.at_only Tb ho (by omega) (fun a ha => by cases ha)
  clear HBw
  have Vd := Lib.hid hv
  clear hv ho
  have ZW1 : w.heap.size < W1.heap.size := by omega
  have EW1 := Lib.hid hs
  clear hs
  have ho := Rep.only_alloc W1 (.cells #[.slice none 0 0, .slice none 0 0, .int .i64 0, .bool false] 27)
  have hv := heap_alloc_new' W1 (.cells #[.slice none 0 0, .slice none 0 0, .int .i64 0, .bool false] 27) (n := w.heap.size + 1) (by have := EW1.out; omega)
  have hs : (W1.alloc (.cells #[.slice none 0 0, .slice none 0 0, .int .i64 0, .bool false] 27)).heap.size = W1.heap.size + 1 := by simp
  generalize hgW : W1.alloc (.cells #[.slice none 0 0, .slice none 0 0, .int .i64 0, .bool false] 27) = W2 at ho hv hs ⊢
  clear hgW
  have SW2 : W1.heap.size ≤ W2.heap.size := ho.size
  have HBW2 := Rep.Only.below HBW1 ho (by omega) (fun a ha => by cases ha)
  replace Td := Rep.at_only Td ho (by omega) (fun a ha => by cases ha)
  replace Tb := Rep.at_only Tb ho (by omega) (fun a ha => by cases ha)
  replace Vd := Rep.var_only Vd ho (by omega) (fun hb => by cases hb)
  clear HBW1
  have Vr := Lib.hid hv
  clear hv ho
  have ZW2 : W1.heap.size < W2.heap.size := by omega
  have YW2 : w.heap.size + 1 < W2.heap.size := by have := EW1.out; omega
  have EW2 := Lib.hid hs
  clear hs
  refine (copyDisk_any [.slice Ad d.secs.length cd, .slice Bd d.cache.length ed, .int .i64 d.fuse, .bool d.down] d W2 (Rep.more diskR Td (by omega)) hf).mono ?_
  rintro e W3 ⟨cs, fp4, rfl, Oo, hb⟩
  obtain ⟨A5, c6, B7, d8, rfl⟩ := disk_own_shape Oo
  have ho := Rep.only_of_below hb
  have L9 := Lib.hid (Rep.lt diskR Oo)
  clear hb
  have SW3 : W2.heap.size ≤ W3.heap.size := ho.size
  have HBW3 := Rep.Only.below HBW2 ho (by omega) (fun a ha => by cases ha)
  replace Td := Rep.at_only Td ho (by omega) (fun a ha => by cases ha)
  replace Tb := Rep.at_only Tb ho (by omega) (fun a ha => by cases ha)
  replace Vd := Rep.var_only Vd ho (by omega) (fun hb => by cases hb)
  replace Vr := Rep.var_only Vr ho (by omega) (fun hb => by cases hb)
  clear HBW2
  clear ho
  have qd_0 : W3.cell? ⟨w.heap.size, 0, none⟩ = some (.slice Ad d.secs.length cd) := var_cell Vd.out 0
  have qd_1 : W3.cell? ⟨w.heap.size, 1, none⟩ = some (.slice Bd d.cache.length ed) := var_cell Vd.out 1
  have qd_2 : W3.cell? ⟨w.heap.size, 2, none⟩ = some (.int .i64 d.fuse) := var_cell Vd.out 2
  have qd_3 : W3.cell? ⟨w.heap.size, 3, none⟩ = some (.bool d.down) := var_cell Vd.out 3
  have ld : w.heap.size < W3.heap.size := by omega
  go_wp2_with fail
  clear qd_0 qd_1 qd_2 qd_3 ld
  have ho := Rep.only_alloc W3 (.cells #[.slice A5 d.secs.length c6, .slice B7 d.cache.length d8, .int .i64 d.fuse, .bool d.down] 27)
  have hv := heap_alloc_new W3 (.cells #[.slice A5 d.secs.length c6, .slice B7 d.cache.length d8, .int .i64 d.fuse, .bool d.down] 27)
  have hs : (W3.alloc (.cells #[.slice A5 d.secs.length c6, .slice B7 d.cache.length d8, .int .i64 d.fuse, .bool d.down] 27)).heap.size = W3.heap.size + 1 := by simp
  generalize hgW : W3.alloc (.cells #[.slice A5 d.secs.length c6, .slice B7 d.cache.length d8, .int .i64 d.fuse, .bool d.down] 27) = W10 at ho hv hs ⊢
  clear hgW
  have SW10 : W3.heap.size ≤ W10.heap.size := ho.size
  have HBW10 := Rep.Only.below HBW3 ho (by omega) (fun a ha => by cases ha)
  replace Td := Rep.at_only Td ho (by omega) (fun a ha => by cases ha)
  replace Tb := Rep.at_only Tb ho (by omega) (fun a ha => by cases ha)
  replace Oo := Rep.own_only Oo ho (fun a ha hb => by cases hb)
  replace Vd := Rep.var_only Vd ho (by omega) (fun hb => by cases hb)
  replace Vr := Rep.var_only Vr ho (by omega) (fun hb => by cases hb)
  clear HBW3
  have Vo := Lib.hid hv
  clear hv ho
  have ZW10 : W3.heap.size < W10.heap.size := by omega
  have EW10 := Lib.hid hs
  clear hs
  refine (diskOk_any [.slice Ad d.secs.length cd, .slice Bd d.cache.length ed, .int .i64 d.fuse, .bool d.down] d W10 (Rep.more diskR Td (by omega)) hf).mono ?_
  rintro e W11 ⟨rfl, hb⟩
  rw [HOK.out]
  have ho := Rep.only_of_below hb
  clear hb
  have SW11 : W10.heap.size ≤ W11.heap.size := ho.size
  have HBW11 := Rep.Only.below HBW10 ho (by omega) (fun a ha => by cases ha)
  replace Td := Rep.at_only Td ho (by omega) (fun a ha => by cases ha)
  replace Tb := Rep.at_only Tb ho (by omega) (fun a ha => by cases ha)
  replace Oo := Rep.own_only Oo ho (fun a ha hb => by cases hb)
  replace Vd := Rep.var_only Vd ho (by omega) (fun hb => by cases hb)
  replace Vr := Rep.var_only Vr ho (by omega) (fun hb => by cases hb)
  replace Vo := Rep.var_only Vo ho (by omega) (fun hb => by cases hb)
  clear HBW10
  clear ho
  cases y with
  | false =>
    have HR := Lib.hid (writeSec_no (n := n) (b := b) (fun hh => diskOk_bad HOK.out hh.1))
    have qo_0 : W11.cell? ⟨W3.heap.size, 0, none⟩ = some (.slice A5 d.secs.length c6) := var_cell Vo.out 0
    have qo_1 : W11.cell? ⟨W3.heap.size, 1, none⟩ = some (.slice B7 d.cache.length d8) := var_cell Vo.out 1
    have qo_2 : W11.cell? ⟨W3.heap.size, 2, none⟩ = some (.int .i64 d.fuse) := var_cell Vo.out 2
    have qo_3 : W11.cell? ⟨W3.heap.size, 3, none⟩ = some (.bool d.down) := var_cell Vo.out 3
    have lo : W3.heap.size < W11.heap.size := by omega
    have qd_0 : W11.cell? ⟨w.heap.size, 0, none⟩ = some (.slice Ad d.secs.length cd) := var_cell Vd.out 0
    have qd_1 : W11.cell? ⟨w.heap.size, 1, none⟩ = some (.slice Bd d.cache.length ed) := var_cell Vd.out 1
    have qd_2 : W11.cell? ⟨w.heap.size, 2, none⟩ = some (.int .i64 d.fuse) := var_cell Vd.out 2
    have qd_3 : W11.cell? ⟨w.heap.size, 3, none⟩ = some (.bool d.down) := var_cell Vd.out 3
    have ld : w.heap.size < W11.heap.size := by omega
    have qr_0 : W11.cell? ⟨w.heap.size + 1, 0, none⟩ = some (.slice none 0 0) := var_cell Vr.out 0
    have qr_1 : W11.cell? ⟨w.heap.size + 1, 1, none⟩ = some (.slice none 0 0) := var_cell Vr.out 1
    have qr_2 : W11.cell? ⟨w.heap.size + 1, 2, none⟩ = some (.int .i64 0) := var_cell Vr.out 2
    have qr_3 : W11.cell? ⟨w.heap.size + 1, 3, none⟩ = some (.bool false) := var_cell Vr.out 3
    have lr : w.heap.size + 1 < W11.heap.size := by omega
    have fr_0 := var_frozen Vr.out 0
    have fr_1 := var_frozen Vr.out 1
    have fr_2 := var_frozen Vr.out 2
    have fr_3 := var_frozen Vr.out 3
    go_wp2_with fail
    refine bodyPost_ret (v := .agg #[.slice A5 d.secs.length c6, .slice B7 d.cache.length d8, .int .i64 d.fuse, .bool d.down]) (by simp [results, Tryz.results51, go_sem, qr_0, qr_1, qr_2, qr_3]) rfl ⟨_, fp4, rfl, ?_, ?_⟩
    · rw [HR.out]; refine diskR.low (base := W2.heap.size) ?_ (by omega)
      repeat (refine Rep.setLow ?_ (by first | (simp; done) | (simp; omega)) _)
      exact Oo
    · repeat (refine Below.setCell ?_ (by first | (simp; done) | (simp; omega)) _)
      exact HBW11
  | true =>
    have hg := diskOk_good HOK.out
    rcases hdn : d.down with _ | _
    rotate_left
    · have HR := Lib.hid (writeSec_no (d := d) (n := n) (b := b) (fun hh => by have := hh.2.1; rw [hdn] at this; cases this))
      have qo_0 : W11.cell? ⟨W3.heap.size, 0, none⟩ = some (.slice A5 d.secs.length c6) := var_cell Vo.out 0
      have qo_1 : W11.cell? ⟨W3.heap.size, 1, none⟩ = some (.slice B7 d.cache.length d8) := var_cell Vo.out 1
      have qo_2 : W11.cell? ⟨W3.heap.size, 2, none⟩ = some (.int .i64 d.fuse) := var_cell Vo.out 2
      have qo_3 : W11.cell? ⟨W3.heap.size, 3, none⟩ = some (.bool d.down) := var_cell Vo.out 3
      have lo : W3.heap.size < W11.heap.size := by omega
      have qd_0 : W11.cell? ⟨w.heap.size, 0, none⟩ = some (.slice Ad d.secs.length cd) := var_cell Vd.out 0
      have qd_1 : W11.cell? ⟨w.heap.size, 1, none⟩ = some (.slice Bd d.cache.length ed) := var_cell Vd.out 1
      have qd_2 : W11.cell? ⟨w.heap.size, 2, none⟩ = some (.int .i64 d.fuse) := var_cell Vd.out 2
      have qd_3 : W11.cell? ⟨w.heap.size, 3, none⟩ = some (.bool d.down) := var_cell Vd.out 3
      have ld : w.heap.size < W11.heap.size := by omega
      have qr_0 : W11.cell? ⟨w.heap.size + 1, 0, none⟩ = some (.slice none 0 0) := var_cell Vr.out 0
      have qr_1 : W11.cell? ⟨w.heap.size + 1, 1, none⟩ = some (.slice none 0 0) := var_cell Vr.out 1
      have qr_2 : W11.cell? ⟨w.heap.size + 1, 2, none⟩ = some (.int .i64 0) := var_cell Vr.out 2
      have qr_3 : W11.cell? ⟨w.heap.size + 1, 3, none⟩ = some (.bool false) := var_cell Vr.out 3
      have lr : w.heap.size + 1 < W11.heap.size := by omega
      have fr_0 := var_frozen Vr.out 0
      have fr_1 := var_frozen Vr.out 1
      have fr_2 := var_frozen Vr.out 2
      have fr_3 := var_frozen Vr.out 3
      go_wp2_with fail
      refine bodyPost_ret (v := .agg #[.slice A5 d.secs.length c6, .slice B7 d.cache.length d8, .int .i64 d.fuse, .bool d.down]) (by simp [results, Tryz.results51, go_sem, qr_0, qr_1, qr_2, qr_3, hdn]) rfl ⟨_, fp4, rfl, ?_, ?_⟩
      · rw [HR.out]; refine diskR.low (base := W2.heap.size) ?_ (by omega)
        repeat (refine Rep.setLow ?_ (by first | (simp; done) | (simp; omega)) _)
        exact Oo
      · repeat (refine Below.setCell ?_ (by first | (simp; done) | (simp; omega)) _)
        exact HBW11
    by_cases hin : 0 ≤ n ∧ n < (d.secs.length : Int)
    rotate_left
    · have HR := Lib.hid (writeSec_no (d := d) (n := n) (b := b) (fun hh => hin ⟨hh.2.2.1.1, by have := hh.2.2.1.2; omega⟩))
      have Hin := Lib.hid hin
      clear hin
      have qd_0 : W11.cell? ⟨w.heap.size, 0, none⟩ = some (.slice Ad d.secs.length cd) := var_cell Vd.out 0
      have qd_1 : W11.cell? ⟨w.heap.size, 1, none⟩ = some (.slice Bd d.cache.length ed) := var_cell Vd.out 1
      have qd_2 : W11.cell? ⟨w.heap.size, 2, none⟩ = some (.int .i64 d.fuse) := var_cell Vd.out 2
      have qd_3 : W11.cell? ⟨w.heap.size, 3, none⟩ = some (.bool d.down) := var_cell Vd.out 3
      have ld : w.heap.size < W11.heap.size := by omega
      go_wp2_with fail
      clear qd_0 qd_1 qd_2 qd_3 ld
      refine (hasSec_no [.slice Ad d.secs.length cd, .slice Bd d.cache.length ed, .int .i64 d.fuse, .bool false] d n W11 (by have hq : diskR.at_ W11 W11.heap.size [.slice Ad d.secs.length cd, .slice Bd d.cache.length ed, .int .i64 d.fuse, .bool d.down] d := (Rep.more diskR Td (by omega)); rw [hdn] at hq; exact hq) Hin.out).mono ?_
      rintro e W12 ⟨rfl, hb⟩
      have ho := Rep.only_of_below hb
      clear hb
      have SW12 : W11.heap.size ≤ W12.heap.size := ho.size
      have HBW12 := Rep.Only.below HBW11 ho (by omega) (fun a ha => by cases ha)
      replace Td := Rep.at_only Td ho (by omega) (fun a ha => by cases ha)
      replace Tb := Rep.at_only Tb ho (by omega) (fun a ha => by cases ha)
      replace Oo := Rep.own_only Oo ho (fun a ha hb => by cases hb)
      replace Vd := Rep.var_only Vd ho (by omega) (fun hb => by cases hb)
      replace Vr := Rep.var_only Vr ho (by omega) (fun hb => by cases hb)
      replace Vo := Rep.var_only Vo ho (by omega) (fun hb => by cases hb)
      clear HBW11
      clear ho
      have qo_0 : W12.cell? ⟨W3.heap.size, 0, none⟩ = some (.slice A5 d.secs.length c6) := var_cell Vo.out 0
      have qo_1 : W12.cell? ⟨W3.heap.size, 1, none⟩ = some (.slice B7 d.cache.length d8) := var_cell Vo.out 1
      have qo_2 : W12.cell? ⟨W3.heap.size, 2, none⟩ = some (.int .i64 d.fuse) := var_cell Vo.out 2
      have qo_3 : W12.cell? ⟨W3.heap.size, 3, none⟩ = some (.bool d.down) := var_cell Vo.out 3
      have lo : W3.heap.size < W12.heap.size := by omega
      have qd_0 : W12.cell? ⟨w.heap.size, 0, none⟩ = some (.slice Ad d.secs.length cd) := var_cell Vd.out 0
      have qd_1 : W12.cell? ⟨w.heap.size, 1, none⟩ = some (.slice Bd d.cache.length ed) := var_cell Vd.out 1
      have qd_2 : W12.cell? ⟨w.heap.size, 2, none⟩ = some (.int .i64 d.fuse) := var_cell Vd.out 2
      have qd_3 : W12.cell? ⟨w.heap.size, 3, none⟩ = some (.bool d.down) := var_cell Vd.out 3
      have ld : w.heap.size < W12.heap.size := by omega
      have qr_0 : W12.cell? ⟨w.heap.size + 1, 0, none⟩ = some (.slice none 0 0) := var_cell Vr.out 0
      have qr_1 : W12.cell? ⟨w.heap.size + 1, 1, none⟩ = some (.slice none 0 0) := var_cell Vr.out 1
      have qr_2 : W12.cell? ⟨w.heap.size + 1, 2, none⟩ = some (.int .i64 0) := var_cell Vr.out 2
      have qr_3 : W12.cell? ⟨w.heap.size + 1, 3, none⟩ = some (.bool false) := var_cell Vr.out 3
      have lr : w.heap.size + 1 < W12.heap.size := by omega
      have fr_0 := var_frozen Vr.out 0
      have fr_1 := var_frozen Vr.out 1
      have fr_2 := var_frozen Vr.out 2
      have fr_3 := var_frozen Vr.out 3
      go_wp2_with fail
      refine bodyPost_ret (v := .agg #[.slice A5 d.secs.length c6, .slice B7 d.cache.length d8, .int .i64 d.fuse, .bool d.down]) (by simp [results, Tryz.results51, go_sem, qr_0, qr_1, qr_2, qr_3, hdn]) rfl ⟨_, fp4, rfl, ?_, ?_⟩
      · rw [HR.out]; refine diskR.low (base := W2.heap.size) ?_ (by omega)
        repeat (refine Rep.setLow ?_ (by first | (simp; done) | (simp; omega)) _)
        exact Oo
      · repeat (refine Below.setCell ?_ (by first | (simp; done) | (simp; omega)) _)
        exact HBW12
    have Hin := Lib.hid hin
    clear hin
    have qd_0 : W11.cell? ⟨w.heap.size, 0, none⟩ = some (.slice Ad d.secs.length cd) := var_cell Vd.out 0
    have qd_1 : W11.cell? ⟨w.heap.size, 1, none⟩ = some (.slice Bd d.cache.length ed) := var_cell Vd.out 1
    have qd_2 : W11.cell? ⟨w.heap.size, 2, none⟩ = some (.int .i64 d.fuse) := var_cell Vd.out 2
    have qd_3 : W11.cell? ⟨w.heap.size, 3, none⟩ = some (.bool d.down) := var_cell Vd.out 3
    have ld : w.heap.size < W11.heap.size := by omega
    go_wp2_with fail
    clear qd_0 qd_1 qd_2 qd_3 ld
    refine (hasSec_yes [.slice Ad d.secs.length cd, .slice Bd d.cache.length ed, .int .i64 d.fuse, .bool false] d n W11 (by have hq : diskR.at_ W11 W11.heap.size [.slice Ad d.secs.length cd, .slice Bd d.cache.length ed, .int .i64 d.fuse, .bool d.down] d := (Rep.more diskR Td (by omega)); rw [hdn] at hq; exact hq) Hin.out.1 Hin.out.2).mono ?_
    rintro e W13 ⟨rfl, hb⟩
    have ho := Rep.only_of_below hb
    clear hb
    have SW13 : W11.heap.size ≤ W13.heap.size := ho.size
    have HBW13 := Rep.Only.below HBW11 ho (by omega) (fun a ha => by cases ha)
    replace Td := Rep.at_only Td ho (by omega) (fun a ha => by cases ha)
    replace Tb := Rep.at_only Tb ho (by omega) (fun a ha => by cases ha)
    replace Oo := Rep.own_only Oo ho (fun a ha hb => by cases hb)
    replace Vd := Rep.var_only Vd ho (by omega) (fun hb => by cases hb)
    replace Vr := Rep.var_only Vr ho (by omega) (fun hb => by cases hb)
    replace Vo := Rep.var_only Vo ho (by omega) (fun hb => by cases hb)
    clear HBW11
    clear ho
    have HDN := Lib.hid hdn
    clear hdn
    by_cases h160 : b.length ≤ 160
    rotate_left
    · have HR := Lib.hid (writeSec_no (d := d) (n := n) (b := b) (fun hh => h160 hh.2.2.2.1))
      have qo_0 : W13.cell? ⟨W3.heap.size, 0, none⟩ = some (.slice A5 d.secs.length c6) := var_cell Vo.out 0
      have qo_1 : W13.cell? ⟨W3.heap.size, 1, none⟩ = some (.slice B7 d.cache.length d8) := var_cell Vo.out 1
      have qo_2 : W13.cell? ⟨W3.heap.size, 2, none⟩ = some (.int .i64 d.fuse) := var_cell Vo.out 2
      have qo_3 : W13.cell? ⟨W3.heap.size, 3, none⟩ = some (.bool d.down) := var_cell Vo.out 3
      have lo : W3.heap.size < W13.heap.size := by omega
      have qd_0 : W13.cell? ⟨w.heap.size, 0, none⟩ = some (.slice Ad d.secs.length cd) := var_cell Vd.out 0
      have qd_1 : W13.cell? ⟨w.heap.size, 1, none⟩ = some (.slice Bd d.cache.length ed) := var_cell Vd.out 1
      have qd_2 : W13.cell? ⟨w.heap.size, 2, none⟩ = some (.int .i64 d.fuse) := var_cell Vd.out 2
      have qd_3 : W13.cell? ⟨w.heap.size, 3, none⟩ = some (.bool d.down) := var_cell Vd.out 3
      have ld : w.heap.size < W13.heap.size := by omega
      have qr_0 : W13.cell? ⟨w.heap.size + 1, 0, none⟩ = some (.slice none 0 0) := var_cell Vr.out 0
      have qr_1 : W13.cell? ⟨w.heap.size + 1, 1, none⟩ = some (.slice none 0 0) := var_cell Vr.out 1
      have qr_2 : W13.cell? ⟨w.heap.size + 1, 2, none⟩ = some (.int .i64 0) := var_cell Vr.out 2
      have qr_3 : W13.cell? ⟨w.heap.size + 1, 3, none⟩ = some (.bool false) := var_cell Vr.out 3
      have lr : w.heap.size + 1 < W13.heap.size := by omega
      have fr_0 := var_frozen Vr.out 0
      have fr_1 := var_frozen Vr.out 1
      have fr_2 := var_frozen Vr.out 2
      have fr_3 := var_frozen Vr.out 3
      go_wp2_with fail
      refine bodyPost_ret (v := .agg #[.slice A5 d.secs.length c6, .slice B7 d.cache.length d8, .int .i64 d.fuse, .bool d.down]) (by simp [results, Tryz.results51, go_sem, qr_0, qr_1, qr_2, qr_3]) rfl ⟨_, fp4, rfl, ?_, ?_⟩
      · rw [HR.out]; refine diskR.low (base := W2.heap.size) ?_ (by omega)
        repeat (refine Rep.setLow ?_ (by first | (simp; done) | (simp; omega)) _)
        exact Oo
      · repeat (refine Below.setCell ?_ (by first | (simp; done) | (simp; omega)) _)
        exact HBW13
    by_cases h30 : d.cache.length = 30
    · have HR := Lib.hid (writeSec_no (d := d) (n := n) (b := b) (fun hh => hh.2.2.2.2 h30))
      have g30 : ((d.cache.length : Int) == 30) = true := by simp; omega
      clear h30
      have qo_0 : W13.cell? ⟨W3.heap.size, 0, none⟩ = some (.slice A5 d.secs.length c6) := var_cell Vo.out 0
      have qo_1 : W13.cell? ⟨W3.heap.size, 1, none⟩ = some (.slice B7 d.cache.length d8) := var_cell Vo.out 1
      have qo_2 : W13.cell? ⟨W3.heap.size, 2, none⟩ = some (.int .i64 d.fuse) := var_cell Vo.out 2
      have qo_3 : W13.cell? ⟨W3.heap.size, 3, none⟩ = some (.bool d.down) := var_cell Vo.out 3
      have lo : W3.heap.size < W13.heap.size := by omega
      have qd_0 : W13.cell? ⟨w.heap.size, 0, none⟩ = some (.slice Ad d.secs.length cd) := var_cell Vd.out 0
      have qd_1 : W13.cell? ⟨w.heap.size, 1, none⟩ = some (.slice Bd d.cache.length ed) := var_cell Vd.out 1
      have qd_2 : W13.cell? ⟨w.heap.size, 2, none⟩ = some (.int .i64 d.fuse) := var_cell Vd.out 2
      have qd_3 : W13.cell? ⟨w.heap.size, 3, none⟩ = some (.bool d.down) := var_cell Vd.out 3
      have ld : w.heap.size < W13.heap.size := by omega
      have qr_0 : W13.cell? ⟨w.heap.size + 1, 0, none⟩ = some (.slice none 0 0) := var_cell Vr.out 0
      have qr_1 : W13.cell? ⟨w.heap.size + 1, 1, none⟩ = some (.slice none 0 0) := var_cell Vr.out 1
      have qr_2 : W13.cell? ⟨w.heap.size + 1, 2, none⟩ = some (.int .i64 0) := var_cell Vr.out 2
      have qr_3 : W13.cell? ⟨w.heap.size + 1, 3, none⟩ = some (.bool false) := var_cell Vr.out 3
      have lr : w.heap.size + 1 < W13.heap.size := by omega
      have fr_0 := var_frozen Vr.out 0
      have fr_1 := var_frozen Vr.out 1
      have fr_2 := var_frozen Vr.out 2
      have fr_3 := var_frozen Vr.out 3
      go_wp2_with fail
      refine bodyPost_ret (v := .agg #[.slice A5 d.secs.length c6, .slice B7 d.cache.length d8, .int .i64 d.fuse, .bool d.down]) (by simp [results, Tryz.results51, go_sem, qr_0, qr_1, qr_2, qr_3]) rfl ⟨_, fp4, rfl, ?_, ?_⟩
      · rw [HR.out]; refine diskR.low (base := W2.heap.size) ?_ (by omega)
        repeat (refine Rep.setLow ?_ (by first | (simp; done) | (simp; omega)) _)
        exact Oo
      · repeat (refine Below.setCell ?_ (by first | (simp; done) | (simp; omega)) _)
        exact HBW13
    have g30 : ((d.cache.length : Int) == 30) = false := by simp; omega
    have HG : Hid (WriteGood d n b) := Lib.hid ⟨hg, HDN.out, ⟨Hin.out.1, by have := Hin.out.2; omega⟩, h160, h30⟩
    have hfu1 : -1 ≤ d.fuse := hg.2.2.2.1
    have hfu2 : d.fuse ≤ 1000 := hg.2.2.2.2
    have h29 : d.cache.length ≤ 30 := hg.1.2.2
    have HW := Lib.hid (wf_key hg)
    clear h30 hg
    obtain ⟨u1, u2, ff, fc, hcs, ho1, ho2, hfp, hnd⟩ := disk_inv Oo
    have e1 : u1 = .slice A5 d.secs.length c6 := by injection hcs with h1 _; exact h1.symm
    have e2 : u2 = .slice B7 d.cache.length d8 := by injection hcs with _ h2; injection h2 with h2 _; exact h2.symm
    subst e1 e2
    clear hcs
    have HN := Lib.hid hnd
    have HFP := Lib.hid hfp
    clear hnd hfp Oo
    have LS := Lib.hid (fun a ha => L9.out a (by rw [HFP.out]; exact List.mem_append_left _ ha))
    have LC := Lib.hid (fun a ha => L9.out a (by rw [HFP.out]; exact List.mem_append_right _ ha))
    obtain ⟨Ax, cx, hax, _, hrs⟩ := ho1.reads
    injection hax with hax1 _ hax2
    subst hax1 hax2
    obtain ⟨Ay, cy, hay, hcy, hmy, hrc⟩ := ho2.reads
    injection hay with hay1 _ hay2
    subst hay1 hay2
    obtain ⟨_, cells, hrd, hel⟩ := hrc
    have HE := Lib.hid hel
    clear hel hrs
    have qo_0 : W13.cell? ⟨W3.heap.size, 0, none⟩ = some (.slice A5 d.secs.length c6) := var_cell Vo.out 0
    have qo_1 : W13.cell? ⟨W3.heap.size, 1, none⟩ = some (.slice B7 d.cache.length d8) := var_cell Vo.out 1
    have qo_2 : W13.cell? ⟨W3.heap.size, 2, none⟩ = some (.int .i64 d.fuse) := var_cell Vo.out 2
    have qo_3 : W13.cell? ⟨W3.heap.size, 3, none⟩ = some (.bool d.down) := var_cell Vo.out 3
    have lo : W3.heap.size < W13.heap.size := by omega
    have qd_0 : W13.cell? ⟨w.heap.size, 0, none⟩ = some (.slice Ad d.secs.length cd) := var_cell Vd.out 0
    have qd_1 : W13.cell? ⟨w.heap.size, 1, none⟩ = some (.slice Bd d.cache.length ed) := var_cell Vd.out 1
    have qd_2 : W13.cell? ⟨w.heap.size, 2, none⟩ = some (.int .i64 d.fuse) := var_cell Vd.out 2
    have qd_3 : W13.cell? ⟨w.heap.size, 3, none⟩ = some (.bool d.down) := var_cell Vd.out 3
    have ld : w.heap.size < W13.heap.size := by omega
    go_wp2_with fail
    clear qo_0 qo_1 qo_2 qo_3 lo qd_0 qd_1 qd_2 qd_3 ld
    refine (driveOf_any A5 B7 c6 d8 d cells W13 hrd HE.out f3 HW.out).mono ?_
    rintro e W14 ⟨gd, mb, rfl, vd, hmd, hb, hgd1, hgd2, hgd3⟩
    have ho := Rep.only_of_below hb
    replace ho1 := ho1.of_below hb
    replace ho2 := ho2.of_below hb
    clear hb hrd
    have SW14 : W13.heap.size ≤ W14.heap.size := ho.size
    have HBW14 := Rep.Only.below HBW13 ho (by omega) (fun a ha => by cases ha)
    replace Td := Rep.at_only Td ho (by omega) (fun a ha => by cases ha)
    replace Tb := Rep.at_only Tb ho (by omega) (fun a ha => by cases ha)
    replace Vd := Rep.var_only Vd ho (by omega) (fun hb => by cases hb)
    replace Vr := Rep.var_only Vr ho (by omega) (fun hb => by cases hb)
    replace Vo := Rep.var_only Vo ho (by omega) (fun hb => by cases hb)
    clear HBW13
    clear ho
    have Vd2 := Lib.hid vd
    clear vd
    have hgl : gd < W14.heap.size := World.block_lt_of_cell? _ ⟨gd, 0, none⟩ (var_cell Vd2.out 0)
    have hml := hmd.lt
    by_cases hz : d.fuse = 0
    · have HR := Lib.hid (writeSec_zero HG.out hz)
      have Vz : Hid (W14.heap[gd]? = some (.cells #[.slice A5 d.secs.length c6, .slice B7 d.cache.length d8, .int .i64 0, .bool d.down, .map (some mb)] 106 (0, 0))) := Lib.hid (by have := Vd2.out; rw [hz] at this; exact this)
      clear hz
      go_wp2_with fail
      refine (driveWrite_zero gd (.slice A5 d.secs.length c6) (.slice B7 d.cache.length d8) (.map (some mb)) d.down n _ W14 Vz.out).mono ?_
      rintro e W15 ⟨rfl, Vd3, ho⟩
      have LF := Lib.hid (fun a (ha : a ∈ [gd]) => (by simp at ha; omega : W13.heap.size ≤ a ∧ a < W14.heap.size))
      replace ho1 := ho1.kept (fun a ha => ho.block a (by have := (LS.out a ha).2; omega) (by have := (LS.out a ha).2; simp; omega))
      replace ho2 := ho2.kept (fun a ha => ho.block a (by have := (LC.out a ha).2; omega) (by have := (LC.out a ha).2; simp; omega))
      have SW15 : W14.heap.size ≤ W15.heap.size := ho.size
      have HBW15 := Rep.Only.below HBW14 ho (by omega) (fun a ha => by have := (LF.out a ha).1; omega)
      replace Td := Rep.at_only Td ho (by omega) (fun a ha => by have := (LF.out a ha).1; omega)
      replace Tb := Rep.at_only Tb ho (by omega) (fun a ha => by have := (LF.out a ha).1; omega)
      replace Vd := Rep.var_only Vd ho (by omega) (fun hb => by have := LF.out _ hb; omega)
      replace Vr := Rep.var_only Vr ho (by omega) (fun hb => by have := LF.out _ hb; omega)
      replace Vo := Rep.var_only Vo ho (by omega) (fun hb => by have := LF.out _ hb; omega)
      clear HBW14
      clear ho LF
      have d0 : W15.cell? ⟨gd, 0, none⟩ = some (.slice A5 d.secs.length c6) := var_cell Vd3.out 0
      have d1 : W15.cell? ⟨gd, 1, none⟩ = some (.slice B7 d.cache.length d8) := var_cell Vd3.out 1
      have d2 : W15.cell? ⟨gd, 2, none⟩ = some (.int .i64 (-1)) := var_cell Vd3.out 2
      have d3 : W15.cell? ⟨gd, 3, none⟩ = some (.bool true) := var_cell Vd3.out 3
      have qr_0 : W15.cell? ⟨w.heap.size + 1, 0, none⟩ = some (.slice none 0 0) := var_cell Vr.out 0
      have qr_1 : W15.cell? ⟨w.heap.size + 1, 1, none⟩ = some (.slice none 0 0) := var_cell Vr.out 1
      have qr_2 : W15.cell? ⟨w.heap.size + 1, 2, none⟩ = some (.int .i64 0) := var_cell Vr.out 2
      have qr_3 : W15.cell? ⟨w.heap.size + 1, 3, none⟩ = some (.bool false) := var_cell Vr.out 3
      have lr : w.heap.size + 1 < W15.heap.size := by omega
      have fr_0 := var_frozen Vr.out 0
      have fr_1 := var_frozen Vr.out 1
      have fr_2 := var_frozen Vr.out 2
      have fr_3 := var_frozen Vr.out 3
      go_wp2_with fail
      refine bodyPost_ret (v := .agg #[.slice A5 d.secs.length c6, .slice B7 d.cache.length d8, .int .i64 (-1), .bool true]) (by simp [results, Tryz.results51, go_sem, qr_0, qr_1, qr_2, qr_3]) rfl ⟨_, ff ++ fc, rfl, ?_, ?_⟩
      · rw [HR.out]; refine diskR.low (base := W2.heap.size) ?_ (by omega)
        repeat (refine Rep.setLow ?_ (by first | (simp; done) | (simp; omega)) _)
        exact disk_own2 (d := ⟨d.secs, d.cache, -1, true⟩) ho1 ho2 (by rw [← HFP.out]; exact HN.out)
      · repeat (refine Below.setCell ?_ (by first | (simp; done) | (simp; omega)) _)
        exact HBW15
    have HR := Lib.hid (writeSec_go HG.out hz)
    have HZ := Lib.hid hz
    clear hz
    go_wp2_with fail
    obtain ⟨_, _, hb1, _, hrb⟩ := Tb
    injection hb1 with hb1
    injection hb1 with hb1 _ hb2
    subst hb1 hb2
    have hgc : gd ∉ fc := fun h => by have := (LC.out _ h).2; omega
    have hmc : mb ∉ fc := fun h => by have := (LC.out _ h).2; omega
    refine (driveWrite_go gd mb d.cache.length (W2.heap.size) w.heap.size (.slice A5 d.secs.length c6) B7 d8 d.cache fc d.fuse d.down n Ab cb b cells _ W14 Vd2.out hmd f3 ho2 hgc hmc hgd3 hrb (by omega) (by omega) (by omega) (by omega) HZ.out hfu1 hfu2 hfb f3 hwn).mono ?_
    rintro e W16 ⟨A4, c4, fp4, rfl, Vd3, ho2s, hf4, ho⟩
    have LF := Lib.hid (fun a (ha : a ∈ gd :: mb :: fc) => (by simp at ha; rcases ha with rfl | rfl | ha; (omega); (omega); (have := LC.out a ha; omega) : W2.heap.size ≤ a ∧ a < W14.heap.size))
    have ho1s := ho1.kept (fun a ha => ho.block a (by have := (LS.out a ha).2; omega) (fun hc => by simp at hc; rcases hc with rfl | rfl | hc; (have := (LS.out _ ha).2; omega); (have := (LS.out _ ha).2; omega); exact (List.nodup_append.1 (HFP.out ▸ HN.out)).2.2 a ha a hc rfl))
    have hdis : ∀ a, a ∈ ff → a ∈ fp4 → False := fun a ha hc => by
          rcases hf4.out a hc with h | h
          · exact (List.nodup_append.1 (HFP.out ▸ HN.out)).2.2 a ha a h rfl
          · have h2 := (LS.out a ha).2; omega
    have HD := Lib.hid hdis
    clear hdis
    have SW16 : W14.heap.size ≤ W16.heap.size := ho.size
    have HBW16 := Rep.Only.below HBW14 ho (by omega) (fun a ha => by have := (LF.out a ha).1; omega)
    replace Td := Rep.at_only Td ho (by omega) (fun a ha => by have := (LF.out a ha).1; omega)
    replace Vd := Rep.var_only Vd ho (by omega) (fun hb => by have := LF.out _ hb; omega)
    replace Vr := Rep.var_only Vr ho (by omega) (fun hb => by have := LF.out _ hb; omega)
    clear HBW14
    clear ho LF
    have hl5 : (d.cache ++ [(⟨n, b⟩ : Wr)]).length = d.cache.length + 1 := by simp
    have d0 : W16.cell? ⟨gd, 0, none⟩ = some (.slice A5 d.secs.length c6) := var_cell Vd3.out 0
    have d1 : W16.cell? ⟨gd, 1, none⟩ = some (.slice A4 (d.cache.length + 1) c4) := var_cell Vd3.out 1
    have d2 : W16.cell? ⟨gd, 2, none⟩ = some (.int .i64 (fuseAfter d.fuse)) := var_cell Vd3.out 2
    have d3 : W16.cell? ⟨gd, 3, none⟩ = some (.bool d.down) := var_cell Vd3.out 3
    have qr_0 : W16.cell? ⟨w.heap.size + 1, 0, none⟩ = some (.slice none 0 0) := var_cell Vr.out 0
    have qr_1 : W16.cell? ⟨w.heap.size + 1, 1, none⟩ = some (.slice none 0 0) := var_cell Vr.out 1
    have qr_2 : W16.cell? ⟨w.heap.size + 1, 2, none⟩ = some (.int .i64 0) := var_cell Vr.out 2
    have qr_3 : W16.cell? ⟨w.heap.size + 1, 3, none⟩ = some (.bool false) := var_cell Vr.out 3
    have lr : w.heap.size + 1 < W16.heap.size := by omega
    have fr_0 := var_frozen Vr.out 0
    have fr_1 := var_frozen Vr.out 1
    have fr_2 := var_frozen Vr.out 2
    have fr_3 := var_frozen Vr.out 3
    go_wp2_with fail
    refine bodyPost_ret (v := .agg #[.slice A5 d.secs.length c6, .slice A4 (d.cache.length + 1) c4, .int .i64 (fuseAfter d.fuse), .bool d.down]) (by simp [results, Tryz.results51, go_sem, qr_0, qr_1, qr_2, qr_3]) rfl ⟨_, ff ++ fp4, rfl, ?_, ?_⟩
    · rw [HR.out]; refine diskR.low (base := W2.heap.size) ?_ (by omega)
      repeat (refine Rep.setLow ?_ (by first | (simp; done) | (simp; omega)) _)
      exact disk_own2 (d := ⟨d.secs, d.cache ++ [⟨n, b⟩], fuseAfter d.fuse, d.down⟩) ho1s ho2s (Rep.nodup_append_of (List.nodup_append.1 (HFP.out ▸ HN.out)).1 (Rep.nodup cacheR (w := W16) (base := W2.heap.size) (cs := [.slice A4 (d.cache.length + 1) c4]) ⟨_, rfl, ho2s⟩) HD.out)
    · repeat (refine Below.setCell ?_ (by first | (simp; done) | (simp; omega)) _)
      exact HBW16
def secCell (sc cc : List Value) (idx : Int → Option Nat) (i : Nat) : Value := match idx (i : Int) with | some j => cc.getD (2 * j + 1) undef | none => sc.getD i undef
def mixC (n : Nat) (sc cc : List Value) (idx : Int → Option Nat) : List Value := (List.range n).map (secCell sc cc idx)
theorem mixC_length (n : Nat) (sc cc : List Value) (idx : Int → Option Nat) : (mixC n sc cc idx).length = n := by simp [mixC]
theorem mixC_get {n i : Nat} (sc cc : List Value) (idx : Int → Option Nat) (h : i < n) : (mixC n sc cc idx)[i]? = some (secCell sc cc idx i) := by
 unfold mixC
 rw [List.getElem?_map, List.getElem?_range h]
 rfl
theorem mixC_none (sc cc : List Value) : mixC sc.length sc cc (fun _ => none) = sc := by
 refine List.ext_getElem? fun i => ?_
 by_cases h : i < sc.length
 ·rw [mixC_get _ _ _ h, List.getElem?_eq_getElem h]
  show some (sc.getD i undef) = _
  rw [List.getD_eq_getElem?_getD, List.getElem?_eq_getElem h]
  rfl
 ·rw [List.getElem?_eq_none (by rw [mixC_length]; omega), List.getElem?_eq_none (by omega)]
theorem mixC_step {n n0 k : Nat} {sc cc : List Value} {idx idx' : Int → Option Nat} (h : n0 < n) (hi : ∀ i, idx' i = if (n0 : Int) = i then some k else idx i) : mixC n sc cc idx' = (mixC n sc cc idx).set n0 (cc.getD (2 * k + 1) undef) := by
 refine List.ext_getElem? fun i => ?_
 rw [List.getElem?_set]
 by_cases hin : i < n
 ·rw [mixC_get _ _ _ hin, mixC_get _ _ _ hin, mixC_length]
  have e : secCell sc cc idx' i = if n0 = i then cc.getD (2 * k + 1) undef else secCell sc cc idx i := by
   unfold secCell
   rw [hi i]
   by_cases he : n0 = i
   ·rw [if_pos he, if_pos (by omega)]
   ·rw [if_neg he, if_neg (by omega)]
  rw [e]
  by_cases he : n0 = i
  ·rw [if_pos he, if_pos he, if_pos (by omega)]
  ·rw [if_neg he, if_neg he]
 ·rw [List.getElem?_eq_none (by rw [mixC_length]; omega), List.getElem?_eq_none (by rw [mixC_length]; omega)]
  rw [if_neg (by omega)]
def secAt (d : Disk) (idx : Int → Option Nat) (i : Nat) : List UInt8 := match idx (i : Int) with | some j => (d.cache.getD j ⟨0, []⟩).b | none => d.secs.getD i []
def flushSecs (d : Disk) (idx : Int → Option Nat) : List (List UInt8) := (List.range d.secs.length).map (secAt d idx)
theorem flushSecs_length (d : Disk) (idx : Int → Option Nat) : (flushSecs d idx).length = d.secs.length := by simp [flushSecs]
def IdxOk (d : Disk) (idx : Int → Option Nat) : Prop := ∀ i j, idx i = some j → ∃ x, d.cache[j]? = some x ∧ x.n = i
theorem idx_ok (d : Disk) (k : Nat) (hk : k ≤ d.cache.length) : IdxOk d (idxC (key d.cache) k) := by
 intro i j h
 obtain ⟨h1, h2⟩ := idxC_lt h
 obtain ⟨x, hx⟩ := Rep.getElem?_of_lt (xs := d.cache) rfl (show j < d.cache.length by omega)
 rw [key_eq hx] at h2
 exact ⟨x, hx, by simpa using h2⟩
structure Mid (w : World) (base : Nat) (v v' : Value) (d : Disk) (sc cc : List Value) (fps fcs : List (List Nat)) (idx : Int → Option Nat) : Prop where
 row : w.ownsRow base 22 1 v d.secs.length (mixC d.secs.length sc cc idx)
 crow : w.ownsRow base 100 2 v' d.cache.length cc
 secs : ∀ i x f, d.secs[i]? = some x → fps[i]? = some f → byR.own w base (Rep.seg 1 i sc) x f
 cache : ∀ i x f, d.cache[i]? = some x → fcs[i]? = some f → wrR.own w base (Rep.seg 2 i cc) x f
 slen : fps.length = d.secs.length
 clen : fcs.length = d.cache.length
 sclen : sc.length = d.secs.length
 nodup : ((v.ownBlock.toList ++ fps.flatten) ++ (v'.ownBlock.toList ++ fcs.flatten)).Nodup
theorem Mid.start {w : World} {base : Nat} {v v' : Value} {d : Disk} {f f' : List Nat} (h : Rep.OwnRows byR 22 w base v d.secs f) (h' : Rep.OwnRows wrR 100 w base v' d.cache f') (hn : (f ++ f').Nodup) :
  ∃ sc cc fps fcs, f = v.ownBlock.toList ++ fps.flatten ∧ f' = v'.ownBlock.toList ++ fcs.flatten ∧ Mid w base v v' d sc cc fps fcs (fun _ => none) := by
 obtain ⟨sc, fps, ho, hl, he, hf, hn1⟩ := h
 obtain ⟨cc, fcs, ho', hl', he', hf', hn1'⟩ := h'
 have hsl : sc.length = d.secs.length := by have := ho.1; replace this : sc.length = d.secs.length * 1 := this; omega
 refine ⟨sc, cc, fps, fcs, hf, hf', ?_, ho', he, he', hl, hl', hsl, by rw [← hf, ← hf']; exact hn⟩
 have := mixC_none sc cc
 rw [hsl] at this
 rw [this]
 exact ho
theorem Mid.kept {w w' : World} {base : Nat} {v v' : Value} {d : Disk} {sc cc : List Value} {fps fcs : List (List Nat)} {idx : Int → Option Nat} (h : Mid w base v v' d sc cc fps fcs idx) (hb : ∀ a, a ∈ (v.ownBlock.toList ++ fps.flatten) ++ (v'.ownBlock.toList ++ fcs.flatten) → w'.heap[a]? = w.heap[a]?) : Mid w' base v v' d sc cc fps fcs idx :=
  ⟨Rep.ownsRow_block h.row fun a ha => hb a (by simp [List.mem_append] at ha ⊢; simp [ha]), Rep.ownsRow_block h.crow fun a ha => hb a (by simp [List.mem_append] at ha ⊢; simp [ha]),
   fun i x f hx hf => byR.kept (h.secs i x f hx hf) fun a ha => hb a (by rw [List.mem_append]; exact .inl (List.mem_append_right _ (Rep.mem_flatten_of hf ha))),
   fun i x f hx hf => wrR.kept (h.cache i x f hx hf) fun a ha => hb a (by rw [List.mem_append]; exact .inr (List.mem_append_right _ (Rep.mem_flatten_of hf ha))), h.slen, h.clen, h.sclen, h.nodup⟩
theorem Mid.weak {w : World} {base : Nat} {v v' : Value} {d : Disk} {sc cc : List Value} {fps fcs : List (List Nat)} {idx idx' : Int → Option Nat} (h : Mid w base v v' d sc cc fps fcs idx) (he : ∀ i, idx i = idx' i) : Mid w base v v' d sc cc fps fcs idx' := by
 have : idx = idx' := funext he
 subst this
 exact h
theorem Mid.store {w : World} {base g c n0 k : Nat} {v' : Value} {d : Disk} {sc cc : List Value} {fps fcs : List (List Nat)} {idx idx' : Int → Option Nat} (h : Mid w base (.slice (some ⟨g, 0, none⟩) d.secs.length c) v' d sc cc fps fcs idx) (h0 : n0 < d.secs.length)
    (hi : ∀ i, idx' i = if (n0 : Int) = i then some k else idx i) : Mid (w.setCell ⟨g, n0, none⟩ (cc.getD (2 * k + 1) undef)) base (.slice (some ⟨g, 0, none⟩) d.secs.length c) v' d sc cc fps fcs idx' := by
  have hn := h.nodup
  rw [List.nodup_append] at hn
  obtain ⟨hn1, hn2, hn3⟩ := hn
  have hgm : g ∈ (Value.slice (some ⟨g, 0, none⟩) d.secs.length c).ownBlock.toList ++ fps.flatten := by simp [Value.ownBlock]
  have hg1 : ∀ a, a ∈ fps.flatten → a ≠ g := fun a ha e => (List.nodup_append.1 hn1).2.2 g (by simp [Value.ownBlock]) a ha e.symm
  have hg2 : ∀ a, a ∈ v'.ownBlock.toList ++ fcs.flatten → a ≠ g := fun a ha e => hn3 g hgm a ha e.symm
  refine ⟨?_, Rep.ownsRow_block h.crow fun a ha => heap_setCell_other _ _ _ _ (hg2 a (List.mem_append_left _ ha)),
   fun i x f hx hf => byR.kept (h.secs i x f hx hf) fun a ha => heap_setCell_other _ _ _ _ (hg1 a (Rep.mem_flatten_of hf ha)),
   fun i x f hx hf => wrR.kept (h.cache i x f hx hf) fun a ha => heap_setCell_other _ _ _ _ (hg2 a (List.mem_append_right _ (Rep.mem_flatten_of hf ha))), h.slen, h.clen, h.sclen, h.nodup⟩
  rw [mixC_step h0 hi]
  exact (h.row.stored n0 _).1
theorem flat_disj {fps : List (List Nat)} (h : fps.flatten.Nodup) {i j : Nat} (hij : i ≠ j) {a : Nat} (hi : a ∈ fps.getD i []) (hj : a ∈ fps.getD j []) : False := by
 have hpw := (List.pairwise_flatten.1 (show List.Pairwise (· ≠ ·) fps.flatten from h)).2
 rw [List.pairwise_iff_getElem] at hpw
 have key1 : ∀ i, a ∈ fps.getD i [] → ∃ h : i < fps.length, a ∈ fps[i] := by
  intro i hi
  rcases Nat.lt_or_ge i fps.length with h' | h'
  ·exact ⟨h', by rw [List.getD_eq_getElem?_getD, List.getElem?_eq_getElem h'] at hi; exact hi⟩
  ·rw [List.getD_eq_getElem?_getD, List.getElem?_eq_none h'] at hi; cases hi
 obtain ⟨h1, h1'⟩ := key1 i hi
 obtain ⟨h2, h2'⟩ := key1 j hj
 rcases Nat.lt_or_gt_of_ne hij with hlt | hgt
 ·exact hpw i j h1 h2 hlt a h1' a h2' rfl
 ·exact hpw j i h2 h1 hgt a h2' a h1' rfl
theorem getD_mem {fps : List (List Nat)} {i a : Nat} (h : a ∈ fps.getD i []) : a ∈ fps.flatten := by
 rcases Nat.lt_or_ge i fps.length with h' | h'
 ·rw [List.getD_eq_getElem?_getD, List.getElem?_eq_getElem h'] at h
  exact Rep.mem_flatten_of (List.getElem?_eq_getElem h') h
 ·rw [List.getD_eq_getElem?_getD, List.getElem?_eq_none h'] at h; cases h
theorem flat_one {fps : List (List Nat)} (h : fps.flatten.Nodup) (i : Nat) : (fps.getD i []).Nodup := by
 have hpw := (List.pairwise_flatten.1 (show List.Pairwise (· ≠ ·) fps.flatten from h)).1
 rcases Nat.lt_or_ge i fps.length with h' | h'
 ·rw [List.getD_eq_getElem?_getD, List.getElem?_eq_getElem h']
  exact hpw _ (List.getElem_mem h')
 ·rw [List.getD_eq_getElem?_getD, List.getElem?_eq_none h']
  exact List.nodup_nil
def fpAt (fps fcs : List (List Nat)) (idx : Int → Option Nat) (i : Nat) : List Nat := match idx (i : Int) with | some j => fcs.getD j [] | none => fps.getD i []
theorem wr_byte {w : World} {base k : Nat} {cells : List Value} {x : Wr} {f : List Nat} (h : wrR.own w base (Rep.seg 2 k cells) x f) : byR.own w base [cells.getD (2 * k + 1) undef] x.b f := by
 have hl : (Rep.seg 2 k cells).length = 2 := Rep.len wrR (Rep.reads wrR h)
 obtain ⟨f1, f2, ⟨h1, h1'⟩, h2, hf, hn⟩ := h
 subst h1'
 have h1 := Rep.seg_get (size := 2) (i := k) (j := 1) (cells := cells) (by omega)
 have e : (Rep.seg 2 k cells).drop 1 = [cells.getD (2 * k + 1) undef] := by
  rw [List.getD_eq_getElem?_getD, show 2 * k + 1 = k * 2 + 1 by omega, ← h1]
  match hs : Rep.seg 2 k cells, hl with
  | [a, b], _ => rfl
 replace h2 : byR.own w base ((Rep.seg 2 k cells).drop 1) x.b f2 := h2
 rw [e] at h2
 rw [hf]
 exact h2
theorem Mid.done {w : World} {base : Nat} {v v' : Value} {d : Disk} {sc cc : List Value} {fps fcs : List (List Nat)} {idx : Int → Option Nat} (h : Mid w base v v' d sc cc fps fcs idx) (hi : IdxOk d idx) :
  ∃ fp, Rep.OwnRows byR 22 w base v (flushSecs d idx) fp ∧ ∀ a, a ∈ fp → a ∈ (v.ownBlock.toList ++ fps.flatten) ++ (v'.ownBlock.toList ++ fcs.flatten) := by
 have hn := h.nodup
 rw [List.nodup_append] at hn
 obtain ⟨hn1, hn2, hn3⟩ := hn
 have hs := (List.nodup_append.1 hn1)
 have hc := (List.nodup_append.1 hn2)
 have hmem : ∀ i a, a ∈ fpAt fps fcs idx i → a ∈ fps.flatten ∨ a ∈ fcs.flatten := by
  intro i a ha
  unfold fpAt at ha
  split at ha
  ·exact .inr (getD_mem ha)
  ·exact .inl (getD_mem ha)
 have hmem2 : ∀ a, a ∈ ((List.range d.secs.length).map (fpAt fps fcs idx)).flatten → a ∈ fps.flatten ∨ a ∈ fcs.flatten := by
  intro a ha
  rw [List.mem_flatten] at ha
  obtain ⟨l, hl, hal⟩ := ha
  rw [List.mem_map] at hl
  obtain ⟨i, _, rfl⟩ := hl
  exact hmem i a hal
 refine ⟨v.ownBlock.toList ++ ((List.range d.secs.length).map (fpAt fps fcs idx)).flatten, ⟨mixC d.secs.length sc cc idx, (List.range d.secs.length).map (fpAt fps fcs idx), by rw [flushSecs_length]; exact h.row, by simp [flushSecs], ?_, rfl, ?_⟩, ?_⟩
 ·intro i x f hx hf
  have hin : i < d.secs.length := by
   have := (List.getElem?_eq_some_iff.1 hx).1
   rwa [flushSecs_length] at this
  have hx' : secAt d idx i = x := by
   unfold flushSecs at hx
   rw [List.getElem?_map, List.getElem?_range hin] at hx
   injection hx
  have hf' : fpAt fps fcs idx i = f := by
   rw [List.getElem?_map, List.getElem?_range hin] at hf
   injection hf
  have hseg : Rep.seg 1 i (mixC d.secs.length sc cc idx) = [secCell sc cc idx i] := by
   refine Rep.seg_ext (n := d.secs.length) (by rw [mixC_length]; omega) hin rfl fun j hj => ?_
   have : j = 0 := by omega
   subst this
   rw [show i * 1 + 0 = i by omega, mixC_get _ _ _ hin]
   rfl
  show byR.own w base (Rep.seg 1 i (mixC d.secs.length sc cc idx)) x f
  rw [hseg, ← hx', ← hf']
  unfold secCell secAt fpAt
  rcases he : idx (i : Int) with _ | j
  ·have hsx : d.secs[i]? = some (d.secs.getD i []) := by rw [List.getD_eq_getElem?_getD, List.getElem?_eq_getElem hin]; rfl
   have hsf : fps[i]? = some (fps.getD i []) := by rw [List.getD_eq_getElem?_getD, List.getElem?_eq_getElem (by rw [h.slen]; exact hin)]; rfl
   have := h.secs i _ _ hsx hsf
   have e : Rep.seg 1 i sc = [sc.getD i undef] := by
    refine Rep.seg_ext (n := d.secs.length) (by rw [h.sclen]; omega) hin rfl fun j hj => ?_
    have : j = 0 := by omega
    subst this
    rw [show i * 1 + 0 = i by omega, List.getD_eq_getElem?_getD, List.getElem?_eq_getElem (by rw [h.sclen]; exact hin)]
    rfl
   rw [e] at this
   exact this
  ·obtain ⟨y, hy, hyn⟩ := hi i j he
   have hj : j < d.cache.length := (List.getElem?_eq_some_iff.1 hy).1
   have hsf : fcs[j]? = some (fcs.getD j []) := by rw [List.getD_eq_getElem?_getD, List.getElem?_eq_getElem (by rw [h.clen]; exact hj)]; rfl
   have := wr_byte (h.cache j _ _ hy hsf)
   have e : (d.cache.getD j ⟨0, []⟩) = y := by rw [List.getD_eq_getElem?_getD, hy]; rfl
   show byR.own w base [cc.getD (2 * j + 1) undef] (d.cache.getD j ⟨0, []⟩).b (fcs.getD j [])
   rw [e]
   exact this
 ·rw [List.nodup_append]
  refine ⟨hs.1, ?_, ?_⟩
  ·refine List.pairwise_flatten.2 ⟨?_, ?_⟩
   ·intro l hl
    rw [List.mem_map] at hl
    obtain ⟨i, _, rfl⟩ := hl
    show (fpAt fps fcs idx i).Nodup
    unfold fpAt
    split
    ·exact flat_one hc.2.1 _
    ·exact flat_one hs.2.1 _
   ·rw [List.pairwise_map]
    refine List.Pairwise.imp ?_ List.pairwise_lt_range
    intro i i' hlt a ha b hb e
    subst e
    unfold fpAt at ha hb
    rcases he : idx (i : Int) with _ | j <;> rcases he' : idx (i' : Int) with _ | j' <;> rw [he] at ha <;> rw [he'] at hb
    ·exact flat_disj hs.2.1 (by omega) ha hb
    ·exact hn3 a (List.mem_append_right _ (getD_mem ha)) a (List.mem_append_right _ (getD_mem hb)) rfl
    ·exact hn3 a (List.mem_append_right _ (getD_mem hb)) a (List.mem_append_right _ (getD_mem ha)) rfl
    ·refine flat_disj hc.2.1 (fun e => ?_) ha hb
     subst e
     obtain ⟨y, hy, hyn⟩ := hi _ _ he
     obtain ⟨y', hy', hyn'⟩ := hi _ _ he'
     rw [hy] at hy'
     injection hy' with hy'
     subst hy'
     omega
  ·intro a ha b hb e
   subst e
   rcases hmem2 a hb with hb | hb
   ·exact hs.2.2 a ha a hb rfl
   ·exact hn3 a (List.mem_append_left _ ha) a (List.mem_append_right _ hb) rfl
 ·intro a ha
  rw [List.mem_append] at ha
  rcases ha with ha | ha
  ·exact List.mem_append_left _ (List.mem_append_left _ ha)
  ·rcases hmem2 a ha with hb | hb
   ·exact List.mem_append_left _ (List.mem_append_right _ hb)
   ·exact List.mem_append_right _ (List.mem_append_right _ hb)
theorem Mid.block {w : World} {base c : Nat} {A : Option Addr} {v' : Value} {d : Disk} {sc cc : List Value} {fps fcs : List (List Nat)} {idx : Int → Option Nat} (h : Mid w base (.slice A d.secs.length c) v' d sc cc fps fcs idx) (h1 : 1 ≤ d.secs.length) : ∃ g, A = some ⟨g, 0, none⟩ ∧ base ≤ g ∧ g < w.heap.size := by
 rcases h.row.2 with ⟨_, h0⟩ | ⟨g, cap, cur, hv, _⟩
 ·omega
 ·injection hv with hv _ _
  subst hv
  exact ⟨g, rfl, h.row.lt g rfl⟩
theorem Mid.there {w : World} {base g c n0 : Nat} {v' : Value} {d : Disk} {sc cc : List Value} {fps fcs : List (List Nat)} {idx : Int → Option Nat} (h : Mid w base (.slice (some ⟨g, 0, none⟩) d.secs.length c) v' d sc cc fps fcs idx) (h0 : n0 < d.secs.length) : (∃ u, w.cell? ⟨g, n0, none⟩ = some u) ∧ w.frozen? ⟨g, n0, none⟩ = false := by
 have hc := h.row.cellAt n0 (by omega)
 rw [mixC_get _ _ _ h0] at hc
 exact ⟨⟨_, hc⟩, h.row.frozenAt n0⟩
theorem Mid.elem {w : World} {base c k : Nat} {B : Option Addr} {v : Value} {d : Disk} {sc cc : List Value} {fps fcs : List (List Nat)} {idx : Int → Option Nat} (h : Mid w base v (.slice B d.cache.length c) d sc cc fps fcs idx) (hk : k < d.cache.length) :
  ∃ b off A2 c2 x, B = some ⟨b, off, none⟩ ∧ b < w.heap.size ∧ d.cache[k]? = some x ∧ w.cell? ⟨b, off + k * 2, none⟩ = some (.int .i64 x.n) ∧ w.cell? ⟨b, off + k * 2 + 1, none⟩ = some (.slice A2 x.b.length c2) ∧ cc.getD (2 * k + 1) undef = .slice A2 x.b.length c2 := by
 have hr : Reads w w.heap.size 2 B d.cache.length cc := Reads.of_own h.crow
 obtain ⟨x, hx⟩ := Rep.getElem?_of_lt (xs := d.cache) rfl hk
 obtain ⟨f, hf⟩ := Rep.getElem?_of_lt (xs := fcs) rfl (show k < fcs.length by rw [h.clen]; exact hk)
 obtain ⟨A2, c2, hseg, hgd, _, _⟩ := wr_seg (Rep.reads wrR (h.cache k x f hx hf)) (by have := h.crow.1; omega)
 obtain ⟨b, off, rfl, hbl, hcell⟩ := reads_cells hr hk (by decide)
 rw [hseg] at hcell
 exact ⟨b, off, A2, c2, x, rfl, hbl, hx, hcell 0 _ rfl, hcell 1 _ rfl, hgd⟩
theorem Mid.lts {w : World} {base : Nat} {v v' : Value} {d : Disk} {sc cc : List Value} {fps fcs : List (List Nat)} {idx : Int → Option Nat} (h : Mid w base v v' d sc cc fps fcs idx) : ∀ a, a ∈ (v.ownBlock.toList ++ fps.flatten) ++ (v'.ownBlock.toList ++ fcs.flatten) → base ≤ a ∧ a < w.heap.size := by
 intro a ha
 have flat : ∀ {l : List (List Nat)}, a ∈ l.flatten → ∃ (i : Nat) (f : List Nat), l[i]? = some f ∧ a ∈ f := by
  intro l hl
  rw [List.mem_flatten] at hl
  obtain ⟨f, hf, haf⟩ := hl
  obtain ⟨i, hi⟩ := List.getElem?_of_mem hf
  exact ⟨i, f, hi, haf⟩
 simp only [List.mem_append] at ha
 rcases ha with (ha | ha) | (ha | ha)
 ·exact h.row.lt a (by simpa using ha)
 ·obtain ⟨i, f, hf, haf⟩ := flat ha
  obtain ⟨x, hx⟩ := Rep.getElem?_of_lt (xs := d.secs) rfl (show i < d.secs.length by have := (List.getElem?_eq_some_iff.1 hf).1; have := h.slen; omega)
  exact Rep.lt byR (h.secs i x f hx hf) a haf
 ·exact h.crow.lt a (by simpa using ha)
 ·obtain ⟨i, f, hf, haf⟩ := flat ha
  obtain ⟨x, hx⟩ := Rep.getElem?_of_lt (xs := d.cache) rfl (show i < d.cache.length by have := (List.getElem?_eq_some_iff.1 hf).1; have := h.clen; omega)
  exact Rep.lt wrR (h.cache i x f hx hf) a haf
theorem no_cache (w : World) (e : TypeId) {g : Nat} (hg : g = w.heap.size) : Rep.OwnRows wrR e (w.alloc (.cells #[] e)) w.heap.size (.slice (some ⟨g, 0, none⟩) 0 0) [] [g] := by
 subst hg
 exact ⟨[], [], Rep.lit_empty w e 2 rfl, rfl, fun i x f hx => (by cases hx), by simp [Value.ownBlock], by simp⟩
theorem nil_cache (w : World) (base : Nat) (e : TypeId) : Rep.OwnRows wrR e w base (.slice none 0 0) [] [] :=
 ⟨[], [], ⟨rfl, .inl ⟨rfl, rfl⟩⟩, rfl, fun i x f hx => (by cases hx), by simp [Value.ownBlock], by simp⟩
def SyncGood (d : Disk) : Prop := DiskGood d ∧ d.down = false
noncomputable def syncDisk (d : Disk) : Disk :=
 @ite _ (SyncGood d) (Classical.propDecidable _) (if d.fuse = 0 then ⟨d.secs, d.cache, -1, true⟩ else ⟨flushSecs d (idxC (key d.cache) d.cache.length), [], fuseAfter d.fuse, d.down⟩) d
theorem syncDisk_no {d : Disk} (h : ¬ SyncGood d) : syncDisk d = d := by unfold syncDisk; exact @if_neg _ (Classical.propDecidable _) h _ _ _
theorem syncDisk_zero {d : Disk} (h : SyncGood d) (h0 : d.fuse = 0) : syncDisk d = ⟨d.secs, d.cache, -1, true⟩ := by
 unfold syncDisk
 rw [@if_pos _ (Classical.propDecidable _) h, if_pos h0]
theorem syncDisk_go {d : Disk} (h : SyncGood d) (h0 : d.fuse ≠ 0) : syncDisk d = ⟨flushSecs d (idxC (key d.cache) d.cache.length), [], fuseAfter d.fuse, d.down⟩ := by
 unfold syncDisk
 rw [@if_pos _ (Classical.propDecidable _) h, if_neg h0]
theorem flush_small {d : Disk} (h : Fits d) {idx : Int → Option Nat} (hi : IdxOk d idx) : ∀ b, b ∈ flushSecs d idx → b.length ≤ 1048576 := by
 intro b hb
 unfold flushSecs at hb
 rw [List.mem_map] at hb
 obtain ⟨i, hi1, rfl⟩ := hb
 rw [List.mem_range] at hi1
 unfold secAt
 rcases he : idx (i : Int) with _ | j
 ·show (d.secs.getD i []).length ≤ _
  rw [List.getD_eq_getElem?_getD, List.getElem?_eq_getElem hi1]
  exact h.2.1 _ (List.getElem_mem hi1)
 ·obtain ⟨y, hy, _⟩ := hi i j he
  show (d.cache.getD j ⟨0, []⟩).b.length ≤ _
  rw [List.getD_eq_getElem?_getD, hy]
  exact h.2.2.2 y (List.mem_of_getElem? hy)
theorem fits_syncDisk {d : Disk} (h : Fits d) : Fits (syncDisk d) := by
 by_cases hg : SyncGood d
 ·by_cases h0 : d.fuse = 0
  ·rw [syncDisk_zero hg h0]; exact h
  ·rw [syncDisk_go hg h0]
   exact ⟨by rw [show (Disk.mk (flushSecs d (idxC (key d.cache) d.cache.length)) [] (fuseAfter d.fuse) d.down).secs = flushSecs d (idxC (key d.cache) d.cache.length) from rfl, flushSecs_length]; exact h.1, flush_small h (idx_ok d _ (Nat.le_refl _)), Nat.zero_le _, fun x hx => by cases hx⟩
 ·rw [syncDisk_no hg]; exact h
end Go.Proofs.YtoaaogacaibedaaGreatDoor
