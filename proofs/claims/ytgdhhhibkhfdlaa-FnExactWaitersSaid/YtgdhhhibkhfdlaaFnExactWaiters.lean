/- The walk of the exact law of Waiters (written by gen.py). -/
import Derived.Test.YtgdhhhibkhfdlaaExactWa
import Derived.Test.YtgdhhhibkhfdlaaExactB
namespace Go.Proofs.Ytgdhhhibkhfdlaa
open Go.RowKit
set_option linter.unusedVariables false

set_option maxRecDepth 100000 in
set_option maxHeartbeats 4000000 in
theorem walk_FnExactWaiters (w : World) (cs0 : List Value) (x0 : Ho) (w0 : hoR.at_ w w.heap.size cs0 x0) (k0 : OkHo x0) (a1 : ByteArray) (w1 : a1.size ≤ maxLen) :
    Calls Try.prog 10 #[.agg cs0.toArray, .string a1] w fun e w' => e = .returned (.bool true) ∧ Below w.heap.size w w' := by
  obtain ⟨A1, c2, B3, d4, E5, f6, rfl⟩ := ho_at_shape w0
  have TaH := w0
  clear w0
  have HBw := Below.refl w.heap.size w
  by_cases bigaDb : 1048576 < a1.size
  · go_enter Try.func10, Try.ntmps10
    go_wp2_with fail
    go_ret
    exact ⟨rfl, by first | exact Below.refl _ _ | exact (Below.refl _ _).alloc (Nat.le_refl _) _⟩
  replace bigaDb : a1.size ≤ 1048576 := by omega
  go_enter Try.func10, Try.ntmps10
  go_wp2_with fail
  have ho := Rep.only_alloc w (.cells #[.int .i64 x0.st, .int .i64 x0.epoch, .int .i64 x0.gen, .slice A1 x0.conf.length c2, .bool x0.paused, .slice B3 x0.as_.length d4, .slice E5 x0.ls.length f6, .int .i64 x0.ticket, .int .i64 x0.h.id, .int .i64 x0.h.no, .int .i64 x0.h.acked, .int .i64 x0.h.since] 92)
  have hv := heap_alloc_new w (.cells #[.int .i64 x0.st, .int .i64 x0.epoch, .int .i64 x0.gen, .slice A1 x0.conf.length c2, .bool x0.paused, .slice B3 x0.as_.length d4, .slice E5 x0.ls.length f6, .int .i64 x0.ticket, .int .i64 x0.h.id, .int .i64 x0.h.no, .int .i64 x0.h.acked, .int .i64 x0.h.since] 92)
  have hs : w.heap.size < (w.alloc (.cells #[.int .i64 x0.st, .int .i64 x0.epoch, .int .i64 x0.gen, .slice A1 x0.conf.length c2, .bool x0.paused, .slice B3 x0.as_.length d4, .slice E5 x0.ls.length f6, .int .i64 x0.ticket, .int .i64 x0.h.id, .int .i64 x0.h.no, .int .i64 x0.h.acked, .int .i64 x0.h.since] 92)).heap.size := by simp
  generalize hgW : w.alloc (.cells #[.int .i64 x0.st, .int .i64 x0.epoch, .int .i64 x0.gen, .slice A1 x0.conf.length c2, .bool x0.paused, .slice B3 x0.as_.length d4, .slice E5 x0.ls.length f6, .int .i64 x0.ticket, .int .i64 x0.h.id, .int .i64 x0.h.no, .int .i64 x0.h.acked, .int .i64 x0.h.since] 92) = W7 at ho hv hs ⊢
  have hEW7 : Hid (W7.heap.size = w.heap.size + 1) := Lib.hid (by rw [← hgW]; simp)
  clear hgW
  have SW7 : w.heap.size ≤ W7.heap.size := ho.size
  have HBW7 := Rep.Only.below HBw ho (by omega) (fun a ha => by cases ha)
  replace TaH := Rep.at_only TaH ho (by omega) (fun a ha => by cases ha)
  clear HBw
  have VaH := Lib.hid hv
  clear hv ho
  have ZW7 : w.heap.size < W7.heap.size := hs
  clear hs
  refine (szHo_rep [.int .i64 x0.st, .int .i64 x0.epoch, .int .i64 x0.gen, .slice A1 x0.conf.length c2, .bool x0.paused, .slice B3 x0.as_.length d4, .slice E5 x0.ls.length f6, .int .i64 x0.ticket, .int .i64 x0.h.id, .int .i64 x0.h.no, .int .i64 x0.h.acked, .int .i64 x0.h.since] x0 1048576 W7 (Rep.more hoR TaH (by omega)) (by omega) k0).mono ?_
  rintro e W8 ⟨hz, hb⟩
  have ho := Rep.only_of_below hb
  clear hb
  have SW8 : W7.heap.size ≤ W8.heap.size := ho.size
  have HBW8 := Rep.Only.below HBW7 ho (by omega) (fun a ha => by cases ha)
  replace TaH := Rep.at_only TaH ho (by omega) (fun a ha => by cases ha)
  replace VaH := Rep.var_only VaH ho (by omega) (fun hb => by cases hb)
  clear HBW7
  clear ho
  obtain ⟨z9, hz9, HfitaH, rfl⟩ | rfl := hz
  rotate_left
  · go_wp2_with fail
    go_ret
    exact ⟨rfl, HBW8⟩
  have FaH := Lib.hid HfitaH
  clear HfitaH
  obtain ⟨Y, hy⟩ : ∃ Y, waitH x0 a1 = Y := ⟨_, rfl⟩
  have FY : FitsI Y := by rw [← hy]; exact fits_wait _ FaH.out
  have HY := Lib.hid hy
  clear hy
  have qaH_0 : W8.cell? ⟨w.heap.size, 0, none⟩ = some (.int .i64 x0.st) := var_cell VaH.out 0
  have qaH_1 : W8.cell? ⟨w.heap.size, 1, none⟩ = some (.int .i64 x0.epoch) := var_cell VaH.out 1
  have qaH_2 : W8.cell? ⟨w.heap.size, 2, none⟩ = some (.int .i64 x0.gen) := var_cell VaH.out 2
  have qaH_3 : W8.cell? ⟨w.heap.size, 3, none⟩ = some (.slice A1 x0.conf.length c2) := var_cell VaH.out 3
  have qaH_4 : W8.cell? ⟨w.heap.size, 4, none⟩ = some (.bool x0.paused) := var_cell VaH.out 4
  have qaH_5 : W8.cell? ⟨w.heap.size, 5, none⟩ = some (.slice B3 x0.as_.length d4) := var_cell VaH.out 5
  have qaH_6 : W8.cell? ⟨w.heap.size, 6, none⟩ = some (.slice E5 x0.ls.length f6) := var_cell VaH.out 6
  have qaH_7 : W8.cell? ⟨w.heap.size, 7, none⟩ = some (.int .i64 x0.ticket) := var_cell VaH.out 7
  have qaH_8 : W8.cell? ⟨w.heap.size, 8, none⟩ = some (.int .i64 x0.h.id) := var_cell VaH.out 8
  have qaH_9 : W8.cell? ⟨w.heap.size, 9, none⟩ = some (.int .i64 x0.h.no) := var_cell VaH.out 9
  have qaH_10 : W8.cell? ⟨w.heap.size, 10, none⟩ = some (.int .i64 x0.h.acked) := var_cell VaH.out 10
  have qaH_11 : W8.cell? ⟨w.heap.size, 11, none⟩ = some (.int .i64 x0.h.since) := var_cell VaH.out 11
  have laH : w.heap.size < W8.heap.size := by omega
  go_wp2_with fail
  clear qaH_0 qaH_1 qaH_2 qaH_3 qaH_4 qaH_5 qaH_6 qaH_7 qaH_8 qaH_9 qaH_10 qaH_11 laH
  refine (toHoX_rep [.int .i64 x0.st, .int .i64 x0.epoch, .int .i64 x0.gen, .slice A1 x0.conf.length c2, .bool x0.paused, .slice B3 x0.as_.length d4, .slice E5 x0.ls.length f6, .int .i64 x0.ticket, .int .i64 x0.h.id, .int .i64 x0.h.no, .int .i64 x0.h.acked, .int .i64 x0.h.since] x0 W8 (Rep.more hoR TaH (by omega)) FaH.out).mono ?_
  rintro e W11 ⟨cs, fp12, rfl, Ot10, hb⟩
  obtain ⟨A13, c14, B15, d16, E17, f18, rfl⟩ := ho_own_shape Ot10
  have ho := Rep.only_of_below hb
  have L19 := Lib.hid (Rep.lt hoR Ot10)
  clear hb
  have SW11 : W8.heap.size ≤ W11.heap.size := ho.size
  have HBW11 := Rep.Only.below HBW8 ho (by omega) (fun a ha => by cases ha)
  replace TaH := Rep.at_only TaH ho (by omega) (fun a ha => by cases ha)
  replace VaH := Rep.var_only VaH ho (by omega) (fun hb => by cases hb)
  clear HBW8
  clear ho
  go_wp2_with fail
  refine (waitersSX_rep [.int .i64 x0.st, .int .i64 x0.epoch, .int .i64 x0.gen, .slice A13 x0.conf.length c14, .bool x0.paused, .slice B15 x0.as_.length d16, .slice E17 x0.ls.length f18, .int .i64 x0.ticket, .int .i64 x0.h.id, .int .i64 x0.h.no, .int .i64 x0.h.acked, .int .i64 x0.h.since] x0 a1 W11 (Rep.reads hoR Ot10) FaH.out w1).mono ?_
  rw [HY.out]
  rintro e W20 ⟨A22, c23, fp21, rfl, Ow0, hb⟩
  have Tw0 := Rep.reads intsR Ow0
  clear Ow0
  have ho := Rep.only_of_below hb
  clear hb
  have SW20 : W11.heap.size ≤ W20.heap.size := ho.size
  have HBW20 := Rep.Only.below HBW11 ho (by omega) (fun a ha => by cases ha)
  replace TaH := Rep.at_only TaH ho (by omega) (fun a ha => by cases ha)
  replace Ot10 := Rep.own_only Ot10 ho (fun a ha hb => by cases hb)
  replace VaH := Rep.var_only VaH ho (by omega) (fun hb => by cases hb)
  clear HBW11
  clear ho
  clear Ot10 L19
  have qaH_0 : W20.cell? ⟨w.heap.size, 0, none⟩ = some (.int .i64 x0.st) := var_cell VaH.out 0
  have qaH_1 : W20.cell? ⟨w.heap.size, 1, none⟩ = some (.int .i64 x0.epoch) := var_cell VaH.out 1
  have qaH_2 : W20.cell? ⟨w.heap.size, 2, none⟩ = some (.int .i64 x0.gen) := var_cell VaH.out 2
  have qaH_3 : W20.cell? ⟨w.heap.size, 3, none⟩ = some (.slice A1 x0.conf.length c2) := var_cell VaH.out 3
  have qaH_4 : W20.cell? ⟨w.heap.size, 4, none⟩ = some (.bool x0.paused) := var_cell VaH.out 4
  have qaH_5 : W20.cell? ⟨w.heap.size, 5, none⟩ = some (.slice B3 x0.as_.length d4) := var_cell VaH.out 5
  have qaH_6 : W20.cell? ⟨w.heap.size, 6, none⟩ = some (.slice E5 x0.ls.length f6) := var_cell VaH.out 6
  have qaH_7 : W20.cell? ⟨w.heap.size, 7, none⟩ = some (.int .i64 x0.ticket) := var_cell VaH.out 7
  have qaH_8 : W20.cell? ⟨w.heap.size, 8, none⟩ = some (.int .i64 x0.h.id) := var_cell VaH.out 8
  have qaH_9 : W20.cell? ⟨w.heap.size, 9, none⟩ = some (.int .i64 x0.h.no) := var_cell VaH.out 9
  have qaH_10 : W20.cell? ⟨w.heap.size, 10, none⟩ = some (.int .i64 x0.h.acked) := var_cell VaH.out 10
  have qaH_11 : W20.cell? ⟨w.heap.size, 11, none⟩ = some (.int .i64 x0.h.since) := var_cell VaH.out 11
  have laH : w.heap.size < W20.heap.size := by omega
  go_wp2_with fail
  clear qaH_0 qaH_1 qaH_2 qaH_3 qaH_4 qaH_5 qaH_6 qaH_7 qaH_8 qaH_9 qaH_10 qaH_11 laH
  refine (toHoX_rep [.int .i64 x0.st, .int .i64 x0.epoch, .int .i64 x0.gen, .slice A1 x0.conf.length c2, .bool x0.paused, .slice B3 x0.as_.length d4, .slice E5 x0.ls.length f6, .int .i64 x0.ticket, .int .i64 x0.h.id, .int .i64 x0.h.no, .int .i64 x0.h.acked, .int .i64 x0.h.since] x0 W20 (Rep.more hoR TaH (by omega)) FaH.out).mono ?_
  rintro e W24 ⟨cs, fp25, rfl, Ox0, hb⟩
  obtain ⟨A26, c27, B28, d29, E30, f31, rfl⟩ := ho_own_shape Ox0
  have ho := Rep.only_of_below hb
  have L32 := Lib.hid (Rep.lt hoR Ox0)
  clear hb
  have SW24 : W20.heap.size ≤ W24.heap.size := ho.size
  have HBW24 := Rep.Only.below HBW20 ho (by omega) (fun a ha => by cases ha)
  replace TaH := Rep.at_only TaH ho (by omega) (fun a ha => by cases ha)
  replace Tw0 := Rep.at_only Tw0 ho (by omega) (fun a ha => by cases ha)
  replace VaH := Rep.var_only VaH ho (by omega) (fun hb => by cases hb)
  clear HBW20
  clear ho
  go_wp2_with fail
  have ho := Rep.only_alloc W24 (.cells #[.int .i64 x0.st, .int .i64 x0.epoch, .int .i64 x0.gen, .slice A26 x0.conf.length c27, .bool x0.paused, .slice B28 x0.as_.length d29, .slice E30 x0.ls.length f31, .int .i64 x0.ticket, .int .i64 x0.h.id, .int .i64 x0.h.no, .int .i64 x0.h.acked, .int .i64 x0.h.since] 70)
  have hv := heap_alloc_new W24 (.cells #[.int .i64 x0.st, .int .i64 x0.epoch, .int .i64 x0.gen, .slice A26 x0.conf.length c27, .bool x0.paused, .slice B28 x0.as_.length d29, .slice E30 x0.ls.length f31, .int .i64 x0.ticket, .int .i64 x0.h.id, .int .i64 x0.h.no, .int .i64 x0.h.acked, .int .i64 x0.h.since] 70)
  have hs : W24.heap.size < (W24.alloc (.cells #[.int .i64 x0.st, .int .i64 x0.epoch, .int .i64 x0.gen, .slice A26 x0.conf.length c27, .bool x0.paused, .slice B28 x0.as_.length d29, .slice E30 x0.ls.length f31, .int .i64 x0.ticket, .int .i64 x0.h.id, .int .i64 x0.h.no, .int .i64 x0.h.acked, .int .i64 x0.h.since] 70)).heap.size := by simp
  generalize hgW : W24.alloc (.cells #[.int .i64 x0.st, .int .i64 x0.epoch, .int .i64 x0.gen, .slice A26 x0.conf.length c27, .bool x0.paused, .slice B28 x0.as_.length d29, .slice E30 x0.ls.length f31, .int .i64 x0.ticket, .int .i64 x0.h.id, .int .i64 x0.h.no, .int .i64 x0.h.acked, .int .i64 x0.h.since] 70) = W33 at ho hv hs ⊢
  clear hgW
  have SW33 : W24.heap.size ≤ W33.heap.size := ho.size
  have HBW33 := Rep.Only.below HBW24 ho (by omega) (fun a ha => by cases ha)
  replace TaH := Rep.at_only TaH ho (by omega) (fun a ha => by cases ha)
  replace Tw0 := Rep.at_only Tw0 ho (by omega) (fun a ha => by cases ha)
  replace Ox0 := Rep.own_only Ox0 ho (fun a ha hb => by cases hb)
  replace VaH := Rep.var_only VaH ho (by omega) (fun hb => by cases hb)
  clear HBW24
  have Vx0 := Lib.hid hv
  clear hv ho
  have ZW33 : W24.heap.size < W33.heap.size := hs
  clear hs
  refine (waitersX_rep [.int .i64 x0.st, .int .i64 x0.epoch, .int .i64 x0.gen, .slice A26 x0.conf.length c27, .bool x0.paused, .slice B28 x0.as_.length d29, .slice E30 x0.ls.length f31, .int .i64 x0.ticket, .int .i64 x0.h.id, .int .i64 x0.h.no, .int .i64 x0.h.acked, .int .i64 x0.h.since] x0 a1 W33 (Rep.reads hoR Ox0) FaH.out w1).mono ?_
  rw [HY.out]
  rintro e W34 ⟨A36, c37, fp35, rfl, Og0, hb⟩
  have ho := Rep.only_of_below hb
  have L38 := Lib.hid (Rep.lt intsR Og0)
  clear hb
  have SW34 : W33.heap.size ≤ W34.heap.size := ho.size
  have HBW34 := Rep.Only.below HBW33 ho (by omega) (fun a ha => by cases ha)
  replace TaH := Rep.at_only TaH ho (by omega) (fun a ha => by cases ha)
  replace Tw0 := Rep.at_only Tw0 ho (by omega) (fun a ha => by cases ha)
  replace Ox0 := Rep.own_only Ox0 ho (fun a ha hb => by cases hb)
  replace VaH := Rep.var_only VaH ho (by omega) (fun hb => by cases hb)
  replace Vx0 := Rep.var_only Vx0 ho (by omega) (fun hb => by cases hb)
  clear HBW33
  clear ho
  go_wp2_with fail
  refine (eqIntS_rep [.slice A36 Y.length c37] [.slice A22 Y.length c23] Y W34 (Rep.reads intsR Og0) (Rep.more intsR Tw0 (by omega)) FY).mono ?_
  rintro e W39 ⟨rfl, hb⟩
  have ho := Rep.only_of_below hb
  clear hb
  have SW39 : W34.heap.size ≤ W39.heap.size := ho.size
  have HBW39 := Rep.Only.below HBW34 ho (by omega) (fun a ha => by cases ha)
  replace TaH := Rep.at_only TaH ho (by omega) (fun a ha => by cases ha)
  replace Tw0 := Rep.at_only Tw0 ho (by omega) (fun a ha => by cases ha)
  replace Ox0 := Rep.own_only Ox0 ho (fun a ha hb => by cases hb)
  replace Og0 := Rep.own_only Og0 ho (fun a ha hb => by cases hb)
  replace VaH := Rep.var_only VaH ho (by omega) (fun hb => by cases hb)
  replace Vx0 := Rep.var_only Vx0 ho (by omega) (fun hb => by cases hb)
  clear HBW34
  clear ho
  have qx0_0 : W39.cell? ⟨W24.heap.size, 0, none⟩ = some (.int .i64 x0.st) := var_cell Vx0.out 0
  have qx0_1 : W39.cell? ⟨W24.heap.size, 1, none⟩ = some (.int .i64 x0.epoch) := var_cell Vx0.out 1
  have qx0_2 : W39.cell? ⟨W24.heap.size, 2, none⟩ = some (.int .i64 x0.gen) := var_cell Vx0.out 2
  have qx0_3 : W39.cell? ⟨W24.heap.size, 3, none⟩ = some (.slice A26 x0.conf.length c27) := var_cell Vx0.out 3
  have qx0_4 : W39.cell? ⟨W24.heap.size, 4, none⟩ = some (.bool x0.paused) := var_cell Vx0.out 4
  have qx0_5 : W39.cell? ⟨W24.heap.size, 5, none⟩ = some (.slice B28 x0.as_.length d29) := var_cell Vx0.out 5
  have qx0_6 : W39.cell? ⟨W24.heap.size, 6, none⟩ = some (.slice E30 x0.ls.length f31) := var_cell Vx0.out 6
  have qx0_7 : W39.cell? ⟨W24.heap.size, 7, none⟩ = some (.int .i64 x0.ticket) := var_cell Vx0.out 7
  have qx0_8 : W39.cell? ⟨W24.heap.size, 8, none⟩ = some (.int .i64 x0.h.id) := var_cell Vx0.out 8
  have qx0_9 : W39.cell? ⟨W24.heap.size, 9, none⟩ = some (.int .i64 x0.h.no) := var_cell Vx0.out 9
  have qx0_10 : W39.cell? ⟨W24.heap.size, 10, none⟩ = some (.int .i64 x0.h.acked) := var_cell Vx0.out 10
  have qx0_11 : W39.cell? ⟨W24.heap.size, 11, none⟩ = some (.int .i64 x0.h.since) := var_cell Vx0.out 11
  have lx0 : W24.heap.size < W39.heap.size := by omega
  have qaH_0 : W39.cell? ⟨w.heap.size, 0, none⟩ = some (.int .i64 x0.st) := var_cell VaH.out 0
  have qaH_1 : W39.cell? ⟨w.heap.size, 1, none⟩ = some (.int .i64 x0.epoch) := var_cell VaH.out 1
  have qaH_2 : W39.cell? ⟨w.heap.size, 2, none⟩ = some (.int .i64 x0.gen) := var_cell VaH.out 2
  have qaH_3 : W39.cell? ⟨w.heap.size, 3, none⟩ = some (.slice A1 x0.conf.length c2) := var_cell VaH.out 3
  have qaH_4 : W39.cell? ⟨w.heap.size, 4, none⟩ = some (.bool x0.paused) := var_cell VaH.out 4
  have qaH_5 : W39.cell? ⟨w.heap.size, 5, none⟩ = some (.slice B3 x0.as_.length d4) := var_cell VaH.out 5
  have qaH_6 : W39.cell? ⟨w.heap.size, 6, none⟩ = some (.slice E5 x0.ls.length f6) := var_cell VaH.out 6
  have qaH_7 : W39.cell? ⟨w.heap.size, 7, none⟩ = some (.int .i64 x0.ticket) := var_cell VaH.out 7
  have qaH_8 : W39.cell? ⟨w.heap.size, 8, none⟩ = some (.int .i64 x0.h.id) := var_cell VaH.out 8
  have qaH_9 : W39.cell? ⟨w.heap.size, 9, none⟩ = some (.int .i64 x0.h.no) := var_cell VaH.out 9
  have qaH_10 : W39.cell? ⟨w.heap.size, 10, none⟩ = some (.int .i64 x0.h.acked) := var_cell VaH.out 10
  have qaH_11 : W39.cell? ⟨w.heap.size, 11, none⟩ = some (.int .i64 x0.h.since) := var_cell VaH.out 11
  have laH : w.heap.size < W39.heap.size := by omega
  go_wp2_with fail
  clear qx0_0 qx0_1 qx0_2 qx0_3 qx0_4 qx0_5 qx0_6 qx0_7 qx0_8 qx0_9 qx0_10 qx0_11 lx0 qaH_0 qaH_1 qaH_2 qaH_3 qaH_4 qaH_5 qaH_6 qaH_7 qaH_8 qaH_9 qaH_10 qaH_11 laH
  go_region_held3 (fun w' => w'.cell? ⟨W24.heap.size, 0, none⟩ = some (.int .i64 x0.st) ∧ w'.cell? ⟨W24.heap.size, 1, none⟩ = some (.int .i64 x0.epoch) ∧ w'.cell? ⟨W24.heap.size, 2, none⟩ = some (.int .i64 x0.gen) ∧ w'.cell? ⟨W24.heap.size, 3, none⟩ = some (.slice A26 x0.conf.length c27) ∧ w'.cell? ⟨W24.heap.size, 4, none⟩ = some (.bool x0.paused) ∧ w'.cell? ⟨W24.heap.size, 5, none⟩ = some (.slice B28 x0.as_.length d29) ∧ w'.cell? ⟨W24.heap.size, 6, none⟩ = some (.slice E30 x0.ls.length f31) ∧ w'.cell? ⟨W24.heap.size, 7, none⟩ = some (.int .i64 x0.ticket) ∧ w'.cell? ⟨W24.heap.size, 8, none⟩ = some (.int .i64 x0.h.id) ∧ w'.cell? ⟨W24.heap.size, 9, none⟩ = some (.int .i64 x0.h.no) ∧ w'.cell? ⟨W24.heap.size, 10, none⟩ = some (.int .i64 x0.h.acked) ∧ w'.cell? ⟨W24.heap.size, 11, none⟩ = some (.int .i64 x0.h.since) ∧ w'.cell? ⟨w.heap.size, 0, none⟩ = some (.int .i64 x0.st) ∧ w'.cell? ⟨w.heap.size, 1, none⟩ = some (.int .i64 x0.epoch) ∧ w'.cell? ⟨w.heap.size, 2, none⟩ = some (.int .i64 x0.gen) ∧ w'.cell? ⟨w.heap.size, 3, none⟩ = some (.slice A1 x0.conf.length c2) ∧ w'.cell? ⟨w.heap.size, 4, none⟩ = some (.bool x0.paused) ∧ w'.cell? ⟨w.heap.size, 5, none⟩ = some (.slice B3 x0.as_.length d4) ∧ w'.cell? ⟨w.heap.size, 6, none⟩ = some (.slice E5 x0.ls.length f6) ∧ w'.cell? ⟨w.heap.size, 7, none⟩ = some (.int .i64 x0.ticket) ∧ w'.cell? ⟨w.heap.size, 8, none⟩ = some (.int .i64 x0.h.id) ∧ w'.cell? ⟨w.heap.size, 9, none⟩ = some (.int .i64 x0.h.no) ∧ w'.cell? ⟨w.heap.size, 10, none⟩ = some (.int .i64 x0.h.acked) ∧ w'.cell? ⟨w.heap.size, 11, none⟩ = some (.int .i64 x0.h.since)) (exact ⟨var_cell Vx0.out 0, var_cell Vx0.out 1, var_cell Vx0.out 2, var_cell Vx0.out 3, var_cell Vx0.out 4, var_cell Vx0.out 5, var_cell Vx0.out 6, var_cell Vx0.out 7, var_cell Vx0.out 8, var_cell Vx0.out 9, var_cell Vx0.out 10, var_cell Vx0.out 11, var_cell VaH.out 0, var_cell VaH.out 1, var_cell VaH.out 2, var_cell VaH.out 3, var_cell VaH.out 4, var_cell VaH.out 5, var_cell VaH.out 6, var_cell VaH.out 7, var_cell VaH.out 8, var_cell VaH.out 9, var_cell VaH.out 10, var_cell VaH.out 11⟩) (first
    | (go_at_call 66
       have ho := Rep.only_drew W39
       generalize W39.drew = W40 at ho ⊢
       have SW40 : W39.heap.size ≤ W40.heap.size := ho.size
       have HBW40 := Rep.Only.below HBW39 ho (by omega) (fun a ha => by cases ha)
       replace TaH := Rep.at_only TaH ho (by omega) (fun a ha => by cases ha)
       replace Tw0 := Rep.at_only Tw0 ho (by omega) (fun a ha => by cases ha)
       replace Ox0 := Rep.own_only Ox0 ho (fun a ha hb => by cases hb)
       replace Og0 := Rep.own_only Og0 ho (fun a ha hb => by cases hb)
       replace VaH := Rep.var_only VaH ho (by omega) (fun hb => by cases hb)
       replace Vx0 := Rep.var_only Vx0 ho (by omega) (fun hb => by cases hb)
       clear HBW39
       clear ho
       refine (toHoX_rep [.int .i64 x0.st, .int .i64 x0.epoch, .int .i64 x0.gen, .slice A1 x0.conf.length c2, .bool x0.paused, .slice B3 x0.as_.length d4, .slice E5 x0.ls.length f6, .int .i64 x0.ticket, .int .i64 x0.h.id, .int .i64 x0.h.no, .int .i64 x0.h.acked, .int .i64 x0.h.since] x0 W40 (Rep.more hoR TaH (by omega)) FaH.out).mono ?_
       rintro e W42 ⟨cs, fp43, rfl, Ot41, hb⟩
       obtain ⟨A44, c45, B46, d47, E48, f49, rfl⟩ := ho_own_shape Ot41
       have ho := Rep.only_of_below hb
       have L50 := Lib.hid (Rep.lt hoR Ot41)
       clear hb
       have SW42 : W40.heap.size ≤ W42.heap.size := ho.size
       have HBW42 := Rep.Only.below HBW40 ho (by omega) (fun a ha => by cases ha)
       replace TaH := Rep.at_only TaH ho (by omega) (fun a ha => by cases ha)
       replace Tw0 := Rep.at_only Tw0 ho (by omega) (fun a ha => by cases ha)
       replace Ox0 := Rep.own_only Ox0 ho (fun a ha hb => by cases hb)
       replace Og0 := Rep.own_only Og0 ho (fun a ha hb => by cases hb)
       replace VaH := Rep.var_only VaH ho (by omega) (fun hb => by cases hb)
       replace Vx0 := Rep.var_only Vx0 ho (by omega) (fun hb => by cases hb)
       clear HBW40
       clear ho)
    | (go_at_call 67
       refine (eqHo_rep [.int .i64 x0.st, .int .i64 x0.epoch, .int .i64 x0.gen, .slice A26 x0.conf.length c27, .bool x0.paused, .slice B28 x0.as_.length d29, .slice E30 x0.ls.length f31, .int .i64 x0.ticket, .int .i64 x0.h.id, .int .i64 x0.h.no, .int .i64 x0.h.acked, .int .i64 x0.h.since] [.int .i64 x0.st, .int .i64 x0.epoch, .int .i64 x0.gen, .slice A44 x0.conf.length c45, .bool x0.paused, .slice B46 x0.as_.length d47, .slice E48 x0.ls.length f49, .int .i64 x0.ticket, .int .i64 x0.h.id, .int .i64 x0.h.no, .int .i64 x0.h.acked, .int .i64 x0.h.since] x0 W42 (Rep.reads hoR Ox0) (Rep.reads hoR Ot41) FaH.out).mono ?_
       rintro e W51 ⟨rfl, hb⟩
       have ho := Rep.only_of_below hb
       clear hb
       have SW51 : W42.heap.size ≤ W51.heap.size := ho.size
       have HBW51 := Rep.Only.below HBW42 ho (by omega) (fun a ha => by cases ha)
       replace TaH := Rep.at_only TaH ho (by omega) (fun a ha => by cases ha)
       replace Tw0 := Rep.at_only Tw0 ho (by omega) (fun a ha => by cases ha)
       replace Ox0 := Rep.own_only Ox0 ho (fun a ha hb => by cases hb)
       replace Og0 := Rep.own_only Og0 ho (fun a ha hb => by cases hb)
       replace Ot41 := Rep.own_only Ot41 ho (fun a ha hb => by cases hb)
       replace VaH := Rep.var_only VaH ho (by omega) (fun hb => by cases hb)
       replace Vx0 := Rep.var_only Vx0 ho (by omega) (fun hb => by cases hb)
       clear HBW42
       clear ho))
  clear Ot41 L50
  have qx0_0 : W51.cell? ⟨W24.heap.size, 0, none⟩ = some (.int .i64 x0.st) := var_cell Vx0.out 0
  have qx0_1 : W51.cell? ⟨W24.heap.size, 1, none⟩ = some (.int .i64 x0.epoch) := var_cell Vx0.out 1
  have qx0_2 : W51.cell? ⟨W24.heap.size, 2, none⟩ = some (.int .i64 x0.gen) := var_cell Vx0.out 2
  have qx0_3 : W51.cell? ⟨W24.heap.size, 3, none⟩ = some (.slice A26 x0.conf.length c27) := var_cell Vx0.out 3
  have qx0_4 : W51.cell? ⟨W24.heap.size, 4, none⟩ = some (.bool x0.paused) := var_cell Vx0.out 4
  have qx0_5 : W51.cell? ⟨W24.heap.size, 5, none⟩ = some (.slice B28 x0.as_.length d29) := var_cell Vx0.out 5
  have qx0_6 : W51.cell? ⟨W24.heap.size, 6, none⟩ = some (.slice E30 x0.ls.length f31) := var_cell Vx0.out 6
  have qx0_7 : W51.cell? ⟨W24.heap.size, 7, none⟩ = some (.int .i64 x0.ticket) := var_cell Vx0.out 7
  have qx0_8 : W51.cell? ⟨W24.heap.size, 8, none⟩ = some (.int .i64 x0.h.id) := var_cell Vx0.out 8
  have qx0_9 : W51.cell? ⟨W24.heap.size, 9, none⟩ = some (.int .i64 x0.h.no) := var_cell Vx0.out 9
  have qx0_10 : W51.cell? ⟨W24.heap.size, 10, none⟩ = some (.int .i64 x0.h.acked) := var_cell Vx0.out 10
  have qx0_11 : W51.cell? ⟨W24.heap.size, 11, none⟩ = some (.int .i64 x0.h.since) := var_cell Vx0.out 11
  have lx0 : W24.heap.size < W51.heap.size := by omega
  go_wp2_with fail
  clear qx0_0 qx0_1 qx0_2 qx0_3 qx0_4 qx0_5 qx0_6 qx0_7 qx0_8 qx0_9 qx0_10 qx0_11 lx0
  obtain ⟨N53, hN, hN2⟩ : ∃ N : Nat, 1 + cntHo x0 = N ∧ N ≤ 1 + 8796093022208 := ⟨_, rfl, by have := cntHo_le FaH.out; omega⟩
  have HN53 := Lib.hid hN
  have BN53 := hN2
  clear hN hN2
  refine (markHo_rep [.int .i64 x0.st, .int .i64 x0.epoch, .int .i64 x0.gen, .slice A26 x0.conf.length c27, .bool x0.paused, .slice B28 x0.as_.length d29, .slice E30 x0.ls.length f31, .int .i64 x0.ticket, .int .i64 x0.h.id, .int .i64 x0.h.no, .int .i64 x0.h.acked, .int .i64 x0.h.since] 1 x0 fp25 W51 _ Ox0 FaH.out (by omega)).mono ?_
  rintro e W52 ⟨he, ho⟩
  rw [HN53.out] at he
  subst he
  have SW52 : W51.heap.size ≤ W52.heap.size := ho.size
  have HBW52 := Rep.Only.below HBW51 ho (by omega) (fun a ha => by have := (L32.out a ha).1; omega)
  replace TaH := Rep.at_only TaH ho (by omega) (fun a ha => by have := (L32.out a ha).1; omega)
  replace Tw0 := Rep.at_only Tw0 ho (by omega) (fun a ha => by have := (L32.out a ha).1; omega)
  replace Og0 := Rep.own_only Og0 ho (fun a ha hb => by have := L38.out a ha; have := L32.out a hb; omega)
  replace VaH := Rep.var_only VaH ho (by omega) (fun hb => by have := L32.out _ hb; omega)
  replace Vx0 := Rep.var_only Vx0 ho (by omega) (fun hb => by have := L32.out _ hb; omega)
  clear HBW51
  clear ho
  clear Ox0 L32
  go_wp2_with fail
  refine (eqIntS_rep [.slice A36 Y.length c37] [.slice A22 Y.length c23] Y W52 (Rep.reads intsR Og0) (Rep.more intsR Tw0 (by omega)) FY).mono ?_
  rintro e W54 ⟨rfl, hb⟩
  have ho := Rep.only_of_below hb
  clear hb
  have SW54 : W52.heap.size ≤ W54.heap.size := ho.size
  have HBW54 := Rep.Only.below HBW52 ho (by omega) (fun a ha => by cases ha)
  replace TaH := Rep.at_only TaH ho (by omega) (fun a ha => by cases ha)
  replace Tw0 := Rep.at_only Tw0 ho (by omega) (fun a ha => by cases ha)
  replace Og0 := Rep.own_only Og0 ho (fun a ha hb => by cases hb)
  replace VaH := Rep.var_only VaH ho (by omega) (fun hb => by cases hb)
  clear HBW52
  clear ho
  go_wp2_with fail
  obtain ⟨N56, hN, hN2⟩ : ∃ N : Nat, 1 + intsR.cnt Y = N ∧ N ≤ 1 + 8796093022208 := ⟨_, rfl, by have := ints_cnt_le FY; omega⟩
  have HN56 := Lib.hid hN
  have BN56 := hN2
  clear hN hN2
  refine (markIntS_rep [.slice A36 Y.length c37] 1 Y fp35 W54 _ Og0 FY (by omega)).mono ?_
  rintro e W55 ⟨he, hown, ho⟩
  rw [HN56.out] at he
  subst he
  replace Og0 := hown
  clear hown
  have SW55 : W54.heap.size ≤ W55.heap.size := ho.size
  have HBW55 := Rep.Only.below HBW54 ho (by omega) (fun a ha => by have := (L38.out a ha).1; omega)
  replace TaH := Rep.at_only TaH ho (by omega) (fun a ha => by have := (L38.out a ha).1; omega)
  replace Tw0 := Rep.at_only Tw0 ho (by omega) (fun a ha => by have := (L38.out a ha).1; omega)
  replace VaH := Rep.var_only VaH ho (by omega) (fun hb => by have := L38.out _ hb; omega)
  clear HBW54
  clear ho
  go_wp2_with fail
  refine (heldIntS_rep [.slice A36 Y.length c37] 1 Y W55 (Rep.reads intsR Og0) FY (by omega)).mono ?_
  rintro e W57 ⟨he, hb⟩
  rw [HN56.out] at he
  subst he
  have ho := Rep.only_of_below hb
  clear hb
  have SW57 : W55.heap.size ≤ W57.heap.size := ho.size
  have HBW57 := Rep.Only.below HBW55 ho (by omega) (fun a ha => by cases ha)
  replace TaH := Rep.at_only TaH ho (by omega) (fun a ha => by cases ha)
  replace Tw0 := Rep.at_only Tw0 ho (by omega) (fun a ha => by cases ha)
  replace Og0 := Rep.own_only Og0 ho (fun a ha hb => by cases hb)
  replace VaH := Rep.var_only VaH ho (by omega) (fun hb => by cases hb)
  clear HBW55
  clear ho
  have nn58 : ((N56 : Int) != (N56 : Int)) = false := by simp
  have qaH_0 : W57.cell? ⟨w.heap.size, 0, none⟩ = some (.int .i64 x0.st) := var_cell VaH.out 0
  have qaH_1 : W57.cell? ⟨w.heap.size, 1, none⟩ = some (.int .i64 x0.epoch) := var_cell VaH.out 1
  have qaH_2 : W57.cell? ⟨w.heap.size, 2, none⟩ = some (.int .i64 x0.gen) := var_cell VaH.out 2
  have qaH_3 : W57.cell? ⟨w.heap.size, 3, none⟩ = some (.slice A1 x0.conf.length c2) := var_cell VaH.out 3
  have qaH_4 : W57.cell? ⟨w.heap.size, 4, none⟩ = some (.bool x0.paused) := var_cell VaH.out 4
  have qaH_5 : W57.cell? ⟨w.heap.size, 5, none⟩ = some (.slice B3 x0.as_.length d4) := var_cell VaH.out 5
  have qaH_6 : W57.cell? ⟨w.heap.size, 6, none⟩ = some (.slice E5 x0.ls.length f6) := var_cell VaH.out 6
  have qaH_7 : W57.cell? ⟨w.heap.size, 7, none⟩ = some (.int .i64 x0.ticket) := var_cell VaH.out 7
  have qaH_8 : W57.cell? ⟨w.heap.size, 8, none⟩ = some (.int .i64 x0.h.id) := var_cell VaH.out 8
  have qaH_9 : W57.cell? ⟨w.heap.size, 9, none⟩ = some (.int .i64 x0.h.no) := var_cell VaH.out 9
  have qaH_10 : W57.cell? ⟨w.heap.size, 10, none⟩ = some (.int .i64 x0.h.acked) := var_cell VaH.out 10
  have qaH_11 : W57.cell? ⟨w.heap.size, 11, none⟩ = some (.int .i64 x0.h.since) := var_cell VaH.out 11
  have laH : w.heap.size < W57.heap.size := by omega
  go_wp2_with fail
  clear qaH_0 qaH_1 qaH_2 qaH_3 qaH_4 qaH_5 qaH_6 qaH_7 qaH_8 qaH_9 qaH_10 qaH_11 laH
  refine (toHoX_rep [.int .i64 x0.st, .int .i64 x0.epoch, .int .i64 x0.gen, .slice A1 x0.conf.length c2, .bool x0.paused, .slice B3 x0.as_.length d4, .slice E5 x0.ls.length f6, .int .i64 x0.ticket, .int .i64 x0.h.id, .int .i64 x0.h.no, .int .i64 x0.h.acked, .int .i64 x0.h.since] x0 W57 (Rep.more hoR TaH (by omega)) FaH.out).mono ?_
  rintro e W60 ⟨cs, fp61, rfl, Ot59, hb⟩
  obtain ⟨A62, c63, B64, d65, E66, f67, rfl⟩ := ho_own_shape Ot59
  have ho := Rep.only_of_below hb
  have L68 := Lib.hid (Rep.lt hoR Ot59)
  clear hb
  have SW60 : W57.heap.size ≤ W60.heap.size := ho.size
  have HBW60 := Rep.Only.below HBW57 ho (by omega) (fun a ha => by cases ha)
  replace TaH := Rep.at_only TaH ho (by omega) (fun a ha => by cases ha)
  replace Tw0 := Rep.at_only Tw0 ho (by omega) (fun a ha => by cases ha)
  replace Og0 := Rep.own_only Og0 ho (fun a ha hb => by cases hb)
  replace VaH := Rep.var_only VaH ho (by omega) (fun hb => by cases hb)
  clear HBW57
  clear ho
  go_wp2_with fail
  refine (waitersX_rep [.int .i64 x0.st, .int .i64 x0.epoch, .int .i64 x0.gen, .slice A62 x0.conf.length c63, .bool x0.paused, .slice B64 x0.as_.length d65, .slice E66 x0.ls.length f67, .int .i64 x0.ticket, .int .i64 x0.h.id, .int .i64 x0.h.no, .int .i64 x0.h.acked, .int .i64 x0.h.since] x0 a1 W60 (Rep.reads hoR Ot59) FaH.out w1).mono ?_
  rw [HY.out]
  rintro e W69 ⟨A71, c72, fp70, rfl, Oh0, hb⟩
  have ho := Rep.only_of_below hb
  have L73 := Lib.hid (Rep.lt intsR Oh0)
  clear hb
  have SW69 : W60.heap.size ≤ W69.heap.size := ho.size
  have HBW69 := Rep.Only.below HBW60 ho (by omega) (fun a ha => by cases ha)
  replace TaH := Rep.at_only TaH ho (by omega) (fun a ha => by cases ha)
  replace Tw0 := Rep.at_only Tw0 ho (by omega) (fun a ha => by cases ha)
  replace Og0 := Rep.own_only Og0 ho (fun a ha hb => by cases hb)
  replace Ot59 := Rep.own_only Ot59 ho (fun a ha hb => by cases hb)
  replace VaH := Rep.var_only VaH ho (by omega) (fun hb => by cases hb)
  clear HBW60
  clear ho
  clear Ot59 L68
  go_wp2_with fail
  refine (eqIntS_rep [.slice A71 Y.length c72] [.slice A22 Y.length c23] Y W69 (Rep.reads intsR Oh0) (Rep.more intsR Tw0 (by omega)) FY).mono ?_
  rintro e W74 ⟨rfl, hb⟩
  have ho := Rep.only_of_below hb
  clear hb
  have SW74 : W69.heap.size ≤ W74.heap.size := ho.size
  have HBW74 := Rep.Only.below HBW69 ho (by omega) (fun a ha => by cases ha)
  replace TaH := Rep.at_only TaH ho (by omega) (fun a ha => by cases ha)
  replace Tw0 := Rep.at_only Tw0 ho (by omega) (fun a ha => by cases ha)
  replace Og0 := Rep.own_only Og0 ho (fun a ha hb => by cases hb)
  replace Oh0 := Rep.own_only Oh0 ho (fun a ha hb => by cases hb)
  replace VaH := Rep.var_only VaH ho (by omega) (fun hb => by cases hb)
  clear HBW69
  clear ho
  clear Oh0 L73
  clear TaH
  clear Tw0
  go_wp2_with fail
  refine (heldIntS_rep [.slice A36 Y.length c37] 1 Y W74 (Rep.reads intsR Og0) FY (by omega)).mono ?_
  rintro e W75 ⟨he, hb⟩
  rw [HN56.out] at he
  subst he
  have ho := Rep.only_of_below hb
  clear hb
  have SW75 : W74.heap.size ≤ W75.heap.size := ho.size
  have HBW75 := Rep.Only.below HBW74 ho (by omega) (fun a ha => by cases ha)
  replace Og0 := Rep.own_only Og0 ho (fun a ha hb => by cases hb)
  clear HBW74
  clear ho
  have nn76 : ((N56 : Int) != (N56 : Int)) = false := by simp
  go_wp2_with fail
  go_ret
  exact ⟨rfl, HBW75⟩

end Go.Proofs.Ytgdhhhibkhfdlaa
