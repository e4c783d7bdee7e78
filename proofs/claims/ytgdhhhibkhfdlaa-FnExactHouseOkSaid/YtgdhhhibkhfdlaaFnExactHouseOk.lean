/- The walk of the exact law of HouseOk (written by gen.py). -/
import Derived.Test.YtgdhhhibkhfdlaaHouseS
import Derived.Test.YtgdhhhibkhfdlaaExactHo
import Derived.Test.YtgdhhhibkhfdlaaExactB
namespace Go.Proofs.Ytgdhhhibkhfdlaa
open Go.RowKit
set_option linter.unusedVariables false

set_option maxRecDepth 100000 in
set_option maxHeartbeats 4000000 in
theorem walk_FnExactHouseOk (w : World) (cs0 : List Value) (x0 : Ho) (w0 : hoR.at_ w w.heap.size cs0 x0) (k0 : OkHo x0) :
    Calls Try.prog 7 #[.agg cs0.toArray] w fun e w' => e = .returned (.bool true) ∧ Below w.heap.size w w' := by
  obtain ⟨A1, c2, B3, d4, E5, f6, rfl⟩ := ho_at_shape w0
  have TaH := w0
  clear w0
  have HBw := Below.refl w.heap.size w
  go_enter Try.func7, Try.ntmps7
  go_wp2_with fail
  have ho := Rep.only_alloc w (.cells #[.int .i64 x0.st, .int .i64 x0.epoch, .int .i64 x0.gen, .slice A1 x0.conf.length c2, .bool x0.paused, .slice B3 x0.as_.length d4, .slice E5 x0.ls.length f6, .int .i64 x0.ticket, .int .i64 x0.h.id, .int .i64 x0.h.no, .int .i64 x0.h.acked, .int .i64 x0.h.since] 92)
  have hv := heap_alloc_new w (.cells #[.int .i64 x0.st, .int .i64 x0.epoch, .int .i64 x0.gen, .slice A1 x0.conf.length c2, .bool x0.paused, .slice B3 x0.as_.length d4, .slice E5 x0.ls.length f6, .int .i64 x0.ticket, .int .i64 x0.h.id, .int .i64 x0.h.no, .int .i64 x0.h.acked, .int .i64 x0.h.since] 92)
  have hs : w.heap.size < (w.alloc (.cells #[.int .i64 x0.st, .int .i64 x0.epoch, .int .i64 x0.gen, .slice A1 x0.conf.length c2, .bool x0.paused, .slice B3 x0.as_.length d4, .slice E5 x0.ls.length f6, .int .i64 x0.ticket, .int .i64 x0.h.id, .int .i64 x0.h.no, .int .i64 x0.h.acked, .int .i64 x0.h.since] 92)).heap.size := by simp
  generalize hgW : w.alloc (.cells #[.int .i64 x0.st, .int .i64 x0.epoch, .int .i64 x0.gen, .slice A1 x0.conf.length c2, .bool x0.paused, .slice B3 x0.as_.length d4, .slice E5 x0.ls.length f6, .int .i64 x0.ticket, .int .i64 x0.h.id, .int .i64 x0.h.no, .int .i64 x0.h.acked, .int .i64 x0.h.since] 92) = W7 at ho hv hs ⊢
  have hEW7 : Hid (W7.heap.size = w.heap.size + 1) := Lib.hid (by rw [← hgW]; simp)
  clear hgW
  have SW7 : w.heap.size ≤ W7.heap.size := ho.size
  have HBW7 := Rep.Only.below HBw ho (by omega) (fun a ha => by cases ha)
  replace TaH := Rep.at_only TaH ho (by omega) (fun a ha => by cases ha)
  clear HBw
  have VaH := Lib.hid hv
  clear hv ho
  have ZW7 : w.heap.size < W7.heap.size := hs
  clear hs
  refine (szHo_rep [.int .i64 x0.st, .int .i64 x0.epoch, .int .i64 x0.gen, .slice A1 x0.conf.length c2, .bool x0.paused, .slice B3 x0.as_.length d4, .slice E5 x0.ls.length f6, .int .i64 x0.ticket, .int .i64 x0.h.id, .int .i64 x0.h.no, .int .i64 x0.h.acked, .int .i64 x0.h.since] x0 1048576 W7 (Rep.more hoR TaH (by omega)) (by omega) k0).mono ?_
  rintro e W8 ⟨hz, hb⟩
  have ho := Rep.only_of_below hb
  clear hb
  have SW8 : W7.heap.size ≤ W8.heap.size := ho.size
  have HBW8 := Rep.Only.below HBW7 ho (by omega) (fun a ha => by cases ha)
  replace TaH := Rep.at_only TaH ho (by omega) (fun a ha => by cases ha)
  replace VaH := Rep.var_only VaH ho (by omega) (fun hb => by cases hb)
  clear HBW7
  clear ho
  obtain ⟨z9, hz9, HfitaH, rfl⟩ | rfl := hz
  rotate_left
  · go_wp2_with fail
    go_ret
    exact ⟨rfl, HBW8⟩
  have FaH := Lib.hid HfitaH
  clear HfitaH
  obtain ⟨Y, hy⟩ : ∃ Y, houseB x0 = Y := ⟨_, rfl⟩
  have ny : (Y != Y) = false := by simp
  have HY := Lib.hid hy
  clear hy
  have qaH_0 : W8.cell? ⟨w.heap.size, 0, none⟩ = some (.int .i64 x0.st) := var_cell VaH.out 0
  have qaH_1 : W8.cell? ⟨w.heap.size, 1, none⟩ = some (.int .i64 x0.epoch) := var_cell VaH.out 1
  have qaH_2 : W8.cell? ⟨w.heap.size, 2, none⟩ = some (.int .i64 x0.gen) := var_cell VaH.out 2
  have qaH_3 : W8.cell? ⟨w.heap.size, 3, none⟩ = some (.slice A1 x0.conf.length c2) := var_cell VaH.out 3
  have qaH_4 : W8.cell? ⟨w.heap.size, 4, none⟩ = some (.bool x0.paused) := var_cell VaH.out 4
  have qaH_5 : W8.cell? ⟨w.heap.size, 5, none⟩ = some (.slice B3 x0.as_.length d4) := var_cell VaH.out 5
  have qaH_6 : W8.cell? ⟨w.heap.size, 6, none⟩ = some (.slice E5 x0.ls.length f6) := var_cell VaH.out 6
  have qaH_7 : W8.cell? ⟨w.heap.size, 7, none⟩ = some (.int .i64 x0.ticket) := var_cell VaH.out 7
  have qaH_8 : W8.cell? ⟨w.heap.size, 8, none⟩ = some (.int .i64 x0.h.id) := var_cell VaH.out 8
  have qaH_9 : W8.cell? ⟨w.heap.size, 9, none⟩ = some (.int .i64 x0.h.no) := var_cell VaH.out 9
  have qaH_10 : W8.cell? ⟨w.heap.size, 10, none⟩ = some (.int .i64 x0.h.acked) := var_cell VaH.out 10
  have qaH_11 : W8.cell? ⟨w.heap.size, 11, none⟩ = some (.int .i64 x0.h.since) := var_cell VaH.out 11
  have laH : w.heap.size < W8.heap.size := by omega
  go_wp2_with fail
  clear qaH_0 qaH_1 qaH_2 qaH_3 qaH_4 qaH_5 qaH_6 qaH_7 qaH_8 qaH_9 qaH_10 qaH_11 laH
  refine (toHoX_rep [.int .i64 x0.st, .int .i64 x0.epoch, .int .i64 x0.gen, .slice A1 x0.conf.length c2, .bool x0.paused, .slice B3 x0.as_.length d4, .slice E5 x0.ls.length f6, .int .i64 x0.ticket, .int .i64 x0.h.id, .int .i64 x0.h.no, .int .i64 x0.h.acked, .int .i64 x0.h.since] x0 W8 (Rep.more hoR TaH (by omega)) FaH.out).mono ?_
  rintro e W11 ⟨cs, fp12, rfl, Ot10, hb⟩
  obtain ⟨A13, c14, B15, d16, E17, f18, rfl⟩ := ho_own_shape Ot10
  have ho := Rep.only_of_below hb
  have L19 := Lib.hid (Rep.lt hoR Ot10)
  clear hb
  have SW11 : W8.heap.size ≤ W11.heap.size := ho.size
  have HBW11 := Rep.Only.below HBW8 ho (by omega) (fun a ha => by cases ha)
  replace TaH := Rep.at_only TaH ho (by omega) (fun a ha => by cases ha)
  replace VaH := Rep.var_only VaH ho (by omega) (fun hb => by cases hb)
  clear HBW8
  clear ho
  go_wp2_with fail
  refine (houseOkSX_rep [.int .i64 x0.st, .int .i64 x0.epoch, .int .i64 x0.gen, .slice A13 x0.conf.length c14, .bool x0.paused, .slice B15 x0.as_.length d16, .slice E17 x0.ls.length f18, .int .i64 x0.ticket, .int .i64 x0.h.id, .int .i64 x0.h.no, .int .i64 x0.h.acked, .int .i64 x0.h.since] x0 W11 (Rep.reads hoR Ot10) FaH.out).mono ?_
  rintro e W20 ⟨he, hb⟩
  rw [HY.out] at he
  subst he
  have ho := Rep.only_of_below hb
  clear hb
  have SW20 : W11.heap.size ≤ W20.heap.size := ho.size
  have HBW20 := Rep.Only.below HBW11 ho (by omega) (fun a ha => by cases ha)
  replace TaH := Rep.at_only TaH ho (by omega) (fun a ha => by cases ha)
  replace Ot10 := Rep.own_only Ot10 ho (fun a ha hb => by cases hb)
  replace VaH := Rep.var_only VaH ho (by omega) (fun hb => by cases hb)
  clear HBW11
  clear ho
  clear Ot10 L19
  have qaH_0 : W20.cell? ⟨w.heap.size, 0, none⟩ = some (.int .i64 x0.st) := var_cell VaH.out 0
  have qaH_1 : W20.cell? ⟨w.heap.size, 1, none⟩ = some (.int .i64 x0.epoch) := var_cell VaH.out 1
  have qaH_2 : W20.cell? ⟨w.heap.size, 2, none⟩ = some (.int .i64 x0.gen) := var_cell VaH.out 2
  have qaH_3 : W20.cell? ⟨w.heap.size, 3, none⟩ = some (.slice A1 x0.conf.length c2) := var_cell VaH.out 3
  have qaH_4 : W20.cell? ⟨w.heap.size, 4, none⟩ = some (.bool x0.paused) := var_cell VaH.out 4
  have qaH_5 : W20.cell? ⟨w.heap.size, 5, none⟩ = some (.slice B3 x0.as_.length d4) := var_cell VaH.out 5
  have qaH_6 : W20.cell? ⟨w.heap.size, 6, none⟩ = some (.slice E5 x0.ls.length f6) := var_cell VaH.out 6
  have qaH_7 : W20.cell? ⟨w.heap.size, 7, none⟩ = some (.int .i64 x0.ticket) := var_cell VaH.out 7
  have qaH_8 : W20.cell? ⟨w.heap.size, 8, none⟩ = some (.int .i64 x0.h.id) := var_cell VaH.out 8
  have qaH_9 : W20.cell? ⟨w.heap.size, 9, none⟩ = some (.int .i64 x0.h.no) := var_cell VaH.out 9
  have qaH_10 : W20.cell? ⟨w.heap.size, 10, none⟩ = some (.int .i64 x0.h.acked) := var_cell VaH.out 10
  have qaH_11 : W20.cell? ⟨w.heap.size, 11, none⟩ = some (.int .i64 x0.h.since) := var_cell VaH.out 11
  have laH : w.heap.size < W20.heap.size := by omega
  go_wp2_with fail
  clear qaH_0 qaH_1 qaH_2 qaH_3 qaH_4 qaH_5 qaH_6 qaH_7 qaH_8 qaH_9 qaH_10 qaH_11 laH
  refine (toHoX_rep [.int .i64 x0.st, .int .i64 x0.epoch, .int .i64 x0.gen, .slice A1 x0.conf.length c2, .bool x0.paused, .slice B3 x0.as_.length d4, .slice E5 x0.ls.length f6, .int .i64 x0.ticket, .int .i64 x0.h.id, .int .i64 x0.h.no, .int .i64 x0.h.acked, .int .i64 x0.h.since] x0 W20 (Rep.more hoR TaH (by omega)) FaH.out).mono ?_
  rintro e W21 ⟨cs, fp22, rfl, Ox0, hb⟩
  obtain ⟨A23, c24, B25, d26, E27, f28, rfl⟩ := ho_own_shape Ox0
  have ho := Rep.only_of_below hb
  have L29 := Lib.hid (Rep.lt hoR Ox0)
  clear hb
  have SW21 : W20.heap.size ≤ W21.heap.size := ho.size
  have HBW21 := Rep.Only.below HBW20 ho (by omega) (fun a ha => by cases ha)
  replace TaH := Rep.at_only TaH ho (by omega) (fun a ha => by cases ha)
  replace VaH := Rep.var_only VaH ho (by omega) (fun hb => by cases hb)
  clear HBW20
  clear ho
  go_wp2_with fail
  have ho := Rep.only_alloc W21 (.cells #[.int .i64 x0.st, .int .i64 x0.epoch, .int .i64 x0.gen, .slice A23 x0.conf.length c24, .bool x0.paused, .slice B25 x0.as_.length d26, .slice E27 x0.ls.length f28, .int .i64 x0.ticket, .int .i64 x0.h.id, .int .i64 x0.h.no, .int .i64 x0.h.acked, .int .i64 x0.h.since] 70)
  have hv := heap_alloc_new W21 (.cells #[.int .i64 x0.st, .int .i64 x0.epoch, .int .i64 x0.gen, .slice A23 x0.conf.length c24, .bool x0.paused, .slice B25 x0.as_.length d26, .slice E27 x0.ls.length f28, .int .i64 x0.ticket, .int .i64 x0.h.id, .int .i64 x0.h.no, .int .i64 x0.h.acked, .int .i64 x0.h.since] 70)
  have hs : W21.heap.size < (W21.alloc (.cells #[.int .i64 x0.st, .int .i64 x0.epoch, .int .i64 x0.gen, .slice A23 x0.conf.length c24, .bool x0.paused, .slice B25 x0.as_.length d26, .slice E27 x0.ls.length f28, .int .i64 x0.ticket, .int .i64 x0.h.id, .int .i64 x0.h.no, .int .i64 x0.h.acked, .int .i64 x0.h.since] 70)).heap.size := by simp
  generalize hgW : W21.alloc (.cells #[.int .i64 x0.st, .int .i64 x0.epoch, .int .i64 x0.gen, .slice A23 x0.conf.length c24, .bool x0.paused, .slice B25 x0.as_.length d26, .slice E27 x0.ls.length f28, .int .i64 x0.ticket, .int .i64 x0.h.id, .int .i64 x0.h.no, .int .i64 x0.h.acked, .int .i64 x0.h.since] 70) = W30 at ho hv hs ⊢
  clear hgW
  have SW30 : W21.heap.size ≤ W30.heap.size := ho.size
  have HBW30 := Rep.Only.below HBW21 ho (by omega) (fun a ha => by cases ha)
  replace TaH := Rep.at_only TaH ho (by omega) (fun a ha => by cases ha)
  replace Ox0 := Rep.own_only Ox0 ho (fun a ha hb => by cases hb)
  replace VaH := Rep.var_only VaH ho (by omega) (fun hb => by cases hb)
  clear HBW21
  have Vx0 := Lib.hid hv
  clear hv ho
  have ZW30 : W21.heap.size < W30.heap.size := hs
  clear hs
  refine (houseOkX_rep [.int .i64 x0.st, .int .i64 x0.epoch, .int .i64 x0.gen, .slice A23 x0.conf.length c24, .bool x0.paused, .slice B25 x0.as_.length d26, .slice E27 x0.ls.length f28, .int .i64 x0.ticket, .int .i64 x0.h.id, .int .i64 x0.h.no, .int .i64 x0.h.acked, .int .i64 x0.h.since] x0 W30 (Rep.reads hoR Ox0) FaH.out).mono ?_
  rintro e W31 ⟨he, hb⟩
  rw [HY.out] at he
  subst he
  have ho := Rep.only_of_below hb
  clear hb
  have SW31 : W30.heap.size ≤ W31.heap.size := ho.size
  have HBW31 := Rep.Only.below HBW30 ho (by omega) (fun a ha => by cases ha)
  replace TaH := Rep.at_only TaH ho (by omega) (fun a ha => by cases ha)
  replace Ox0 := Rep.own_only Ox0 ho (fun a ha hb => by cases hb)
  replace VaH := Rep.var_only VaH ho (by omega) (fun hb => by cases hb)
  replace Vx0 := Rep.var_only Vx0 ho (by omega) (fun hb => by cases hb)
  clear HBW30
  clear ho
  have qx0_0 : W31.cell? ⟨W21.heap.size, 0, none⟩ = some (.int .i64 x0.st) := var_cell Vx0.out 0
  have qx0_1 : W31.cell? ⟨W21.heap.size, 1, none⟩ = some (.int .i64 x0.epoch) := var_cell Vx0.out 1
  have qx0_2 : W31.cell? ⟨W21.heap.size, 2, none⟩ = some (.int .i64 x0.gen) := var_cell Vx0.out 2
  have qx0_3 : W31.cell? ⟨W21.heap.size, 3, none⟩ = some (.slice A23 x0.conf.length c24) := var_cell Vx0.out 3
  have qx0_4 : W31.cell? ⟨W21.heap.size, 4, none⟩ = some (.bool x0.paused) := var_cell Vx0.out 4
  have qx0_5 : W31.cell? ⟨W21.heap.size, 5, none⟩ = some (.slice B25 x0.as_.length d26) := var_cell Vx0.out 5
  have qx0_6 : W31.cell? ⟨W21.heap.size, 6, none⟩ = some (.slice E27 x0.ls.length f28) := var_cell Vx0.out 6
  have qx0_7 : W31.cell? ⟨W21.heap.size, 7, none⟩ = some (.int .i64 x0.ticket) := var_cell Vx0.out 7
  have qx0_8 : W31.cell? ⟨W21.heap.size, 8, none⟩ = some (.int .i64 x0.h.id) := var_cell Vx0.out 8
  have qx0_9 : W31.cell? ⟨W21.heap.size, 9, none⟩ = some (.int .i64 x0.h.no) := var_cell Vx0.out 9
  have qx0_10 : W31.cell? ⟨W21.heap.size, 10, none⟩ = some (.int .i64 x0.h.acked) := var_cell Vx0.out 10
  have qx0_11 : W31.cell? ⟨W21.heap.size, 11, none⟩ = some (.int .i64 x0.h.since) := var_cell Vx0.out 11
  have lx0 : W21.heap.size < W31.heap.size := by omega
  have qaH_0 : W31.cell? ⟨w.heap.size, 0, none⟩ = some (.int .i64 x0.st) := var_cell VaH.out 0
  have qaH_1 : W31.cell? ⟨w.heap.size, 1, none⟩ = some (.int .i64 x0.epoch) := var_cell VaH.out 1
  have qaH_2 : W31.cell? ⟨w.heap.size, 2, none⟩ = some (.int .i64 x0.gen) := var_cell VaH.out 2
  have qaH_3 : W31.cell? ⟨w.heap.size, 3, none⟩ = some (.slice A1 x0.conf.length c2) := var_cell VaH.out 3
  have qaH_4 : W31.cell? ⟨w.heap.size, 4, none⟩ = some (.bool x0.paused) := var_cell VaH.out 4
  have qaH_5 : W31.cell? ⟨w.heap.size, 5, none⟩ = some (.slice B3 x0.as_.length d4) := var_cell VaH.out 5
  have qaH_6 : W31.cell? ⟨w.heap.size, 6, none⟩ = some (.slice E5 x0.ls.length f6) := var_cell VaH.out 6
  have qaH_7 : W31.cell? ⟨w.heap.size, 7, none⟩ = some (.int .i64 x0.ticket) := var_cell VaH.out 7
  have qaH_8 : W31.cell? ⟨w.heap.size, 8, none⟩ = some (.int .i64 x0.h.id) := var_cell VaH.out 8
  have qaH_9 : W31.cell? ⟨w.heap.size, 9, none⟩ = some (.int .i64 x0.h.no) := var_cell VaH.out 9
  have qaH_10 : W31.cell? ⟨w.heap.size, 10, none⟩ = some (.int .i64 x0.h.acked) := var_cell VaH.out 10
  have qaH_11 : W31.cell? ⟨w.heap.size, 11, none⟩ = some (.int .i64 x0.h.since) := var_cell VaH.out 11
  have laH : w.heap.size < W31.heap.size := by omega
  go_wp2_with fail
  clear qx0_0 qx0_1 qx0_2 qx0_3 qx0_4 qx0_5 qx0_6 qx0_7 qx0_8 qx0_9 qx0_10 qx0_11 lx0 qaH_0 qaH_1 qaH_2 qaH_3 qaH_4 qaH_5 qaH_6 qaH_7 qaH_8 qaH_9 qaH_10 qaH_11 laH
  go_region_held3 (fun w' => w'.cell? ⟨W21.heap.size, 0, none⟩ = some (.int .i64 x0.st) ∧ w'.cell? ⟨W21.heap.size, 1, none⟩ = some (.int .i64 x0.epoch) ∧ w'.cell? ⟨W21.heap.size, 2, none⟩ = some (.int .i64 x0.gen) ∧ w'.cell? ⟨W21.heap.size, 3, none⟩ = some (.slice A23 x0.conf.length c24) ∧ w'.cell? ⟨W21.heap.size, 4, none⟩ = some (.bool x0.paused) ∧ w'.cell? ⟨W21.heap.size, 5, none⟩ = some (.slice B25 x0.as_.length d26) ∧ w'.cell? ⟨W21.heap.size, 6, none⟩ = some (.slice E27 x0.ls.length f28) ∧ w'.cell? ⟨W21.heap.size, 7, none⟩ = some (.int .i64 x0.ticket) ∧ w'.cell? ⟨W21.heap.size, 8, none⟩ = some (.int .i64 x0.h.id) ∧ w'.cell? ⟨W21.heap.size, 9, none⟩ = some (.int .i64 x0.h.no) ∧ w'.cell? ⟨W21.heap.size, 10, none⟩ = some (.int .i64 x0.h.acked) ∧ w'.cell? ⟨W21.heap.size, 11, none⟩ = some (.int .i64 x0.h.since) ∧ w'.cell? ⟨w.heap.size, 0, none⟩ = some (.int .i64 x0.st) ∧ w'.cell? ⟨w.heap.size, 1, none⟩ = some (.int .i64 x0.epoch) ∧ w'.cell? ⟨w.heap.size, 2, none⟩ = some (.int .i64 x0.gen) ∧ w'.cell? ⟨w.heap.size, 3, none⟩ = some (.slice A1 x0.conf.length c2) ∧ w'.cell? ⟨w.heap.size, 4, none⟩ = some (.bool x0.paused) ∧ w'.cell? ⟨w.heap.size, 5, none⟩ = some (.slice B3 x0.as_.length d4) ∧ w'.cell? ⟨w.heap.size, 6, none⟩ = some (.slice E5 x0.ls.length f6) ∧ w'.cell? ⟨w.heap.size, 7, none⟩ = some (.int .i64 x0.ticket) ∧ w'.cell? ⟨w.heap.size, 8, none⟩ = some (.int .i64 x0.h.id) ∧ w'.cell? ⟨w.heap.size, 9, none⟩ = some (.int .i64 x0.h.no) ∧ w'.cell? ⟨w.heap.size, 10, none⟩ = some (.int .i64 x0.h.acked) ∧ w'.cell? ⟨w.heap.size, 11, none⟩ = some (.int .i64 x0.h.since)) (exact ⟨var_cell Vx0.out 0, var_cell Vx0.out 1, var_cell Vx0.out 2, var_cell Vx0.out 3, var_cell Vx0.out 4, var_cell Vx0.out 5, var_cell Vx0.out 6, var_cell Vx0.out 7, var_cell Vx0.out 8, var_cell Vx0.out 9, var_cell Vx0.out 10, var_cell Vx0.out 11, var_cell VaH.out 0, var_cell VaH.out 1, var_cell VaH.out 2, var_cell VaH.out 3, var_cell VaH.out 4, var_cell VaH.out 5, var_cell VaH.out 6, var_cell VaH.out 7, var_cell VaH.out 8, var_cell VaH.out 9, var_cell VaH.out 10, var_cell VaH.out 11⟩) (first
    | (go_at_call 66
       have ho := Rep.only_drew W31
       generalize W31.drew = W32 at ho ⊢
       have SW32 : W31.heap.size ≤ W32.heap.size := ho.size
       have HBW32 := Rep.Only.below HBW31 ho (by omega) (fun a ha => by cases ha)
       replace TaH := Rep.at_only TaH ho (by omega) (fun a ha => by cases ha)
       replace Ox0 := Rep.own_only Ox0 ho (fun a ha hb => by cases hb)
       replace VaH := Rep.var_only VaH ho (by omega) (fun hb => by cases hb)
       replace Vx0 := Rep.var_only Vx0 ho (by omega) (fun hb => by cases hb)
       clear HBW31
       clear ho
       refine (toHoX_rep [.int .i64 x0.st, .int .i64 x0.epoch, .int .i64 x0.gen, .slice A1 x0.conf.length c2, .bool x0.paused, .slice B3 x0.as_.length d4, .slice E5 x0.ls.length f6, .int .i64 x0.ticket, .int .i64 x0.h.id, .int .i64 x0.h.no, .int .i64 x0.h.acked, .int .i64 x0.h.since] x0 W32 (Rep.more hoR TaH (by omega)) FaH.out).mono ?_
       rintro e W34 ⟨cs, fp35, rfl, Ot33, hb⟩
       obtain ⟨A36, c37, B38, d39, E40, f41, rfl⟩ := ho_own_shape Ot33
       have ho := Rep.only_of_below hb
       have L42 := Lib.hid (Rep.lt hoR Ot33)
       clear hb
       have SW34 : W32.heap.size ≤ W34.heap.size := ho.size
       have HBW34 := Rep.Only.below HBW32 ho (by omega) (fun a ha => by cases ha)
       replace TaH := Rep.at_only TaH ho (by omega) (fun a ha => by cases ha)
       replace Ox0 := Rep.own_only Ox0 ho (fun a ha hb => by cases hb)
       replace VaH := Rep.var_only VaH ho (by omega) (fun hb => by cases hb)
       replace Vx0 := Rep.var_only Vx0 ho (by omega) (fun hb => by cases hb)
       clear HBW32
       clear ho)
    | (go_at_call 67
       refine (eqHo_rep [.int .i64 x0.st, .int .i64 x0.epoch, .int .i64 x0.gen, .slice A23 x0.conf.length c24, .bool x0.paused, .slice B25 x0.as_.length d26, .slice E27 x0.ls.length f28, .int .i64 x0.ticket, .int .i64 x0.h.id, .int .i64 x0.h.no, .int .i64 x0.h.acked, .int .i64 x0.h.since] [.int .i64 x0.st, .int .i64 x0.epoch, .int .i64 x0.gen, .slice A36 x0.conf.length c37, .bool x0.paused, .slice B38 x0.as_.length d39, .slice E40 x0.ls.length f41, .int .i64 x0.ticket, .int .i64 x0.h.id, .int .i64 x0.h.no, .int .i64 x0.h.acked, .int .i64 x0.h.since] x0 W34 (Rep.reads hoR Ox0) (Rep.reads hoR Ot33) FaH.out).mono ?_
       rintro e W43 ⟨rfl, hb⟩
       have ho := Rep.only_of_below hb
       clear hb
       have SW43 : W34.heap.size ≤ W43.heap.size := ho.size
       have HBW43 := Rep.Only.below HBW34 ho (by omega) (fun a ha => by cases ha)
       replace TaH := Rep.at_only TaH ho (by omega) (fun a ha => by cases ha)
       replace Ox0 := Rep.own_only Ox0 ho (fun a ha hb => by cases hb)
       replace Ot33 := Rep.own_only Ot33 ho (fun a ha hb => by cases hb)
       replace VaH := Rep.var_only VaH ho (by omega) (fun hb => by cases hb)
       replace Vx0 := Rep.var_only Vx0 ho (by omega) (fun hb => by cases hb)
       clear HBW34
       clear ho))
  clear Ot33 L42
  go_wp2_with fail
  go_ret
  exact ⟨rfl, HBW43⟩

end Go.Proofs.Ytgdhhhibkhfdlaa
