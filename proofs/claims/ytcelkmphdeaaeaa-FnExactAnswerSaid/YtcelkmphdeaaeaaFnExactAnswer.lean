/- The walk of the exact law of Answer (written by gen.py). -/
import Derived.Test.YtcelkmphdeaaeaaExactAns
import Derived.Test.YtcelkmphdeaaeaaExactB
namespace Go.Proofs.Ytcelkmphdeaaeaa
open Go.RowKit
set_option linter.unusedVariables false

set_option maxRecDepth 100000 in
set_option maxHeartbeats 4000000 in
theorem walk_FnExactAnswer (w : World) (cs0 : List Value) (x0 : Sk) (w0 : skR.at_ w w.heap.size cs0 x0) (k0 : OkSk x0) :
    Calls Try.prog 13 #[.agg cs0.toArray] w fun e w' => e = .returned (.bool true) ∧ Below w.heap.size w w' := by
  obtain ⟨A1, c2, B3, d4, rfl⟩ := sk_at_shape w0
  have TaS := w0
  clear w0
  have HBw := Below.refl w.heap.size w
  go_enter Try.func13, Try.ntmps13
  go_wp2_with fail
  have ho := Rep.only_alloc w (.cells #[.int .i64 x0.id, .int .i64 x0.kind, .int .i64 x0.hold, .bool x0.shut, .slice A1 x0.inn.length c2, .slice B3 x0.out.length d4, .int .i64 x0.st, .int .i64 x0.done] 57)
  have hv := heap_alloc_new w (.cells #[.int .i64 x0.id, .int .i64 x0.kind, .int .i64 x0.hold, .bool x0.shut, .slice A1 x0.inn.length c2, .slice B3 x0.out.length d4, .int .i64 x0.st, .int .i64 x0.done] 57)
  have hs : w.heap.size < (w.alloc (.cells #[.int .i64 x0.id, .int .i64 x0.kind, .int .i64 x0.hold, .bool x0.shut, .slice A1 x0.inn.length c2, .slice B3 x0.out.length d4, .int .i64 x0.st, .int .i64 x0.done] 57)).heap.size := by simp
  generalize hgW : w.alloc (.cells #[.int .i64 x0.id, .int .i64 x0.kind, .int .i64 x0.hold, .bool x0.shut, .slice A1 x0.inn.length c2, .slice B3 x0.out.length d4, .int .i64 x0.st, .int .i64 x0.done] 57) = W5 at ho hv hs ⊢
  have hEW5 : Hid (W5.heap.size = w.heap.size + 1) := Lib.hid (by rw [← hgW]; simp)
  clear hgW
  have SW5 : w.heap.size ≤ W5.heap.size := ho.size
  have HBW5 := Rep.Only.below HBw ho (by omega) (fun a ha => by cases ha)
  replace TaS := Rep.at_only TaS ho (by omega) (fun a ha => by cases ha)
  clear HBw
  have VaS := Lib.hid hv
  clear hv ho
  have ZW5 : w.heap.size < W5.heap.size := hs
  clear hs
  refine (szSk_room [.int .i64 x0.id, .int .i64 x0.kind, .int .i64 x0.hold, .bool x0.shut, .slice A1 x0.inn.length c2, .slice B3 x0.out.length d4, .int .i64 x0.st, .int .i64 x0.done] x0 1048576 W5 (Rep.more skR TaS (by omega)) (by omega)).mono ?_
  rintro e W6 ⟨hz, hb⟩
  have ho := Rep.only_of_below hb
  clear hb
  have SW6 : W5.heap.size ≤ W6.heap.size := ho.size
  have HBW6 := Rep.Only.below HBW5 ho (by omega) (fun a ha => by cases ha)
  replace TaS := Rep.at_only TaS ho (by omega) (fun a ha => by cases ha)
  replace VaS := Rep.var_only VaS ho (by omega) (fun hb => by cases hb)
  clear HBW5
  clear ho
  obtain ⟨z7, hz7, HfitaS, rfl⟩ | rfl := hz
  rotate_left
  · go_wp2_with fail
    go_ret
    exact ⟨rfl, HBW6⟩
  have RaS := Lib.hid HfitaS
  have FaS := Lib.hid HfitaS.fits
  clear HfitaS
  obtain ⟨⟨Y, Y2⟩, hy⟩ : ∃ Y, ansP x0 = Y := ⟨_, rfl⟩
  have FY : FitsSk Y := by have h9 := fits_ans RaS.out; rw [hy] at h9; exact h9
  have ny : (Y2 != Y2) = false := by simp
  have HY := Lib.hid hy
  clear hy
  have qaS_0 : W6.cell? ⟨w.heap.size, 0, none⟩ = some (.int .i64 x0.id) := var_cell VaS.out 0
  have qaS_1 : W6.cell? ⟨w.heap.size, 1, none⟩ = some (.int .i64 x0.kind) := var_cell VaS.out 1
  have qaS_2 : W6.cell? ⟨w.heap.size, 2, none⟩ = some (.int .i64 x0.hold) := var_cell VaS.out 2
  have qaS_3 : W6.cell? ⟨w.heap.size, 3, none⟩ = some (.bool x0.shut) := var_cell VaS.out 3
  have qaS_4 : W6.cell? ⟨w.heap.size, 4, none⟩ = some (.slice A1 x0.inn.length c2) := var_cell VaS.out 4
  have qaS_5 : W6.cell? ⟨w.heap.size, 5, none⟩ = some (.slice B3 x0.out.length d4) := var_cell VaS.out 5
  have qaS_6 : W6.cell? ⟨w.heap.size, 6, none⟩ = some (.int .i64 x0.st) := var_cell VaS.out 6
  have qaS_7 : W6.cell? ⟨w.heap.size, 7, none⟩ = some (.int .i64 x0.done) := var_cell VaS.out 7
  have laS : w.heap.size < W6.heap.size := by omega
  go_wp2_with fail
  clear qaS_0 qaS_1 qaS_2 qaS_3 qaS_4 qaS_5 qaS_6 qaS_7 laS
  refine (toSk_rep [.int .i64 x0.id, .int .i64 x0.kind, .int .i64 x0.hold, .bool x0.shut, .slice A1 x0.inn.length c2, .slice B3 x0.out.length d4, .int .i64 x0.st, .int .i64 x0.done] x0 W6 (Rep.more skR TaS (by omega)) FaS.out).mono ?_
  rintro e W9 ⟨cs, fp10, rfl, Ot8, hb⟩
  obtain ⟨A11, c12, B13, d14, rfl⟩ := sk_own_shape Ot8
  have ho := Rep.only_of_below hb
  have L15 := Lib.hid (Rep.lt skR Ot8)
  clear hb
  have SW9 : W6.heap.size ≤ W9.heap.size := ho.size
  have HBW9 := Rep.Only.below HBW6 ho (by omega) (fun a ha => by cases ha)
  replace TaS := Rep.at_only TaS ho (by omega) (fun a ha => by cases ha)
  replace VaS := Rep.var_only VaS ho (by omega) (fun hb => by cases hb)
  clear HBW6
  clear ho
  go_wp2_with fail
  refine (answerS_rep [.int .i64 x0.id, .int .i64 x0.kind, .int .i64 x0.hold, .bool x0.shut, .slice A11 x0.inn.length c12, .slice B13 x0.out.length d14, .int .i64 x0.st, .int .i64 x0.done] x0 W9 (Rep.reads skR Ot8) RaS.out).mono ?_
  rw [HY.out]
  rintro e W16 ⟨cs, fp17, rfl, Ow0, hb⟩
  replace Ow0 : skR.own W16 _ cs Y _ := Ow0
  obtain ⟨A18, c19, B20, d21, rfl⟩ := sk_own_shape Ow0
  have ho := Rep.only_of_below hb
  have L22 := Lib.hid (Rep.lt skR Ow0)
  clear hb
  have SW16 : W9.heap.size ≤ W16.heap.size := ho.size
  have HBW16 := Rep.Only.below HBW9 ho (by omega) (fun a ha => by cases ha)
  replace TaS := Rep.at_only TaS ho (by omega) (fun a ha => by cases ha)
  replace Ot8 := Rep.own_only Ot8 ho (fun a ha hb => by cases hb)
  replace VaS := Rep.var_only VaS ho (by omega) (fun hb => by cases hb)
  clear HBW9
  clear ho
  have Tw0 := Rep.reads skR Ow0
  clear Ow0 L22
  clear Ot8 L15
  have qaS_0 : W16.cell? ⟨w.heap.size, 0, none⟩ = some (.int .i64 x0.id) := var_cell VaS.out 0
  have qaS_1 : W16.cell? ⟨w.heap.size, 1, none⟩ = some (.int .i64 x0.kind) := var_cell VaS.out 1
  have qaS_2 : W16.cell? ⟨w.heap.size, 2, none⟩ = some (.int .i64 x0.hold) := var_cell VaS.out 2
  have qaS_3 : W16.cell? ⟨w.heap.size, 3, none⟩ = some (.bool x0.shut) := var_cell VaS.out 3
  have qaS_4 : W16.cell? ⟨w.heap.size, 4, none⟩ = some (.slice A1 x0.inn.length c2) := var_cell VaS.out 4
  have qaS_5 : W16.cell? ⟨w.heap.size, 5, none⟩ = some (.slice B3 x0.out.length d4) := var_cell VaS.out 5
  have qaS_6 : W16.cell? ⟨w.heap.size, 6, none⟩ = some (.int .i64 x0.st) := var_cell VaS.out 6
  have qaS_7 : W16.cell? ⟨w.heap.size, 7, none⟩ = some (.int .i64 x0.done) := var_cell VaS.out 7
  have laS : w.heap.size < W16.heap.size := by omega
  go_wp2_with fail
  clear qaS_0 qaS_1 qaS_2 qaS_3 qaS_4 qaS_5 qaS_6 qaS_7 laS
  have ho := Rep.only_alloc W16 (.cells #[.int .i64 Y.id, .int .i64 Y.kind, .int .i64 Y.hold, .bool Y.shut, .slice A18 Y.inn.length c19, .slice B20 Y.out.length d21, .int .i64 Y.st, .int .i64 Y.done] 25)
  have hv := heap_alloc_new W16 (.cells #[.int .i64 Y.id, .int .i64 Y.kind, .int .i64 Y.hold, .bool Y.shut, .slice A18 Y.inn.length c19, .slice B20 Y.out.length d21, .int .i64 Y.st, .int .i64 Y.done] 25)
  have hs : W16.heap.size < (W16.alloc (.cells #[.int .i64 Y.id, .int .i64 Y.kind, .int .i64 Y.hold, .bool Y.shut, .slice A18 Y.inn.length c19, .slice B20 Y.out.length d21, .int .i64 Y.st, .int .i64 Y.done] 25)).heap.size := by simp
  generalize hgW : W16.alloc (.cells #[.int .i64 Y.id, .int .i64 Y.kind, .int .i64 Y.hold, .bool Y.shut, .slice A18 Y.inn.length c19, .slice B20 Y.out.length d21, .int .i64 Y.st, .int .i64 Y.done] 25) = W23 at ho hv hs ⊢
  clear hgW
  have SW23 : W16.heap.size ≤ W23.heap.size := ho.size
  have HBW23 := Rep.Only.below HBW16 ho (by omega) (fun a ha => by cases ha)
  replace TaS := Rep.at_only TaS ho (by omega) (fun a ha => by cases ha)
  replace Tw0 := Rep.at_only Tw0 ho (by omega) (fun a ha => by cases ha)
  replace VaS := Rep.var_only VaS ho (by omega) (fun hb => by cases hb)
  clear HBW16
  have Vw0 := Lib.hid hv
  clear hv ho
  have ZW23 : W16.heap.size < W23.heap.size := hs
  clear hs
  refine (toSk_rep [.int .i64 x0.id, .int .i64 x0.kind, .int .i64 x0.hold, .bool x0.shut, .slice A1 x0.inn.length c2, .slice B3 x0.out.length d4, .int .i64 x0.st, .int .i64 x0.done] x0 W23 (Rep.more skR TaS (by omega)) FaS.out).mono ?_
  rintro e W24 ⟨cs, fp25, rfl, Ox0, hb⟩
  obtain ⟨A26, c27, B28, d29, rfl⟩ := sk_own_shape Ox0
  have ho := Rep.only_of_below hb
  have L30 := Lib.hid (Rep.lt skR Ox0)
  clear hb
  have SW24 : W23.heap.size ≤ W24.heap.size := ho.size
  have HBW24 := Rep.Only.below HBW23 ho (by omega) (fun a ha => by cases ha)
  replace TaS := Rep.at_only TaS ho (by omega) (fun a ha => by cases ha)
  replace Tw0 := Rep.at_only Tw0 ho (by omega) (fun a ha => by cases ha)
  replace VaS := Rep.var_only VaS ho (by omega) (fun hb => by cases hb)
  replace Vw0 := Rep.var_only Vw0 ho (by omega) (fun hb => by cases hb)
  clear HBW23
  clear ho
  go_wp2_with fail
  have ho := Rep.only_alloc W24 (.cells #[.int .i64 x0.id, .int .i64 x0.kind, .int .i64 x0.hold, .bool x0.shut, .slice A26 x0.inn.length c27, .slice B28 x0.out.length d29, .int .i64 x0.st, .int .i64 x0.done] 25)
  have hv := heap_alloc_new W24 (.cells #[.int .i64 x0.id, .int .i64 x0.kind, .int .i64 x0.hold, .bool x0.shut, .slice A26 x0.inn.length c27, .slice B28 x0.out.length d29, .int .i64 x0.st, .int .i64 x0.done] 25)
  have hs : W24.heap.size < (W24.alloc (.cells #[.int .i64 x0.id, .int .i64 x0.kind, .int .i64 x0.hold, .bool x0.shut, .slice A26 x0.inn.length c27, .slice B28 x0.out.length d29, .int .i64 x0.st, .int .i64 x0.done] 25)).heap.size := by simp
  generalize hgW : W24.alloc (.cells #[.int .i64 x0.id, .int .i64 x0.kind, .int .i64 x0.hold, .bool x0.shut, .slice A26 x0.inn.length c27, .slice B28 x0.out.length d29, .int .i64 x0.st, .int .i64 x0.done] 25) = W31 at ho hv hs ⊢
  clear hgW
  have SW31 : W24.heap.size ≤ W31.heap.size := ho.size
  have HBW31 := Rep.Only.below HBW24 ho (by omega) (fun a ha => by cases ha)
  replace TaS := Rep.at_only TaS ho (by omega) (fun a ha => by cases ha)
  replace Tw0 := Rep.at_only Tw0 ho (by omega) (fun a ha => by cases ha)
  replace Ox0 := Rep.own_only Ox0 ho (fun a ha hb => by cases hb)
  replace VaS := Rep.var_only VaS ho (by omega) (fun hb => by cases hb)
  replace Vw0 := Rep.var_only Vw0 ho (by omega) (fun hb => by cases hb)
  clear HBW24
  have Vx0 := Lib.hid hv
  clear hv ho
  have ZW31 : W24.heap.size < W31.heap.size := hs
  clear hs
  refine (answer_rep [.int .i64 x0.id, .int .i64 x0.kind, .int .i64 x0.hold, .bool x0.shut, .slice A26 x0.inn.length c27, .slice B28 x0.out.length d29, .int .i64 x0.st, .int .i64 x0.done] x0 W31 (Rep.reads skR Ox0) RaS.out).mono ?_
  rw [HY.out]
  rintro e W32 ⟨cs, fp33, rfl, Og0, hb⟩
  replace Og0 : skR.own W32 _ cs Y _ := Og0
  obtain ⟨A34, c35, B36, d37, rfl⟩ := sk_own_shape Og0
  have ho := Rep.only_of_below hb
  have L38 := Lib.hid (Rep.lt skR Og0)
  clear hb
  have SW32 : W31.heap.size ≤ W32.heap.size := ho.size
  have HBW32 := Rep.Only.below HBW31 ho (by omega) (fun a ha => by cases ha)
  replace TaS := Rep.at_only TaS ho (by omega) (fun a ha => by cases ha)
  replace Tw0 := Rep.at_only Tw0 ho (by omega) (fun a ha => by cases ha)
  replace Ox0 := Rep.own_only Ox0 ho (fun a ha hb => by cases hb)
  replace VaS := Rep.var_only VaS ho (by omega) (fun hb => by cases hb)
  replace Vw0 := Rep.var_only Vw0 ho (by omega) (fun hb => by cases hb)
  replace Vx0 := Rep.var_only Vx0 ho (by omega) (fun hb => by cases hb)
  clear HBW31
  clear ho
  have qw0_0 : W32.cell? ⟨W16.heap.size, 0, none⟩ = some (.int .i64 Y.id) := var_cell Vw0.out 0
  have qw0_1 : W32.cell? ⟨W16.heap.size, 1, none⟩ = some (.int .i64 Y.kind) := var_cell Vw0.out 1
  have qw0_2 : W32.cell? ⟨W16.heap.size, 2, none⟩ = some (.int .i64 Y.hold) := var_cell Vw0.out 2
  have qw0_3 : W32.cell? ⟨W16.heap.size, 3, none⟩ = some (.bool Y.shut) := var_cell Vw0.out 3
  have qw0_4 : W32.cell? ⟨W16.heap.size, 4, none⟩ = some (.slice A18 Y.inn.length c19) := var_cell Vw0.out 4
  have qw0_5 : W32.cell? ⟨W16.heap.size, 5, none⟩ = some (.slice B20 Y.out.length d21) := var_cell Vw0.out 5
  have qw0_6 : W32.cell? ⟨W16.heap.size, 6, none⟩ = some (.int .i64 Y.st) := var_cell Vw0.out 6
  have qw0_7 : W32.cell? ⟨W16.heap.size, 7, none⟩ = some (.int .i64 Y.done) := var_cell Vw0.out 7
  have lw0 : W16.heap.size < W32.heap.size := by omega
  go_wp2_with fail
  clear qw0_0 qw0_1 qw0_2 qw0_3 qw0_4 qw0_5 qw0_6 qw0_7 lw0
  have ho := Rep.only_alloc W32 (.cells #[.int .i64 Y.id, .int .i64 Y.kind, .int .i64 Y.hold, .bool Y.shut, .slice A34 Y.inn.length c35, .slice B36 Y.out.length d37, .int .i64 Y.st, .int .i64 Y.done] 25)
  have hv := heap_alloc_new W32 (.cells #[.int .i64 Y.id, .int .i64 Y.kind, .int .i64 Y.hold, .bool Y.shut, .slice A34 Y.inn.length c35, .slice B36 Y.out.length d37, .int .i64 Y.st, .int .i64 Y.done] 25)
  have hs : W32.heap.size < (W32.alloc (.cells #[.int .i64 Y.id, .int .i64 Y.kind, .int .i64 Y.hold, .bool Y.shut, .slice A34 Y.inn.length c35, .slice B36 Y.out.length d37, .int .i64 Y.st, .int .i64 Y.done] 25)).heap.size := by simp
  generalize hgW : W32.alloc (.cells #[.int .i64 Y.id, .int .i64 Y.kind, .int .i64 Y.hold, .bool Y.shut, .slice A34 Y.inn.length c35, .slice B36 Y.out.length d37, .int .i64 Y.st, .int .i64 Y.done] 25) = W39 at ho hv hs ⊢
  clear hgW
  have SW39 : W32.heap.size ≤ W39.heap.size := ho.size
  have HBW39 := Rep.Only.below HBW32 ho (by omega) (fun a ha => by cases ha)
  replace TaS := Rep.at_only TaS ho (by omega) (fun a ha => by cases ha)
  replace Tw0 := Rep.at_only Tw0 ho (by omega) (fun a ha => by cases ha)
  replace Ox0 := Rep.own_only Ox0 ho (fun a ha hb => by cases hb)
  replace Og0 := Rep.own_only Og0 ho (fun a ha hb => by cases hb)
  replace VaS := Rep.var_only VaS ho (by omega) (fun hb => by cases hb)
  replace Vw0 := Rep.var_only Vw0 ho (by omega) (fun hb => by cases hb)
  replace Vx0 := Rep.var_only Vx0 ho (by omega) (fun hb => by cases hb)
  clear HBW32
  have Vg0 := Lib.hid hv
  clear hv ho
  have ZW39 : W32.heap.size < W39.heap.size := hs
  clear hs
  refine (eqSk_same [.int .i64 Y.id, .int .i64 Y.kind, .int .i64 Y.hold, .bool Y.shut, .slice A34 Y.inn.length c35, .slice B36 Y.out.length d37, .int .i64 Y.st, .int .i64 Y.done] [.int .i64 Y.id, .int .i64 Y.kind, .int .i64 Y.hold, .bool Y.shut, .slice A18 Y.inn.length c19, .slice B20 Y.out.length d21, .int .i64 Y.st, .int .i64 Y.done] Y W39 (Rep.reads skR Og0) (Rep.more skR Tw0 (by omega)) FY).mono ?_
  rintro e W40 ⟨rfl, hb⟩
  have ho := Rep.only_of_below hb
  clear hb
  have SW40 : W39.heap.size ≤ W40.heap.size := ho.size
  have HBW40 := Rep.Only.below HBW39 ho (by omega) (fun a ha => by cases ha)
  replace TaS := Rep.at_only TaS ho (by omega) (fun a ha => by cases ha)
  replace Tw0 := Rep.at_only Tw0 ho (by omega) (fun a ha => by cases ha)
  replace Ox0 := Rep.own_only Ox0 ho (fun a ha hb => by cases hb)
  replace Og0 := Rep.own_only Og0 ho (fun a ha hb => by cases hb)
  replace VaS := Rep.var_only VaS ho (by omega) (fun hb => by cases hb)
  replace Vw0 := Rep.var_only Vw0 ho (by omega) (fun hb => by cases hb)
  replace Vx0 := Rep.var_only Vx0 ho (by omega) (fun hb => by cases hb)
  replace Vg0 := Rep.var_only Vg0 ho (by omega) (fun hb => by cases hb)
  clear HBW39
  clear ho
  have qx0_0 : W40.cell? ⟨W24.heap.size, 0, none⟩ = some (.int .i64 x0.id) := var_cell Vx0.out 0
  have qx0_1 : W40.cell? ⟨W24.heap.size, 1, none⟩ = some (.int .i64 x0.kind) := var_cell Vx0.out 1
  have qx0_2 : W40.cell? ⟨W24.heap.size, 2, none⟩ = some (.int .i64 x0.hold) := var_cell Vx0.out 2
  have qx0_3 : W40.cell? ⟨W24.heap.size, 3, none⟩ = some (.bool x0.shut) := var_cell Vx0.out 3
  have qx0_4 : W40.cell? ⟨W24.heap.size, 4, none⟩ = some (.slice A26 x0.inn.length c27) := var_cell Vx0.out 4
  have qx0_5 : W40.cell? ⟨W24.heap.size, 5, none⟩ = some (.slice B28 x0.out.length d29) := var_cell Vx0.out 5
  have qx0_6 : W40.cell? ⟨W24.heap.size, 6, none⟩ = some (.int .i64 x0.st) := var_cell Vx0.out 6
  have qx0_7 : W40.cell? ⟨W24.heap.size, 7, none⟩ = some (.int .i64 x0.done) := var_cell Vx0.out 7
  have lx0 : W24.heap.size < W40.heap.size := by omega
  have qaS_0 : W40.cell? ⟨w.heap.size, 0, none⟩ = some (.int .i64 x0.id) := var_cell VaS.out 0
  have qaS_1 : W40.cell? ⟨w.heap.size, 1, none⟩ = some (.int .i64 x0.kind) := var_cell VaS.out 1
  have qaS_2 : W40.cell? ⟨w.heap.size, 2, none⟩ = some (.int .i64 x0.hold) := var_cell VaS.out 2
  have qaS_3 : W40.cell? ⟨w.heap.size, 3, none⟩ = some (.bool x0.shut) := var_cell VaS.out 3
  have qaS_4 : W40.cell? ⟨w.heap.size, 4, none⟩ = some (.slice A1 x0.inn.length c2) := var_cell VaS.out 4
  have qaS_5 : W40.cell? ⟨w.heap.size, 5, none⟩ = some (.slice B3 x0.out.length d4) := var_cell VaS.out 5
  have qaS_6 : W40.cell? ⟨w.heap.size, 6, none⟩ = some (.int .i64 x0.st) := var_cell VaS.out 6
  have qaS_7 : W40.cell? ⟨w.heap.size, 7, none⟩ = some (.int .i64 x0.done) := var_cell VaS.out 7
  have laS : w.heap.size < W40.heap.size := by omega
  go_wp2_with fail
  clear qx0_0 qx0_1 qx0_2 qx0_3 qx0_4 qx0_5 qx0_6 qx0_7 lx0 qaS_0 qaS_1 qaS_2 qaS_3 qaS_4 qaS_5 qaS_6 qaS_7 laS
  go_region_held3 (fun w' => w'.cell? ⟨W24.heap.size, 0, none⟩ = some (.int .i64 x0.id) ∧ w'.cell? ⟨W24.heap.size, 1, none⟩ = some (.int .i64 x0.kind) ∧ w'.cell? ⟨W24.heap.size, 2, none⟩ = some (.int .i64 x0.hold) ∧ w'.cell? ⟨W24.heap.size, 3, none⟩ = some (.bool x0.shut) ∧ w'.cell? ⟨W24.heap.size, 4, none⟩ = some (.slice A26 x0.inn.length c27) ∧ w'.cell? ⟨W24.heap.size, 5, none⟩ = some (.slice B28 x0.out.length d29) ∧ w'.cell? ⟨W24.heap.size, 6, none⟩ = some (.int .i64 x0.st) ∧ w'.cell? ⟨W24.heap.size, 7, none⟩ = some (.int .i64 x0.done) ∧ w'.cell? ⟨w.heap.size, 0, none⟩ = some (.int .i64 x0.id) ∧ w'.cell? ⟨w.heap.size, 1, none⟩ = some (.int .i64 x0.kind) ∧ w'.cell? ⟨w.heap.size, 2, none⟩ = some (.int .i64 x0.hold) ∧ w'.cell? ⟨w.heap.size, 3, none⟩ = some (.bool x0.shut) ∧ w'.cell? ⟨w.heap.size, 4, none⟩ = some (.slice A1 x0.inn.length c2) ∧ w'.cell? ⟨w.heap.size, 5, none⟩ = some (.slice B3 x0.out.length d4) ∧ w'.cell? ⟨w.heap.size, 6, none⟩ = some (.int .i64 x0.st) ∧ w'.cell? ⟨w.heap.size, 7, none⟩ = some (.int .i64 x0.done)) (exact ⟨var_cell Vx0.out 0, var_cell Vx0.out 1, var_cell Vx0.out 2, var_cell Vx0.out 3, var_cell Vx0.out 4, var_cell Vx0.out 5, var_cell Vx0.out 6, var_cell Vx0.out 7, var_cell VaS.out 0, var_cell VaS.out 1, var_cell VaS.out 2, var_cell VaS.out 3, var_cell VaS.out 4, var_cell VaS.out 5, var_cell VaS.out 6, var_cell VaS.out 7⟩) (first
    | (go_at_call 43
       have ho := Rep.only_drew W40
       generalize W40.drew = W41 at ho ⊢
       have SW41 : W40.heap.size ≤ W41.heap.size := ho.size
       have HBW41 := Rep.Only.below HBW40 ho (by omega) (fun a ha => by cases ha)
       replace TaS := Rep.at_only TaS ho (by omega) (fun a ha => by cases ha)
       replace Tw0 := Rep.at_only Tw0 ho (by omega) (fun a ha => by cases ha)
       replace Ox0 := Rep.own_only Ox0 ho (fun a ha hb => by cases hb)
       replace Og0 := Rep.own_only Og0 ho (fun a ha hb => by cases hb)
       replace VaS := Rep.var_only VaS ho (by omega) (fun hb => by cases hb)
       replace Vw0 := Rep.var_only Vw0 ho (by omega) (fun hb => by cases hb)
       replace Vx0 := Rep.var_only Vx0 ho (by omega) (fun hb => by cases hb)
       replace Vg0 := Rep.var_only Vg0 ho (by omega) (fun hb => by cases hb)
       clear HBW40
       clear ho
       refine (toSk_rep [.int .i64 x0.id, .int .i64 x0.kind, .int .i64 x0.hold, .bool x0.shut, .slice A1 x0.inn.length c2, .slice B3 x0.out.length d4, .int .i64 x0.st, .int .i64 x0.done] x0 W41 (Rep.more skR TaS (by omega)) FaS.out).mono ?_
       rintro e W43 ⟨cs, fp44, rfl, Ot42, hb⟩
       obtain ⟨A45, c46, B47, d48, rfl⟩ := sk_own_shape Ot42
       have ho := Rep.only_of_below hb
       have L49 := Lib.hid (Rep.lt skR Ot42)
       clear hb
       have SW43 : W41.heap.size ≤ W43.heap.size := ho.size
       have HBW43 := Rep.Only.below HBW41 ho (by omega) (fun a ha => by cases ha)
       replace TaS := Rep.at_only TaS ho (by omega) (fun a ha => by cases ha)
       replace Tw0 := Rep.at_only Tw0 ho (by omega) (fun a ha => by cases ha)
       replace Ox0 := Rep.own_only Ox0 ho (fun a ha hb => by cases hb)
       replace Og0 := Rep.own_only Og0 ho (fun a ha hb => by cases hb)
       replace VaS := Rep.var_only VaS ho (by omega) (fun hb => by cases hb)
       replace Vw0 := Rep.var_only Vw0 ho (by omega) (fun hb => by cases hb)
       replace Vx0 := Rep.var_only Vx0 ho (by omega) (fun hb => by cases hb)
       replace Vg0 := Rep.var_only Vg0 ho (by omega) (fun hb => by cases hb)
       clear HBW41
       clear ho)
    | (go_at_call 44
       refine (eqSk_same [.int .i64 x0.id, .int .i64 x0.kind, .int .i64 x0.hold, .bool x0.shut, .slice A26 x0.inn.length c27, .slice B28 x0.out.length d29, .int .i64 x0.st, .int .i64 x0.done] [.int .i64 x0.id, .int .i64 x0.kind, .int .i64 x0.hold, .bool x0.shut, .slice A45 x0.inn.length c46, .slice B47 x0.out.length d48, .int .i64 x0.st, .int .i64 x0.done] x0 W43 (Rep.reads skR Ox0) (Rep.reads skR Ot42) FaS.out).mono ?_
       rintro e W50 ⟨rfl, hb⟩
       have ho := Rep.only_of_below hb
       clear hb
       have SW50 : W43.heap.size ≤ W50.heap.size := ho.size
       have HBW50 := Rep.Only.below HBW43 ho (by omega) (fun a ha => by cases ha)
       replace TaS := Rep.at_only TaS ho (by omega) (fun a ha => by cases ha)
       replace Tw0 := Rep.at_only Tw0 ho (by omega) (fun a ha => by cases ha)
       replace Ox0 := Rep.own_only Ox0 ho (fun a ha hb => by cases hb)
       replace Og0 := Rep.own_only Og0 ho (fun a ha hb => by cases hb)
       replace Ot42 := Rep.own_only Ot42 ho (fun a ha hb => by cases hb)
       replace VaS := Rep.var_only VaS ho (by omega) (fun hb => by cases hb)
       replace Vw0 := Rep.var_only Vw0 ho (by omega) (fun hb => by cases hb)
       replace Vx0 := Rep.var_only Vx0 ho (by omega) (fun hb => by cases hb)
       replace Vg0 := Rep.var_only Vg0 ho (by omega) (fun hb => by cases hb)
       clear HBW43
       clear ho))
  clear Ot42 L49
  have qx0_0 : W50.cell? ⟨W24.heap.size, 0, none⟩ = some (.int .i64 x0.id) := var_cell Vx0.out 0
  have qx0_1 : W50.cell? ⟨W24.heap.size, 1, none⟩ = some (.int .i64 x0.kind) := var_cell Vx0.out 1
  have qx0_2 : W50.cell? ⟨W24.heap.size, 2, none⟩ = some (.int .i64 x0.hold) := var_cell Vx0.out 2
  have qx0_3 : W50.cell? ⟨W24.heap.size, 3, none⟩ = some (.bool x0.shut) := var_cell Vx0.out 3
  have qx0_4 : W50.cell? ⟨W24.heap.size, 4, none⟩ = some (.slice A26 x0.inn.length c27) := var_cell Vx0.out 4
  have qx0_5 : W50.cell? ⟨W24.heap.size, 5, none⟩ = some (.slice B28 x0.out.length d29) := var_cell Vx0.out 5
  have qx0_6 : W50.cell? ⟨W24.heap.size, 6, none⟩ = some (.int .i64 x0.st) := var_cell Vx0.out 6
  have qx0_7 : W50.cell? ⟨W24.heap.size, 7, none⟩ = some (.int .i64 x0.done) := var_cell Vx0.out 7
  have lx0 : W24.heap.size < W50.heap.size := by omega
  go_wp2_with fail
  clear qx0_0 qx0_1 qx0_2 qx0_3 qx0_4 qx0_5 qx0_6 qx0_7 lx0
  obtain ⟨N52, hN, hN2⟩ : ∃ N : Nat, 1 + cntSk x0 = N ∧ N ≤ 1 + 8796093022208 := ⟨_, rfl, by have := cntSk_le FaS.out; omega⟩
  have HN52 := Lib.hid hN
  have BN52 := hN2
  clear hN hN2
  refine (markSk_any [.int .i64 x0.id, .int .i64 x0.kind, .int .i64 x0.hold, .bool x0.shut, .slice A26 x0.inn.length c27, .slice B28 x0.out.length d29, .int .i64 x0.st, .int .i64 x0.done] 1 x0 fp25 W50 _ Ox0 FaS.out (by omega)).mono ?_
  rintro e W51 ⟨he, hown, ho⟩
  rw [HN52.out] at he
  subst he
  replace Ox0 := hown
  clear hown
  have SW51 : W50.heap.size ≤ W51.heap.size := ho.size
  have HBW51 := Rep.Only.below HBW50 ho (by omega) (fun a ha => by have := (L30.out a ha).1; omega)
  replace TaS := Rep.at_only TaS ho (by omega) (fun a ha => by have := (L30.out a ha).1; omega)
  replace Tw0 := Rep.at_only Tw0 ho (by omega) (fun a ha => by have := (L30.out a ha).1; omega)
  replace Og0 := Rep.own_only Og0 ho (fun a ha hb => by have := L38.out a ha; have := L30.out a hb; omega)
  replace VaS := Rep.var_only VaS ho (by omega) (fun hb => by have := L30.out _ hb; omega)
  replace Vw0 := Rep.var_only Vw0 ho (by omega) (fun hb => by have := L30.out _ hb; omega)
  replace Vx0 := Rep.var_only Vx0 ho (by omega) (fun hb => by have := L30.out _ hb; omega)
  replace Vg0 := Rep.var_only Vg0 ho (by omega) (fun hb => by have := L30.out _ hb; omega)
  clear HBW50
  clear ho
  have qg0_0 : W51.cell? ⟨W32.heap.size, 0, none⟩ = some (.int .i64 Y.id) := var_cell Vg0.out 0
  have qg0_1 : W51.cell? ⟨W32.heap.size, 1, none⟩ = some (.int .i64 Y.kind) := var_cell Vg0.out 1
  have qg0_2 : W51.cell? ⟨W32.heap.size, 2, none⟩ = some (.int .i64 Y.hold) := var_cell Vg0.out 2
  have qg0_3 : W51.cell? ⟨W32.heap.size, 3, none⟩ = some (.bool Y.shut) := var_cell Vg0.out 3
  have qg0_4 : W51.cell? ⟨W32.heap.size, 4, none⟩ = some (.slice A34 Y.inn.length c35) := var_cell Vg0.out 4
  have qg0_5 : W51.cell? ⟨W32.heap.size, 5, none⟩ = some (.slice B36 Y.out.length d37) := var_cell Vg0.out 5
  have qg0_6 : W51.cell? ⟨W32.heap.size, 6, none⟩ = some (.int .i64 Y.st) := var_cell Vg0.out 6
  have qg0_7 : W51.cell? ⟨W32.heap.size, 7, none⟩ = some (.int .i64 Y.done) := var_cell Vg0.out 7
  have lg0 : W32.heap.size < W51.heap.size := by omega
  have qw0_0 : W51.cell? ⟨W16.heap.size, 0, none⟩ = some (.int .i64 Y.id) := var_cell Vw0.out 0
  have qw0_1 : W51.cell? ⟨W16.heap.size, 1, none⟩ = some (.int .i64 Y.kind) := var_cell Vw0.out 1
  have qw0_2 : W51.cell? ⟨W16.heap.size, 2, none⟩ = some (.int .i64 Y.hold) := var_cell Vw0.out 2
  have qw0_3 : W51.cell? ⟨W16.heap.size, 3, none⟩ = some (.bool Y.shut) := var_cell Vw0.out 3
  have qw0_4 : W51.cell? ⟨W16.heap.size, 4, none⟩ = some (.slice A18 Y.inn.length c19) := var_cell Vw0.out 4
  have qw0_5 : W51.cell? ⟨W16.heap.size, 5, none⟩ = some (.slice B20 Y.out.length d21) := var_cell Vw0.out 5
  have qw0_6 : W51.cell? ⟨W16.heap.size, 6, none⟩ = some (.int .i64 Y.st) := var_cell Vw0.out 6
  have qw0_7 : W51.cell? ⟨W16.heap.size, 7, none⟩ = some (.int .i64 Y.done) := var_cell Vw0.out 7
  have lw0 : W16.heap.size < W51.heap.size := by omega
  go_wp2_with fail
  clear qg0_0 qg0_1 qg0_2 qg0_3 qg0_4 qg0_5 qg0_6 qg0_7 lg0 qw0_0 qw0_1 qw0_2 qw0_3 qw0_4 qw0_5 qw0_6 qw0_7 lw0
  refine (eqSk_same [.int .i64 Y.id, .int .i64 Y.kind, .int .i64 Y.hold, .bool Y.shut, .slice A34 Y.inn.length c35, .slice B36 Y.out.length d37, .int .i64 Y.st, .int .i64 Y.done] [.int .i64 Y.id, .int .i64 Y.kind, .int .i64 Y.hold, .bool Y.shut, .slice A18 Y.inn.length c19, .slice B20 Y.out.length d21, .int .i64 Y.st, .int .i64 Y.done] Y W51 (Rep.reads skR Og0) (Rep.more skR Tw0 (by omega)) FY).mono ?_
  rintro e W53 ⟨rfl, hb⟩
  have ho := Rep.only_of_below hb
  clear hb
  have SW53 : W51.heap.size ≤ W53.heap.size := ho.size
  have HBW53 := Rep.Only.below HBW51 ho (by omega) (fun a ha => by cases ha)
  replace TaS := Rep.at_only TaS ho (by omega) (fun a ha => by cases ha)
  replace Tw0 := Rep.at_only Tw0 ho (by omega) (fun a ha => by cases ha)
  replace Ox0 := Rep.own_only Ox0 ho (fun a ha hb => by cases hb)
  replace Og0 := Rep.own_only Og0 ho (fun a ha hb => by cases hb)
  replace VaS := Rep.var_only VaS ho (by omega) (fun hb => by cases hb)
  replace Vw0 := Rep.var_only Vw0 ho (by omega) (fun hb => by cases hb)
  replace Vx0 := Rep.var_only Vx0 ho (by omega) (fun hb => by cases hb)
  replace Vg0 := Rep.var_only Vg0 ho (by omega) (fun hb => by cases hb)
  clear HBW51
  clear ho
  have qg0_0 : W53.cell? ⟨W32.heap.size, 0, none⟩ = some (.int .i64 Y.id) := var_cell Vg0.out 0
  have qg0_1 : W53.cell? ⟨W32.heap.size, 1, none⟩ = some (.int .i64 Y.kind) := var_cell Vg0.out 1
  have qg0_2 : W53.cell? ⟨W32.heap.size, 2, none⟩ = some (.int .i64 Y.hold) := var_cell Vg0.out 2
  have qg0_3 : W53.cell? ⟨W32.heap.size, 3, none⟩ = some (.bool Y.shut) := var_cell Vg0.out 3
  have qg0_4 : W53.cell? ⟨W32.heap.size, 4, none⟩ = some (.slice A34 Y.inn.length c35) := var_cell Vg0.out 4
  have qg0_5 : W53.cell? ⟨W32.heap.size, 5, none⟩ = some (.slice B36 Y.out.length d37) := var_cell Vg0.out 5
  have qg0_6 : W53.cell? ⟨W32.heap.size, 6, none⟩ = some (.int .i64 Y.st) := var_cell Vg0.out 6
  have qg0_7 : W53.cell? ⟨W32.heap.size, 7, none⟩ = some (.int .i64 Y.done) := var_cell Vg0.out 7
  have lg0 : W32.heap.size < W53.heap.size := by omega
  go_wp2_with fail
  clear qg0_0 qg0_1 qg0_2 qg0_3 qg0_4 qg0_5 qg0_6 qg0_7 lg0
  obtain ⟨N55, hN, hN2⟩ : ∃ N : Nat, 1 + cntSk Y = N ∧ N ≤ 1 + 8796093022208 := ⟨_, rfl, by have := cntSk_le FY; omega⟩
  have HN55 := Lib.hid hN
  have BN55 := hN2
  clear hN hN2
  refine (markSk_any [.int .i64 Y.id, .int .i64 Y.kind, .int .i64 Y.hold, .bool Y.shut, .slice A34 Y.inn.length c35, .slice B36 Y.out.length d37, .int .i64 Y.st, .int .i64 Y.done] 1 Y fp33 W53 _ Og0 FY (by omega)).mono ?_
  rintro e W54 ⟨he, hown, ho⟩
  rw [HN55.out] at he
  subst he
  replace Og0 := hown
  clear hown
  have SW54 : W53.heap.size ≤ W54.heap.size := ho.size
  have HBW54 := Rep.Only.below HBW53 ho (by omega) (fun a ha => by have := (L38.out a ha).1; omega)
  replace TaS := Rep.at_only TaS ho (by omega) (fun a ha => by have := (L38.out a ha).1; omega)
  replace Tw0 := Rep.at_only Tw0 ho (by omega) (fun a ha => by have := (L38.out a ha).1; omega)
  replace Ox0 := Rep.own_only Ox0 ho (fun a ha hb => by have := L30.out a ha; have := L38.out a hb; omega)
  replace VaS := Rep.var_only VaS ho (by omega) (fun hb => by have := L38.out _ hb; omega)
  replace Vw0 := Rep.var_only Vw0 ho (by omega) (fun hb => by have := L38.out _ hb; omega)
  replace Vx0 := Rep.var_only Vx0 ho (by omega) (fun hb => by have := L38.out _ hb; omega)
  replace Vg0 := Rep.var_only Vg0 ho (by omega) (fun hb => by have := L38.out _ hb; omega)
  clear HBW53
  clear ho
  clear Ox0 L30
  have qg0_0 : W54.cell? ⟨W32.heap.size, 0, none⟩ = some (.int .i64 Y.id) := var_cell Vg0.out 0
  have qg0_1 : W54.cell? ⟨W32.heap.size, 1, none⟩ = some (.int .i64 Y.kind) := var_cell Vg0.out 1
  have qg0_2 : W54.cell? ⟨W32.heap.size, 2, none⟩ = some (.int .i64 Y.hold) := var_cell Vg0.out 2
  have qg0_3 : W54.cell? ⟨W32.heap.size, 3, none⟩ = some (.bool Y.shut) := var_cell Vg0.out 3
  have qg0_4 : W54.cell? ⟨W32.heap.size, 4, none⟩ = some (.slice A34 Y.inn.length c35) := var_cell Vg0.out 4
  have qg0_5 : W54.cell? ⟨W32.heap.size, 5, none⟩ = some (.slice B36 Y.out.length d37) := var_cell Vg0.out 5
  have qg0_6 : W54.cell? ⟨W32.heap.size, 6, none⟩ = some (.int .i64 Y.st) := var_cell Vg0.out 6
  have qg0_7 : W54.cell? ⟨W32.heap.size, 7, none⟩ = some (.int .i64 Y.done) := var_cell Vg0.out 7
  have lg0 : W32.heap.size < W54.heap.size := by omega
  go_wp2_with fail
  clear qg0_0 qg0_1 qg0_2 qg0_3 qg0_4 qg0_5 qg0_6 qg0_7 lg0
  refine (heldSk_any [.int .i64 Y.id, .int .i64 Y.kind, .int .i64 Y.hold, .bool Y.shut, .slice A34 Y.inn.length c35, .slice B36 Y.out.length d37, .int .i64 Y.st, .int .i64 Y.done] 1 Y W54 (Rep.reads skR Og0) FY (by omega)).mono ?_
  rintro e W56 ⟨he, hb⟩
  rw [HN55.out] at he
  subst he
  have ho := Rep.only_of_below hb
  clear hb
  have SW56 : W54.heap.size ≤ W56.heap.size := ho.size
  have HBW56 := Rep.Only.below HBW54 ho (by omega) (fun a ha => by cases ha)
  replace TaS := Rep.at_only TaS ho (by omega) (fun a ha => by cases ha)
  replace Tw0 := Rep.at_only Tw0 ho (by omega) (fun a ha => by cases ha)
  replace Og0 := Rep.own_only Og0 ho (fun a ha hb => by cases hb)
  replace VaS := Rep.var_only VaS ho (by omega) (fun hb => by cases hb)
  replace Vw0 := Rep.var_only Vw0 ho (by omega) (fun hb => by cases hb)
  replace Vg0 := Rep.var_only Vg0 ho (by omega) (fun hb => by cases hb)
  clear HBW54
  clear ho
  have nn57 : ((N55 : Int) != (N55 : Int)) = false := by simp
  have qaS_0 : W56.cell? ⟨w.heap.size, 0, none⟩ = some (.int .i64 x0.id) := var_cell VaS.out 0
  have qaS_1 : W56.cell? ⟨w.heap.size, 1, none⟩ = some (.int .i64 x0.kind) := var_cell VaS.out 1
  have qaS_2 : W56.cell? ⟨w.heap.size, 2, none⟩ = some (.int .i64 x0.hold) := var_cell VaS.out 2
  have qaS_3 : W56.cell? ⟨w.heap.size, 3, none⟩ = some (.bool x0.shut) := var_cell VaS.out 3
  have qaS_4 : W56.cell? ⟨w.heap.size, 4, none⟩ = some (.slice A1 x0.inn.length c2) := var_cell VaS.out 4
  have qaS_5 : W56.cell? ⟨w.heap.size, 5, none⟩ = some (.slice B3 x0.out.length d4) := var_cell VaS.out 5
  have qaS_6 : W56.cell? ⟨w.heap.size, 6, none⟩ = some (.int .i64 x0.st) := var_cell VaS.out 6
  have qaS_7 : W56.cell? ⟨w.heap.size, 7, none⟩ = some (.int .i64 x0.done) := var_cell VaS.out 7
  have laS : w.heap.size < W56.heap.size := by omega
  go_wp2_with fail
  clear qaS_0 qaS_1 qaS_2 qaS_3 qaS_4 qaS_5 qaS_6 qaS_7 laS
  refine (toSk_rep [.int .i64 x0.id, .int .i64 x0.kind, .int .i64 x0.hold, .bool x0.shut, .slice A1 x0.inn.length c2, .slice B3 x0.out.length d4, .int .i64 x0.st, .int .i64 x0.done] x0 W56 (Rep.more skR TaS (by omega)) FaS.out).mono ?_
  rintro e W59 ⟨cs, fp60, rfl, Ot58, hb⟩
  obtain ⟨A61, c62, B63, d64, rfl⟩ := sk_own_shape Ot58
  have ho := Rep.only_of_below hb
  have L65 := Lib.hid (Rep.lt skR Ot58)
  clear hb
  have SW59 : W56.heap.size ≤ W59.heap.size := ho.size
  have HBW59 := Rep.Only.below HBW56 ho (by omega) (fun a ha => by cases ha)
  replace TaS := Rep.at_only TaS ho (by omega) (fun a ha => by cases ha)
  replace Tw0 := Rep.at_only Tw0 ho (by omega) (fun a ha => by cases ha)
  replace Og0 := Rep.own_only Og0 ho (fun a ha hb => by cases hb)
  replace VaS := Rep.var_only VaS ho (by omega) (fun hb => by cases hb)
  replace Vw0 := Rep.var_only Vw0 ho (by omega) (fun hb => by cases hb)
  replace Vg0 := Rep.var_only Vg0 ho (by omega) (fun hb => by cases hb)
  clear HBW56
  clear ho
  go_wp2_with fail
  refine (answer_rep [.int .i64 x0.id, .int .i64 x0.kind, .int .i64 x0.hold, .bool x0.shut, .slice A61 x0.inn.length c62, .slice B63 x0.out.length d64, .int .i64 x0.st, .int .i64 x0.done] x0 W59 (Rep.reads skR Ot58) RaS.out).mono ?_
  rw [HY.out]
  rintro e W66 ⟨cs, fp67, rfl, Oh0, hb⟩
  replace Oh0 : skR.own W66 _ cs Y _ := Oh0
  obtain ⟨A68, c69, B70, d71, rfl⟩ := sk_own_shape Oh0
  have ho := Rep.only_of_below hb
  have L72 := Lib.hid (Rep.lt skR Oh0)
  clear hb
  have SW66 : W59.heap.size ≤ W66.heap.size := ho.size
  have HBW66 := Rep.Only.below HBW59 ho (by omega) (fun a ha => by cases ha)
  replace TaS := Rep.at_only TaS ho (by omega) (fun a ha => by cases ha)
  replace Tw0 := Rep.at_only Tw0 ho (by omega) (fun a ha => by cases ha)
  replace Og0 := Rep.own_only Og0 ho (fun a ha hb => by cases hb)
  replace Ot58 := Rep.own_only Ot58 ho (fun a ha hb => by cases hb)
  replace VaS := Rep.var_only VaS ho (by omega) (fun hb => by cases hb)
  replace Vw0 := Rep.var_only Vw0 ho (by omega) (fun hb => by cases hb)
  replace Vg0 := Rep.var_only Vg0 ho (by omega) (fun hb => by cases hb)
  clear HBW59
  clear ho
  clear Ot58 L65
  have qw0_0 : W66.cell? ⟨W16.heap.size, 0, none⟩ = some (.int .i64 Y.id) := var_cell Vw0.out 0
  have qw0_1 : W66.cell? ⟨W16.heap.size, 1, none⟩ = some (.int .i64 Y.kind) := var_cell Vw0.out 1
  have qw0_2 : W66.cell? ⟨W16.heap.size, 2, none⟩ = some (.int .i64 Y.hold) := var_cell Vw0.out 2
  have qw0_3 : W66.cell? ⟨W16.heap.size, 3, none⟩ = some (.bool Y.shut) := var_cell Vw0.out 3
  have qw0_4 : W66.cell? ⟨W16.heap.size, 4, none⟩ = some (.slice A18 Y.inn.length c19) := var_cell Vw0.out 4
  have qw0_5 : W66.cell? ⟨W16.heap.size, 5, none⟩ = some (.slice B20 Y.out.length d21) := var_cell Vw0.out 5
  have qw0_6 : W66.cell? ⟨W16.heap.size, 6, none⟩ = some (.int .i64 Y.st) := var_cell Vw0.out 6
  have qw0_7 : W66.cell? ⟨W16.heap.size, 7, none⟩ = some (.int .i64 Y.done) := var_cell Vw0.out 7
  have lw0 : W16.heap.size < W66.heap.size := by omega
  go_wp2_with fail
  clear qw0_0 qw0_1 qw0_2 qw0_3 qw0_4 qw0_5 qw0_6 qw0_7 lw0
  have ho := Rep.only_alloc W66 (.cells #[.int .i64 Y.id, .int .i64 Y.kind, .int .i64 Y.hold, .bool Y.shut, .slice A68 Y.inn.length c69, .slice B70 Y.out.length d71, .int .i64 Y.st, .int .i64 Y.done] 25)
  have hv := heap_alloc_new W66 (.cells #[.int .i64 Y.id, .int .i64 Y.kind, .int .i64 Y.hold, .bool Y.shut, .slice A68 Y.inn.length c69, .slice B70 Y.out.length d71, .int .i64 Y.st, .int .i64 Y.done] 25)
  have hs : W66.heap.size < (W66.alloc (.cells #[.int .i64 Y.id, .int .i64 Y.kind, .int .i64 Y.hold, .bool Y.shut, .slice A68 Y.inn.length c69, .slice B70 Y.out.length d71, .int .i64 Y.st, .int .i64 Y.done] 25)).heap.size := by simp
  generalize hgW : W66.alloc (.cells #[.int .i64 Y.id, .int .i64 Y.kind, .int .i64 Y.hold, .bool Y.shut, .slice A68 Y.inn.length c69, .slice B70 Y.out.length d71, .int .i64 Y.st, .int .i64 Y.done] 25) = W73 at ho hv hs ⊢
  clear hgW
  have SW73 : W66.heap.size ≤ W73.heap.size := ho.size
  have HBW73 := Rep.Only.below HBW66 ho (by omega) (fun a ha => by cases ha)
  replace TaS := Rep.at_only TaS ho (by omega) (fun a ha => by cases ha)
  replace Tw0 := Rep.at_only Tw0 ho (by omega) (fun a ha => by cases ha)
  replace Og0 := Rep.own_only Og0 ho (fun a ha hb => by cases hb)
  replace Oh0 := Rep.own_only Oh0 ho (fun a ha hb => by cases hb)
  replace VaS := Rep.var_only VaS ho (by omega) (fun hb => by cases hb)
  replace Vw0 := Rep.var_only Vw0 ho (by omega) (fun hb => by cases hb)
  replace Vg0 := Rep.var_only Vg0 ho (by omega) (fun hb => by cases hb)
  clear HBW66
  have Vh0 := Lib.hid hv
  clear hv ho
  have ZW73 : W66.heap.size < W73.heap.size := hs
  clear hs
  refine (eqSk_same [.int .i64 Y.id, .int .i64 Y.kind, .int .i64 Y.hold, .bool Y.shut, .slice A68 Y.inn.length c69, .slice B70 Y.out.length d71, .int .i64 Y.st, .int .i64 Y.done] [.int .i64 Y.id, .int .i64 Y.kind, .int .i64 Y.hold, .bool Y.shut, .slice A18 Y.inn.length c19, .slice B20 Y.out.length d21, .int .i64 Y.st, .int .i64 Y.done] Y W73 (Rep.reads skR Oh0) (Rep.more skR Tw0 (by omega)) FY).mono ?_
  rintro e W74 ⟨rfl, hb⟩
  have ho := Rep.only_of_below hb
  clear hb
  have SW74 : W73.heap.size ≤ W74.heap.size := ho.size
  have HBW74 := Rep.Only.below HBW73 ho (by omega) (fun a ha => by cases ha)
  replace TaS := Rep.at_only TaS ho (by omega) (fun a ha => by cases ha)
  replace Tw0 := Rep.at_only Tw0 ho (by omega) (fun a ha => by cases ha)
  replace Og0 := Rep.own_only Og0 ho (fun a ha hb => by cases hb)
  replace Oh0 := Rep.own_only Oh0 ho (fun a ha hb => by cases hb)
  replace VaS := Rep.var_only VaS ho (by omega) (fun hb => by cases hb)
  replace Vw0 := Rep.var_only Vw0 ho (by omega) (fun hb => by cases hb)
  replace Vg0 := Rep.var_only Vg0 ho (by omega) (fun hb => by cases hb)
  replace Vh0 := Rep.var_only Vh0 ho (by omega) (fun hb => by cases hb)
  clear HBW73
  clear ho
  clear Oh0 L72
  clear TaS
  clear Tw0
  have qg0_0 : W74.cell? ⟨W32.heap.size, 0, none⟩ = some (.int .i64 Y.id) := var_cell Vg0.out 0
  have qg0_1 : W74.cell? ⟨W32.heap.size, 1, none⟩ = some (.int .i64 Y.kind) := var_cell Vg0.out 1
  have qg0_2 : W74.cell? ⟨W32.heap.size, 2, none⟩ = some (.int .i64 Y.hold) := var_cell Vg0.out 2
  have qg0_3 : W74.cell? ⟨W32.heap.size, 3, none⟩ = some (.bool Y.shut) := var_cell Vg0.out 3
  have qg0_4 : W74.cell? ⟨W32.heap.size, 4, none⟩ = some (.slice A34 Y.inn.length c35) := var_cell Vg0.out 4
  have qg0_5 : W74.cell? ⟨W32.heap.size, 5, none⟩ = some (.slice B36 Y.out.length d37) := var_cell Vg0.out 5
  have qg0_6 : W74.cell? ⟨W32.heap.size, 6, none⟩ = some (.int .i64 Y.st) := var_cell Vg0.out 6
  have qg0_7 : W74.cell? ⟨W32.heap.size, 7, none⟩ = some (.int .i64 Y.done) := var_cell Vg0.out 7
  have lg0 : W32.heap.size < W74.heap.size := by omega
  go_wp2_with fail
  clear qg0_0 qg0_1 qg0_2 qg0_3 qg0_4 qg0_5 qg0_6 qg0_7 lg0
  refine (heldSk_any [.int .i64 Y.id, .int .i64 Y.kind, .int .i64 Y.hold, .bool Y.shut, .slice A34 Y.inn.length c35, .slice B36 Y.out.length d37, .int .i64 Y.st, .int .i64 Y.done] 1 Y W74 (Rep.reads skR Og0) FY (by omega)).mono ?_
  rintro e W75 ⟨he, hb⟩
  rw [HN55.out] at he
  subst he
  have ho := Rep.only_of_below hb
  clear hb
  have SW75 : W74.heap.size ≤ W75.heap.size := ho.size
  have HBW75 := Rep.Only.below HBW74 ho (by omega) (fun a ha => by cases ha)
  replace Og0 := Rep.own_only Og0 ho (fun a ha hb => by cases hb)
  replace Vg0 := Rep.var_only Vg0 ho (by omega) (fun hb => by cases hb)
  clear HBW74
  clear ho
  have nn76 : ((N55 : Int) != (N55 : Int)) = false := by simp
  go_wp2_with fail
  go_ret
  exact ⟨rfl, HBW75⟩

end Go.Proofs.Ytcelkmphdeaaeaa
