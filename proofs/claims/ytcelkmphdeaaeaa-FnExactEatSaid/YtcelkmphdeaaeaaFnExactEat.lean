/- The walk of the exact law of Eat (written by gen.py). -/
import Derived.Test.YtcelkmphdeaaeaaHearS
import Derived.Test.YtcelkmphdeaaeaaTellI
import Derived.Test.YtcelkmphdeaaeaaExactSk
import Derived.Test.YtcelkmphdeaaeaaExactB
namespace Go.Proofs.Ytcelkmphdeaaeaa
open Go.RowKit
set_option linter.unusedVariables false

set_option maxRecDepth 100000 in
set_option maxHeartbeats 4000000 in
theorem walk_FnExactEat (w : World) (cs0 : List Value) (x0 : Sk) (w0 : skR.at_ w w.heap.size cs0 x0) (k0 : OkSk x0) :
    Calls Try.prog 10 #[.agg cs0.toArray] w fun e w' => e = .returned (.bool true) ∧ Below w.heap.size w w' := by
  obtain ⟨A1, c2, B3, d4, rfl⟩ := sk_at_shape w0
  have TaS := w0
  clear w0
  have HBw := Below.refl w.heap.size w
  go_enter Try.func10, Try.ntmps10
  go_wp2_with fail
  have ho := Rep.only_alloc w (.cells #[.int .i64 x0.id, .int .i64 x0.kind, .int .i64 x0.hold, .bool x0.shut, .slice A1 x0.inn.length c2, .slice B3 x0.out.length d4, .int .i64 x0.st, .int .i64 x0.done] 57)
  have hv := heap_alloc_new w (.cells #[.int .i64 x0.id, .int .i64 x0.kind, .int .i64 x0.hold, .bool x0.shut, .slice A1 x0.inn.length c2, .slice B3 x0.out.length d4, .int .i64 x0.st, .int .i64 x0.done] 57)
  have hs : w.heap.size < (w.alloc (.cells #[.int .i64 x0.id, .int .i64 x0.kind, .int .i64 x0.hold, .bool x0.shut, .slice A1 x0.inn.length c2, .slice B3 x0.out.length d4, .int .i64 x0.st, .int .i64 x0.done] 57)).heap.size := by simp
  generalize hgW : w.alloc (.cells #[.int .i64 x0.id, .int .i64 x0.kind, .int .i64 x0.hold, .bool x0.shut, .slice A1 x0.inn.length c2, .slice B3 x0.out.length d4, .int .i64 x0.st, .int .i64 x0.done] 57) = W5 at ho hv hs ⊢
  clear hgW
  have SW5 : w.heap.size ≤ W5.heap.size := ho.size
  have HBW5 := Rep.Only.below HBw ho (by omega) (fun a ha => by cases ha)
  replace TaS := Rep.at_only TaS ho (by omega) (fun a ha => by cases ha)
  clear HBw
  have VaS := Lib.hid hv
  clear hv ho
  have ZW5 : w.heap.size < W5.heap.size := hs
  clear hs
  refine (szSk_room [.int .i64 x0.id, .int .i64 x0.kind, .int .i64 x0.hold, .bool x0.shut, .slice A1 x0.inn.length c2, .slice B3 x0.out.length d4, .int .i64 x0.st, .int .i64 x0.done] x0 1048576 W5 (Rep.more skR TaS (by omega)) (by omega)).mono ?_
  rintro e W6 ⟨hz, hb⟩
  have ho := Rep.only_of_below hb
  clear hb
  have SW6 : W5.heap.size ≤ W6.heap.size := ho.size
  have HBW6 := Rep.Only.below HBW5 ho (by omega) (fun a ha => by cases ha)
  replace TaS := Rep.at_only TaS ho (by omega) (fun a ha => by cases ha)
  replace VaS := Rep.var_only VaS ho (by omega) (fun hb => by cases hb)
  clear HBW5
  clear ho
  obtain ⟨z7, hz7, HfitaS, rfl⟩ | rfl := hz
  rotate_left
  · go_wp2_with fail
    go_ret
    exact ⟨rfl, HBW6⟩
  have RaS := Lib.hid HfitaS
  have FaS := Lib.hid HfitaS.fits
  clear HfitaS
  obtain ⟨Y, hy⟩ : ∃ Y, eatP x0 = Y := ⟨_, rfl⟩
  have FY : FitsSk Y := by rw [← hy]; exact fits_eat RaS.out
  have HY := Lib.hid hy
  clear hy
  have qaS_0 : W6.cell? ⟨w.heap.size, 0, none⟩ = some (.int .i64 x0.id) := var_cell VaS.out 0
  have qaS_1 : W6.cell? ⟨w.heap.size, 1, none⟩ = some (.int .i64 x0.kind) := var_cell VaS.out 1
  have qaS_2 : W6.cell? ⟨w.heap.size, 2, none⟩ = some (.int .i64 x0.hold) := var_cell VaS.out 2
  have qaS_3 : W6.cell? ⟨w.heap.size, 3, none⟩ = some (.bool x0.shut) := var_cell VaS.out 3
  have qaS_4 : W6.cell? ⟨w.heap.size, 4, none⟩ = some (.slice A1 x0.inn.length c2) := var_cell VaS.out 4
  have qaS_5 : W6.cell? ⟨w.heap.size, 5, none⟩ = some (.slice B3 x0.out.length d4) := var_cell VaS.out 5
  have qaS_6 : W6.cell? ⟨w.heap.size, 6, none⟩ = some (.int .i64 x0.st) := var_cell VaS.out 6
  have qaS_7 : W6.cell? ⟨w.heap.size, 7, none⟩ = some (.int .i64 x0.done) := var_cell VaS.out 7
  have laS : w.heap.size < W6.heap.size := by omega
  go_wp2_with fail
  clear qaS_0 qaS_1 qaS_2 qaS_3 qaS_4 qaS_5 qaS_6 qaS_7 laS
  refine (toSk_rep [.int .i64 x0.id, .int .i64 x0.kind, .int .i64 x0.hold, .bool x0.shut, .slice A1 x0.inn.length c2, .slice B3 x0.out.length d4, .int .i64 x0.st, .int .i64 x0.done] x0 W6 (Rep.more skR TaS (by omega)) FaS.out).mono ?_
  rintro e W9 ⟨cs, fp10, rfl, Ot8, hb⟩
  obtain ⟨A11, c12, B13, d14, rfl⟩ := sk_own_shape Ot8
  have ho := Rep.only_of_below hb
  have L15 := Lib.hid (Rep.lt skR Ot8)
  clear hb
  have SW9 : W6.heap.size ≤ W9.heap.size := ho.size
  have HBW9 := Rep.Only.below HBW6 ho (by omega) (fun a ha => by cases ha)
  replace TaS := Rep.at_only TaS ho (by omega) (fun a ha => by cases ha)
  replace VaS := Rep.var_only VaS ho (by omega) (fun hb => by cases hb)
  clear HBW6
  clear ho
  go_wp2_with fail
  refine (eatS_rep [.int .i64 x0.id, .int .i64 x0.kind, .int .i64 x0.hold, .bool x0.shut, .slice A11 x0.inn.length c12, .slice B13 x0.out.length d14, .int .i64 x0.st, .int .i64 x0.done] x0 W9 (Rep.reads skR Ot8) RaS.out).mono ?_
  rintro e W16 ⟨cs, rfl, Tw0, hb⟩
  rw [HY.out] at Tw0
  obtain ⟨A18, c19, B20, d21, rfl⟩ := sk_at_shape Tw0
  have ho := Rep.only_of_below hb
  clear hb
  have SW16 : W9.heap.size ≤ W16.heap.size := ho.size
  have HBW16 := Rep.Only.below HBW9 ho (by omega) (fun a ha => by cases ha)
  replace TaS := Rep.at_only TaS ho (by omega) (fun a ha => by cases ha)
  replace Ot8 := Rep.own_only Ot8 ho (fun a ha hb => by cases hb)
  replace VaS := Rep.var_only VaS ho (by omega) (fun hb => by cases hb)
  clear HBW9
  clear ho
  clear Ot8 L15
  have qaS_0 : W16.cell? ⟨w.heap.size, 0, none⟩ = some (.int .i64 x0.id) := var_cell VaS.out 0
  have qaS_1 : W16.cell? ⟨w.heap.size, 1, none⟩ = some (.int .i64 x0.kind) := var_cell VaS.out 1
  have qaS_2 : W16.cell? ⟨w.heap.size, 2, none⟩ = some (.int .i64 x0.hold) := var_cell VaS.out 2
  have qaS_3 : W16.cell? ⟨w.heap.size, 3, none⟩ = some (.bool x0.shut) := var_cell VaS.out 3
  have qaS_4 : W16.cell? ⟨w.heap.size, 4, none⟩ = some (.slice A1 x0.inn.length c2) := var_cell VaS.out 4
  have qaS_5 : W16.cell? ⟨w.heap.size, 5, none⟩ = some (.slice B3 x0.out.length d4) := var_cell VaS.out 5
  have qaS_6 : W16.cell? ⟨w.heap.size, 6, none⟩ = some (.int .i64 x0.st) := var_cell VaS.out 6
  have qaS_7 : W16.cell? ⟨w.heap.size, 7, none⟩ = some (.int .i64 x0.done) := var_cell VaS.out 7
  have laS : w.heap.size < W16.heap.size := by omega
  go_wp2_with fail
  clear qaS_0 qaS_1 qaS_2 qaS_3 qaS_4 qaS_5 qaS_6 qaS_7 laS
  have ho := Rep.only_alloc W16 (.cells #[.int .i64 Y.id, .int .i64 Y.kind, .int .i64 Y.hold, .bool Y.shut, .slice A18 Y.inn.length c19, .slice B20 Y.out.length d21, .int .i64 Y.st, .int .i64 Y.done] 25)
  have hv := heap_alloc_new W16 (.cells #[.int .i64 Y.id, .int .i64 Y.kind, .int .i64 Y.hold, .bool Y.shut, .slice A18 Y.inn.length c19, .slice B20 Y.out.length d21, .int .i64 Y.st, .int .i64 Y.done] 25)
  have hs : W16.heap.size < (W16.alloc (.cells #[.int .i64 Y.id, .int .i64 Y.kind, .int .i64 Y.hold, .bool Y.shut, .slice A18 Y.inn.length c19, .slice B20 Y.out.length d21, .int .i64 Y.st, .int .i64 Y.done] 25)).heap.size := by simp
  generalize hgW : W16.alloc (.cells #[.int .i64 Y.id, .int .i64 Y.kind, .int .i64 Y.hold, .bool Y.shut, .slice A18 Y.inn.length c19, .slice B20 Y.out.length d21, .int .i64 Y.st, .int .i64 Y.done] 25) = W22 at ho hv hs ⊢
  clear hgW
  have SW22 : W16.heap.size ≤ W22.heap.size := ho.size
  have HBW22 := Rep.Only.below HBW16 ho (by omega) (fun a ha => by cases ha)
  replace TaS := Rep.at_only TaS ho (by omega) (fun a ha => by cases ha)
  replace Tw0 := Rep.at_only Tw0 ho (by omega) (fun a ha => by cases ha)
  replace VaS := Rep.var_only VaS ho (by omega) (fun hb => by cases hb)
  clear HBW16
  have Vw0 := Lib.hid hv
  clear hv ho
  have ZW22 : W16.heap.size < W22.heap.size := hs
  clear hs
  refine (toSk_rep [.int .i64 x0.id, .int .i64 x0.kind, .int .i64 x0.hold, .bool x0.shut, .slice A1 x0.inn.length c2, .slice B3 x0.out.length d4, .int .i64 x0.st, .int .i64 x0.done] x0 W22 (Rep.more skR TaS (by omega)) FaS.out).mono ?_
  rintro e W23 ⟨cs, fp24, rfl, Ox0, hb⟩
  obtain ⟨A25, c26, B27, d28, rfl⟩ := sk_own_shape Ox0
  have ho := Rep.only_of_below hb
  have L29 := Lib.hid (Rep.lt skR Ox0)
  clear hb
  have SW23 : W22.heap.size ≤ W23.heap.size := ho.size
  have HBW23 := Rep.Only.below HBW22 ho (by omega) (fun a ha => by cases ha)
  replace TaS := Rep.at_only TaS ho (by omega) (fun a ha => by cases ha)
  replace Tw0 := Rep.at_only Tw0 ho (by omega) (fun a ha => by cases ha)
  replace VaS := Rep.var_only VaS ho (by omega) (fun hb => by cases hb)
  replace Vw0 := Rep.var_only Vw0 ho (by omega) (fun hb => by cases hb)
  clear HBW22
  clear ho
  go_wp2_with fail
  have ho := Rep.only_alloc W23 (.cells #[.int .i64 x0.id, .int .i64 x0.kind, .int .i64 x0.hold, .bool x0.shut, .slice A25 x0.inn.length c26, .slice B27 x0.out.length d28, .int .i64 x0.st, .int .i64 x0.done] 25)
  have hv := heap_alloc_new W23 (.cells #[.int .i64 x0.id, .int .i64 x0.kind, .int .i64 x0.hold, .bool x0.shut, .slice A25 x0.inn.length c26, .slice B27 x0.out.length d28, .int .i64 x0.st, .int .i64 x0.done] 25)
  have hs : W23.heap.size < (W23.alloc (.cells #[.int .i64 x0.id, .int .i64 x0.kind, .int .i64 x0.hold, .bool x0.shut, .slice A25 x0.inn.length c26, .slice B27 x0.out.length d28, .int .i64 x0.st, .int .i64 x0.done] 25)).heap.size := by simp
  generalize hgW : W23.alloc (.cells #[.int .i64 x0.id, .int .i64 x0.kind, .int .i64 x0.hold, .bool x0.shut, .slice A25 x0.inn.length c26, .slice B27 x0.out.length d28, .int .i64 x0.st, .int .i64 x0.done] 25) = W30 at ho hv hs ⊢
  clear hgW
  have SW30 : W23.heap.size ≤ W30.heap.size := ho.size
  have HBW30 := Rep.Only.below HBW23 ho (by omega) (fun a ha => by cases ha)
  replace TaS := Rep.at_only TaS ho (by omega) (fun a ha => by cases ha)
  replace Tw0 := Rep.at_only Tw0 ho (by omega) (fun a ha => by cases ha)
  replace Ox0 := Rep.own_only Ox0 ho (fun a ha hb => by cases hb)
  replace VaS := Rep.var_only VaS ho (by omega) (fun hb => by cases hb)
  replace Vw0 := Rep.var_only Vw0 ho (by omega) (fun hb => by cases hb)
  clear HBW23
  have Vx0 := Lib.hid hv
  clear hv ho
  have ZW30 : W23.heap.size < W30.heap.size := hs
  clear hs
  refine (eat_rep [.int .i64 x0.id, .int .i64 x0.kind, .int .i64 x0.hold, .bool x0.shut, .slice A25 x0.inn.length c26, .slice B27 x0.out.length d28, .int .i64 x0.st, .int .i64 x0.done] x0 W30 (Rep.reads skR Ox0) RaS.out).mono ?_
  rintro e W31 ⟨cs, fp32, rfl, Og0, hb⟩
  rw [HY.out] at Og0
  obtain ⟨A33, c34, B35, d36, rfl⟩ := sk_own_shape Og0
  have ho := Rep.only_of_below hb
  have L37 := Lib.hid (Rep.lt skR Og0)
  clear hb
  have SW31 : W30.heap.size ≤ W31.heap.size := ho.size
  have HBW31 := Rep.Only.below HBW30 ho (by omega) (fun a ha => by cases ha)
  replace TaS := Rep.at_only TaS ho (by omega) (fun a ha => by cases ha)
  replace Tw0 := Rep.at_only Tw0 ho (by omega) (fun a ha => by cases ha)
  replace Ox0 := Rep.own_only Ox0 ho (fun a ha hb => by cases hb)
  replace VaS := Rep.var_only VaS ho (by omega) (fun hb => by cases hb)
  replace Vw0 := Rep.var_only Vw0 ho (by omega) (fun hb => by cases hb)
  replace Vx0 := Rep.var_only Vx0 ho (by omega) (fun hb => by cases hb)
  clear HBW30
  clear ho
  have qw0_0 : W31.cell? ⟨W16.heap.size, 0, none⟩ = some (.int .i64 Y.id) := var_cell Vw0.out 0
  have qw0_1 : W31.cell? ⟨W16.heap.size, 1, none⟩ = some (.int .i64 Y.kind) := var_cell Vw0.out 1
  have qw0_2 : W31.cell? ⟨W16.heap.size, 2, none⟩ = some (.int .i64 Y.hold) := var_cell Vw0.out 2
  have qw0_3 : W31.cell? ⟨W16.heap.size, 3, none⟩ = some (.bool Y.shut) := var_cell Vw0.out 3
  have qw0_4 : W31.cell? ⟨W16.heap.size, 4, none⟩ = some (.slice A18 Y.inn.length c19) := var_cell Vw0.out 4
  have qw0_5 : W31.cell? ⟨W16.heap.size, 5, none⟩ = some (.slice B20 Y.out.length d21) := var_cell Vw0.out 5
  have qw0_6 : W31.cell? ⟨W16.heap.size, 6, none⟩ = some (.int .i64 Y.st) := var_cell Vw0.out 6
  have qw0_7 : W31.cell? ⟨W16.heap.size, 7, none⟩ = some (.int .i64 Y.done) := var_cell Vw0.out 7
  have lw0 : W16.heap.size < W31.heap.size := by omega
  go_wp2_with fail
  clear qw0_0 qw0_1 qw0_2 qw0_3 qw0_4 qw0_5 qw0_6 qw0_7 lw0
  have ho := Rep.only_alloc W31 (.cells #[.int .i64 Y.id, .int .i64 Y.kind, .int .i64 Y.hold, .bool Y.shut, .slice A33 Y.inn.length c34, .slice B35 Y.out.length d36, .int .i64 Y.st, .int .i64 Y.done] 25)
  have hv := heap_alloc_new W31 (.cells #[.int .i64 Y.id, .int .i64 Y.kind, .int .i64 Y.hold, .bool Y.shut, .slice A33 Y.inn.length c34, .slice B35 Y.out.length d36, .int .i64 Y.st, .int .i64 Y.done] 25)
  have hs : W31.heap.size < (W31.alloc (.cells #[.int .i64 Y.id, .int .i64 Y.kind, .int .i64 Y.hold, .bool Y.shut, .slice A33 Y.inn.length c34, .slice B35 Y.out.length d36, .int .i64 Y.st, .int .i64 Y.done] 25)).heap.size := by simp
  generalize hgW : W31.alloc (.cells #[.int .i64 Y.id, .int .i64 Y.kind, .int .i64 Y.hold, .bool Y.shut, .slice A33 Y.inn.length c34, .slice B35 Y.out.length d36, .int .i64 Y.st, .int .i64 Y.done] 25) = W38 at ho hv hs ⊢
  clear hgW
  have SW38 : W31.heap.size ≤ W38.heap.size := ho.size
  have HBW38 := Rep.Only.below HBW31 ho (by omega) (fun a ha => by cases ha)
  replace TaS := Rep.at_only TaS ho (by omega) (fun a ha => by cases ha)
  replace Tw0 := Rep.at_only Tw0 ho (by omega) (fun a ha => by cases ha)
  replace Ox0 := Rep.own_only Ox0 ho (fun a ha hb => by cases hb)
  replace Og0 := Rep.own_only Og0 ho (fun a ha hb => by cases hb)
  replace VaS := Rep.var_only VaS ho (by omega) (fun hb => by cases hb)
  replace Vw0 := Rep.var_only Vw0 ho (by omega) (fun hb => by cases hb)
  replace Vx0 := Rep.var_only Vx0 ho (by omega) (fun hb => by cases hb)
  clear HBW31
  have Vg0 := Lib.hid hv
  clear hv ho
  have ZW38 : W31.heap.size < W38.heap.size := hs
  clear hs
  refine (eqSk_same [.int .i64 Y.id, .int .i64 Y.kind, .int .i64 Y.hold, .bool Y.shut, .slice A33 Y.inn.length c34, .slice B35 Y.out.length d36, .int .i64 Y.st, .int .i64 Y.done] [.int .i64 Y.id, .int .i64 Y.kind, .int .i64 Y.hold, .bool Y.shut, .slice A18 Y.inn.length c19, .slice B20 Y.out.length d21, .int .i64 Y.st, .int .i64 Y.done] Y W38 (Rep.reads skR Og0) (Rep.more skR Tw0 (by omega)) FY).mono ?_
  rintro e W39 ⟨rfl, hb⟩
  have ho := Rep.only_of_below hb
  clear hb
  have SW39 : W38.heap.size ≤ W39.heap.size := ho.size
  have HBW39 := Rep.Only.below HBW38 ho (by omega) (fun a ha => by cases ha)
  replace TaS := Rep.at_only TaS ho (by omega) (fun a ha => by cases ha)
  replace Tw0 := Rep.at_only Tw0 ho (by omega) (fun a ha => by cases ha)
  replace Ox0 := Rep.own_only Ox0 ho (fun a ha hb => by cases hb)
  replace Og0 := Rep.own_only Og0 ho (fun a ha hb => by cases hb)
  replace VaS := Rep.var_only VaS ho (by omega) (fun hb => by cases hb)
  replace Vw0 := Rep.var_only Vw0 ho (by omega) (fun hb => by cases hb)
  replace Vx0 := Rep.var_only Vx0 ho (by omega) (fun hb => by cases hb)
  replace Vg0 := Rep.var_only Vg0 ho (by omega) (fun hb => by cases hb)
  clear HBW38
  clear ho
  have qx0_0 : W39.cell? ⟨W23.heap.size, 0, none⟩ = some (.int .i64 x0.id) := var_cell Vx0.out 0
  have qx0_1 : W39.cell? ⟨W23.heap.size, 1, none⟩ = some (.int .i64 x0.kind) := var_cell Vx0.out 1
  have qx0_2 : W39.cell? ⟨W23.heap.size, 2, none⟩ = some (.int .i64 x0.hold) := var_cell Vx0.out 2
  have qx0_3 : W39.cell? ⟨W23.heap.size, 3, none⟩ = some (.bool x0.shut) := var_cell Vx0.out 3
  have qx0_4 : W39.cell? ⟨W23.heap.size, 4, none⟩ = some (.slice A25 x0.inn.length c26) := var_cell Vx0.out 4
  have qx0_5 : W39.cell? ⟨W23.heap.size, 5, none⟩ = some (.slice B27 x0.out.length d28) := var_cell Vx0.out 5
  have qx0_6 : W39.cell? ⟨W23.heap.size, 6, none⟩ = some (.int .i64 x0.st) := var_cell Vx0.out 6
  have qx0_7 : W39.cell? ⟨W23.heap.size, 7, none⟩ = some (.int .i64 x0.done) := var_cell Vx0.out 7
  have lx0 : W23.heap.size < W39.heap.size := by omega
  have qaS_0 : W39.cell? ⟨w.heap.size, 0, none⟩ = some (.int .i64 x0.id) := var_cell VaS.out 0
  have qaS_1 : W39.cell? ⟨w.heap.size, 1, none⟩ = some (.int .i64 x0.kind) := var_cell VaS.out 1
  have qaS_2 : W39.cell? ⟨w.heap.size, 2, none⟩ = some (.int .i64 x0.hold) := var_cell VaS.out 2
  have qaS_3 : W39.cell? ⟨w.heap.size, 3, none⟩ = some (.bool x0.shut) := var_cell VaS.out 3
  have qaS_4 : W39.cell? ⟨w.heap.size, 4, none⟩ = some (.slice A1 x0.inn.length c2) := var_cell VaS.out 4
  have qaS_5 : W39.cell? ⟨w.heap.size, 5, none⟩ = some (.slice B3 x0.out.length d4) := var_cell VaS.out 5
  have qaS_6 : W39.cell? ⟨w.heap.size, 6, none⟩ = some (.int .i64 x0.st) := var_cell VaS.out 6
  have qaS_7 : W39.cell? ⟨w.heap.size, 7, none⟩ = some (.int .i64 x0.done) := var_cell VaS.out 7
  have laS : w.heap.size < W39.heap.size := by omega
  go_wp2_with fail
  clear qx0_0 qx0_1 qx0_2 qx0_3 qx0_4 qx0_5 qx0_6 qx0_7 lx0 qaS_0 qaS_1 qaS_2 qaS_3 qaS_4 qaS_5 qaS_6 qaS_7 laS
  go_region_held3 (fun w' => w'.cell? ⟨W23.heap.size, 0, none⟩ = some (.int .i64 x0.id) ∧ w'.cell? ⟨W23.heap.size, 1, none⟩ = some (.int .i64 x0.kind) ∧ w'.cell? ⟨W23.heap.size, 2, none⟩ = some (.int .i64 x0.hold) ∧ w'.cell? ⟨W23.heap.size, 3, none⟩ = some (.bool x0.shut) ∧ w'.cell? ⟨W23.heap.size, 4, none⟩ = some (.slice A25 x0.inn.length c26) ∧ w'.cell? ⟨W23.heap.size, 5, none⟩ = some (.slice B27 x0.out.length d28) ∧ w'.cell? ⟨W23.heap.size, 6, none⟩ = some (.int .i64 x0.st) ∧ w'.cell? ⟨W23.heap.size, 7, none⟩ = some (.int .i64 x0.done) ∧ w'.cell? ⟨w.heap.size, 0, none⟩ = some (.int .i64 x0.id) ∧ w'.cell? ⟨w.heap.size, 1, none⟩ = some (.int .i64 x0.kind) ∧ w'.cell? ⟨w.heap.size, 2, none⟩ = some (.int .i64 x0.hold) ∧ w'.cell? ⟨w.heap.size, 3, none⟩ = some (.bool x0.shut) ∧ w'.cell? ⟨w.heap.size, 4, none⟩ = some (.slice A1 x0.inn.length c2) ∧ w'.cell? ⟨w.heap.size, 5, none⟩ = some (.slice B3 x0.out.length d4) ∧ w'.cell? ⟨w.heap.size, 6, none⟩ = some (.int .i64 x0.st) ∧ w'.cell? ⟨w.heap.size, 7, none⟩ = some (.int .i64 x0.done)) (exact ⟨var_cell Vx0.out 0, var_cell Vx0.out 1, var_cell Vx0.out 2, var_cell Vx0.out 3, var_cell Vx0.out 4, var_cell Vx0.out 5, var_cell Vx0.out 6, var_cell Vx0.out 7, var_cell VaS.out 0, var_cell VaS.out 1, var_cell VaS.out 2, var_cell VaS.out 3, var_cell VaS.out 4, var_cell VaS.out 5, var_cell VaS.out 6, var_cell VaS.out 7⟩) (first
    | (go_at_call 43
       have ho := Rep.only_drew W39
       generalize W39.drew = W40 at ho ⊢
       have SW40 : W39.heap.size ≤ W40.heap.size := ho.size
       have HBW40 := Rep.Only.below HBW39 ho (by omega) (fun a ha => by cases ha)
       replace TaS := Rep.at_only TaS ho (by omega) (fun a ha => by cases ha)
       replace Tw0 := Rep.at_only Tw0 ho (by omega) (fun a ha => by cases ha)
       replace Ox0 := Rep.own_only Ox0 ho (fun a ha hb => by cases hb)
       replace Og0 := Rep.own_only Og0 ho (fun a ha hb => by cases hb)
       replace VaS := Rep.var_only VaS ho (by omega) (fun hb => by cases hb)
       replace Vw0 := Rep.var_only Vw0 ho (by omega) (fun hb => by cases hb)
       replace Vx0 := Rep.var_only Vx0 ho (by omega) (fun hb => by cases hb)
       replace Vg0 := Rep.var_only Vg0 ho (by omega) (fun hb => by cases hb)
       clear HBW39
       clear ho
       refine (toSk_rep [.int .i64 x0.id, .int .i64 x0.kind, .int .i64 x0.hold, .bool x0.shut, .slice A1 x0.inn.length c2, .slice B3 x0.out.length d4, .int .i64 x0.st, .int .i64 x0.done] x0 W40 (Rep.more skR TaS (by omega)) FaS.out).mono ?_
       rintro e W42 ⟨cs, fp43, rfl, Ot41, hb⟩
       obtain ⟨A44, c45, B46, d47, rfl⟩ := sk_own_shape Ot41
       have ho := Rep.only_of_below hb
       have L48 := Lib.hid (Rep.lt skR Ot41)
       clear hb
       have SW42 : W40.heap.size ≤ W42.heap.size := ho.size
       have HBW42 := Rep.Only.below HBW40 ho (by omega) (fun a ha => by cases ha)
       replace TaS := Rep.at_only TaS ho (by omega) (fun a ha => by cases ha)
       replace Tw0 := Rep.at_only Tw0 ho (by omega) (fun a ha => by cases ha)
       replace Ox0 := Rep.own_only Ox0 ho (fun a ha hb => by cases hb)
       replace Og0 := Rep.own_only Og0 ho (fun a ha hb => by cases hb)
       replace VaS := Rep.var_only VaS ho (by omega) (fun hb => by cases hb)
       replace Vw0 := Rep.var_only Vw0 ho (by omega) (fun hb => by cases hb)
       replace Vx0 := Rep.var_only Vx0 ho (by omega) (fun hb => by cases hb)
       replace Vg0 := Rep.var_only Vg0 ho (by omega) (fun hb => by cases hb)
       clear HBW40
       clear ho)
    | (go_at_call 44
       refine (eqSk_same [.int .i64 x0.id, .int .i64 x0.kind, .int .i64 x0.hold, .bool x0.shut, .slice A25 x0.inn.length c26, .slice B27 x0.out.length d28, .int .i64 x0.st, .int .i64 x0.done] [.int .i64 x0.id, .int .i64 x0.kind, .int .i64 x0.hold, .bool x0.shut, .slice A44 x0.inn.length c45, .slice B46 x0.out.length d47, .int .i64 x0.st, .int .i64 x0.done] x0 W42 (Rep.reads skR Ox0) (Rep.reads skR Ot41) FaS.out).mono ?_
       rintro e W49 ⟨rfl, hb⟩
       have ho := Rep.only_of_below hb
       clear hb
       have SW49 : W42.heap.size ≤ W49.heap.size := ho.size
       have HBW49 := Rep.Only.below HBW42 ho (by omega) (fun a ha => by cases ha)
       replace TaS := Rep.at_only TaS ho (by omega) (fun a ha => by cases ha)
       replace Tw0 := Rep.at_only Tw0 ho (by omega) (fun a ha => by cases ha)
       replace Ox0 := Rep.own_only Ox0 ho (fun a ha hb => by cases hb)
       replace Og0 := Rep.own_only Og0 ho (fun a ha hb => by cases hb)
       replace Ot41 := Rep.own_only Ot41 ho (fun a ha hb => by cases hb)
       replace VaS := Rep.var_only VaS ho (by omega) (fun hb => by cases hb)
       replace Vw0 := Rep.var_only Vw0 ho (by omega) (fun hb => by cases hb)
       replace Vx0 := Rep.var_only Vx0 ho (by omega) (fun hb => by cases hb)
       replace Vg0 := Rep.var_only Vg0 ho (by omega) (fun hb => by cases hb)
       clear HBW42
       clear ho))
  clear Ot41 L48
  have qx0_0 : W49.cell? ⟨W23.heap.size, 0, none⟩ = some (.int .i64 x0.id) := var_cell Vx0.out 0
  have qx0_1 : W49.cell? ⟨W23.heap.size, 1, none⟩ = some (.int .i64 x0.kind) := var_cell Vx0.out 1
  have qx0_2 : W49.cell? ⟨W23.heap.size, 2, none⟩ = some (.int .i64 x0.hold) := var_cell Vx0.out 2
  have qx0_3 : W49.cell? ⟨W23.heap.size, 3, none⟩ = some (.bool x0.shut) := var_cell Vx0.out 3
  have qx0_4 : W49.cell? ⟨W23.heap.size, 4, none⟩ = some (.slice A25 x0.inn.length c26) := var_cell Vx0.out 4
  have qx0_5 : W49.cell? ⟨W23.heap.size, 5, none⟩ = some (.slice B27 x0.out.length d28) := var_cell Vx0.out 5
  have qx0_6 : W49.cell? ⟨W23.heap.size, 6, none⟩ = some (.int .i64 x0.st) := var_cell Vx0.out 6
  have qx0_7 : W49.cell? ⟨W23.heap.size, 7, none⟩ = some (.int .i64 x0.done) := var_cell Vx0.out 7
  have lx0 : W23.heap.size < W49.heap.size := by omega
  go_wp2_with fail
  clear qx0_0 qx0_1 qx0_2 qx0_3 qx0_4 qx0_5 qx0_6 qx0_7 lx0
  obtain ⟨N51, hN, hN2⟩ : ∃ N : Nat, 1 + cntSk x0 = N ∧ N ≤ 1 + 8796093022208 := ⟨_, rfl, by have := cntSk_le FaS.out; omega⟩
  have HN51 := Lib.hid hN
  have BN51 := hN2
  clear hN hN2
  refine (markSk_any [.int .i64 x0.id, .int .i64 x0.kind, .int .i64 x0.hold, .bool x0.shut, .slice A25 x0.inn.length c26, .slice B27 x0.out.length d28, .int .i64 x0.st, .int .i64 x0.done] 1 x0 fp24 W49 _ Ox0 FaS.out (by omega)).mono ?_
  rintro e W50 ⟨he, hown, ho⟩
  rw [HN51.out] at he
  subst he
  replace Ox0 := hown
  clear hown
  have SW50 : W49.heap.size ≤ W50.heap.size := ho.size
  have HBW50 := Rep.Only.below HBW49 ho (by omega) (fun a ha => by have := (L29.out a ha).1; omega)
  replace TaS := Rep.at_only TaS ho (by omega) (fun a ha => by have := (L29.out a ha).1; omega)
  replace Tw0 := Rep.at_only Tw0 ho (by omega) (fun a ha => by have := (L29.out a ha).1; omega)
  replace Og0 := Rep.own_only Og0 ho (fun a ha hb => by have := L37.out a ha; have := L29.out a hb; omega)
  replace VaS := Rep.var_only VaS ho (by omega) (fun hb => by have := L29.out _ hb; omega)
  replace Vw0 := Rep.var_only Vw0 ho (by omega) (fun hb => by have := L29.out _ hb; omega)
  replace Vx0 := Rep.var_only Vx0 ho (by omega) (fun hb => by have := L29.out _ hb; omega)
  replace Vg0 := Rep.var_only Vg0 ho (by omega) (fun hb => by have := L29.out _ hb; omega)
  clear HBW49
  clear ho
  have qg0_0 : W50.cell? ⟨W31.heap.size, 0, none⟩ = some (.int .i64 Y.id) := var_cell Vg0.out 0
  have qg0_1 : W50.cell? ⟨W31.heap.size, 1, none⟩ = some (.int .i64 Y.kind) := var_cell Vg0.out 1
  have qg0_2 : W50.cell? ⟨W31.heap.size, 2, none⟩ = some (.int .i64 Y.hold) := var_cell Vg0.out 2
  have qg0_3 : W50.cell? ⟨W31.heap.size, 3, none⟩ = some (.bool Y.shut) := var_cell Vg0.out 3
  have qg0_4 : W50.cell? ⟨W31.heap.size, 4, none⟩ = some (.slice A33 Y.inn.length c34) := var_cell Vg0.out 4
  have qg0_5 : W50.cell? ⟨W31.heap.size, 5, none⟩ = some (.slice B35 Y.out.length d36) := var_cell Vg0.out 5
  have qg0_6 : W50.cell? ⟨W31.heap.size, 6, none⟩ = some (.int .i64 Y.st) := var_cell Vg0.out 6
  have qg0_7 : W50.cell? ⟨W31.heap.size, 7, none⟩ = some (.int .i64 Y.done) := var_cell Vg0.out 7
  have lg0 : W31.heap.size < W50.heap.size := by omega
  have qw0_0 : W50.cell? ⟨W16.heap.size, 0, none⟩ = some (.int .i64 Y.id) := var_cell Vw0.out 0
  have qw0_1 : W50.cell? ⟨W16.heap.size, 1, none⟩ = some (.int .i64 Y.kind) := var_cell Vw0.out 1
  have qw0_2 : W50.cell? ⟨W16.heap.size, 2, none⟩ = some (.int .i64 Y.hold) := var_cell Vw0.out 2
  have qw0_3 : W50.cell? ⟨W16.heap.size, 3, none⟩ = some (.bool Y.shut) := var_cell Vw0.out 3
  have qw0_4 : W50.cell? ⟨W16.heap.size, 4, none⟩ = some (.slice A18 Y.inn.length c19) := var_cell Vw0.out 4
  have qw0_5 : W50.cell? ⟨W16.heap.size, 5, none⟩ = some (.slice B20 Y.out.length d21) := var_cell Vw0.out 5
  have qw0_6 : W50.cell? ⟨W16.heap.size, 6, none⟩ = some (.int .i64 Y.st) := var_cell Vw0.out 6
  have qw0_7 : W50.cell? ⟨W16.heap.size, 7, none⟩ = some (.int .i64 Y.done) := var_cell Vw0.out 7
  have lw0 : W16.heap.size < W50.heap.size := by omega
  go_wp2_with fail
  clear qg0_0 qg0_1 qg0_2 qg0_3 qg0_4 qg0_5 qg0_6 qg0_7 lg0 qw0_0 qw0_1 qw0_2 qw0_3 qw0_4 qw0_5 qw0_6 qw0_7 lw0
  refine (eqSk_same [.int .i64 Y.id, .int .i64 Y.kind, .int .i64 Y.hold, .bool Y.shut, .slice A33 Y.inn.length c34, .slice B35 Y.out.length d36, .int .i64 Y.st, .int .i64 Y.done] [.int .i64 Y.id, .int .i64 Y.kind, .int .i64 Y.hold, .bool Y.shut, .slice A18 Y.inn.length c19, .slice B20 Y.out.length d21, .int .i64 Y.st, .int .i64 Y.done] Y W50 (Rep.reads skR Og0) (Rep.more skR Tw0 (by omega)) FY).mono ?_
  rintro e W52 ⟨rfl, hb⟩
  have ho := Rep.only_of_below hb
  clear hb
  have SW52 : W50.heap.size ≤ W52.heap.size := ho.size
  have HBW52 := Rep.Only.below HBW50 ho (by omega) (fun a ha => by cases ha)
  replace TaS := Rep.at_only TaS ho (by omega) (fun a ha => by cases ha)
  replace Tw0 := Rep.at_only Tw0 ho (by omega) (fun a ha => by cases ha)
  replace Ox0 := Rep.own_only Ox0 ho (fun a ha hb => by cases hb)
  replace Og0 := Rep.own_only Og0 ho (fun a ha hb => by cases hb)
  replace VaS := Rep.var_only VaS ho (by omega) (fun hb => by cases hb)
  replace Vw0 := Rep.var_only Vw0 ho (by omega) (fun hb => by cases hb)
  replace Vx0 := Rep.var_only Vx0 ho (by omega) (fun hb => by cases hb)
  replace Vg0 := Rep.var_only Vg0 ho (by omega) (fun hb => by cases hb)
  clear HBW50
  clear ho
  have qg0_0 : W52.cell? ⟨W31.heap.size, 0, none⟩ = some (.int .i64 Y.id) := var_cell Vg0.out 0
  have qg0_1 : W52.cell? ⟨W31.heap.size, 1, none⟩ = some (.int .i64 Y.kind) := var_cell Vg0.out 1
  have qg0_2 : W52.cell? ⟨W31.heap.size, 2, none⟩ = some (.int .i64 Y.hold) := var_cell Vg0.out 2
  have qg0_3 : W52.cell? ⟨W31.heap.size, 3, none⟩ = some (.bool Y.shut) := var_cell Vg0.out 3
  have qg0_4 : W52.cell? ⟨W31.heap.size, 4, none⟩ = some (.slice A33 Y.inn.length c34) := var_cell Vg0.out 4
  have qg0_5 : W52.cell? ⟨W31.heap.size, 5, none⟩ = some (.slice B35 Y.out.length d36) := var_cell Vg0.out 5
  have qg0_6 : W52.cell? ⟨W31.heap.size, 6, none⟩ = some (.int .i64 Y.st) := var_cell Vg0.out 6
  have qg0_7 : W52.cell? ⟨W31.heap.size, 7, none⟩ = some (.int .i64 Y.done) := var_cell Vg0.out 7
  have lg0 : W31.heap.size < W52.heap.size := by omega
  go_wp2_with fail
  clear qg0_0 qg0_1 qg0_2 qg0_3 qg0_4 qg0_5 qg0_6 qg0_7 lg0
  obtain ⟨N54, hN, hN2⟩ : ∃ N : Nat, 1 + cntSk Y = N ∧ N ≤ 1 + 8796093022208 := ⟨_, rfl, by have := cntSk_le FY; omega⟩
  have HN54 := Lib.hid hN
  have BN54 := hN2
  clear hN hN2
  refine (markSk_any [.int .i64 Y.id, .int .i64 Y.kind, .int .i64 Y.hold, .bool Y.shut, .slice A33 Y.inn.length c34, .slice B35 Y.out.length d36, .int .i64 Y.st, .int .i64 Y.done] 1 Y fp32 W52 _ Og0 FY (by omega)).mono ?_
  rintro e W53 ⟨he, hown, ho⟩
  rw [HN54.out] at he
  subst he
  replace Og0 := hown
  clear hown
  have SW53 : W52.heap.size ≤ W53.heap.size := ho.size
  have HBW53 := Rep.Only.below HBW52 ho (by omega) (fun a ha => by have := (L37.out a ha).1; omega)
  replace TaS := Rep.at_only TaS ho (by omega) (fun a ha => by have := (L37.out a ha).1; omega)
  replace Tw0 := Rep.at_only Tw0 ho (by omega) (fun a ha => by have := (L37.out a ha).1; omega)
  replace Ox0 := Rep.own_only Ox0 ho (fun a ha hb => by have := L29.out a ha; have := L37.out a hb; omega)
  replace VaS := Rep.var_only VaS ho (by omega) (fun hb => by have := L37.out _ hb; omega)
  replace Vw0 := Rep.var_only Vw0 ho (by omega) (fun hb => by have := L37.out _ hb; omega)
  replace Vx0 := Rep.var_only Vx0 ho (by omega) (fun hb => by have := L37.out _ hb; omega)
  replace Vg0 := Rep.var_only Vg0 ho (by omega) (fun hb => by have := L37.out _ hb; omega)
  clear HBW52
  clear ho
  clear Ox0 L29
  have qg0_0 : W53.cell? ⟨W31.heap.size, 0, none⟩ = some (.int .i64 Y.id) := var_cell Vg0.out 0
  have qg0_1 : W53.cell? ⟨W31.heap.size, 1, none⟩ = some (.int .i64 Y.kind) := var_cell Vg0.out 1
  have qg0_2 : W53.cell? ⟨W31.heap.size, 2, none⟩ = some (.int .i64 Y.hold) := var_cell Vg0.out 2
  have qg0_3 : W53.cell? ⟨W31.heap.size, 3, none⟩ = some (.bool Y.shut) := var_cell Vg0.out 3
  have qg0_4 : W53.cell? ⟨W31.heap.size, 4, none⟩ = some (.slice A33 Y.inn.length c34) := var_cell Vg0.out 4
  have qg0_5 : W53.cell? ⟨W31.heap.size, 5, none⟩ = some (.slice B35 Y.out.length d36) := var_cell Vg0.out 5
  have qg0_6 : W53.cell? ⟨W31.heap.size, 6, none⟩ = some (.int .i64 Y.st) := var_cell Vg0.out 6
  have qg0_7 : W53.cell? ⟨W31.heap.size, 7, none⟩ = some (.int .i64 Y.done) := var_cell Vg0.out 7
  have lg0 : W31.heap.size < W53.heap.size := by omega
  go_wp2_with fail
  clear qg0_0 qg0_1 qg0_2 qg0_3 qg0_4 qg0_5 qg0_6 qg0_7 lg0
  refine (heldSk_any [.int .i64 Y.id, .int .i64 Y.kind, .int .i64 Y.hold, .bool Y.shut, .slice A33 Y.inn.length c34, .slice B35 Y.out.length d36, .int .i64 Y.st, .int .i64 Y.done] 1 Y W53 (Rep.reads skR Og0) FY (by omega)).mono ?_
  rintro e W55 ⟨he, hb⟩
  rw [HN54.out] at he
  subst he
  have ho := Rep.only_of_below hb
  clear hb
  have SW55 : W53.heap.size ≤ W55.heap.size := ho.size
  have HBW55 := Rep.Only.below HBW53 ho (by omega) (fun a ha => by cases ha)
  replace TaS := Rep.at_only TaS ho (by omega) (fun a ha => by cases ha)
  replace Tw0 := Rep.at_only Tw0 ho (by omega) (fun a ha => by cases ha)
  replace Og0 := Rep.own_only Og0 ho (fun a ha hb => by cases hb)
  replace VaS := Rep.var_only VaS ho (by omega) (fun hb => by cases hb)
  replace Vw0 := Rep.var_only Vw0 ho (by omega) (fun hb => by cases hb)
  replace Vg0 := Rep.var_only Vg0 ho (by omega) (fun hb => by cases hb)
  clear HBW53
  clear ho
  have nn56 : ((N54 : Int) != (N54 : Int)) = false := by simp
  have qaS_0 : W55.cell? ⟨w.heap.size, 0, none⟩ = some (.int .i64 x0.id) := var_cell VaS.out 0
  have qaS_1 : W55.cell? ⟨w.heap.size, 1, none⟩ = some (.int .i64 x0.kind) := var_cell VaS.out 1
  have qaS_2 : W55.cell? ⟨w.heap.size, 2, none⟩ = some (.int .i64 x0.hold) := var_cell VaS.out 2
  have qaS_3 : W55.cell? ⟨w.heap.size, 3, none⟩ = some (.bool x0.shut) := var_cell VaS.out 3
  have qaS_4 : W55.cell? ⟨w.heap.size, 4, none⟩ = some (.slice A1 x0.inn.length c2) := var_cell VaS.out 4
  have qaS_5 : W55.cell? ⟨w.heap.size, 5, none⟩ = some (.slice B3 x0.out.length d4) := var_cell VaS.out 5
  have qaS_6 : W55.cell? ⟨w.heap.size, 6, none⟩ = some (.int .i64 x0.st) := var_cell VaS.out 6
  have qaS_7 : W55.cell? ⟨w.heap.size, 7, none⟩ = some (.int .i64 x0.done) := var_cell VaS.out 7
  have laS : w.heap.size < W55.heap.size := by omega
  go_wp2_with fail
  clear qaS_0 qaS_1 qaS_2 qaS_3 qaS_4 qaS_5 qaS_6 qaS_7 laS
  refine (toSk_rep [.int .i64 x0.id, .int .i64 x0.kind, .int .i64 x0.hold, .bool x0.shut, .slice A1 x0.inn.length c2, .slice B3 x0.out.length d4, .int .i64 x0.st, .int .i64 x0.done] x0 W55 (Rep.more skR TaS (by omega)) FaS.out).mono ?_
  rintro e W58 ⟨cs, fp59, rfl, Ot57, hb⟩
  obtain ⟨A60, c61, B62, d63, rfl⟩ := sk_own_shape Ot57
  have ho := Rep.only_of_below hb
  have L64 := Lib.hid (Rep.lt skR Ot57)
  clear hb
  have SW58 : W55.heap.size ≤ W58.heap.size := ho.size
  have HBW58 := Rep.Only.below HBW55 ho (by omega) (fun a ha => by cases ha)
  replace TaS := Rep.at_only TaS ho (by omega) (fun a ha => by cases ha)
  replace Tw0 := Rep.at_only Tw0 ho (by omega) (fun a ha => by cases ha)
  replace Og0 := Rep.own_only Og0 ho (fun a ha hb => by cases hb)
  replace VaS := Rep.var_only VaS ho (by omega) (fun hb => by cases hb)
  replace Vw0 := Rep.var_only Vw0 ho (by omega) (fun hb => by cases hb)
  replace Vg0 := Rep.var_only Vg0 ho (by omega) (fun hb => by cases hb)
  clear HBW55
  clear ho
  go_wp2_with fail
  refine (eat_rep [.int .i64 x0.id, .int .i64 x0.kind, .int .i64 x0.hold, .bool x0.shut, .slice A60 x0.inn.length c61, .slice B62 x0.out.length d63, .int .i64 x0.st, .int .i64 x0.done] x0 W58 (Rep.reads skR Ot57) RaS.out).mono ?_
  rintro e W65 ⟨cs, fp66, rfl, Oh0, hb⟩
  rw [HY.out] at Oh0
  obtain ⟨A67, c68, B69, d70, rfl⟩ := sk_own_shape Oh0
  have ho := Rep.only_of_below hb
  have L71 := Lib.hid (Rep.lt skR Oh0)
  clear hb
  have SW65 : W58.heap.size ≤ W65.heap.size := ho.size
  have HBW65 := Rep.Only.below HBW58 ho (by omega) (fun a ha => by cases ha)
  replace TaS := Rep.at_only TaS ho (by omega) (fun a ha => by cases ha)
  replace Tw0 := Rep.at_only Tw0 ho (by omega) (fun a ha => by cases ha)
  replace Og0 := Rep.own_only Og0 ho (fun a ha hb => by cases hb)
  replace Ot57 := Rep.own_only Ot57 ho (fun a ha hb => by cases hb)
  replace VaS := Rep.var_only VaS ho (by omega) (fun hb => by cases hb)
  replace Vw0 := Rep.var_only Vw0 ho (by omega) (fun hb => by cases hb)
  replace Vg0 := Rep.var_only Vg0 ho (by omega) (fun hb => by cases hb)
  clear HBW58
  clear ho
  clear Ot57 L64
  have qw0_0 : W65.cell? ⟨W16.heap.size, 0, none⟩ = some (.int .i64 Y.id) := var_cell Vw0.out 0
  have qw0_1 : W65.cell? ⟨W16.heap.size, 1, none⟩ = some (.int .i64 Y.kind) := var_cell Vw0.out 1
  have qw0_2 : W65.cell? ⟨W16.heap.size, 2, none⟩ = some (.int .i64 Y.hold) := var_cell Vw0.out 2
  have qw0_3 : W65.cell? ⟨W16.heap.size, 3, none⟩ = some (.bool Y.shut) := var_cell Vw0.out 3
  have qw0_4 : W65.cell? ⟨W16.heap.size, 4, none⟩ = some (.slice A18 Y.inn.length c19) := var_cell Vw0.out 4
  have qw0_5 : W65.cell? ⟨W16.heap.size, 5, none⟩ = some (.slice B20 Y.out.length d21) := var_cell Vw0.out 5
  have qw0_6 : W65.cell? ⟨W16.heap.size, 6, none⟩ = some (.int .i64 Y.st) := var_cell Vw0.out 6
  have qw0_7 : W65.cell? ⟨W16.heap.size, 7, none⟩ = some (.int .i64 Y.done) := var_cell Vw0.out 7
  have lw0 : W16.heap.size < W65.heap.size := by omega
  go_wp2_with fail
  clear qw0_0 qw0_1 qw0_2 qw0_3 qw0_4 qw0_5 qw0_6 qw0_7 lw0
  have ho := Rep.only_alloc W65 (.cells #[.int .i64 Y.id, .int .i64 Y.kind, .int .i64 Y.hold, .bool Y.shut, .slice A67 Y.inn.length c68, .slice B69 Y.out.length d70, .int .i64 Y.st, .int .i64 Y.done] 25)
  have hv := heap_alloc_new W65 (.cells #[.int .i64 Y.id, .int .i64 Y.kind, .int .i64 Y.hold, .bool Y.shut, .slice A67 Y.inn.length c68, .slice B69 Y.out.length d70, .int .i64 Y.st, .int .i64 Y.done] 25)
  have hs : W65.heap.size < (W65.alloc (.cells #[.int .i64 Y.id, .int .i64 Y.kind, .int .i64 Y.hold, .bool Y.shut, .slice A67 Y.inn.length c68, .slice B69 Y.out.length d70, .int .i64 Y.st, .int .i64 Y.done] 25)).heap.size := by simp
  generalize hgW : W65.alloc (.cells #[.int .i64 Y.id, .int .i64 Y.kind, .int .i64 Y.hold, .bool Y.shut, .slice A67 Y.inn.length c68, .slice B69 Y.out.length d70, .int .i64 Y.st, .int .i64 Y.done] 25) = W72 at ho hv hs ⊢
  clear hgW
  have SW72 : W65.heap.size ≤ W72.heap.size := ho.size
  have HBW72 := Rep.Only.below HBW65 ho (by omega) (fun a ha => by cases ha)
  replace TaS := Rep.at_only TaS ho (by omega) (fun a ha => by cases ha)
  replace Tw0 := Rep.at_only Tw0 ho (by omega) (fun a ha => by cases ha)
  replace Og0 := Rep.own_only Og0 ho (fun a ha hb => by cases hb)
  replace Oh0 := Rep.own_only Oh0 ho (fun a ha hb => by cases hb)
  replace VaS := Rep.var_only VaS ho (by omega) (fun hb => by cases hb)
  replace Vw0 := Rep.var_only Vw0 ho (by omega) (fun hb => by cases hb)
  replace Vg0 := Rep.var_only Vg0 ho (by omega) (fun hb => by cases hb)
  clear HBW65
  have Vh0 := Lib.hid hv
  clear hv ho
  have ZW72 : W65.heap.size < W72.heap.size := hs
  clear hs
  refine (eqSk_same [.int .i64 Y.id, .int .i64 Y.kind, .int .i64 Y.hold, .bool Y.shut, .slice A67 Y.inn.length c68, .slice B69 Y.out.length d70, .int .i64 Y.st, .int .i64 Y.done] [.int .i64 Y.id, .int .i64 Y.kind, .int .i64 Y.hold, .bool Y.shut, .slice A18 Y.inn.length c19, .slice B20 Y.out.length d21, .int .i64 Y.st, .int .i64 Y.done] Y W72 (Rep.reads skR Oh0) (Rep.more skR Tw0 (by omega)) FY).mono ?_
  rintro e W73 ⟨rfl, hb⟩
  have ho := Rep.only_of_below hb
  clear hb
  have SW73 : W72.heap.size ≤ W73.heap.size := ho.size
  have HBW73 := Rep.Only.below HBW72 ho (by omega) (fun a ha => by cases ha)
  replace TaS := Rep.at_only TaS ho (by omega) (fun a ha => by cases ha)
  replace Tw0 := Rep.at_only Tw0 ho (by omega) (fun a ha => by cases ha)
  replace Og0 := Rep.own_only Og0 ho (fun a ha hb => by cases hb)
  replace Oh0 := Rep.own_only Oh0 ho (fun a ha hb => by cases hb)
  replace VaS := Rep.var_only VaS ho (by omega) (fun hb => by cases hb)
  replace Vw0 := Rep.var_only Vw0 ho (by omega) (fun hb => by cases hb)
  replace Vg0 := Rep.var_only Vg0 ho (by omega) (fun hb => by cases hb)
  replace Vh0 := Rep.var_only Vh0 ho (by omega) (fun hb => by cases hb)
  clear HBW72
  clear ho
  clear Oh0 L71
  clear TaS
  clear Tw0
  have qg0_0 : W73.cell? ⟨W31.heap.size, 0, none⟩ = some (.int .i64 Y.id) := var_cell Vg0.out 0
  have qg0_1 : W73.cell? ⟨W31.heap.size, 1, none⟩ = some (.int .i64 Y.kind) := var_cell Vg0.out 1
  have qg0_2 : W73.cell? ⟨W31.heap.size, 2, none⟩ = some (.int .i64 Y.hold) := var_cell Vg0.out 2
  have qg0_3 : W73.cell? ⟨W31.heap.size, 3, none⟩ = some (.bool Y.shut) := var_cell Vg0.out 3
  have qg0_4 : W73.cell? ⟨W31.heap.size, 4, none⟩ = some (.slice A33 Y.inn.length c34) := var_cell Vg0.out 4
  have qg0_5 : W73.cell? ⟨W31.heap.size, 5, none⟩ = some (.slice B35 Y.out.length d36) := var_cell Vg0.out 5
  have qg0_6 : W73.cell? ⟨W31.heap.size, 6, none⟩ = some (.int .i64 Y.st) := var_cell Vg0.out 6
  have qg0_7 : W73.cell? ⟨W31.heap.size, 7, none⟩ = some (.int .i64 Y.done) := var_cell Vg0.out 7
  have lg0 : W31.heap.size < W73.heap.size := by omega
  go_wp2_with fail
  clear qg0_0 qg0_1 qg0_2 qg0_3 qg0_4 qg0_5 qg0_6 qg0_7 lg0
  refine (heldSk_any [.int .i64 Y.id, .int .i64 Y.kind, .int .i64 Y.hold, .bool Y.shut, .slice A33 Y.inn.length c34, .slice B35 Y.out.length d36, .int .i64 Y.st, .int .i64 Y.done] 1 Y W73 (Rep.reads skR Og0) FY (by omega)).mono ?_
  rintro e W74 ⟨he, hb⟩
  rw [HN54.out] at he
  subst he
  have ho := Rep.only_of_below hb
  clear hb
  have SW74 : W73.heap.size ≤ W74.heap.size := ho.size
  have HBW74 := Rep.Only.below HBW73 ho (by omega) (fun a ha => by cases ha)
  replace Og0 := Rep.own_only Og0 ho (fun a ha hb => by cases hb)
  replace Vg0 := Rep.var_only Vg0 ho (by omega) (fun hb => by cases hb)
  clear HBW73
  clear ho
  have nn75 : ((N54 : Int) != (N54 : Int)) = false := by simp
  go_wp2_with fail
  go_ret
  exact ⟨rfl, HBW74⟩

end Go.Proofs.Ytcelkmphdeaaeaa
