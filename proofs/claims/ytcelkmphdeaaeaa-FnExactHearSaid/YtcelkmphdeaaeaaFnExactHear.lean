/- The walk of the exact law of Hear (written by gen.py). -/
import Derived.Test.YtcelkmphdeaaeaaHearS
import Derived.Test.YtcelkmphdeaaeaaHearI
import Derived.Test.YtcelkmphdeaaeaaExactSk
import Derived.Test.YtcelkmphdeaaeaaExactB
namespace Go.Proofs.Ytcelkmphdeaaeaa
open Go.RowKit
set_option linter.unusedVariables false

set_option maxRecDepth 100000 in
set_option maxHeartbeats 4000000 in
theorem walk_FnExactHear (w : World) (cs0 : List Value) (x0 : Sk) (w0 : skR.at_ w w.heap.size cs0 x0) (k0 : OkSk x0) (cs1 : List Value) (x1 : List UInt8) (w1 : byR.at_ w w.heap.size cs1 x1) (k1 : OkAny x1) :
    Calls Try.prog 8 #[.agg cs0.toArray, cs1.headD undef] w fun e w' => e = .returned (.bool true) ∧ Below w.heap.size w w' := by
  obtain ⟨A1, c2, B3, d4, rfl⟩ := sk_at_shape w0
  have TaS := w0
  clear w0
  obtain ⟨A5, c6, rfl⟩ := byte_at_shape w1
  have TaB := w1
  clear w1
  have HBw := Below.refl w.heap.size w
  by_cases bigaB : 1048576 < x1.length
  · go_enter Try.func8, Try.ntmps8
    go_wp2_with fail
    go_ret
    exact ⟨rfl, by first | exact Below.refl _ _ | exact (Below.refl _ _).alloc (Nat.le_refl _) _⟩
  replace bigaB : x1.length ≤ 1048576 := by omega
  go_enter Try.func8, Try.ntmps8
  go_wp2_with fail
  have ho := Rep.only_alloc w (.cells #[.int .i64 x0.id, .int .i64 x0.kind, .int .i64 x0.hold, .bool x0.shut, .slice A1 x0.inn.length c2, .slice B3 x0.out.length d4, .int .i64 x0.st, .int .i64 x0.done] 57)
  have hv := heap_alloc_new w (.cells #[.int .i64 x0.id, .int .i64 x0.kind, .int .i64 x0.hold, .bool x0.shut, .slice A1 x0.inn.length c2, .slice B3 x0.out.length d4, .int .i64 x0.st, .int .i64 x0.done] 57)
  have hs : w.heap.size < (w.alloc (.cells #[.int .i64 x0.id, .int .i64 x0.kind, .int .i64 x0.hold, .bool x0.shut, .slice A1 x0.inn.length c2, .slice B3 x0.out.length d4, .int .i64 x0.st, .int .i64 x0.done] 57)).heap.size := by simp
  generalize hgW : w.alloc (.cells #[.int .i64 x0.id, .int .i64 x0.kind, .int .i64 x0.hold, .bool x0.shut, .slice A1 x0.inn.length c2, .slice B3 x0.out.length d4, .int .i64 x0.st, .int .i64 x0.done] 57) = W7 at ho hv hs ⊢
  clear hgW
  have SW7 : w.heap.size ≤ W7.heap.size := ho.size
  have HBW7 := Rep.Only.below HBw ho (by omega) (fun a ha => by cases ha)
  replace TaS := Rep.at_only TaS ho (by omega) (fun a ha => by cases ha)
  replace TaB := Rep.at_only TaB ho (by omega) (fun a ha => by cases ha)
  clear HBw
  have VaS := Lib.hid hv
  clear hv ho
  have ZW7 : w.heap.size < W7.heap.size := hs
  clear hs
  refine (szSk_room [.int .i64 x0.id, .int .i64 x0.kind, .int .i64 x0.hold, .bool x0.shut, .slice A1 x0.inn.length c2, .slice B3 x0.out.length d4, .int .i64 x0.st, .int .i64 x0.done] x0 1048576 W7 (Rep.more skR TaS (by omega)) (by omega)).mono ?_
  rintro e W8 ⟨hz, hb⟩
  have ho := Rep.only_of_below hb
  clear hb
  have SW8 : W7.heap.size ≤ W8.heap.size := ho.size
  have HBW8 := Rep.Only.below HBW7 ho (by omega) (fun a ha => by cases ha)
  replace TaS := Rep.at_only TaS ho (by omega) (fun a ha => by cases ha)
  replace TaB := Rep.at_only TaB ho (by omega) (fun a ha => by cases ha)
  replace VaS := Rep.var_only VaS ho (by omega) (fun hb => by cases hb)
  clear HBW7
  clear ho
  obtain ⟨z9, hz9, HfitaS, rfl⟩ | rfl := hz
  rotate_left
  · go_wp2_with fail
    go_ret
    exact ⟨rfl, HBW8⟩
  have RaS := Lib.hid HfitaS
  have FaS := Lib.hid HfitaS.fits
  clear HfitaS
  obtain ⟨⟨Y, Y2⟩, hy⟩ : ∃ Y, hearP x0 x1 = Y := ⟨_, rfl⟩
  have FY : FitsSk Y := by have h9 := fits_hear RaS.out bigaB; rw [hy] at h9; exact h9
  have ny : (Y2 != Y2) = false := by simp
  have HY := Lib.hid hy
  clear hy
  have qaS_0 : W8.cell? ⟨w.heap.size, 0, none⟩ = some (.int .i64 x0.id) := var_cell VaS.out 0
  have qaS_1 : W8.cell? ⟨w.heap.size, 1, none⟩ = some (.int .i64 x0.kind) := var_cell VaS.out 1
  have qaS_2 : W8.cell? ⟨w.heap.size, 2, none⟩ = some (.int .i64 x0.hold) := var_cell VaS.out 2
  have qaS_3 : W8.cell? ⟨w.heap.size, 3, none⟩ = some (.bool x0.shut) := var_cell VaS.out 3
  have qaS_4 : W8.cell? ⟨w.heap.size, 4, none⟩ = some (.slice A1 x0.inn.length c2) := var_cell VaS.out 4
  have qaS_5 : W8.cell? ⟨w.heap.size, 5, none⟩ = some (.slice B3 x0.out.length d4) := var_cell VaS.out 5
  have qaS_6 : W8.cell? ⟨w.heap.size, 6, none⟩ = some (.int .i64 x0.st) := var_cell VaS.out 6
  have qaS_7 : W8.cell? ⟨w.heap.size, 7, none⟩ = some (.int .i64 x0.done) := var_cell VaS.out 7
  have laS : w.heap.size < W8.heap.size := by omega
  go_wp2_with fail
  clear qaS_0 qaS_1 qaS_2 qaS_3 qaS_4 qaS_5 qaS_6 qaS_7 laS
  refine (toSk_rep [.int .i64 x0.id, .int .i64 x0.kind, .int .i64 x0.hold, .bool x0.shut, .slice A1 x0.inn.length c2, .slice B3 x0.out.length d4, .int .i64 x0.st, .int .i64 x0.done] x0 W8 (Rep.more skR TaS (by omega)) FaS.out).mono ?_
  rintro e W11 ⟨cs, fp12, rfl, Ot10, hb⟩
  obtain ⟨A13, c14, B15, d16, rfl⟩ := sk_own_shape Ot10
  have ho := Rep.only_of_below hb
  have L17 := Lib.hid (Rep.lt skR Ot10)
  clear hb
  have SW11 : W8.heap.size ≤ W11.heap.size := ho.size
  have HBW11 := Rep.Only.below HBW8 ho (by omega) (fun a ha => by cases ha)
  replace TaS := Rep.at_only TaS ho (by omega) (fun a ha => by cases ha)
  replace TaB := Rep.at_only TaB ho (by omega) (fun a ha => by cases ha)
  replace VaS := Rep.var_only VaS ho (by omega) (fun hb => by cases hb)
  clear HBW8
  clear ho
  go_wp2_with fail
  refine (toByteS_rep [.slice A5 x1.length c6] x1 W11 (Rep.more byR TaB (by omega)) bigaB).mono ?_
  rintro e W19 ⟨A21, c22, fp20, rfl, Ot18, hb⟩
  have ho := Rep.only_of_below hb
  have L23 := Lib.hid (Rep.lt byR Ot18)
  clear hb
  have SW19 : W11.heap.size ≤ W19.heap.size := ho.size
  have HBW19 := Rep.Only.below HBW11 ho (by omega) (fun a ha => by cases ha)
  replace TaS := Rep.at_only TaS ho (by omega) (fun a ha => by cases ha)
  replace TaB := Rep.at_only TaB ho (by omega) (fun a ha => by cases ha)
  replace Ot10 := Rep.own_only Ot10 ho (fun a ha hb => by cases hb)
  replace VaS := Rep.var_only VaS ho (by omega) (fun hb => by cases hb)
  clear HBW11
  clear ho
  go_wp2_with fail
  refine (hearS_rep [.int .i64 x0.id, .int .i64 x0.kind, .int .i64 x0.hold, .bool x0.shut, .slice A13 x0.inn.length c14, .slice B15 x0.out.length d16, .int .i64 x0.st, .int .i64 x0.done] x0 [.slice A21 x1.length c22] x1 W19 (Rep.reads skR Ot10) (Rep.reads byR Ot18) RaS.out bigaB).mono ?_
  rw [HY.out]
  rintro e W24 ⟨cs, fp25, rfl, Ow0, hb⟩
  replace Ow0 : skR.own W24 _ cs Y _ := Ow0
  obtain ⟨A26, c27, B28, d29, rfl⟩ := sk_own_shape Ow0
  have ho := Rep.only_of_below hb
  have L30 := Lib.hid (Rep.lt skR Ow0)
  clear hb
  have SW24 : W19.heap.size ≤ W24.heap.size := ho.size
  have HBW24 := Rep.Only.below HBW19 ho (by omega) (fun a ha => by cases ha)
  replace TaS := Rep.at_only TaS ho (by omega) (fun a ha => by cases ha)
  replace TaB := Rep.at_only TaB ho (by omega) (fun a ha => by cases ha)
  replace Ot10 := Rep.own_only Ot10 ho (fun a ha hb => by cases hb)
  replace Ot18 := Rep.own_only Ot18 ho (fun a ha hb => by cases hb)
  replace VaS := Rep.var_only VaS ho (by omega) (fun hb => by cases hb)
  clear HBW19
  clear ho
  have Tw0 := Rep.reads skR Ow0
  clear Ow0 L30
  clear Ot10 L17
  clear Ot18 L23
  have qaS_0 : W24.cell? ⟨w.heap.size, 0, none⟩ = some (.int .i64 x0.id) := var_cell VaS.out 0
  have qaS_1 : W24.cell? ⟨w.heap.size, 1, none⟩ = some (.int .i64 x0.kind) := var_cell VaS.out 1
  have qaS_2 : W24.cell? ⟨w.heap.size, 2, none⟩ = some (.int .i64 x0.hold) := var_cell VaS.out 2
  have qaS_3 : W24.cell? ⟨w.heap.size, 3, none⟩ = some (.bool x0.shut) := var_cell VaS.out 3
  have qaS_4 : W24.cell? ⟨w.heap.size, 4, none⟩ = some (.slice A1 x0.inn.length c2) := var_cell VaS.out 4
  have qaS_5 : W24.cell? ⟨w.heap.size, 5, none⟩ = some (.slice B3 x0.out.length d4) := var_cell VaS.out 5
  have qaS_6 : W24.cell? ⟨w.heap.size, 6, none⟩ = some (.int .i64 x0.st) := var_cell VaS.out 6
  have qaS_7 : W24.cell? ⟨w.heap.size, 7, none⟩ = some (.int .i64 x0.done) := var_cell VaS.out 7
  have laS : w.heap.size < W24.heap.size := by omega
  go_wp2_with fail
  clear qaS_0 qaS_1 qaS_2 qaS_3 qaS_4 qaS_5 qaS_6 qaS_7 laS
  have ho := Rep.only_alloc W24 (.cells #[.int .i64 Y.id, .int .i64 Y.kind, .int .i64 Y.hold, .bool Y.shut, .slice A26 Y.inn.length c27, .slice B28 Y.out.length d29, .int .i64 Y.st, .int .i64 Y.done] 25)
  have hv := heap_alloc_new W24 (.cells #[.int .i64 Y.id, .int .i64 Y.kind, .int .i64 Y.hold, .bool Y.shut, .slice A26 Y.inn.length c27, .slice B28 Y.out.length d29, .int .i64 Y.st, .int .i64 Y.done] 25)
  have hs : W24.heap.size < (W24.alloc (.cells #[.int .i64 Y.id, .int .i64 Y.kind, .int .i64 Y.hold, .bool Y.shut, .slice A26 Y.inn.length c27, .slice B28 Y.out.length d29, .int .i64 Y.st, .int .i64 Y.done] 25)).heap.size := by simp
  generalize hgW : W24.alloc (.cells #[.int .i64 Y.id, .int .i64 Y.kind, .int .i64 Y.hold, .bool Y.shut, .slice A26 Y.inn.length c27, .slice B28 Y.out.length d29, .int .i64 Y.st, .int .i64 Y.done] 25) = W31 at ho hv hs ⊢
  clear hgW
  have SW31 : W24.heap.size ≤ W31.heap.size := ho.size
  have HBW31 := Rep.Only.below HBW24 ho (by omega) (fun a ha => by cases ha)
  replace TaS := Rep.at_only TaS ho (by omega) (fun a ha => by cases ha)
  replace TaB := Rep.at_only TaB ho (by omega) (fun a ha => by cases ha)
  replace Tw0 := Rep.at_only Tw0 ho (by omega) (fun a ha => by cases ha)
  replace VaS := Rep.var_only VaS ho (by omega) (fun hb => by cases hb)
  clear HBW24
  have Vw0 := Lib.hid hv
  clear hv ho
  have ZW31 : W24.heap.size < W31.heap.size := hs
  clear hs
  refine (toSk_rep [.int .i64 x0.id, .int .i64 x0.kind, .int .i64 x0.hold, .bool x0.shut, .slice A1 x0.inn.length c2, .slice B3 x0.out.length d4, .int .i64 x0.st, .int .i64 x0.done] x0 W31 (Rep.more skR TaS (by omega)) FaS.out).mono ?_
  rintro e W32 ⟨cs, fp33, rfl, Ox0, hb⟩
  obtain ⟨A34, c35, B36, d37, rfl⟩ := sk_own_shape Ox0
  have ho := Rep.only_of_below hb
  have L38 := Lib.hid (Rep.lt skR Ox0)
  clear hb
  have SW32 : W31.heap.size ≤ W32.heap.size := ho.size
  have HBW32 := Rep.Only.below HBW31 ho (by omega) (fun a ha => by cases ha)
  replace TaS := Rep.at_only TaS ho (by omega) (fun a ha => by cases ha)
  replace TaB := Rep.at_only TaB ho (by omega) (fun a ha => by cases ha)
  replace Tw0 := Rep.at_only Tw0 ho (by omega) (fun a ha => by cases ha)
  replace VaS := Rep.var_only VaS ho (by omega) (fun hb => by cases hb)
  replace Vw0 := Rep.var_only Vw0 ho (by omega) (fun hb => by cases hb)
  clear HBW31
  clear ho
  go_wp2_with fail
  have ho := Rep.only_alloc W32 (.cells #[.int .i64 x0.id, .int .i64 x0.kind, .int .i64 x0.hold, .bool x0.shut, .slice A34 x0.inn.length c35, .slice B36 x0.out.length d37, .int .i64 x0.st, .int .i64 x0.done] 25)
  have hv := heap_alloc_new W32 (.cells #[.int .i64 x0.id, .int .i64 x0.kind, .int .i64 x0.hold, .bool x0.shut, .slice A34 x0.inn.length c35, .slice B36 x0.out.length d37, .int .i64 x0.st, .int .i64 x0.done] 25)
  have hs : W32.heap.size < (W32.alloc (.cells #[.int .i64 x0.id, .int .i64 x0.kind, .int .i64 x0.hold, .bool x0.shut, .slice A34 x0.inn.length c35, .slice B36 x0.out.length d37, .int .i64 x0.st, .int .i64 x0.done] 25)).heap.size := by simp
  generalize hgW : W32.alloc (.cells #[.int .i64 x0.id, .int .i64 x0.kind, .int .i64 x0.hold, .bool x0.shut, .slice A34 x0.inn.length c35, .slice B36 x0.out.length d37, .int .i64 x0.st, .int .i64 x0.done] 25) = W39 at ho hv hs ⊢
  clear hgW
  have SW39 : W32.heap.size ≤ W39.heap.size := ho.size
  have HBW39 := Rep.Only.below HBW32 ho (by omega) (fun a ha => by cases ha)
  replace TaS := Rep.at_only TaS ho (by omega) (fun a ha => by cases ha)
  replace TaB := Rep.at_only TaB ho (by omega) (fun a ha => by cases ha)
  replace Tw0 := Rep.at_only Tw0 ho (by omega) (fun a ha => by cases ha)
  replace Ox0 := Rep.own_only Ox0 ho (fun a ha hb => by cases hb)
  replace VaS := Rep.var_only VaS ho (by omega) (fun hb => by cases hb)
  replace Vw0 := Rep.var_only Vw0 ho (by omega) (fun hb => by cases hb)
  clear HBW32
  have Vx0 := Lib.hid hv
  clear hv ho
  have ZW39 : W32.heap.size < W39.heap.size := hs
  clear hs
  refine (toByteS_rep [.slice A5 x1.length c6] x1 W39 (Rep.more byR TaB (by omega)) bigaB).mono ?_
  rintro e W40 ⟨A42, c43, fp41, rfl, Ox1, hb⟩
  have ho := Rep.only_of_below hb
  have L44 := Lib.hid (Rep.lt byR Ox1)
  clear hb
  have SW40 : W39.heap.size ≤ W40.heap.size := ho.size
  have HBW40 := Rep.Only.below HBW39 ho (by omega) (fun a ha => by cases ha)
  replace TaS := Rep.at_only TaS ho (by omega) (fun a ha => by cases ha)
  replace TaB := Rep.at_only TaB ho (by omega) (fun a ha => by cases ha)
  replace Tw0 := Rep.at_only Tw0 ho (by omega) (fun a ha => by cases ha)
  replace Ox0 := Rep.own_only Ox0 ho (fun a ha hb => by cases hb)
  replace VaS := Rep.var_only VaS ho (by omega) (fun hb => by cases hb)
  replace Vw0 := Rep.var_only Vw0 ho (by omega) (fun hb => by cases hb)
  replace Vx0 := Rep.var_only Vx0 ho (by omega) (fun hb => by cases hb)
  clear HBW39
  clear ho
  have qx0_0 : W40.cell? ⟨W32.heap.size, 0, none⟩ = some (.int .i64 x0.id) := var_cell Vx0.out 0
  have qx0_1 : W40.cell? ⟨W32.heap.size, 1, none⟩ = some (.int .i64 x0.kind) := var_cell Vx0.out 1
  have qx0_2 : W40.cell? ⟨W32.heap.size, 2, none⟩ = some (.int .i64 x0.hold) := var_cell Vx0.out 2
  have qx0_3 : W40.cell? ⟨W32.heap.size, 3, none⟩ = some (.bool x0.shut) := var_cell Vx0.out 3
  have qx0_4 : W40.cell? ⟨W32.heap.size, 4, none⟩ = some (.slice A34 x0.inn.length c35) := var_cell Vx0.out 4
  have qx0_5 : W40.cell? ⟨W32.heap.size, 5, none⟩ = some (.slice B36 x0.out.length d37) := var_cell Vx0.out 5
  have qx0_6 : W40.cell? ⟨W32.heap.size, 6, none⟩ = some (.int .i64 x0.st) := var_cell Vx0.out 6
  have qx0_7 : W40.cell? ⟨W32.heap.size, 7, none⟩ = some (.int .i64 x0.done) := var_cell Vx0.out 7
  have lx0 : W32.heap.size < W40.heap.size := by omega
  go_wp2_with fail
  clear qx0_0 qx0_1 qx0_2 qx0_3 qx0_4 qx0_5 qx0_6 qx0_7 lx0
  refine (hear_rep [.int .i64 x0.id, .int .i64 x0.kind, .int .i64 x0.hold, .bool x0.shut, .slice A34 x0.inn.length c35, .slice B36 x0.out.length d37, .int .i64 x0.st, .int .i64 x0.done] x0 [.slice A42 x1.length c43] x1 W40 (Rep.reads skR Ox0) (Rep.reads byR Ox1) RaS.out bigaB).mono ?_
  rw [HY.out]
  rintro e W45 ⟨cs, fp46, rfl, Og0, hb⟩
  replace Og0 : skR.own W45 _ cs Y _ := Og0
  obtain ⟨A47, c48, B49, d50, rfl⟩ := sk_own_shape Og0
  have ho := Rep.only_of_below hb
  have L51 := Lib.hid (Rep.lt skR Og0)
  clear hb
  have SW45 : W40.heap.size ≤ W45.heap.size := ho.size
  have HBW45 := Rep.Only.below HBW40 ho (by omega) (fun a ha => by cases ha)
  replace TaS := Rep.at_only TaS ho (by omega) (fun a ha => by cases ha)
  replace TaB := Rep.at_only TaB ho (by omega) (fun a ha => by cases ha)
  replace Tw0 := Rep.at_only Tw0 ho (by omega) (fun a ha => by cases ha)
  replace Ox0 := Rep.own_only Ox0 ho (fun a ha hb => by cases hb)
  replace Ox1 := Rep.own_only Ox1 ho (fun a ha hb => by cases hb)
  replace VaS := Rep.var_only VaS ho (by omega) (fun hb => by cases hb)
  replace Vw0 := Rep.var_only Vw0 ho (by omega) (fun hb => by cases hb)
  replace Vx0 := Rep.var_only Vx0 ho (by omega) (fun hb => by cases hb)
  clear HBW40
  clear ho
  have qw0_0 : W45.cell? ⟨W24.heap.size, 0, none⟩ = some (.int .i64 Y.id) := var_cell Vw0.out 0
  have qw0_1 : W45.cell? ⟨W24.heap.size, 1, none⟩ = some (.int .i64 Y.kind) := var_cell Vw0.out 1
  have qw0_2 : W45.cell? ⟨W24.heap.size, 2, none⟩ = some (.int .i64 Y.hold) := var_cell Vw0.out 2
  have qw0_3 : W45.cell? ⟨W24.heap.size, 3, none⟩ = some (.bool Y.shut) := var_cell Vw0.out 3
  have qw0_4 : W45.cell? ⟨W24.heap.size, 4, none⟩ = some (.slice A26 Y.inn.length c27) := var_cell Vw0.out 4
  have qw0_5 : W45.cell? ⟨W24.heap.size, 5, none⟩ = some (.slice B28 Y.out.length d29) := var_cell Vw0.out 5
  have qw0_6 : W45.cell? ⟨W24.heap.size, 6, none⟩ = some (.int .i64 Y.st) := var_cell Vw0.out 6
  have qw0_7 : W45.cell? ⟨W24.heap.size, 7, none⟩ = some (.int .i64 Y.done) := var_cell Vw0.out 7
  have lw0 : W24.heap.size < W45.heap.size := by omega
  go_wp2_with fail
  clear qw0_0 qw0_1 qw0_2 qw0_3 qw0_4 qw0_5 qw0_6 qw0_7 lw0
  have ho := Rep.only_alloc W45 (.cells #[.int .i64 Y.id, .int .i64 Y.kind, .int .i64 Y.hold, .bool Y.shut, .slice A47 Y.inn.length c48, .slice B49 Y.out.length d50, .int .i64 Y.st, .int .i64 Y.done] 25)
  have hv := heap_alloc_new W45 (.cells #[.int .i64 Y.id, .int .i64 Y.kind, .int .i64 Y.hold, .bool Y.shut, .slice A47 Y.inn.length c48, .slice B49 Y.out.length d50, .int .i64 Y.st, .int .i64 Y.done] 25)
  have hs : W45.heap.size < (W45.alloc (.cells #[.int .i64 Y.id, .int .i64 Y.kind, .int .i64 Y.hold, .bool Y.shut, .slice A47 Y.inn.length c48, .slice B49 Y.out.length d50, .int .i64 Y.st, .int .i64 Y.done] 25)).heap.size := by simp
  generalize hgW : W45.alloc (.cells #[.int .i64 Y.id, .int .i64 Y.kind, .int .i64 Y.hold, .bool Y.shut, .slice A47 Y.inn.length c48, .slice B49 Y.out.length d50, .int .i64 Y.st, .int .i64 Y.done] 25) = W52 at ho hv hs ⊢
  clear hgW
  have SW52 : W45.heap.size ≤ W52.heap.size := ho.size
  have HBW52 := Rep.Only.below HBW45 ho (by omega) (fun a ha => by cases ha)
  replace TaS := Rep.at_only TaS ho (by omega) (fun a ha => by cases ha)
  replace TaB := Rep.at_only TaB ho (by omega) (fun a ha => by cases ha)
  replace Tw0 := Rep.at_only Tw0 ho (by omega) (fun a ha => by cases ha)
  replace Ox0 := Rep.own_only Ox0 ho (fun a ha hb => by cases hb)
  replace Ox1 := Rep.own_only Ox1 ho (fun a ha hb => by cases hb)
  replace Og0 := Rep.own_only Og0 ho (fun a ha hb => by cases hb)
  replace VaS := Rep.var_only VaS ho (by omega) (fun hb => by cases hb)
  replace Vw0 := Rep.var_only Vw0 ho (by omega) (fun hb => by cases hb)
  replace Vx0 := Rep.var_only Vx0 ho (by omega) (fun hb => by cases hb)
  clear HBW45
  have Vg0 := Lib.hid hv
  clear hv ho
  have ZW52 : W45.heap.size < W52.heap.size := hs
  clear hs
  refine (eqSk_same [.int .i64 Y.id, .int .i64 Y.kind, .int .i64 Y.hold, .bool Y.shut, .slice A47 Y.inn.length c48, .slice B49 Y.out.length d50, .int .i64 Y.st, .int .i64 Y.done] [.int .i64 Y.id, .int .i64 Y.kind, .int .i64 Y.hold, .bool Y.shut, .slice A26 Y.inn.length c27, .slice B28 Y.out.length d29, .int .i64 Y.st, .int .i64 Y.done] Y W52 (Rep.reads skR Og0) (Rep.more skR Tw0 (by omega)) FY).mono ?_
  rintro e W53 ⟨rfl, hb⟩
  have ho := Rep.only_of_below hb
  clear hb
  have SW53 : W52.heap.size ≤ W53.heap.size := ho.size
  have HBW53 := Rep.Only.below HBW52 ho (by omega) (fun a ha => by cases ha)
  replace TaS := Rep.at_only TaS ho (by omega) (fun a ha => by cases ha)
  replace TaB := Rep.at_only TaB ho (by omega) (fun a ha => by cases ha)
  replace Tw0 := Rep.at_only Tw0 ho (by omega) (fun a ha => by cases ha)
  replace Ox0 := Rep.own_only Ox0 ho (fun a ha hb => by cases hb)
  replace Ox1 := Rep.own_only Ox1 ho (fun a ha hb => by cases hb)
  replace Og0 := Rep.own_only Og0 ho (fun a ha hb => by cases hb)
  replace VaS := Rep.var_only VaS ho (by omega) (fun hb => by cases hb)
  replace Vw0 := Rep.var_only Vw0 ho (by omega) (fun hb => by cases hb)
  replace Vx0 := Rep.var_only Vx0 ho (by omega) (fun hb => by cases hb)
  replace Vg0 := Rep.var_only Vg0 ho (by omega) (fun hb => by cases hb)
  clear HBW52
  clear ho
  have qx0_0 : W53.cell? ⟨W32.heap.size, 0, none⟩ = some (.int .i64 x0.id) := var_cell Vx0.out 0
  have qx0_1 : W53.cell? ⟨W32.heap.size, 1, none⟩ = some (.int .i64 x0.kind) := var_cell Vx0.out 1
  have qx0_2 : W53.cell? ⟨W32.heap.size, 2, none⟩ = some (.int .i64 x0.hold) := var_cell Vx0.out 2
  have qx0_3 : W53.cell? ⟨W32.heap.size, 3, none⟩ = some (.bool x0.shut) := var_cell Vx0.out 3
  have qx0_4 : W53.cell? ⟨W32.heap.size, 4, none⟩ = some (.slice A34 x0.inn.length c35) := var_cell Vx0.out 4
  have qx0_5 : W53.cell? ⟨W32.heap.size, 5, none⟩ = some (.slice B36 x0.out.length d37) := var_cell Vx0.out 5
  have qx0_6 : W53.cell? ⟨W32.heap.size, 6, none⟩ = some (.int .i64 x0.st) := var_cell Vx0.out 6
  have qx0_7 : W53.cell? ⟨W32.heap.size, 7, none⟩ = some (.int .i64 x0.done) := var_cell Vx0.out 7
  have lx0 : W32.heap.size < W53.heap.size := by omega
  have qaS_0 : W53.cell? ⟨w.heap.size, 0, none⟩ = some (.int .i64 x0.id) := var_cell VaS.out 0
  have qaS_1 : W53.cell? ⟨w.heap.size, 1, none⟩ = some (.int .i64 x0.kind) := var_cell VaS.out 1
  have qaS_2 : W53.cell? ⟨w.heap.size, 2, none⟩ = some (.int .i64 x0.hold) := var_cell VaS.out 2
  have qaS_3 : W53.cell? ⟨w.heap.size, 3, none⟩ = some (.bool x0.shut) := var_cell VaS.out 3
  have qaS_4 : W53.cell? ⟨w.heap.size, 4, none⟩ = some (.slice A1 x0.inn.length c2) := var_cell VaS.out 4
  have qaS_5 : W53.cell? ⟨w.heap.size, 5, none⟩ = some (.slice B3 x0.out.length d4) := var_cell VaS.out 5
  have qaS_6 : W53.cell? ⟨w.heap.size, 6, none⟩ = some (.int .i64 x0.st) := var_cell VaS.out 6
  have qaS_7 : W53.cell? ⟨w.heap.size, 7, none⟩ = some (.int .i64 x0.done) := var_cell VaS.out 7
  have laS : w.heap.size < W53.heap.size := by omega
  go_wp2_with fail
  clear qx0_0 qx0_1 qx0_2 qx0_3 qx0_4 qx0_5 qx0_6 qx0_7 lx0 qaS_0 qaS_1 qaS_2 qaS_3 qaS_4 qaS_5 qaS_6 qaS_7 laS
  go_region_held3 (fun w' => w'.cell? ⟨W32.heap.size, 0, none⟩ = some (.int .i64 x0.id) ∧ w'.cell? ⟨W32.heap.size, 1, none⟩ = some (.int .i64 x0.kind) ∧ w'.cell? ⟨W32.heap.size, 2, none⟩ = some (.int .i64 x0.hold) ∧ w'.cell? ⟨W32.heap.size, 3, none⟩ = some (.bool x0.shut) ∧ w'.cell? ⟨W32.heap.size, 4, none⟩ = some (.slice A34 x0.inn.length c35) ∧ w'.cell? ⟨W32.heap.size, 5, none⟩ = some (.slice B36 x0.out.length d37) ∧ w'.cell? ⟨W32.heap.size, 6, none⟩ = some (.int .i64 x0.st) ∧ w'.cell? ⟨W32.heap.size, 7, none⟩ = some (.int .i64 x0.done) ∧ w'.cell? ⟨w.heap.size, 0, none⟩ = some (.int .i64 x0.id) ∧ w'.cell? ⟨w.heap.size, 1, none⟩ = some (.int .i64 x0.kind) ∧ w'.cell? ⟨w.heap.size, 2, none⟩ = some (.int .i64 x0.hold) ∧ w'.cell? ⟨w.heap.size, 3, none⟩ = some (.bool x0.shut) ∧ w'.cell? ⟨w.heap.size, 4, none⟩ = some (.slice A1 x0.inn.length c2) ∧ w'.cell? ⟨w.heap.size, 5, none⟩ = some (.slice B3 x0.out.length d4) ∧ w'.cell? ⟨w.heap.size, 6, none⟩ = some (.int .i64 x0.st) ∧ w'.cell? ⟨w.heap.size, 7, none⟩ = some (.int .i64 x0.done)) (exact ⟨var_cell Vx0.out 0, var_cell Vx0.out 1, var_cell Vx0.out 2, var_cell Vx0.out 3, var_cell Vx0.out 4, var_cell Vx0.out 5, var_cell Vx0.out 6, var_cell Vx0.out 7, var_cell VaS.out 0, var_cell VaS.out 1, var_cell VaS.out 2, var_cell VaS.out 3, var_cell VaS.out 4, var_cell VaS.out 5, var_cell VaS.out 6, var_cell VaS.out 7⟩) (first
    | (go_at_call 43
       have ho := Rep.only_drew W53
       generalize W53.drew = W54 at ho ⊢
       have SW54 : W53.heap.size ≤ W54.heap.size := ho.size
       have HBW54 := Rep.Only.below HBW53 ho (by omega) (fun a ha => by cases ha)
       replace TaS := Rep.at_only TaS ho (by omega) (fun a ha => by cases ha)
       replace TaB := Rep.at_only TaB ho (by omega) (fun a ha => by cases ha)
       replace Tw0 := Rep.at_only Tw0 ho (by omega) (fun a ha => by cases ha)
       replace Ox0 := Rep.own_only Ox0 ho (fun a ha hb => by cases hb)
       replace Ox1 := Rep.own_only Ox1 ho (fun a ha hb => by cases hb)
       replace Og0 := Rep.own_only Og0 ho (fun a ha hb => by cases hb)
       replace VaS := Rep.var_only VaS ho (by omega) (fun hb => by cases hb)
       replace Vw0 := Rep.var_only Vw0 ho (by omega) (fun hb => by cases hb)
       replace Vx0 := Rep.var_only Vx0 ho (by omega) (fun hb => by cases hb)
       replace Vg0 := Rep.var_only Vg0 ho (by omega) (fun hb => by cases hb)
       clear HBW53
       clear ho
       refine (toSk_rep [.int .i64 x0.id, .int .i64 x0.kind, .int .i64 x0.hold, .bool x0.shut, .slice A1 x0.inn.length c2, .slice B3 x0.out.length d4, .int .i64 x0.st, .int .i64 x0.done] x0 W54 (Rep.more skR TaS (by omega)) FaS.out).mono ?_
       rintro e W56 ⟨cs, fp57, rfl, Ot55, hb⟩
       obtain ⟨A58, c59, B60, d61, rfl⟩ := sk_own_shape Ot55
       have ho := Rep.only_of_below hb
       have L62 := Lib.hid (Rep.lt skR Ot55)
       clear hb
       have SW56 : W54.heap.size ≤ W56.heap.size := ho.size
       have HBW56 := Rep.Only.below HBW54 ho (by omega) (fun a ha => by cases ha)
       replace TaS := Rep.at_only TaS ho (by omega) (fun a ha => by cases ha)
       replace TaB := Rep.at_only TaB ho (by omega) (fun a ha => by cases ha)
       replace Tw0 := Rep.at_only Tw0 ho (by omega) (fun a ha => by cases ha)
       replace Ox0 := Rep.own_only Ox0 ho (fun a ha hb => by cases hb)
       replace Ox1 := Rep.own_only Ox1 ho (fun a ha hb => by cases hb)
       replace Og0 := Rep.own_only Og0 ho (fun a ha hb => by cases hb)
       replace VaS := Rep.var_only VaS ho (by omega) (fun hb => by cases hb)
       replace Vw0 := Rep.var_only Vw0 ho (by omega) (fun hb => by cases hb)
       replace Vx0 := Rep.var_only Vx0 ho (by omega) (fun hb => by cases hb)
       replace Vg0 := Rep.var_only Vg0 ho (by omega) (fun hb => by cases hb)
       clear HBW54
       clear ho)
    | (go_at_call 44
       refine (eqSk_same [.int .i64 x0.id, .int .i64 x0.kind, .int .i64 x0.hold, .bool x0.shut, .slice A34 x0.inn.length c35, .slice B36 x0.out.length d37, .int .i64 x0.st, .int .i64 x0.done] [.int .i64 x0.id, .int .i64 x0.kind, .int .i64 x0.hold, .bool x0.shut, .slice A58 x0.inn.length c59, .slice B60 x0.out.length d61, .int .i64 x0.st, .int .i64 x0.done] x0 W56 (Rep.reads skR Ox0) (Rep.reads skR Ot55) FaS.out).mono ?_
       rintro e W63 ⟨rfl, hb⟩
       have ho := Rep.only_of_below hb
       clear hb
       have SW63 : W56.heap.size ≤ W63.heap.size := ho.size
       have HBW63 := Rep.Only.below HBW56 ho (by omega) (fun a ha => by cases ha)
       replace TaS := Rep.at_only TaS ho (by omega) (fun a ha => by cases ha)
       replace TaB := Rep.at_only TaB ho (by omega) (fun a ha => by cases ha)
       replace Tw0 := Rep.at_only Tw0 ho (by omega) (fun a ha => by cases ha)
       replace Ox0 := Rep.own_only Ox0 ho (fun a ha hb => by cases hb)
       replace Ox1 := Rep.own_only Ox1 ho (fun a ha hb => by cases hb)
       replace Og0 := Rep.own_only Og0 ho (fun a ha hb => by cases hb)
       replace Ot55 := Rep.own_only Ot55 ho (fun a ha hb => by cases hb)
       replace VaS := Rep.var_only VaS ho (by omega) (fun hb => by cases hb)
       replace Vw0 := Rep.var_only Vw0 ho (by omega) (fun hb => by cases hb)
       replace Vx0 := Rep.var_only Vx0 ho (by omega) (fun hb => by cases hb)
       replace Vg0 := Rep.var_only Vg0 ho (by omega) (fun hb => by cases hb)
       clear HBW56
       clear ho))
  clear Ot55 L62
  go_wp2_with fail
  refine (toByteS_rep [.slice A5 x1.length c6] x1 W63 (Rep.more byR TaB (by omega)) bigaB).mono ?_
  rintro e W65 ⟨A67, c68, fp66, rfl, Ot64, hb⟩
  have ho := Rep.only_of_below hb
  have L69 := Lib.hid (Rep.lt byR Ot64)
  clear hb
  have SW65 : W63.heap.size ≤ W65.heap.size := ho.size
  have HBW65 := Rep.Only.below HBW63 ho (by omega) (fun a ha => by cases ha)
  replace TaS := Rep.at_only TaS ho (by omega) (fun a ha => by cases ha)
  replace TaB := Rep.at_only TaB ho (by omega) (fun a ha => by cases ha)
  replace Tw0 := Rep.at_only Tw0 ho (by omega) (fun a ha => by cases ha)
  replace Ox0 := Rep.own_only Ox0 ho (fun a ha hb => by cases hb)
  replace Ox1 := Rep.own_only Ox1 ho (fun a ha hb => by cases hb)
  replace Og0 := Rep.own_only Og0 ho (fun a ha hb => by cases hb)
  replace VaS := Rep.var_only VaS ho (by omega) (fun hb => by cases hb)
  replace Vw0 := Rep.var_only Vw0 ho (by omega) (fun hb => by cases hb)
  replace Vx0 := Rep.var_only Vx0 ho (by omega) (fun hb => by cases hb)
  replace Vg0 := Rep.var_only Vg0 ho (by omega) (fun hb => by cases hb)
  clear HBW63
  clear ho
  go_wp2_with fail
  refine (eqByteS_rep [.slice A42 x1.length c43] [.slice A67 x1.length c68] x1 W65 (Rep.reads byR Ox1) (Rep.reads byR Ot64) bigaB).mono ?_
  rintro e W70 ⟨rfl, hb⟩
  have ho := Rep.only_of_below hb
  clear hb
  have SW70 : W65.heap.size ≤ W70.heap.size := ho.size
  have HBW70 := Rep.Only.below HBW65 ho (by omega) (fun a ha => by cases ha)
  replace TaS := Rep.at_only TaS ho (by omega) (fun a ha => by cases ha)
  replace TaB := Rep.at_only TaB ho (by omega) (fun a ha => by cases ha)
  replace Tw0 := Rep.at_only Tw0 ho (by omega) (fun a ha => by cases ha)
  replace Ox0 := Rep.own_only Ox0 ho (fun a ha hb => by cases hb)
  replace Ox1 := Rep.own_only Ox1 ho (fun a ha hb => by cases hb)
  replace Og0 := Rep.own_only Og0 ho (fun a ha hb => by cases hb)
  replace Ot64 := Rep.own_only Ot64 ho (fun a ha hb => by cases hb)
  replace VaS := Rep.var_only VaS ho (by omega) (fun hb => by cases hb)
  replace Vw0 := Rep.var_only Vw0 ho (by omega) (fun hb => by cases hb)
  replace Vx0 := Rep.var_only Vx0 ho (by omega) (fun hb => by cases hb)
  replace Vg0 := Rep.var_only Vg0 ho (by omega) (fun hb => by cases hb)
  clear HBW65
  clear ho
  clear Ot64 L69
  have qx0_0 : W70.cell? ⟨W32.heap.size, 0, none⟩ = some (.int .i64 x0.id) := var_cell Vx0.out 0
  have qx0_1 : W70.cell? ⟨W32.heap.size, 1, none⟩ = some (.int .i64 x0.kind) := var_cell Vx0.out 1
  have qx0_2 : W70.cell? ⟨W32.heap.size, 2, none⟩ = some (.int .i64 x0.hold) := var_cell Vx0.out 2
  have qx0_3 : W70.cell? ⟨W32.heap.size, 3, none⟩ = some (.bool x0.shut) := var_cell Vx0.out 3
  have qx0_4 : W70.cell? ⟨W32.heap.size, 4, none⟩ = some (.slice A34 x0.inn.length c35) := var_cell Vx0.out 4
  have qx0_5 : W70.cell? ⟨W32.heap.size, 5, none⟩ = some (.slice B36 x0.out.length d37) := var_cell Vx0.out 5
  have qx0_6 : W70.cell? ⟨W32.heap.size, 6, none⟩ = some (.int .i64 x0.st) := var_cell Vx0.out 6
  have qx0_7 : W70.cell? ⟨W32.heap.size, 7, none⟩ = some (.int .i64 x0.done) := var_cell Vx0.out 7
  have lx0 : W32.heap.size < W70.heap.size := by omega
  go_wp2_with fail
  clear qx0_0 qx0_1 qx0_2 qx0_3 qx0_4 qx0_5 qx0_6 qx0_7 lx0
  obtain ⟨N72, hN, hN2⟩ : ∃ N : Nat, 1 + cntSk x0 = N ∧ N ≤ 1 + 8796093022208 := ⟨_, rfl, by have := cntSk_le FaS.out; omega⟩
  have HN72 := Lib.hid hN
  have BN72 := hN2
  clear hN hN2
  refine (markSk_any [.int .i64 x0.id, .int .i64 x0.kind, .int .i64 x0.hold, .bool x0.shut, .slice A34 x0.inn.length c35, .slice B36 x0.out.length d37, .int .i64 x0.st, .int .i64 x0.done] 1 x0 fp33 W70 _ Ox0 FaS.out (by omega)).mono ?_
  rintro e W71 ⟨he, hown, ho⟩
  rw [HN72.out] at he
  subst he
  replace Ox0 := hown
  clear hown
  have SW71 : W70.heap.size ≤ W71.heap.size := ho.size
  have HBW71 := Rep.Only.below HBW70 ho (by omega) (fun a ha => by have := (L38.out a ha).1; omega)
  replace TaS := Rep.at_only TaS ho (by omega) (fun a ha => by have := (L38.out a ha).1; omega)
  replace TaB := Rep.at_only TaB ho (by omega) (fun a ha => by have := (L38.out a ha).1; omega)
  replace Tw0 := Rep.at_only Tw0 ho (by omega) (fun a ha => by have := (L38.out a ha).1; omega)
  replace Ox1 := Rep.own_only Ox1 ho (fun a ha hb => by have := L44.out a ha; have := L38.out a hb; omega)
  replace Og0 := Rep.own_only Og0 ho (fun a ha hb => by have := L51.out a ha; have := L38.out a hb; omega)
  replace VaS := Rep.var_only VaS ho (by omega) (fun hb => by have := L38.out _ hb; omega)
  replace Vw0 := Rep.var_only Vw0 ho (by omega) (fun hb => by have := L38.out _ hb; omega)
  replace Vx0 := Rep.var_only Vx0 ho (by omega) (fun hb => by have := L38.out _ hb; omega)
  replace Vg0 := Rep.var_only Vg0 ho (by omega) (fun hb => by have := L38.out _ hb; omega)
  clear HBW70
  clear ho
  go_wp2_with fail
  obtain ⟨N74, hN, hN2⟩ : ∃ N : Nat, N72 + List.length x1 = N ∧ N ≤ N72 + 8796093022208 := ⟨_, rfl, by have := byte_cnt_le bigaB; omega⟩
  have HN74 := Lib.hid hN
  have BN74 := hN2
  clear hN hN2
  refine (markByteS_rep [.slice A42 x1.length c43] N72 x1 fp41 W71 _ Ox1 bigaB (by omega)).mono ?_
  rintro e W73 ⟨he, hown, ho⟩
  rw [HN74.out] at he
  subst he
  replace Ox1 := hown
  clear hown
  have SW73 : W71.heap.size ≤ W73.heap.size := ho.size
  have HBW73 := Rep.Only.below HBW71 ho (by omega) (fun a ha => by have := (L44.out a ha).1; omega)
  replace TaS := Rep.at_only TaS ho (by omega) (fun a ha => by have := (L44.out a ha).1; omega)
  replace TaB := Rep.at_only TaB ho (by omega) (fun a ha => by have := (L44.out a ha).1; omega)
  replace Tw0 := Rep.at_only Tw0 ho (by omega) (fun a ha => by have := (L44.out a ha).1; omega)
  replace Ox0 := Rep.own_only Ox0 ho (fun a ha hb => by have := L38.out a ha; have := L44.out a hb; omega)
  replace Og0 := Rep.own_only Og0 ho (fun a ha hb => by have := L51.out a ha; have := L44.out a hb; omega)
  replace VaS := Rep.var_only VaS ho (by omega) (fun hb => by have := L44.out _ hb; omega)
  replace Vw0 := Rep.var_only Vw0 ho (by omega) (fun hb => by have := L44.out _ hb; omega)
  replace Vx0 := Rep.var_only Vx0 ho (by omega) (fun hb => by have := L44.out _ hb; omega)
  replace Vg0 := Rep.var_only Vg0 ho (by omega) (fun hb => by have := L44.out _ hb; omega)
  clear HBW71
  clear ho
  have qg0_0 : W73.cell? ⟨W45.heap.size, 0, none⟩ = some (.int .i64 Y.id) := var_cell Vg0.out 0
  have qg0_1 : W73.cell? ⟨W45.heap.size, 1, none⟩ = some (.int .i64 Y.kind) := var_cell Vg0.out 1
  have qg0_2 : W73.cell? ⟨W45.heap.size, 2, none⟩ = some (.int .i64 Y.hold) := var_cell Vg0.out 2
  have qg0_3 : W73.cell? ⟨W45.heap.size, 3, none⟩ = some (.bool Y.shut) := var_cell Vg0.out 3
  have qg0_4 : W73.cell? ⟨W45.heap.size, 4, none⟩ = some (.slice A47 Y.inn.length c48) := var_cell Vg0.out 4
  have qg0_5 : W73.cell? ⟨W45.heap.size, 5, none⟩ = some (.slice B49 Y.out.length d50) := var_cell Vg0.out 5
  have qg0_6 : W73.cell? ⟨W45.heap.size, 6, none⟩ = some (.int .i64 Y.st) := var_cell Vg0.out 6
  have qg0_7 : W73.cell? ⟨W45.heap.size, 7, none⟩ = some (.int .i64 Y.done) := var_cell Vg0.out 7
  have lg0 : W45.heap.size < W73.heap.size := by omega
  have qw0_0 : W73.cell? ⟨W24.heap.size, 0, none⟩ = some (.int .i64 Y.id) := var_cell Vw0.out 0
  have qw0_1 : W73.cell? ⟨W24.heap.size, 1, none⟩ = some (.int .i64 Y.kind) := var_cell Vw0.out 1
  have qw0_2 : W73.cell? ⟨W24.heap.size, 2, none⟩ = some (.int .i64 Y.hold) := var_cell Vw0.out 2
  have qw0_3 : W73.cell? ⟨W24.heap.size, 3, none⟩ = some (.bool Y.shut) := var_cell Vw0.out 3
  have qw0_4 : W73.cell? ⟨W24.heap.size, 4, none⟩ = some (.slice A26 Y.inn.length c27) := var_cell Vw0.out 4
  have qw0_5 : W73.cell? ⟨W24.heap.size, 5, none⟩ = some (.slice B28 Y.out.length d29) := var_cell Vw0.out 5
  have qw0_6 : W73.cell? ⟨W24.heap.size, 6, none⟩ = some (.int .i64 Y.st) := var_cell Vw0.out 6
  have qw0_7 : W73.cell? ⟨W24.heap.size, 7, none⟩ = some (.int .i64 Y.done) := var_cell Vw0.out 7
  have lw0 : W24.heap.size < W73.heap.size := by omega
  go_wp2_with fail
  clear qg0_0 qg0_1 qg0_2 qg0_3 qg0_4 qg0_5 qg0_6 qg0_7 lg0 qw0_0 qw0_1 qw0_2 qw0_3 qw0_4 qw0_5 qw0_6 qw0_7 lw0
  refine (eqSk_same [.int .i64 Y.id, .int .i64 Y.kind, .int .i64 Y.hold, .bool Y.shut, .slice A47 Y.inn.length c48, .slice B49 Y.out.length d50, .int .i64 Y.st, .int .i64 Y.done] [.int .i64 Y.id, .int .i64 Y.kind, .int .i64 Y.hold, .bool Y.shut, .slice A26 Y.inn.length c27, .slice B28 Y.out.length d29, .int .i64 Y.st, .int .i64 Y.done] Y W73 (Rep.reads skR Og0) (Rep.more skR Tw0 (by omega)) FY).mono ?_
  rintro e W75 ⟨rfl, hb⟩
  have ho := Rep.only_of_below hb
  clear hb
  have SW75 : W73.heap.size ≤ W75.heap.size := ho.size
  have HBW75 := Rep.Only.below HBW73 ho (by omega) (fun a ha => by cases ha)
  replace TaS := Rep.at_only TaS ho (by omega) (fun a ha => by cases ha)
  replace TaB := Rep.at_only TaB ho (by omega) (fun a ha => by cases ha)
  replace Tw0 := Rep.at_only Tw0 ho (by omega) (fun a ha => by cases ha)
  replace Ox0 := Rep.own_only Ox0 ho (fun a ha hb => by cases hb)
  replace Ox1 := Rep.own_only Ox1 ho (fun a ha hb => by cases hb)
  replace Og0 := Rep.own_only Og0 ho (fun a ha hb => by cases hb)
  replace VaS := Rep.var_only VaS ho (by omega) (fun hb => by cases hb)
  replace Vw0 := Rep.var_only Vw0 ho (by omega) (fun hb => by cases hb)
  replace Vx0 := Rep.var_only Vx0 ho (by omega) (fun hb => by cases hb)
  replace Vg0 := Rep.var_only Vg0 ho (by omega) (fun hb => by cases hb)
  clear HBW73
  clear ho
  have qg0_0 : W75.cell? ⟨W45.heap.size, 0, none⟩ = some (.int .i64 Y.id) := var_cell Vg0.out 0
  have qg0_1 : W75.cell? ⟨W45.heap.size, 1, none⟩ = some (.int .i64 Y.kind) := var_cell Vg0.out 1
  have qg0_2 : W75.cell? ⟨W45.heap.size, 2, none⟩ = some (.int .i64 Y.hold) := var_cell Vg0.out 2
  have qg0_3 : W75.cell? ⟨W45.heap.size, 3, none⟩ = some (.bool Y.shut) := var_cell Vg0.out 3
  have qg0_4 : W75.cell? ⟨W45.heap.size, 4, none⟩ = some (.slice A47 Y.inn.length c48) := var_cell Vg0.out 4
  have qg0_5 : W75.cell? ⟨W45.heap.size, 5, none⟩ = some (.slice B49 Y.out.length d50) := var_cell Vg0.out 5
  have qg0_6 : W75.cell? ⟨W45.heap.size, 6, none⟩ = some (.int .i64 Y.st) := var_cell Vg0.out 6
  have qg0_7 : W75.cell? ⟨W45.heap.size, 7, none⟩ = some (.int .i64 Y.done) := var_cell Vg0.out 7
  have lg0 : W45.heap.size < W75.heap.size := by omega
  go_wp2_with fail
  clear qg0_0 qg0_1 qg0_2 qg0_3 qg0_4 qg0_5 qg0_6 qg0_7 lg0
  obtain ⟨N77, hN, hN2⟩ : ∃ N : Nat, 1 + cntSk Y = N ∧ N ≤ 1 + 8796093022208 := ⟨_, rfl, by have := cntSk_le FY; omega⟩
  have HN77 := Lib.hid hN
  have BN77 := hN2
  clear hN hN2
  refine (markSk_any [.int .i64 Y.id, .int .i64 Y.kind, .int .i64 Y.hold, .bool Y.shut, .slice A47 Y.inn.length c48, .slice B49 Y.out.length d50, .int .i64 Y.st, .int .i64 Y.done] 1 Y fp46 W75 _ Og0 FY (by omega)).mono ?_
  rintro e W76 ⟨he, hown, ho⟩
  rw [HN77.out] at he
  subst he
  replace Og0 := hown
  clear hown
  have SW76 : W75.heap.size ≤ W76.heap.size := ho.size
  have HBW76 := Rep.Only.below HBW75 ho (by omega) (fun a ha => by have := (L51.out a ha).1; omega)
  replace TaS := Rep.at_only TaS ho (by omega) (fun a ha => by have := (L51.out a ha).1; omega)
  replace TaB := Rep.at_only TaB ho (by omega) (fun a ha => by have := (L51.out a ha).1; omega)
  replace Tw0 := Rep.at_only Tw0 ho (by omega) (fun a ha => by have := (L51.out a ha).1; omega)
  replace Ox0 := Rep.own_only Ox0 ho (fun a ha hb => by have := L38.out a ha; have := L51.out a hb; omega)
  replace Ox1 := Rep.own_only Ox1 ho (fun a ha hb => by have := L44.out a ha; have := L51.out a hb; omega)
  replace VaS := Rep.var_only VaS ho (by omega) (fun hb => by have := L51.out _ hb; omega)
  replace Vw0 := Rep.var_only Vw0 ho (by omega) (fun hb => by have := L51.out _ hb; omega)
  replace Vx0 := Rep.var_only Vx0 ho (by omega) (fun hb => by have := L51.out _ hb; omega)
  replace Vg0 := Rep.var_only Vg0 ho (by omega) (fun hb => by have := L51.out _ hb; omega)
  clear HBW75
  clear ho
  clear Ox0 L38
  clear Ox1 L44
  have qg0_0 : W76.cell? ⟨W45.heap.size, 0, none⟩ = some (.int .i64 Y.id) := var_cell Vg0.out 0
  have qg0_1 : W76.cell? ⟨W45.heap.size, 1, none⟩ = some (.int .i64 Y.kind) := var_cell Vg0.out 1
  have qg0_2 : W76.cell? ⟨W45.heap.size, 2, none⟩ = some (.int .i64 Y.hold) := var_cell Vg0.out 2
  have qg0_3 : W76.cell? ⟨W45.heap.size, 3, none⟩ = some (.bool Y.shut) := var_cell Vg0.out 3
  have qg0_4 : W76.cell? ⟨W45.heap.size, 4, none⟩ = some (.slice A47 Y.inn.length c48) := var_cell Vg0.out 4
  have qg0_5 : W76.cell? ⟨W45.heap.size, 5, none⟩ = some (.slice B49 Y.out.length d50) := var_cell Vg0.out 5
  have qg0_6 : W76.cell? ⟨W45.heap.size, 6, none⟩ = some (.int .i64 Y.st) := var_cell Vg0.out 6
  have qg0_7 : W76.cell? ⟨W45.heap.size, 7, none⟩ = some (.int .i64 Y.done) := var_cell Vg0.out 7
  have lg0 : W45.heap.size < W76.heap.size := by omega
  go_wp2_with fail
  clear qg0_0 qg0_1 qg0_2 qg0_3 qg0_4 qg0_5 qg0_6 qg0_7 lg0
  refine (heldSk_any [.int .i64 Y.id, .int .i64 Y.kind, .int .i64 Y.hold, .bool Y.shut, .slice A47 Y.inn.length c48, .slice B49 Y.out.length d50, .int .i64 Y.st, .int .i64 Y.done] 1 Y W76 (Rep.reads skR Og0) FY (by omega)).mono ?_
  rintro e W78 ⟨he, hb⟩
  rw [HN77.out] at he
  subst he
  have ho := Rep.only_of_below hb
  clear hb
  have SW78 : W76.heap.size ≤ W78.heap.size := ho.size
  have HBW78 := Rep.Only.below HBW76 ho (by omega) (fun a ha => by cases ha)
  replace TaS := Rep.at_only TaS ho (by omega) (fun a ha => by cases ha)
  replace TaB := Rep.at_only TaB ho (by omega) (fun a ha => by cases ha)
  replace Tw0 := Rep.at_only Tw0 ho (by omega) (fun a ha => by cases ha)
  replace Og0 := Rep.own_only Og0 ho (fun a ha hb => by cases hb)
  replace VaS := Rep.var_only VaS ho (by omega) (fun hb => by cases hb)
  replace Vw0 := Rep.var_only Vw0 ho (by omega) (fun hb => by cases hb)
  replace Vg0 := Rep.var_only Vg0 ho (by omega) (fun hb => by cases hb)
  clear HBW76
  clear ho
  have nn79 : ((N77 : Int) != (N77 : Int)) = false := by simp
  have qaS_0 : W78.cell? ⟨w.heap.size, 0, none⟩ = some (.int .i64 x0.id) := var_cell VaS.out 0
  have qaS_1 : W78.cell? ⟨w.heap.size, 1, none⟩ = some (.int .i64 x0.kind) := var_cell VaS.out 1
  have qaS_2 : W78.cell? ⟨w.heap.size, 2, none⟩ = some (.int .i64 x0.hold) := var_cell VaS.out 2
  have qaS_3 : W78.cell? ⟨w.heap.size, 3, none⟩ = some (.bool x0.shut) := var_cell VaS.out 3
  have qaS_4 : W78.cell? ⟨w.heap.size, 4, none⟩ = some (.slice A1 x0.inn.length c2) := var_cell VaS.out 4
  have qaS_5 : W78.cell? ⟨w.heap.size, 5, none⟩ = some (.slice B3 x0.out.length d4) := var_cell VaS.out 5
  have qaS_6 : W78.cell? ⟨w.heap.size, 6, none⟩ = some (.int .i64 x0.st) := var_cell VaS.out 6
  have qaS_7 : W78.cell? ⟨w.heap.size, 7, none⟩ = some (.int .i64 x0.done) := var_cell VaS.out 7
  have laS : w.heap.size < W78.heap.size := by omega
  go_wp2_with fail
  clear qaS_0 qaS_1 qaS_2 qaS_3 qaS_4 qaS_5 qaS_6 qaS_7 laS
  refine (toSk_rep [.int .i64 x0.id, .int .i64 x0.kind, .int .i64 x0.hold, .bool x0.shut, .slice A1 x0.inn.length c2, .slice B3 x0.out.length d4, .int .i64 x0.st, .int .i64 x0.done] x0 W78 (Rep.more skR TaS (by omega)) FaS.out).mono ?_
  rintro e W81 ⟨cs, fp82, rfl, Ot80, hb⟩
  obtain ⟨A83, c84, B85, d86, rfl⟩ := sk_own_shape Ot80
  have ho := Rep.only_of_below hb
  have L87 := Lib.hid (Rep.lt skR Ot80)
  clear hb
  have SW81 : W78.heap.size ≤ W81.heap.size := ho.size
  have HBW81 := Rep.Only.below HBW78 ho (by omega) (fun a ha => by cases ha)
  replace TaS := Rep.at_only TaS ho (by omega) (fun a ha => by cases ha)
  replace TaB := Rep.at_only TaB ho (by omega) (fun a ha => by cases ha)
  replace Tw0 := Rep.at_only Tw0 ho (by omega) (fun a ha => by cases ha)
  replace Og0 := Rep.own_only Og0 ho (fun a ha hb => by cases hb)
  replace VaS := Rep.var_only VaS ho (by omega) (fun hb => by cases hb)
  replace Vw0 := Rep.var_only Vw0 ho (by omega) (fun hb => by cases hb)
  replace Vg0 := Rep.var_only Vg0 ho (by omega) (fun hb => by cases hb)
  clear HBW78
  clear ho
  go_wp2_with fail
  refine (toByteS_rep [.slice A5 x1.length c6] x1 W81 (Rep.more byR TaB (by omega)) bigaB).mono ?_
  rintro e W89 ⟨A91, c92, fp90, rfl, Ot88, hb⟩
  have ho := Rep.only_of_below hb
  have L93 := Lib.hid (Rep.lt byR Ot88)
  clear hb
  have SW89 : W81.heap.size ≤ W89.heap.size := ho.size
  have HBW89 := Rep.Only.below HBW81 ho (by omega) (fun a ha => by cases ha)
  replace TaS := Rep.at_only TaS ho (by omega) (fun a ha => by cases ha)
  replace TaB := Rep.at_only TaB ho (by omega) (fun a ha => by cases ha)
  replace Tw0 := Rep.at_only Tw0 ho (by omega) (fun a ha => by cases ha)
  replace Og0 := Rep.own_only Og0 ho (fun a ha hb => by cases hb)
  replace Ot80 := Rep.own_only Ot80 ho (fun a ha hb => by cases hb)
  replace VaS := Rep.var_only VaS ho (by omega) (fun hb => by cases hb)
  replace Vw0 := Rep.var_only Vw0 ho (by omega) (fun hb => by cases hb)
  replace Vg0 := Rep.var_only Vg0 ho (by omega) (fun hb => by cases hb)
  clear HBW81
  clear ho
  go_wp2_with fail
  refine (hear_rep [.int .i64 x0.id, .int .i64 x0.kind, .int .i64 x0.hold, .bool x0.shut, .slice A83 x0.inn.length c84, .slice B85 x0.out.length d86, .int .i64 x0.st, .int .i64 x0.done] x0 [.slice A91 x1.length c92] x1 W89 (Rep.reads skR Ot80) (Rep.reads byR Ot88) RaS.out bigaB).mono ?_
  rw [HY.out]
  rintro e W94 ⟨cs, fp95, rfl, Oh0, hb⟩
  replace Oh0 : skR.own W94 _ cs Y _ := Oh0
  obtain ⟨A96, c97, B98, d99, rfl⟩ := sk_own_shape Oh0
  have ho := Rep.only_of_below hb
  have L100 := Lib.hid (Rep.lt skR Oh0)
  clear hb
  have SW94 : W89.heap.size ≤ W94.heap.size := ho.size
  have HBW94 := Rep.Only.below HBW89 ho (by omega) (fun a ha => by cases ha)
  replace TaS := Rep.at_only TaS ho (by omega) (fun a ha => by cases ha)
  replace TaB := Rep.at_only TaB ho (by omega) (fun a ha => by cases ha)
  replace Tw0 := Rep.at_only Tw0 ho (by omega) (fun a ha => by cases ha)
  replace Og0 := Rep.own_only Og0 ho (fun a ha hb => by cases hb)
  replace Ot80 := Rep.own_only Ot80 ho (fun a ha hb => by cases hb)
  replace Ot88 := Rep.own_only Ot88 ho (fun a ha hb => by cases hb)
  replace VaS := Rep.var_only VaS ho (by omega) (fun hb => by cases hb)
  replace Vw0 := Rep.var_only Vw0 ho (by omega) (fun hb => by cases hb)
  replace Vg0 := Rep.var_only Vg0 ho (by omega) (fun hb => by cases hb)
  clear HBW89
  clear ho
  clear Ot80 L87
  clear Ot88 L93
  have qw0_0 : W94.cell? ⟨W24.heap.size, 0, none⟩ = some (.int .i64 Y.id) := var_cell Vw0.out 0
  have qw0_1 : W94.cell? ⟨W24.heap.size, 1, none⟩ = some (.int .i64 Y.kind) := var_cell Vw0.out 1
  have qw0_2 : W94.cell? ⟨W24.heap.size, 2, none⟩ = some (.int .i64 Y.hold) := var_cell Vw0.out 2
  have qw0_3 : W94.cell? ⟨W24.heap.size, 3, none⟩ = some (.bool Y.shut) := var_cell Vw0.out 3
  have qw0_4 : W94.cell? ⟨W24.heap.size, 4, none⟩ = some (.slice A26 Y.inn.length c27) := var_cell Vw0.out 4
  have qw0_5 : W94.cell? ⟨W24.heap.size, 5, none⟩ = some (.slice B28 Y.out.length d29) := var_cell Vw0.out 5
  have qw0_6 : W94.cell? ⟨W24.heap.size, 6, none⟩ = some (.int .i64 Y.st) := var_cell Vw0.out 6
  have qw0_7 : W94.cell? ⟨W24.heap.size, 7, none⟩ = some (.int .i64 Y.done) := var_cell Vw0.out 7
  have lw0 : W24.heap.size < W94.heap.size := by omega
  go_wp2_with fail
  clear qw0_0 qw0_1 qw0_2 qw0_3 qw0_4 qw0_5 qw0_6 qw0_7 lw0
  have ho := Rep.only_alloc W94 (.cells #[.int .i64 Y.id, .int .i64 Y.kind, .int .i64 Y.hold, .bool Y.shut, .slice A96 Y.inn.length c97, .slice B98 Y.out.length d99, .int .i64 Y.st, .int .i64 Y.done] 25)
  have hv := heap_alloc_new W94 (.cells #[.int .i64 Y.id, .int .i64 Y.kind, .int .i64 Y.hold, .bool Y.shut, .slice A96 Y.inn.length c97, .slice B98 Y.out.length d99, .int .i64 Y.st, .int .i64 Y.done] 25)
  have hs : W94.heap.size < (W94.alloc (.cells #[.int .i64 Y.id, .int .i64 Y.kind, .int .i64 Y.hold, .bool Y.shut, .slice A96 Y.inn.length c97, .slice B98 Y.out.length d99, .int .i64 Y.st, .int .i64 Y.done] 25)).heap.size := by simp
  generalize hgW : W94.alloc (.cells #[.int .i64 Y.id, .int .i64 Y.kind, .int .i64 Y.hold, .bool Y.shut, .slice A96 Y.inn.length c97, .slice B98 Y.out.length d99, .int .i64 Y.st, .int .i64 Y.done] 25) = W101 at ho hv hs ⊢
  clear hgW
  have SW101 : W94.heap.size ≤ W101.heap.size := ho.size
  have HBW101 := Rep.Only.below HBW94 ho (by omega) (fun a ha => by cases ha)
  replace TaS := Rep.at_only TaS ho (by omega) (fun a ha => by cases ha)
  replace TaB := Rep.at_only TaB ho (by omega) (fun a ha => by cases ha)
  replace Tw0 := Rep.at_only Tw0 ho (by omega) (fun a ha => by cases ha)
  replace Og0 := Rep.own_only Og0 ho (fun a ha hb => by cases hb)
  replace Oh0 := Rep.own_only Oh0 ho (fun a ha hb => by cases hb)
  replace VaS := Rep.var_only VaS ho (by omega) (fun hb => by cases hb)
  replace Vw0 := Rep.var_only Vw0 ho (by omega) (fun hb => by cases hb)
  replace Vg0 := Rep.var_only Vg0 ho (by omega) (fun hb => by cases hb)
  clear HBW94
  have Vh0 := Lib.hid hv
  clear hv ho
  have ZW101 : W94.heap.size < W101.heap.size := hs
  clear hs
  refine (eqSk_same [.int .i64 Y.id, .int .i64 Y.kind, .int .i64 Y.hold, .bool Y.shut, .slice A96 Y.inn.length c97, .slice B98 Y.out.length d99, .int .i64 Y.st, .int .i64 Y.done] [.int .i64 Y.id, .int .i64 Y.kind, .int .i64 Y.hold, .bool Y.shut, .slice A26 Y.inn.length c27, .slice B28 Y.out.length d29, .int .i64 Y.st, .int .i64 Y.done] Y W101 (Rep.reads skR Oh0) (Rep.more skR Tw0 (by omega)) FY).mono ?_
  rintro e W102 ⟨rfl, hb⟩
  have ho := Rep.only_of_below hb
  clear hb
  have SW102 : W101.heap.size ≤ W102.heap.size := ho.size
  have HBW102 := Rep.Only.below HBW101 ho (by omega) (fun a ha => by cases ha)
  replace TaS := Rep.at_only TaS ho (by omega) (fun a ha => by cases ha)
  replace TaB := Rep.at_only TaB ho (by omega) (fun a ha => by cases ha)
  replace Tw0 := Rep.at_only Tw0 ho (by omega) (fun a ha => by cases ha)
  replace Og0 := Rep.own_only Og0 ho (fun a ha hb => by cases hb)
  replace Oh0 := Rep.own_only Oh0 ho (fun a ha hb => by cases hb)
  replace VaS := Rep.var_only VaS ho (by omega) (fun hb => by cases hb)
  replace Vw0 := Rep.var_only Vw0 ho (by omega) (fun hb => by cases hb)
  replace Vg0 := Rep.var_only Vg0 ho (by omega) (fun hb => by cases hb)
  replace Vh0 := Rep.var_only Vh0 ho (by omega) (fun hb => by cases hb)
  clear HBW101
  clear ho
  clear Oh0 L100
  clear TaS
  clear TaB
  clear Tw0
  have qg0_0 : W102.cell? ⟨W45.heap.size, 0, none⟩ = some (.int .i64 Y.id) := var_cell Vg0.out 0
  have qg0_1 : W102.cell? ⟨W45.heap.size, 1, none⟩ = some (.int .i64 Y.kind) := var_cell Vg0.out 1
  have qg0_2 : W102.cell? ⟨W45.heap.size, 2, none⟩ = some (.int .i64 Y.hold) := var_cell Vg0.out 2
  have qg0_3 : W102.cell? ⟨W45.heap.size, 3, none⟩ = some (.bool Y.shut) := var_cell Vg0.out 3
  have qg0_4 : W102.cell? ⟨W45.heap.size, 4, none⟩ = some (.slice A47 Y.inn.length c48) := var_cell Vg0.out 4
  have qg0_5 : W102.cell? ⟨W45.heap.size, 5, none⟩ = some (.slice B49 Y.out.length d50) := var_cell Vg0.out 5
  have qg0_6 : W102.cell? ⟨W45.heap.size, 6, none⟩ = some (.int .i64 Y.st) := var_cell Vg0.out 6
  have qg0_7 : W102.cell? ⟨W45.heap.size, 7, none⟩ = some (.int .i64 Y.done) := var_cell Vg0.out 7
  have lg0 : W45.heap.size < W102.heap.size := by omega
  go_wp2_with fail
  clear qg0_0 qg0_1 qg0_2 qg0_3 qg0_4 qg0_5 qg0_6 qg0_7 lg0
  refine (heldSk_any [.int .i64 Y.id, .int .i64 Y.kind, .int .i64 Y.hold, .bool Y.shut, .slice A47 Y.inn.length c48, .slice B49 Y.out.length d50, .int .i64 Y.st, .int .i64 Y.done] 1 Y W102 (Rep.reads skR Og0) FY (by omega)).mono ?_
  rintro e W103 ⟨he, hb⟩
  rw [HN77.out] at he
  subst he
  have ho := Rep.only_of_below hb
  clear hb
  have SW103 : W102.heap.size ≤ W103.heap.size := ho.size
  have HBW103 := Rep.Only.below HBW102 ho (by omega) (fun a ha => by cases ha)
  replace Og0 := Rep.own_only Og0 ho (fun a ha hb => by cases hb)
  replace Vg0 := Rep.var_only Vg0 ho (by omega) (fun hb => by cases hb)
  clear HBW102
  clear ho
  have nn104 : ((N77 : Int) != (N77 : Int)) = false := by simp
  go_wp2_with fail
  go_ret
  exact ⟨rfl, HBW103⟩

end Go.Proofs.Ytcelkmphdeaaeaa
