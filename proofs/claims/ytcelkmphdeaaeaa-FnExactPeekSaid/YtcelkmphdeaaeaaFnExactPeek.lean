/- The walk of the exact law of Peek (written by gen.py). -/
import Derived.Test.YtcelkmphdeaaeaaPeek
import Derived.Test.YtcelkmphdeaaeaaExactFr
import Derived.Test.YtcelkmphdeaaeaaExactB
namespace Go.Proofs.Ytcelkmphdeaaeaa
open Go.RowKit
set_option linter.unusedVariables false

set_option maxRecDepth 100000 in
set_option maxHeartbeats 4000000 in
theorem walk_FnExactPeek (w : World) (cs0 : List Value) (x0 : Sk) (w0 : skR.at_ w w.heap.size cs0 x0) (k0 : OkSk x0) :
    Calls Try.prog 9 #[.agg cs0.toArray] w fun e w' => e = .returned (.bool true) ∧ Below w.heap.size w w' := by
  obtain ⟨A1, c2, B3, d4, rfl⟩ := sk_at_shape w0
  have TaS := w0
  clear w0
  have HBw := Below.refl w.heap.size w
  go_enter Try.func9, Try.ntmps9
  go_wp2_with fail
  have ho := Rep.only_alloc w (.cells #[.int .i64 x0.id, .int .i64 x0.kind, .int .i64 x0.hold, .bool x0.shut, .slice A1 x0.inn.length c2, .slice B3 x0.out.length d4, .int .i64 x0.st, .int .i64 x0.done] 57)
  have hv := heap_alloc_new w (.cells #[.int .i64 x0.id, .int .i64 x0.kind, .int .i64 x0.hold, .bool x0.shut, .slice A1 x0.inn.length c2, .slice B3 x0.out.length d4, .int .i64 x0.st, .int .i64 x0.done] 57)
  have hs : w.heap.size < (w.alloc (.cells #[.int .i64 x0.id, .int .i64 x0.kind, .int .i64 x0.hold, .bool x0.shut, .slice A1 x0.inn.length c2, .slice B3 x0.out.length d4, .int .i64 x0.st, .int .i64 x0.done] 57)).heap.size := by simp
  generalize hgW : w.alloc (.cells #[.int .i64 x0.id, .int .i64 x0.kind, .int .i64 x0.hold, .bool x0.shut, .slice A1 x0.inn.length c2, .slice B3 x0.out.length d4, .int .i64 x0.st, .int .i64 x0.done] 57) = W5 at ho hv hs ⊢
  clear hgW
  have SW5 : w.heap.size ≤ W5.heap.size := ho.size
  have HBW5 := Rep.Only.below HBw ho (by omega) (fun a ha => by cases ha)
  replace TaS := Rep.at_only TaS ho (by omega) (fun a ha => by cases ha)
  clear HBw
  have VaS := Lib.hid hv
  clear hv ho
  have ZW5 : w.heap.size < W5.heap.size := hs
  clear hs
  refine (szSk_room [.int .i64 x0.id, .int .i64 x0.kind, .int .i64 x0.hold, .bool x0.shut, .slice A1 x0.inn.length c2, .slice B3 x0.out.length d4, .int .i64 x0.st, .int .i64 x0.done] x0 1048576 W5 (Rep.more skR TaS (by omega)) (by omega)).mono ?_
  rintro e W6 ⟨hz, hb⟩
  have ho := Rep.only_of_below hb
  clear hb
  have SW6 : W5.heap.size ≤ W6.heap.size := ho.size
  have HBW6 := Rep.Only.below HBW5 ho (by omega) (fun a ha => by cases ha)
  replace TaS := Rep.at_only TaS ho (by omega) (fun a ha => by cases ha)
  replace VaS := Rep.var_only VaS ho (by omega) (fun hb => by cases hb)
  clear HBW5
  clear ho
  obtain ⟨z7, hz7, HfitaS, rfl⟩ | rfl := hz
  rotate_left
  · go_wp2_with fail
    go_ret
    exact ⟨rfl, HBW6⟩
  have RaS := Lib.hid HfitaS
  have FaS := Lib.hid HfitaS.fits
  clear HfitaS
  obtain ⟨⟨Y, Y2⟩, hy⟩ : ∃ Y, peekP x0 = Y := ⟨_, rfl⟩
  have FY : FitsFr Y := by have h9 := fits_peek RaS.out; rw [hy] at h9; exact h9
  have ny : (Y2 != Y2) = false := by simp
  have HY := Lib.hid hy
  clear hy
  have qaS_0 : W6.cell? ⟨w.heap.size, 0, none⟩ = some (.int .i64 x0.id) := var_cell VaS.out 0
  have qaS_1 : W6.cell? ⟨w.heap.size, 1, none⟩ = some (.int .i64 x0.kind) := var_cell VaS.out 1
  have qaS_2 : W6.cell? ⟨w.heap.size, 2, none⟩ = some (.int .i64 x0.hold) := var_cell VaS.out 2
  have qaS_3 : W6.cell? ⟨w.heap.size, 3, none⟩ = some (.bool x0.shut) := var_cell VaS.out 3
  have qaS_4 : W6.cell? ⟨w.heap.size, 4, none⟩ = some (.slice A1 x0.inn.length c2) := var_cell VaS.out 4
  have qaS_5 : W6.cell? ⟨w.heap.size, 5, none⟩ = some (.slice B3 x0.out.length d4) := var_cell VaS.out 5
  have qaS_6 : W6.cell? ⟨w.heap.size, 6, none⟩ = some (.int .i64 x0.st) := var_cell VaS.out 6
  have qaS_7 : W6.cell? ⟨w.heap.size, 7, none⟩ = some (.int .i64 x0.done) := var_cell VaS.out 7
  have laS : w.heap.size < W6.heap.size := by omega
  go_wp2_with fail
  clear qaS_0 qaS_1 qaS_2 qaS_3 qaS_4 qaS_5 qaS_6 qaS_7 laS
  refine (toSk_rep [.int .i64 x0.id, .int .i64 x0.kind, .int .i64 x0.hold, .bool x0.shut, .slice A1 x0.inn.length c2, .slice B3 x0.out.length d4, .int .i64 x0.st, .int .i64 x0.done] x0 W6 (Rep.more skR TaS (by omega)) FaS.out).mono ?_
  rintro e W9 ⟨cs, fp10, rfl, Ot8, hb⟩
  obtain ⟨A11, c12, B13, d14, rfl⟩ := sk_own_shape Ot8
  have ho := Rep.only_of_below hb
  have L15 := Lib.hid (Rep.lt skR Ot8)
  clear hb
  have SW9 : W6.heap.size ≤ W9.heap.size := ho.size
  have HBW9 := Rep.Only.below HBW6 ho (by omega) (fun a ha => by cases ha)
  replace TaS := Rep.at_only TaS ho (by omega) (fun a ha => by cases ha)
  replace VaS := Rep.var_only VaS ho (by omega) (fun hb => by cases hb)
  clear HBW6
  clear ho
  go_wp2_with fail
  refine (peekS_rep [.int .i64 x0.id, .int .i64 x0.kind, .int .i64 x0.hold, .bool x0.shut, .slice A11 x0.inn.length c12, .slice B13 x0.out.length d14, .int .i64 x0.st, .int .i64 x0.done] x0 W9 (Rep.reads skR Ot8) RaS.out).mono ?_
  rw [HY.out]
  rintro e W16 ⟨cs, fp17, rfl, Ow0, hb⟩
  replace Ow0 : frR.own W16 _ cs Y _ := Ow0
  obtain rfl := fr_own_shape Ow0
  have ho := Rep.only_of_below hb
  have L18 := Lib.hid (Rep.lt frR Ow0)
  clear hb
  have SW16 : W9.heap.size ≤ W16.heap.size := ho.size
  have HBW16 := Rep.Only.below HBW9 ho (by omega) (fun a ha => by cases ha)
  replace TaS := Rep.at_only TaS ho (by omega) (fun a ha => by cases ha)
  replace Ot8 := Rep.own_only Ot8 ho (fun a ha hb => by cases hb)
  replace VaS := Rep.var_only VaS ho (by omega) (fun hb => by cases hb)
  clear HBW9
  clear ho
  have Tw0 := Rep.reads frR Ow0
  clear Ow0 L18
  clear Ot8 L15
  have qaS_0 : W16.cell? ⟨w.heap.size, 0, none⟩ = some (.int .i64 x0.id) := var_cell VaS.out 0
  have qaS_1 : W16.cell? ⟨w.heap.size, 1, none⟩ = some (.int .i64 x0.kind) := var_cell VaS.out 1
  have qaS_2 : W16.cell? ⟨w.heap.size, 2, none⟩ = some (.int .i64 x0.hold) := var_cell VaS.out 2
  have qaS_3 : W16.cell? ⟨w.heap.size, 3, none⟩ = some (.bool x0.shut) := var_cell VaS.out 3
  have qaS_4 : W16.cell? ⟨w.heap.size, 4, none⟩ = some (.slice A1 x0.inn.length c2) := var_cell VaS.out 4
  have qaS_5 : W16.cell? ⟨w.heap.size, 5, none⟩ = some (.slice B3 x0.out.length d4) := var_cell VaS.out 5
  have qaS_6 : W16.cell? ⟨w.heap.size, 6, none⟩ = some (.int .i64 x0.st) := var_cell VaS.out 6
  have qaS_7 : W16.cell? ⟨w.heap.size, 7, none⟩ = some (.int .i64 x0.done) := var_cell VaS.out 7
  have laS : w.heap.size < W16.heap.size := by omega
  go_wp2_with fail
  clear qaS_0 qaS_1 qaS_2 qaS_3 qaS_4 qaS_5 qaS_6 qaS_7 laS
  have ho := Rep.only_alloc W16 (.cells #[.int .i64 Y.k, .string Y.s, .int .i64 Y.st] 33)
  have hv := heap_alloc_new W16 (.cells #[.int .i64 Y.k, .string Y.s, .int .i64 Y.st] 33)
  have hs : W16.heap.size < (W16.alloc (.cells #[.int .i64 Y.k, .string Y.s, .int .i64 Y.st] 33)).heap.size := by simp
  generalize hgW : W16.alloc (.cells #[.int .i64 Y.k, .string Y.s, .int .i64 Y.st] 33) = W19 at ho hv hs ⊢
  clear hgW
  have SW19 : W16.heap.size ≤ W19.heap.size := ho.size
  have HBW19 := Rep.Only.below HBW16 ho (by omega) (fun a ha => by cases ha)
  replace TaS := Rep.at_only TaS ho (by omega) (fun a ha => by cases ha)
  replace Tw0 := Rep.at_only Tw0 ho (by omega) (fun a ha => by cases ha)
  replace VaS := Rep.var_only VaS ho (by omega) (fun hb => by cases hb)
  clear HBW16
  have Vw0 := Lib.hid hv
  clear hv ho
  have ZW19 : W16.heap.size < W19.heap.size := hs
  clear hs
  refine (toSk_rep [.int .i64 x0.id, .int .i64 x0.kind, .int .i64 x0.hold, .bool x0.shut, .slice A1 x0.inn.length c2, .slice B3 x0.out.length d4, .int .i64 x0.st, .int .i64 x0.done] x0 W19 (Rep.more skR TaS (by omega)) FaS.out).mono ?_
  rintro e W20 ⟨cs, fp21, rfl, Ox0, hb⟩
  obtain ⟨A22, c23, B24, d25, rfl⟩ := sk_own_shape Ox0
  have ho := Rep.only_of_below hb
  have L26 := Lib.hid (Rep.lt skR Ox0)
  clear hb
  have SW20 : W19.heap.size ≤ W20.heap.size := ho.size
  have HBW20 := Rep.Only.below HBW19 ho (by omega) (fun a ha => by cases ha)
  replace TaS := Rep.at_only TaS ho (by omega) (fun a ha => by cases ha)
  replace Tw0 := Rep.at_only Tw0 ho (by omega) (fun a ha => by cases ha)
  replace VaS := Rep.var_only VaS ho (by omega) (fun hb => by cases hb)
  replace Vw0 := Rep.var_only Vw0 ho (by omega) (fun hb => by cases hb)
  clear HBW19
  clear ho
  go_wp2_with fail
  have ho := Rep.only_alloc W20 (.cells #[.int .i64 x0.id, .int .i64 x0.kind, .int .i64 x0.hold, .bool x0.shut, .slice A22 x0.inn.length c23, .slice B24 x0.out.length d25, .int .i64 x0.st, .int .i64 x0.done] 25)
  have hv := heap_alloc_new W20 (.cells #[.int .i64 x0.id, .int .i64 x0.kind, .int .i64 x0.hold, .bool x0.shut, .slice A22 x0.inn.length c23, .slice B24 x0.out.length d25, .int .i64 x0.st, .int .i64 x0.done] 25)
  have hs : W20.heap.size < (W20.alloc (.cells #[.int .i64 x0.id, .int .i64 x0.kind, .int .i64 x0.hold, .bool x0.shut, .slice A22 x0.inn.length c23, .slice B24 x0.out.length d25, .int .i64 x0.st, .int .i64 x0.done] 25)).heap.size := by simp
  generalize hgW : W20.alloc (.cells #[.int .i64 x0.id, .int .i64 x0.kind, .int .i64 x0.hold, .bool x0.shut, .slice A22 x0.inn.length c23, .slice B24 x0.out.length d25, .int .i64 x0.st, .int .i64 x0.done] 25) = W27 at ho hv hs ⊢
  clear hgW
  have SW27 : W20.heap.size ≤ W27.heap.size := ho.size
  have HBW27 := Rep.Only.below HBW20 ho (by omega) (fun a ha => by cases ha)
  replace TaS := Rep.at_only TaS ho (by omega) (fun a ha => by cases ha)
  replace Tw0 := Rep.at_only Tw0 ho (by omega) (fun a ha => by cases ha)
  replace Ox0 := Rep.own_only Ox0 ho (fun a ha hb => by cases hb)
  replace VaS := Rep.var_only VaS ho (by omega) (fun hb => by cases hb)
  replace Vw0 := Rep.var_only Vw0 ho (by omega) (fun hb => by cases hb)
  clear HBW20
  have Vx0 := Lib.hid hv
  clear hv ho
  have ZW27 : W20.heap.size < W27.heap.size := hs
  clear hs
  refine (peek_rep [.int .i64 x0.id, .int .i64 x0.kind, .int .i64 x0.hold, .bool x0.shut, .slice A22 x0.inn.length c23, .slice B24 x0.out.length d25, .int .i64 x0.st, .int .i64 x0.done] x0 W27 (Rep.reads skR Ox0) RaS.out).mono ?_
  rw [HY.out]
  rintro e W28 ⟨cs, fp29, rfl, Og0, hb⟩
  replace Og0 : frR.own W28 _ cs Y _ := Og0
  obtain rfl := fr_own_shape Og0
  have ho := Rep.only_of_below hb
  have L30 := Lib.hid (Rep.lt frR Og0)
  clear hb
  have SW28 : W27.heap.size ≤ W28.heap.size := ho.size
  have HBW28 := Rep.Only.below HBW27 ho (by omega) (fun a ha => by cases ha)
  replace TaS := Rep.at_only TaS ho (by omega) (fun a ha => by cases ha)
  replace Tw0 := Rep.at_only Tw0 ho (by omega) (fun a ha => by cases ha)
  replace Ox0 := Rep.own_only Ox0 ho (fun a ha hb => by cases hb)
  replace VaS := Rep.var_only VaS ho (by omega) (fun hb => by cases hb)
  replace Vw0 := Rep.var_only Vw0 ho (by omega) (fun hb => by cases hb)
  replace Vx0 := Rep.var_only Vx0 ho (by omega) (fun hb => by cases hb)
  clear HBW27
  clear ho
  have qw0_0 : W28.cell? ⟨W16.heap.size, 0, none⟩ = some (.int .i64 Y.k) := var_cell Vw0.out 0
  have qw0_1 : W28.cell? ⟨W16.heap.size, 1, none⟩ = some (.string Y.s) := var_cell Vw0.out 1
  have qw0_2 : W28.cell? ⟨W16.heap.size, 2, none⟩ = some (.int .i64 Y.st) := var_cell Vw0.out 2
  have lw0 : W16.heap.size < W28.heap.size := by omega
  go_wp2_with fail
  clear qw0_0 qw0_1 qw0_2 lw0
  have ho := Rep.only_alloc W28 (.cells #[.int .i64 Y.k, .string Y.s, .int .i64 Y.st] 33)
  have hv := heap_alloc_new W28 (.cells #[.int .i64 Y.k, .string Y.s, .int .i64 Y.st] 33)
  have hs : W28.heap.size < (W28.alloc (.cells #[.int .i64 Y.k, .string Y.s, .int .i64 Y.st] 33)).heap.size := by simp
  generalize hgW : W28.alloc (.cells #[.int .i64 Y.k, .string Y.s, .int .i64 Y.st] 33) = W31 at ho hv hs ⊢
  clear hgW
  have SW31 : W28.heap.size ≤ W31.heap.size := ho.size
  have HBW31 := Rep.Only.below HBW28 ho (by omega) (fun a ha => by cases ha)
  replace TaS := Rep.at_only TaS ho (by omega) (fun a ha => by cases ha)
  replace Tw0 := Rep.at_only Tw0 ho (by omega) (fun a ha => by cases ha)
  replace Ox0 := Rep.own_only Ox0 ho (fun a ha hb => by cases hb)
  replace Og0 := Rep.own_only Og0 ho (fun a ha hb => by cases hb)
  replace VaS := Rep.var_only VaS ho (by omega) (fun hb => by cases hb)
  replace Vw0 := Rep.var_only Vw0 ho (by omega) (fun hb => by cases hb)
  replace Vx0 := Rep.var_only Vx0 ho (by omega) (fun hb => by cases hb)
  clear HBW28
  have Vg0 := Lib.hid hv
  clear hv ho
  have ZW31 : W28.heap.size < W31.heap.size := hs
  clear hs
  refine (eqFr_rep [.int .i64 Y.k, .string Y.s, .int .i64 Y.st] [.int .i64 Y.k, .string Y.s, .int .i64 Y.st] Y W31 (Rep.reads frR Og0) (Rep.more frR Tw0 (by omega)) FY).mono ?_
  rintro e W32 ⟨rfl, hb⟩
  have ho := Rep.only_of_below hb
  clear hb
  have SW32 : W31.heap.size ≤ W32.heap.size := ho.size
  have HBW32 := Rep.Only.below HBW31 ho (by omega) (fun a ha => by cases ha)
  replace TaS := Rep.at_only TaS ho (by omega) (fun a ha => by cases ha)
  replace Tw0 := Rep.at_only Tw0 ho (by omega) (fun a ha => by cases ha)
  replace Ox0 := Rep.own_only Ox0 ho (fun a ha hb => by cases hb)
  replace Og0 := Rep.own_only Og0 ho (fun a ha hb => by cases hb)
  replace VaS := Rep.var_only VaS ho (by omega) (fun hb => by cases hb)
  replace Vw0 := Rep.var_only Vw0 ho (by omega) (fun hb => by cases hb)
  replace Vx0 := Rep.var_only Vx0 ho (by omega) (fun hb => by cases hb)
  replace Vg0 := Rep.var_only Vg0 ho (by omega) (fun hb => by cases hb)
  clear HBW31
  clear ho
  have qx0_0 : W32.cell? ⟨W20.heap.size, 0, none⟩ = some (.int .i64 x0.id) := var_cell Vx0.out 0
  have qx0_1 : W32.cell? ⟨W20.heap.size, 1, none⟩ = some (.int .i64 x0.kind) := var_cell Vx0.out 1
  have qx0_2 : W32.cell? ⟨W20.heap.size, 2, none⟩ = some (.int .i64 x0.hold) := var_cell Vx0.out 2
  have qx0_3 : W32.cell? ⟨W20.heap.size, 3, none⟩ = some (.bool x0.shut) := var_cell Vx0.out 3
  have qx0_4 : W32.cell? ⟨W20.heap.size, 4, none⟩ = some (.slice A22 x0.inn.length c23) := var_cell Vx0.out 4
  have qx0_5 : W32.cell? ⟨W20.heap.size, 5, none⟩ = some (.slice B24 x0.out.length d25) := var_cell Vx0.out 5
  have qx0_6 : W32.cell? ⟨W20.heap.size, 6, none⟩ = some (.int .i64 x0.st) := var_cell Vx0.out 6
  have qx0_7 : W32.cell? ⟨W20.heap.size, 7, none⟩ = some (.int .i64 x0.done) := var_cell Vx0.out 7
  have lx0 : W20.heap.size < W32.heap.size := by omega
  have qaS_0 : W32.cell? ⟨w.heap.size, 0, none⟩ = some (.int .i64 x0.id) := var_cell VaS.out 0
  have qaS_1 : W32.cell? ⟨w.heap.size, 1, none⟩ = some (.int .i64 x0.kind) := var_cell VaS.out 1
  have qaS_2 : W32.cell? ⟨w.heap.size, 2, none⟩ = some (.int .i64 x0.hold) := var_cell VaS.out 2
  have qaS_3 : W32.cell? ⟨w.heap.size, 3, none⟩ = some (.bool x0.shut) := var_cell VaS.out 3
  have qaS_4 : W32.cell? ⟨w.heap.size, 4, none⟩ = some (.slice A1 x0.inn.length c2) := var_cell VaS.out 4
  have qaS_5 : W32.cell? ⟨w.heap.size, 5, none⟩ = some (.slice B3 x0.out.length d4) := var_cell VaS.out 5
  have qaS_6 : W32.cell? ⟨w.heap.size, 6, none⟩ = some (.int .i64 x0.st) := var_cell VaS.out 6
  have qaS_7 : W32.cell? ⟨w.heap.size, 7, none⟩ = some (.int .i64 x0.done) := var_cell VaS.out 7
  have laS : w.heap.size < W32.heap.size := by omega
  go_wp2_with fail
  clear qx0_0 qx0_1 qx0_2 qx0_3 qx0_4 qx0_5 qx0_6 qx0_7 lx0 qaS_0 qaS_1 qaS_2 qaS_3 qaS_4 qaS_5 qaS_6 qaS_7 laS
  go_region_held3 (fun w' => w'.cell? ⟨W20.heap.size, 0, none⟩ = some (.int .i64 x0.id) ∧ w'.cell? ⟨W20.heap.size, 1, none⟩ = some (.int .i64 x0.kind) ∧ w'.cell? ⟨W20.heap.size, 2, none⟩ = some (.int .i64 x0.hold) ∧ w'.cell? ⟨W20.heap.size, 3, none⟩ = some (.bool x0.shut) ∧ w'.cell? ⟨W20.heap.size, 4, none⟩ = some (.slice A22 x0.inn.length c23) ∧ w'.cell? ⟨W20.heap.size, 5, none⟩ = some (.slice B24 x0.out.length d25) ∧ w'.cell? ⟨W20.heap.size, 6, none⟩ = some (.int .i64 x0.st) ∧ w'.cell? ⟨W20.heap.size, 7, none⟩ = some (.int .i64 x0.done) ∧ w'.cell? ⟨w.heap.size, 0, none⟩ = some (.int .i64 x0.id) ∧ w'.cell? ⟨w.heap.size, 1, none⟩ = some (.int .i64 x0.kind) ∧ w'.cell? ⟨w.heap.size, 2, none⟩ = some (.int .i64 x0.hold) ∧ w'.cell? ⟨w.heap.size, 3, none⟩ = some (.bool x0.shut) ∧ w'.cell? ⟨w.heap.size, 4, none⟩ = some (.slice A1 x0.inn.length c2) ∧ w'.cell? ⟨w.heap.size, 5, none⟩ = some (.slice B3 x0.out.length d4) ∧ w'.cell? ⟨w.heap.size, 6, none⟩ = some (.int .i64 x0.st) ∧ w'.cell? ⟨w.heap.size, 7, none⟩ = some (.int .i64 x0.done)) (exact ⟨var_cell Vx0.out 0, var_cell Vx0.out 1, var_cell Vx0.out 2, var_cell Vx0.out 3, var_cell Vx0.out 4, var_cell Vx0.out 5, var_cell Vx0.out 6, var_cell Vx0.out 7, var_cell VaS.out 0, var_cell VaS.out 1, var_cell VaS.out 2, var_cell VaS.out 3, var_cell VaS.out 4, var_cell VaS.out 5, var_cell VaS.out 6, var_cell VaS.out 7⟩) (first
    | (go_at_call 43
       have ho := Rep.only_drew W32
       generalize W32.drew = W33 at ho ⊢
       have SW33 : W32.heap.size ≤ W33.heap.size := ho.size
       have HBW33 := Rep.Only.below HBW32 ho (by omega) (fun a ha => by cases ha)
       replace TaS := Rep.at_only TaS ho (by omega) (fun a ha => by cases ha)
       replace Tw0 := Rep.at_only Tw0 ho (by omega) (fun a ha => by cases ha)
       replace Ox0 := Rep.own_only Ox0 ho (fun a ha hb => by cases hb)
       replace Og0 := Rep.own_only Og0 ho (fun a ha hb => by cases hb)
       replace VaS := Rep.var_only VaS ho (by omega) (fun hb => by cases hb)
       replace Vw0 := Rep.var_only Vw0 ho (by omega) (fun hb => by cases hb)
       replace Vx0 := Rep.var_only Vx0 ho (by omega) (fun hb => by cases hb)
       replace Vg0 := Rep.var_only Vg0 ho (by omega) (fun hb => by cases hb)
       clear HBW32
       clear ho
       refine (toSk_rep [.int .i64 x0.id, .int .i64 x0.kind, .int .i64 x0.hold, .bool x0.shut, .slice A1 x0.inn.length c2, .slice B3 x0.out.length d4, .int .i64 x0.st, .int .i64 x0.done] x0 W33 (Rep.more skR TaS (by omega)) FaS.out).mono ?_
       rintro e W35 ⟨cs, fp36, rfl, Ot34, hb⟩
       obtain ⟨A37, c38, B39, d40, rfl⟩ := sk_own_shape Ot34
       have ho := Rep.only_of_below hb
       have L41 := Lib.hid (Rep.lt skR Ot34)
       clear hb
       have SW35 : W33.heap.size ≤ W35.heap.size := ho.size
       have HBW35 := Rep.Only.below HBW33 ho (by omega) (fun a ha => by cases ha)
       replace TaS := Rep.at_only TaS ho (by omega) (fun a ha => by cases ha)
       replace Tw0 := Rep.at_only Tw0 ho (by omega) (fun a ha => by cases ha)
       replace Ox0 := Rep.own_only Ox0 ho (fun a ha hb => by cases hb)
       replace Og0 := Rep.own_only Og0 ho (fun a ha hb => by cases hb)
       replace VaS := Rep.var_only VaS ho (by omega) (fun hb => by cases hb)
       replace Vw0 := Rep.var_only Vw0 ho (by omega) (fun hb => by cases hb)
       replace Vx0 := Rep.var_only Vx0 ho (by omega) (fun hb => by cases hb)
       replace Vg0 := Rep.var_only Vg0 ho (by omega) (fun hb => by cases hb)
       clear HBW33
       clear ho)
    | (go_at_call 44
       refine (eqSk_same [.int .i64 x0.id, .int .i64 x0.kind, .int .i64 x0.hold, .bool x0.shut, .slice A22 x0.inn.length c23, .slice B24 x0.out.length d25, .int .i64 x0.st, .int .i64 x0.done] [.int .i64 x0.id, .int .i64 x0.kind, .int .i64 x0.hold, .bool x0.shut, .slice A37 x0.inn.length c38, .slice B39 x0.out.length d40, .int .i64 x0.st, .int .i64 x0.done] x0 W35 (Rep.reads skR Ox0) (Rep.reads skR Ot34) FaS.out).mono ?_
       rintro e W42 ⟨rfl, hb⟩
       have ho := Rep.only_of_below hb
       clear hb
       have SW42 : W35.heap.size ≤ W42.heap.size := ho.size
       have HBW42 := Rep.Only.below HBW35 ho (by omega) (fun a ha => by cases ha)
       replace TaS := Rep.at_only TaS ho (by omega) (fun a ha => by cases ha)
       replace Tw0 := Rep.at_only Tw0 ho (by omega) (fun a ha => by cases ha)
       replace Ox0 := Rep.own_only Ox0 ho (fun a ha hb => by cases hb)
       replace Og0 := Rep.own_only Og0 ho (fun a ha hb => by cases hb)
       replace Ot34 := Rep.own_only Ot34 ho (fun a ha hb => by cases hb)
       replace VaS := Rep.var_only VaS ho (by omega) (fun hb => by cases hb)
       replace Vw0 := Rep.var_only Vw0 ho (by omega) (fun hb => by cases hb)
       replace Vx0 := Rep.var_only Vx0 ho (by omega) (fun hb => by cases hb)
       replace Vg0 := Rep.var_only Vg0 ho (by omega) (fun hb => by cases hb)
       clear HBW35
       clear ho))
  clear Ot34 L41
  go_wp2_with fail
  go_ret
  exact ⟨rfl, HBW42⟩

end Go.Proofs.Ytcelkmphdeaaeaa
