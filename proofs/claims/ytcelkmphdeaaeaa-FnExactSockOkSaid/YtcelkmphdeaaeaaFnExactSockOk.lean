/- The walk of the exact law of SockOk (written by gen.py). -/
import Derived.Test.YtcelkmphdeaaeaaSockI
import Derived.Test.YtcelkmphdeaaeaaExactSk
import Derived.Test.YtcelkmphdeaaeaaExactB
namespace Go.Proofs.Ytcelkmphdeaaeaa
open Go.RowKit
set_option linter.unusedVariables false

set_option maxRecDepth 100000 in
set_option maxHeartbeats 4000000 in
theorem walk_FnExactSockOk (w : World) (cs0 : List Value) (x0 : Sk) (w0 : skR.at_ w w.heap.size cs0 x0) (k0 : OkSk x0) :
    Calls Try.prog 5 #[.agg cs0.toArray] w fun e w' => e = .returned (.bool true) ∧ Below w.heap.size w w' := by
  obtain ⟨A1, c2, B3, d4, rfl⟩ := sk_at_shape w0
  have TaS := w0
  clear w0
  have HBw := Below.refl w.heap.size w
  go_enter Try.func5, Try.ntmps5
  go_wp2_with fail
  have ho := Rep.only_alloc w (.cells #[.int .i64 x0.id, .int .i64 x0.kind, .int .i64 x0.hold, .bool x0.shut, .slice A1 x0.inn.length c2, .slice B3 x0.out.length d4, .int .i64 x0.st, .int .i64 x0.done] 57)
  have hv := heap_alloc_new w (.cells #[.int .i64 x0.id, .int .i64 x0.kind, .int .i64 x0.hold, .bool x0.shut, .slice A1 x0.inn.length c2, .slice B3 x0.out.length d4, .int .i64 x0.st, .int .i64 x0.done] 57)
  have hs : w.heap.size < (w.alloc (.cells #[.int .i64 x0.id, .int .i64 x0.kind, .int .i64 x0.hold, .bool x0.shut, .slice A1 x0.inn.length c2, .slice B3 x0.out.length d4, .int .i64 x0.st, .int .i64 x0.done] 57)).heap.size := by simp
  generalize hgW : w.alloc (.cells #[.int .i64 x0.id, .int .i64 x0.kind, .int .i64 x0.hold, .bool x0.shut, .slice A1 x0.inn.length c2, .slice B3 x0.out.length d4, .int .i64 x0.st, .int .i64 x0.done] 57) = W5 at ho hv hs ⊢
  clear hgW
  have SW5 : w.heap.size ≤ W5.heap.size := ho.size
  have HBW5 := Rep.Only.below HBw ho (by omega) (fun a ha => by cases ha)
  replace TaS := Rep.at_only TaS ho (by omega) (fun a ha => by cases ha)
  clear HBw
  have VaS := Lib.hid hv
  clear hv ho
  have ZW5 : w.heap.size < W5.heap.size := hs
  clear hs
  refine (szSk_room [.int .i64 x0.id, .int .i64 x0.kind, .int .i64 x0.hold, .bool x0.shut, .slice A1 x0.inn.length c2, .slice B3 x0.out.length d4, .int .i64 x0.st, .int .i64 x0.done] x0 1048576 W5 (Rep.more skR TaS (by omega)) (by omega)).mono ?_
  rintro e W6 ⟨hz, hb⟩
  have ho := Rep.only_of_below hb
  clear hb
  have SW6 : W5.heap.size ≤ W6.heap.size := ho.size
  have HBW6 := Rep.Only.below HBW5 ho (by omega) (fun a ha => by cases ha)
  replace TaS := Rep.at_only TaS ho (by omega) (fun a ha => by cases ha)
  replace VaS := Rep.var_only VaS ho (by omega) (fun hb => by cases hb)
  clear HBW5
  clear ho
  obtain ⟨z7, hz7, HfitaS, rfl⟩ | rfl := hz
  rotate_left
  · go_wp2_with fail
    go_ret
    exact ⟨rfl, HBW6⟩
  have RaS := Lib.hid HfitaS
  have FaS := Lib.hid HfitaS.fits
  clear HfitaS
  obtain ⟨Y, hy⟩ : ∃ Y, skB x0 = Y := ⟨_, rfl⟩
  have ny : (Y != Y) = false := by simp
  have HY := Lib.hid hy
  clear hy
  have qaS_0 : W6.cell? ⟨w.heap.size, 0, none⟩ = some (.int .i64 x0.id) := var_cell VaS.out 0
  have qaS_1 : W6.cell? ⟨w.heap.size, 1, none⟩ = some (.int .i64 x0.kind) := var_cell VaS.out 1
  have qaS_2 : W6.cell? ⟨w.heap.size, 2, none⟩ = some (.int .i64 x0.hold) := var_cell VaS.out 2
  have qaS_3 : W6.cell? ⟨w.heap.size, 3, none⟩ = some (.bool x0.shut) := var_cell VaS.out 3
  have qaS_4 : W6.cell? ⟨w.heap.size, 4, none⟩ = some (.slice A1 x0.inn.length c2) := var_cell VaS.out 4
  have qaS_5 : W6.cell? ⟨w.heap.size, 5, none⟩ = some (.slice B3 x0.out.length d4) := var_cell VaS.out 5
  have qaS_6 : W6.cell? ⟨w.heap.size, 6, none⟩ = some (.int .i64 x0.st) := var_cell VaS.out 6
  have qaS_7 : W6.cell? ⟨w.heap.size, 7, none⟩ = some (.int .i64 x0.done) := var_cell VaS.out 7
  have laS : w.heap.size < W6.heap.size := by omega
  go_wp2_with fail
  clear qaS_0 qaS_1 qaS_2 qaS_3 qaS_4 qaS_5 qaS_6 qaS_7 laS
  refine (toSk_rep [.int .i64 x0.id, .int .i64 x0.kind, .int .i64 x0.hold, .bool x0.shut, .slice A1 x0.inn.length c2, .slice B3 x0.out.length d4, .int .i64 x0.st, .int .i64 x0.done] x0 W6 (Rep.more skR TaS (by omega)) FaS.out).mono ?_
  rintro e W9 ⟨cs, fp10, rfl, Ot8, hb⟩
  obtain ⟨A11, c12, B13, d14, rfl⟩ := sk_own_shape Ot8
  have ho := Rep.only_of_below hb
  have L15 := Lib.hid (Rep.lt skR Ot8)
  clear hb
  have SW9 : W6.heap.size ≤ W9.heap.size := ho.size
  have HBW9 := Rep.Only.below HBW6 ho (by omega) (fun a ha => by cases ha)
  replace TaS := Rep.at_only TaS ho (by omega) (fun a ha => by cases ha)
  replace VaS := Rep.var_only VaS ho (by omega) (fun hb => by cases hb)
  clear HBW6
  clear ho
  go_wp2_with fail
  refine (sockOkS_rep [.int .i64 x0.id, .int .i64 x0.kind, .int .i64 x0.hold, .bool x0.shut, .slice A11 x0.inn.length c12, .slice B13 x0.out.length d14, .int .i64 x0.st, .int .i64 x0.done] x0 W9 (Rep.reads skR Ot8) RaS.out).mono ?_
  rintro e W16 ⟨he, hb⟩
  rw [HY.out] at he
  subst he
  have ho := Rep.only_of_below hb
  clear hb
  have SW16 : W9.heap.size ≤ W16.heap.size := ho.size
  have HBW16 := Rep.Only.below HBW9 ho (by omega) (fun a ha => by cases ha)
  replace TaS := Rep.at_only TaS ho (by omega) (fun a ha => by cases ha)
  replace Ot8 := Rep.own_only Ot8 ho (fun a ha hb => by cases hb)
  replace VaS := Rep.var_only VaS ho (by omega) (fun hb => by cases hb)
  clear HBW9
  clear ho
  clear Ot8 L15
  have qaS_0 : W16.cell? ⟨w.heap.size, 0, none⟩ = some (.int .i64 x0.id) := var_cell VaS.out 0
  have qaS_1 : W16.cell? ⟨w.heap.size, 1, none⟩ = some (.int .i64 x0.kind) := var_cell VaS.out 1
  have qaS_2 : W16.cell? ⟨w.heap.size, 2, none⟩ = some (.int .i64 x0.hold) := var_cell VaS.out 2
  have qaS_3 : W16.cell? ⟨w.heap.size, 3, none⟩ = some (.bool x0.shut) := var_cell VaS.out 3
  have qaS_4 : W16.cell? ⟨w.heap.size, 4, none⟩ = some (.slice A1 x0.inn.length c2) := var_cell VaS.out 4
  have qaS_5 : W16.cell? ⟨w.heap.size, 5, none⟩ = some (.slice B3 x0.out.length d4) := var_cell VaS.out 5
  have qaS_6 : W16.cell? ⟨w.heap.size, 6, none⟩ = some (.int .i64 x0.st) := var_cell VaS.out 6
  have qaS_7 : W16.cell? ⟨w.heap.size, 7, none⟩ = some (.int .i64 x0.done) := var_cell VaS.out 7
  have laS : w.heap.size < W16.heap.size := by omega
  go_wp2_with fail
  clear qaS_0 qaS_1 qaS_2 qaS_3 qaS_4 qaS_5 qaS_6 qaS_7 laS
  refine (toSk_rep [.int .i64 x0.id, .int .i64 x0.kind, .int .i64 x0.hold, .bool x0.shut, .slice A1 x0.inn.length c2, .slice B3 x0.out.length d4, .int .i64 x0.st, .int .i64 x0.done] x0 W16 (Rep.more skR TaS (by omega)) FaS.out).mono ?_
  rintro e W17 ⟨cs, fp18, rfl, Ox0, hb⟩
  obtain ⟨A19, c20, B21, d22, rfl⟩ := sk_own_shape Ox0
  have ho := Rep.only_of_below hb
  have L23 := Lib.hid (Rep.lt skR Ox0)
  clear hb
  have SW17 : W16.heap.size ≤ W17.heap.size := ho.size
  have HBW17 := Rep.Only.below HBW16 ho (by omega) (fun a ha => by cases ha)
  replace TaS := Rep.at_only TaS ho (by omega) (fun a ha => by cases ha)
  replace VaS := Rep.var_only VaS ho (by omega) (fun hb => by cases hb)
  clear HBW16
  clear ho
  go_wp2_with fail
  have ho := Rep.only_alloc W17 (.cells #[.int .i64 x0.id, .int .i64 x0.kind, .int .i64 x0.hold, .bool x0.shut, .slice A19 x0.inn.length c20, .slice B21 x0.out.length d22, .int .i64 x0.st, .int .i64 x0.done] 25)
  have hv := heap_alloc_new W17 (.cells #[.int .i64 x0.id, .int .i64 x0.kind, .int .i64 x0.hold, .bool x0.shut, .slice A19 x0.inn.length c20, .slice B21 x0.out.length d22, .int .i64 x0.st, .int .i64 x0.done] 25)
  have hs : W17.heap.size < (W17.alloc (.cells #[.int .i64 x0.id, .int .i64 x0.kind, .int .i64 x0.hold, .bool x0.shut, .slice A19 x0.inn.length c20, .slice B21 x0.out.length d22, .int .i64 x0.st, .int .i64 x0.done] 25)).heap.size := by simp
  generalize hgW : W17.alloc (.cells #[.int .i64 x0.id, .int .i64 x0.kind, .int .i64 x0.hold, .bool x0.shut, .slice A19 x0.inn.length c20, .slice B21 x0.out.length d22, .int .i64 x0.st, .int .i64 x0.done] 25) = W24 at ho hv hs ⊢
  clear hgW
  have SW24 : W17.heap.size ≤ W24.heap.size := ho.size
  have HBW24 := Rep.Only.below HBW17 ho (by omega) (fun a ha => by cases ha)
  replace TaS := Rep.at_only TaS ho (by omega) (fun a ha => by cases ha)
  replace Ox0 := Rep.own_only Ox0 ho (fun a ha hb => by cases hb)
  replace VaS := Rep.var_only VaS ho (by omega) (fun hb => by cases hb)
  clear HBW17
  have Vx0 := Lib.hid hv
  clear hv ho
  have ZW24 : W17.heap.size < W24.heap.size := hs
  clear hs
  refine (sockOk_rep [.int .i64 x0.id, .int .i64 x0.kind, .int .i64 x0.hold, .bool x0.shut, .slice A19 x0.inn.length c20, .slice B21 x0.out.length d22, .int .i64 x0.st, .int .i64 x0.done] x0 W24 (Rep.reads skR Ox0) RaS.out).mono ?_
  rintro e W25 ⟨he, hb⟩
  rw [HY.out] at he
  subst he
  have ho := Rep.only_of_below hb
  clear hb
  have SW25 : W24.heap.size ≤ W25.heap.size := ho.size
  have HBW25 := Rep.Only.below HBW24 ho (by omega) (fun a ha => by cases ha)
  replace TaS := Rep.at_only TaS ho (by omega) (fun a ha => by cases ha)
  replace Ox0 := Rep.own_only Ox0 ho (fun a ha hb => by cases hb)
  replace VaS := Rep.var_only VaS ho (by omega) (fun hb => by cases hb)
  replace Vx0 := Rep.var_only Vx0 ho (by omega) (fun hb => by cases hb)
  clear HBW24
  clear ho
  have qx0_0 : W25.cell? ⟨W17.heap.size, 0, none⟩ = some (.int .i64 x0.id) := var_cell Vx0.out 0
  have qx0_1 : W25.cell? ⟨W17.heap.size, 1, none⟩ = some (.int .i64 x0.kind) := var_cell Vx0.out 1
  have qx0_2 : W25.cell? ⟨W17.heap.size, 2, none⟩ = some (.int .i64 x0.hold) := var_cell Vx0.out 2
  have qx0_3 : W25.cell? ⟨W17.heap.size, 3, none⟩ = some (.bool x0.shut) := var_cell Vx0.out 3
  have qx0_4 : W25.cell? ⟨W17.heap.size, 4, none⟩ = some (.slice A19 x0.inn.length c20) := var_cell Vx0.out 4
  have qx0_5 : W25.cell? ⟨W17.heap.size, 5, none⟩ = some (.slice B21 x0.out.length d22) := var_cell Vx0.out 5
  have qx0_6 : W25.cell? ⟨W17.heap.size, 6, none⟩ = some (.int .i64 x0.st) := var_cell Vx0.out 6
  have qx0_7 : W25.cell? ⟨W17.heap.size, 7, none⟩ = some (.int .i64 x0.done) := var_cell Vx0.out 7
  have lx0 : W17.heap.size < W25.heap.size := by omega
  have qaS_0 : W25.cell? ⟨w.heap.size, 0, none⟩ = some (.int .i64 x0.id) := var_cell VaS.out 0
  have qaS_1 : W25.cell? ⟨w.heap.size, 1, none⟩ = some (.int .i64 x0.kind) := var_cell VaS.out 1
  have qaS_2 : W25.cell? ⟨w.heap.size, 2, none⟩ = some (.int .i64 x0.hold) := var_cell VaS.out 2
  have qaS_3 : W25.cell? ⟨w.heap.size, 3, none⟩ = some (.bool x0.shut) := var_cell VaS.out 3
  have qaS_4 : W25.cell? ⟨w.heap.size, 4, none⟩ = some (.slice A1 x0.inn.length c2) := var_cell VaS.out 4
  have qaS_5 : W25.cell? ⟨w.heap.size, 5, none⟩ = some (.slice B3 x0.out.length d4) := var_cell VaS.out 5
  have qaS_6 : W25.cell? ⟨w.heap.size, 6, none⟩ = some (.int .i64 x0.st) := var_cell VaS.out 6
  have qaS_7 : W25.cell? ⟨w.heap.size, 7, none⟩ = some (.int .i64 x0.done) := var_cell VaS.out 7
  have laS : w.heap.size < W25.heap.size := by omega
  go_wp2_with fail
  clear qx0_0 qx0_1 qx0_2 qx0_3 qx0_4 qx0_5 qx0_6 qx0_7 lx0 qaS_0 qaS_1 qaS_2 qaS_3 qaS_4 qaS_5 qaS_6 qaS_7 laS
  go_region_held3 (fun w' => w'.cell? ⟨W17.heap.size, 0, none⟩ = some (.int .i64 x0.id) ∧ w'.cell? ⟨W17.heap.size, 1, none⟩ = some (.int .i64 x0.kind) ∧ w'.cell? ⟨W17.heap.size, 2, none⟩ = some (.int .i64 x0.hold) ∧ w'.cell? ⟨W17.heap.size, 3, none⟩ = some (.bool x0.shut) ∧ w'.cell? ⟨W17.heap.size, 4, none⟩ = some (.slice A19 x0.inn.length c20) ∧ w'.cell? ⟨W17.heap.size, 5, none⟩ = some (.slice B21 x0.out.length d22) ∧ w'.cell? ⟨W17.heap.size, 6, none⟩ = some (.int .i64 x0.st) ∧ w'.cell? ⟨W17.heap.size, 7, none⟩ = some (.int .i64 x0.done) ∧ w'.cell? ⟨w.heap.size, 0, none⟩ = some (.int .i64 x0.id) ∧ w'.cell? ⟨w.heap.size, 1, none⟩ = some (.int .i64 x0.kind) ∧ w'.cell? ⟨w.heap.size, 2, none⟩ = some (.int .i64 x0.hold) ∧ w'.cell? ⟨w.heap.size, 3, none⟩ = some (.bool x0.shut) ∧ w'.cell? ⟨w.heap.size, 4, none⟩ = some (.slice A1 x0.inn.length c2) ∧ w'.cell? ⟨w.heap.size, 5, none⟩ = some (.slice B3 x0.out.length d4) ∧ w'.cell? ⟨w.heap.size, 6, none⟩ = some (.int .i64 x0.st) ∧ w'.cell? ⟨w.heap.size, 7, none⟩ = some (.int .i64 x0.done)) (exact ⟨var_cell Vx0.out 0, var_cell Vx0.out 1, var_cell Vx0.out 2, var_cell Vx0.out 3, var_cell Vx0.out 4, var_cell Vx0.out 5, var_cell Vx0.out 6, var_cell Vx0.out 7, var_cell VaS.out 0, var_cell VaS.out 1, var_cell VaS.out 2, var_cell VaS.out 3, var_cell VaS.out 4, var_cell VaS.out 5, var_cell VaS.out 6, var_cell VaS.out 7⟩) (first
    | (go_at_call 43
       have ho := Rep.only_drew W25
       generalize W25.drew = W26 at ho ⊢
       have SW26 : W25.heap.size ≤ W26.heap.size := ho.size
       have HBW26 := Rep.Only.below HBW25 ho (by omega) (fun a ha => by cases ha)
       replace TaS := Rep.at_only TaS ho (by omega) (fun a ha => by cases ha)
       replace Ox0 := Rep.own_only Ox0 ho (fun a ha hb => by cases hb)
       replace VaS := Rep.var_only VaS ho (by omega) (fun hb => by cases hb)
       replace Vx0 := Rep.var_only Vx0 ho (by omega) (fun hb => by cases hb)
       clear HBW25
       clear ho
       refine (toSk_rep [.int .i64 x0.id, .int .i64 x0.kind, .int .i64 x0.hold, .bool x0.shut, .slice A1 x0.inn.length c2, .slice B3 x0.out.length d4, .int .i64 x0.st, .int .i64 x0.done] x0 W26 (Rep.more skR TaS (by omega)) FaS.out).mono ?_
       rintro e W28 ⟨cs, fp29, rfl, Ot27, hb⟩
       obtain ⟨A30, c31, B32, d33, rfl⟩ := sk_own_shape Ot27
       have ho := Rep.only_of_below hb
       have L34 := Lib.hid (Rep.lt skR Ot27)
       clear hb
       have SW28 : W26.heap.size ≤ W28.heap.size := ho.size
       have HBW28 := Rep.Only.below HBW26 ho (by omega) (fun a ha => by cases ha)
       replace TaS := Rep.at_only TaS ho (by omega) (fun a ha => by cases ha)
       replace Ox0 := Rep.own_only Ox0 ho (fun a ha hb => by cases hb)
       replace VaS := Rep.var_only VaS ho (by omega) (fun hb => by cases hb)
       replace Vx0 := Rep.var_only Vx0 ho (by omega) (fun hb => by cases hb)
       clear HBW26
       clear ho)
    | (go_at_call 44
       refine (eqSk_same [.int .i64 x0.id, .int .i64 x0.kind, .int .i64 x0.hold, .bool x0.shut, .slice A19 x0.inn.length c20, .slice B21 x0.out.length d22, .int .i64 x0.st, .int .i64 x0.done] [.int .i64 x0.id, .int .i64 x0.kind, .int .i64 x0.hold, .bool x0.shut, .slice A30 x0.inn.length c31, .slice B32 x0.out.length d33, .int .i64 x0.st, .int .i64 x0.done] x0 W28 (Rep.reads skR Ox0) (Rep.reads skR Ot27) FaS.out).mono ?_
       rintro e W35 ⟨rfl, hb⟩
       have ho := Rep.only_of_below hb
       clear hb
       have SW35 : W28.heap.size ≤ W35.heap.size := ho.size
       have HBW35 := Rep.Only.below HBW28 ho (by omega) (fun a ha => by cases ha)
       replace TaS := Rep.at_only TaS ho (by omega) (fun a ha => by cases ha)
       replace Ox0 := Rep.own_only Ox0 ho (fun a ha hb => by cases hb)
       replace Ot27 := Rep.own_only Ot27 ho (fun a ha hb => by cases hb)
       replace VaS := Rep.var_only VaS ho (by omega) (fun hb => by cases hb)
       replace Vx0 := Rep.var_only Vx0 ho (by omega) (fun hb => by cases hb)
       clear HBW28
       clear ho))
  clear Ot27 L34
  go_wp2_with fail
  go_ret
  exact ⟨rfl, HBW35⟩

end Go.Proofs.Ytcelkmphdeaaeaa
