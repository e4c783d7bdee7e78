/- The walk of the exact law of DiskOk (written by gen.py). -/
import Derived.Test.YtjhfnfffpofagaaDiskOkS
import Derived.Test.YtjhfnfffpofagaaExact
namespace Go.Proofs.Ytjhfnfffpofagaa
open Go.RowKit
set_option linter.unusedVariables false

set_option maxRecDepth 100000 in
set_option maxHeartbeats 4000000 in
theorem walk_FnExactDiskOk (w : World) (cs0 : List Value) (x0 : Disk) (w0 : diskR.at_ w w.heap.size cs0 x0) (k0 : OkDisk x0) :
    Calls Try.prog 6 #[.agg cs0.toArray] w fun e w' => e = .returned (.bool true) ∧ Below w.heap.size w w' := by
  obtain ⟨A1, c2, B3, d4, rfl⟩ := disk_at_shape w0
  have TaD := w0
  clear w0
  have HBw := Below.refl w.heap.size w
  go_enter Try.func6, Try.ntmps6
  go_wp2_with fail
  have ho := Rep.only_alloc w (.cells #[.slice A1 x0.secs.length c2, .slice B3 x0.cache.length d4, .int .i64 x0.fuse, .bool x0.down] 48)
  have hv := heap_alloc_new w (.cells #[.slice A1 x0.secs.length c2, .slice B3 x0.cache.length d4, .int .i64 x0.fuse, .bool x0.down] 48)
  have hs : w.heap.size < (w.alloc (.cells #[.slice A1 x0.secs.length c2, .slice B3 x0.cache.length d4, .int .i64 x0.fuse, .bool x0.down] 48)).heap.size := by simp
  generalize hgW : w.alloc (.cells #[.slice A1 x0.secs.length c2, .slice B3 x0.cache.length d4, .int .i64 x0.fuse, .bool x0.down] 48) = W5 at ho hv hs ⊢
  clear hgW
  have SW5 : w.heap.size ≤ W5.heap.size := ho.size
  have HBW5 := Rep.Only.below HBw ho (by omega) (fun a ha => by cases ha)
  replace TaD := Rep.at_only TaD ho (by omega) (fun a ha => by cases ha)
  clear HBw
  have VaD := Lib.hid hv
  clear hv ho
  have ZW5 : w.heap.size < W5.heap.size := hs
  clear hs
  refine (szDisk_room [.slice A1 x0.secs.length c2, .slice B3 x0.cache.length d4, .int .i64 x0.fuse, .bool x0.down] x0 1048576 W5 (Rep.more diskR TaD (by omega)) (by omega)).mono ?_
  rintro e W6 ⟨hz, hb⟩
  have ho := Rep.only_of_below hb
  clear hb
  have SW6 : W5.heap.size ≤ W6.heap.size := ho.size
  have HBW6 := Rep.Only.below HBW5 ho (by omega) (fun a ha => by cases ha)
  replace TaD := Rep.at_only TaD ho (by omega) (fun a ha => by cases ha)
  replace VaD := Rep.var_only VaD ho (by omega) (fun hb => by cases hb)
  clear HBW5
  clear ho
  obtain ⟨z7, hz7, HfitaD, rfl⟩ | rfl := hz
  rotate_left
  · go_wp2_with fail
    go_ret
    exact ⟨rfl, HBW6⟩
  have FaD := Lib.hid HfitaD
  clear HfitaD
  obtain ⟨Y, hy⟩ : ∃ Y, diskOk x0 = Y := ⟨_, rfl⟩
  have ny : (Y != Y) = false := by simp
  have HY := Lib.hid hy
  clear hy
  have qaD_0 : W6.cell? ⟨w.heap.size, 0, none⟩ = some (.slice A1 x0.secs.length c2) := var_cell VaD.out 0
  have qaD_1 : W6.cell? ⟨w.heap.size, 1, none⟩ = some (.slice B3 x0.cache.length d4) := var_cell VaD.out 1
  have qaD_2 : W6.cell? ⟨w.heap.size, 2, none⟩ = some (.int .i64 x0.fuse) := var_cell VaD.out 2
  have qaD_3 : W6.cell? ⟨w.heap.size, 3, none⟩ = some (.bool x0.down) := var_cell VaD.out 3
  have laD : w.heap.size < W6.heap.size := by omega
  go_wp2_with fail
  clear qaD_0 qaD_1 qaD_2 qaD_3 laD
  refine (toDisk_rep [.slice A1 x0.secs.length c2, .slice B3 x0.cache.length d4, .int .i64 x0.fuse, .bool x0.down] x0 W6 (Rep.more diskR TaD (by omega)) FaD.out).mono ?_
  rintro e W9 ⟨cs, fp10, rfl, Ot8, hb⟩
  obtain ⟨A11, c12, B13, d14, rfl⟩ := disk_own_shape Ot8
  have ho := Rep.only_of_below hb
  have L15 := Lib.hid (Rep.lt diskR Ot8)
  clear hb
  have SW9 : W6.heap.size ≤ W9.heap.size := ho.size
  have HBW9 := Rep.Only.below HBW6 ho (by omega) (fun a ha => by cases ha)
  replace TaD := Rep.at_only TaD ho (by omega) (fun a ha => by cases ha)
  replace VaD := Rep.var_only VaD ho (by omega) (fun hb => by cases hb)
  clear HBW6
  clear ho
  go_wp2_with fail
  refine (diskOkS_rep [.slice A11 x0.secs.length c12, .slice B13 x0.cache.length d14, .int .i64 x0.fuse, .bool x0.down] x0 W9 (Rep.reads diskR Ot8) FaD.out).mono ?_
  rintro e W16 ⟨he, hb⟩
  rw [HY.out] at he
  subst he
  have ho := Rep.only_of_below hb
  clear hb
  have SW16 : W9.heap.size ≤ W16.heap.size := ho.size
  have HBW16 := Rep.Only.below HBW9 ho (by omega) (fun a ha => by cases ha)
  replace TaD := Rep.at_only TaD ho (by omega) (fun a ha => by cases ha)
  replace Ot8 := Rep.own_only Ot8 ho (fun a ha hb => by cases hb)
  replace VaD := Rep.var_only VaD ho (by omega) (fun hb => by cases hb)
  clear HBW9
  clear ho
  clear Ot8 L15
  have qaD_0 : W16.cell? ⟨w.heap.size, 0, none⟩ = some (.slice A1 x0.secs.length c2) := var_cell VaD.out 0
  have qaD_1 : W16.cell? ⟨w.heap.size, 1, none⟩ = some (.slice B3 x0.cache.length d4) := var_cell VaD.out 1
  have qaD_2 : W16.cell? ⟨w.heap.size, 2, none⟩ = some (.int .i64 x0.fuse) := var_cell VaD.out 2
  have qaD_3 : W16.cell? ⟨w.heap.size, 3, none⟩ = some (.bool x0.down) := var_cell VaD.out 3
  have laD : w.heap.size < W16.heap.size := by omega
  go_wp2_with fail
  clear qaD_0 qaD_1 qaD_2 qaD_3 laD
  refine (toDisk_rep [.slice A1 x0.secs.length c2, .slice B3 x0.cache.length d4, .int .i64 x0.fuse, .bool x0.down] x0 W16 (Rep.more diskR TaD (by omega)) FaD.out).mono ?_
  rintro e W17 ⟨cs, fp18, rfl, Ox0, hb⟩
  obtain ⟨A19, c20, B21, d22, rfl⟩ := disk_own_shape Ox0
  have ho := Rep.only_of_below hb
  have L23 := Lib.hid (Rep.lt diskR Ox0)
  clear hb
  have SW17 : W16.heap.size ≤ W17.heap.size := ho.size
  have HBW17 := Rep.Only.below HBW16 ho (by omega) (fun a ha => by cases ha)
  replace TaD := Rep.at_only TaD ho (by omega) (fun a ha => by cases ha)
  replace VaD := Rep.var_only VaD ho (by omega) (fun hb => by cases hb)
  clear HBW16
  clear ho
  go_wp2_with fail
  have ho := Rep.only_alloc W17 (.cells #[.slice A19 x0.secs.length c20, .slice B21 x0.cache.length d22, .int .i64 x0.fuse, .bool x0.down] 27)
  have hv := heap_alloc_new W17 (.cells #[.slice A19 x0.secs.length c20, .slice B21 x0.cache.length d22, .int .i64 x0.fuse, .bool x0.down] 27)
  have hs : W17.heap.size < (W17.alloc (.cells #[.slice A19 x0.secs.length c20, .slice B21 x0.cache.length d22, .int .i64 x0.fuse, .bool x0.down] 27)).heap.size := by simp
  generalize hgW : W17.alloc (.cells #[.slice A19 x0.secs.length c20, .slice B21 x0.cache.length d22, .int .i64 x0.fuse, .bool x0.down] 27) = W24 at ho hv hs ⊢
  clear hgW
  have SW24 : W17.heap.size ≤ W24.heap.size := ho.size
  have HBW24 := Rep.Only.below HBW17 ho (by omega) (fun a ha => by cases ha)
  replace TaD := Rep.at_only TaD ho (by omega) (fun a ha => by cases ha)
  replace Ox0 := Rep.own_only Ox0 ho (fun a ha hb => by cases hb)
  replace VaD := Rep.var_only VaD ho (by omega) (fun hb => by cases hb)
  clear HBW17
  have Vx0 := Lib.hid hv
  clear hv ho
  have ZW24 : W17.heap.size < W24.heap.size := hs
  clear hs
  refine (diskOk_rep [.slice A19 x0.secs.length c20, .slice B21 x0.cache.length d22, .int .i64 x0.fuse, .bool x0.down] x0 W24 (Rep.reads diskR Ox0) FaD.out).mono ?_
  rintro e W25 ⟨he, hb⟩
  rw [HY.out] at he
  subst he
  have ho := Rep.only_of_below hb
  clear hb
  have SW25 : W24.heap.size ≤ W25.heap.size := ho.size
  have HBW25 := Rep.Only.below HBW24 ho (by omega) (fun a ha => by cases ha)
  replace TaD := Rep.at_only TaD ho (by omega) (fun a ha => by cases ha)
  replace Ox0 := Rep.own_only Ox0 ho (fun a ha hb => by cases hb)
  replace VaD := Rep.var_only VaD ho (by omega) (fun hb => by cases hb)
  replace Vx0 := Rep.var_only Vx0 ho (by omega) (fun hb => by cases hb)
  clear HBW24
  clear ho
  have qx0_0 : W25.cell? ⟨W17.heap.size, 0, none⟩ = some (.slice A19 x0.secs.length c20) := var_cell Vx0.out 0
  have qx0_1 : W25.cell? ⟨W17.heap.size, 1, none⟩ = some (.slice B21 x0.cache.length d22) := var_cell Vx0.out 1
  have qx0_2 : W25.cell? ⟨W17.heap.size, 2, none⟩ = some (.int .i64 x0.fuse) := var_cell Vx0.out 2
  have qx0_3 : W25.cell? ⟨W17.heap.size, 3, none⟩ = some (.bool x0.down) := var_cell Vx0.out 3
  have lx0 : W17.heap.size < W25.heap.size := by omega
  have qaD_0 : W25.cell? ⟨w.heap.size, 0, none⟩ = some (.slice A1 x0.secs.length c2) := var_cell VaD.out 0
  have qaD_1 : W25.cell? ⟨w.heap.size, 1, none⟩ = some (.slice B3 x0.cache.length d4) := var_cell VaD.out 1
  have qaD_2 : W25.cell? ⟨w.heap.size, 2, none⟩ = some (.int .i64 x0.fuse) := var_cell VaD.out 2
  have qaD_3 : W25.cell? ⟨w.heap.size, 3, none⟩ = some (.bool x0.down) := var_cell VaD.out 3
  have laD : w.heap.size < W25.heap.size := by omega
  go_wp2_with fail
  clear qx0_0 qx0_1 qx0_2 qx0_3 lx0 qaD_0 qaD_1 qaD_2 qaD_3 laD
  go_region_held3 (fun w' => w'.cell? ⟨W17.heap.size, 0, none⟩ = some (.slice A19 x0.secs.length c20) ∧ w'.cell? ⟨W17.heap.size, 1, none⟩ = some (.slice B21 x0.cache.length d22) ∧ w'.cell? ⟨W17.heap.size, 2, none⟩ = some (.int .i64 x0.fuse) ∧ w'.cell? ⟨W17.heap.size, 3, none⟩ = some (.bool x0.down) ∧ w'.cell? ⟨w.heap.size, 0, none⟩ = some (.slice A1 x0.secs.length c2) ∧ w'.cell? ⟨w.heap.size, 1, none⟩ = some (.slice B3 x0.cache.length d4) ∧ w'.cell? ⟨w.heap.size, 2, none⟩ = some (.int .i64 x0.fuse) ∧ w'.cell? ⟨w.heap.size, 3, none⟩ = some (.bool x0.down)) (exact ⟨var_cell Vx0.out 0, var_cell Vx0.out 1, var_cell Vx0.out 2, var_cell Vx0.out 3, var_cell VaD.out 0, var_cell VaD.out 1, var_cell VaD.out 2, var_cell VaD.out 3⟩) (first
    | (go_at_call 32
       have ho := Rep.only_drew W25
       generalize W25.drew = W26 at ho ⊢
       have SW26 : W25.heap.size ≤ W26.heap.size := ho.size
       have HBW26 := Rep.Only.below HBW25 ho (by omega) (fun a ha => by cases ha)
       replace TaD := Rep.at_only TaD ho (by omega) (fun a ha => by cases ha)
       replace Ox0 := Rep.own_only Ox0 ho (fun a ha hb => by cases hb)
       replace VaD := Rep.var_only VaD ho (by omega) (fun hb => by cases hb)
       replace Vx0 := Rep.var_only Vx0 ho (by omega) (fun hb => by cases hb)
       clear HBW25
       clear ho
       refine (toDisk_rep [.slice A1 x0.secs.length c2, .slice B3 x0.cache.length d4, .int .i64 x0.fuse, .bool x0.down] x0 W26 (Rep.more diskR TaD (by omega)) FaD.out).mono ?_
       rintro e W28 ⟨cs, fp29, rfl, Ot27, hb⟩
       obtain ⟨A30, c31, B32, d33, rfl⟩ := disk_own_shape Ot27
       have ho := Rep.only_of_below hb
       have L34 := Lib.hid (Rep.lt diskR Ot27)
       clear hb
       have SW28 : W26.heap.size ≤ W28.heap.size := ho.size
       have HBW28 := Rep.Only.below HBW26 ho (by omega) (fun a ha => by cases ha)
       replace TaD := Rep.at_only TaD ho (by omega) (fun a ha => by cases ha)
       replace Ox0 := Rep.own_only Ox0 ho (fun a ha hb => by cases hb)
       replace VaD := Rep.var_only VaD ho (by omega) (fun hb => by cases hb)
       replace Vx0 := Rep.var_only Vx0 ho (by omega) (fun hb => by cases hb)
       clear HBW26
       clear ho)
    | (go_at_call 28
       refine (eqDisk_same [.slice A19 x0.secs.length c20, .slice B21 x0.cache.length d22, .int .i64 x0.fuse, .bool x0.down] [.slice A30 x0.secs.length c31, .slice B32 x0.cache.length d33, .int .i64 x0.fuse, .bool x0.down] x0 W28 (Rep.reads diskR Ox0) (Rep.reads diskR Ot27) FaD.out).mono ?_
       rintro e W35 ⟨rfl, hb⟩
       have ho := Rep.only_of_below hb
       clear hb
       have SW35 : W28.heap.size ≤ W35.heap.size := ho.size
       have HBW35 := Rep.Only.below HBW28 ho (by omega) (fun a ha => by cases ha)
       replace TaD := Rep.at_only TaD ho (by omega) (fun a ha => by cases ha)
       replace Ox0 := Rep.own_only Ox0 ho (fun a ha hb => by cases hb)
       replace Ot27 := Rep.own_only Ot27 ho (fun a ha hb => by cases hb)
       replace VaD := Rep.var_only VaD ho (by omega) (fun hb => by cases hb)
       replace Vx0 := Rep.var_only Vx0 ho (by omega) (fun hb => by cases hb)
       clear HBW28
       clear ho))
  clear Ot27 L34
  go_wp2_with fail
  go_ret
  exact ⟨rfl, HBW35⟩

end Go.Proofs.Ytjhfnfffpofagaa
