/- The walk of the exact law of Format (written by gen.py). -/
import Derived.Test.YtoaaogacaibedaaFormatI
import Derived.Test.YtoaaogacaibedaaExact
namespace Go.Proofs.Ytoaaogacaibedaa
open Go.RowKit
set_option linter.unusedVariables false

set_option maxRecDepth 100000 in
set_option maxHeartbeats 4000000 in
theorem walk_FnExactFormat (w : World)  :
    Calls Try.prog 6 #[] w fun e w' => e = .returned (.bool true) ∧ Below w.heap.size w w' := by
  have HBw := Below.refl w.heap.size w
  obtain ⟨Y, hy⟩ : ∃ Y, formatP  = Y := ⟨_, rfl⟩
  have FY : Fits Y := by rw [← hy]; exact fits_format
  have HY := Lib.hid hy
  clear hy
  go_enter Try.func6, Try.ntmps6
  go_wp2_with fail
  refine (formatS_rep  w  ).mono ?_
  rintro e W1 ⟨cs, rfl, Tw0, hb⟩
  rw [HY.out] at Tw0
  obtain ⟨A3, c4, B5, d6, rfl⟩ := disk_at_shape Tw0
  have ho := Rep.only_of_below hb
  clear hb
  have SW1 : w.heap.size ≤ W1.heap.size := ho.size
  have HBW1 := Rep.Only.below HBw ho (by omega) (fun a ha => by cases ha)
  clear HBw
  clear ho
  go_wp2_with fail
  have ho := Rep.only_alloc W1 (.cells #[.slice A3 Y.secs.length c4, .slice B5 Y.cache.length d6, .int .i64 Y.fuse, .bool Y.down] 37)
  have hv := heap_alloc_new W1 (.cells #[.slice A3 Y.secs.length c4, .slice B5 Y.cache.length d6, .int .i64 Y.fuse, .bool Y.down] 37)
  have hs : W1.heap.size < (W1.alloc (.cells #[.slice A3 Y.secs.length c4, .slice B5 Y.cache.length d6, .int .i64 Y.fuse, .bool Y.down] 37)).heap.size := by simp
  generalize hgW : W1.alloc (.cells #[.slice A3 Y.secs.length c4, .slice B5 Y.cache.length d6, .int .i64 Y.fuse, .bool Y.down] 37) = W7 at ho hv hs ⊢
  clear hgW
  have SW7 : W1.heap.size ≤ W7.heap.size := ho.size
  have HBW7 := Rep.Only.below HBW1 ho (by omega) (fun a ha => by cases ha)
  replace Tw0 := Rep.at_only Tw0 ho (by omega) (fun a ha => by cases ha)
  clear HBW1
  have Vw0 := Lib.hid hv
  clear hv ho
  have ZW7 : W1.heap.size < W7.heap.size := hs
  clear hs
  refine (format_rep  W7  ).mono ?_
  rintro e W8 ⟨cs, fp9, rfl, Og0, hb⟩
  rw [HY.out] at Og0
  obtain ⟨A10, c11, B12, d13, rfl⟩ := disk_own_shape Og0
  have ho := Rep.only_of_below hb
  have L14 := Lib.hid (Rep.lt diskR Og0)
  clear hb
  have SW8 : W7.heap.size ≤ W8.heap.size := ho.size
  have HBW8 := Rep.Only.below HBW7 ho (by omega) (fun a ha => by cases ha)
  replace Tw0 := Rep.at_only Tw0 ho (by omega) (fun a ha => by cases ha)
  replace Vw0 := Rep.var_only Vw0 ho (by omega) (fun hb => by cases hb)
  clear HBW7
  clear ho
  have qw0_0 : W8.cell? ⟨W1.heap.size, 0, none⟩ = some (.slice A3 Y.secs.length c4) := var_cell Vw0.out 0
  have qw0_1 : W8.cell? ⟨W1.heap.size, 1, none⟩ = some (.slice B5 Y.cache.length d6) := var_cell Vw0.out 1
  have qw0_2 : W8.cell? ⟨W1.heap.size, 2, none⟩ = some (.int .i64 Y.fuse) := var_cell Vw0.out 2
  have qw0_3 : W8.cell? ⟨W1.heap.size, 3, none⟩ = some (.bool Y.down) := var_cell Vw0.out 3
  have lw0 : W1.heap.size < W8.heap.size := by omega
  go_wp2_with fail
  clear qw0_0 qw0_1 qw0_2 qw0_3 lw0
  have ho := Rep.only_alloc W8 (.cells #[.slice A10 Y.secs.length c11, .slice B12 Y.cache.length d13, .int .i64 Y.fuse, .bool Y.down] 37)
  have hv := heap_alloc_new W8 (.cells #[.slice A10 Y.secs.length c11, .slice B12 Y.cache.length d13, .int .i64 Y.fuse, .bool Y.down] 37)
  have hs : W8.heap.size < (W8.alloc (.cells #[.slice A10 Y.secs.length c11, .slice B12 Y.cache.length d13, .int .i64 Y.fuse, .bool Y.down] 37)).heap.size := by simp
  generalize hgW : W8.alloc (.cells #[.slice A10 Y.secs.length c11, .slice B12 Y.cache.length d13, .int .i64 Y.fuse, .bool Y.down] 37) = W15 at ho hv hs ⊢
  clear hgW
  have SW15 : W8.heap.size ≤ W15.heap.size := ho.size
  have HBW15 := Rep.Only.below HBW8 ho (by omega) (fun a ha => by cases ha)
  replace Tw0 := Rep.at_only Tw0 ho (by omega) (fun a ha => by cases ha)
  replace Og0 := Rep.own_only Og0 ho (fun a ha hb => by cases hb)
  replace Vw0 := Rep.var_only Vw0 ho (by omega) (fun hb => by cases hb)
  clear HBW8
  have Vg0 := Lib.hid hv
  clear hv ho
  have ZW15 : W8.heap.size < W15.heap.size := hs
  clear hs
  refine (eqDisk_same [.slice A10 Y.secs.length c11, .slice B12 Y.cache.length d13, .int .i64 Y.fuse, .bool Y.down] [.slice A3 Y.secs.length c4, .slice B5 Y.cache.length d6, .int .i64 Y.fuse, .bool Y.down] Y W15 (Rep.reads diskR Og0) (Rep.more diskR Tw0 (by omega)) FY).mono ?_
  rintro e W16 ⟨rfl, hb⟩
  have ho := Rep.only_of_below hb
  clear hb
  have SW16 : W15.heap.size ≤ W16.heap.size := ho.size
  have HBW16 := Rep.Only.below HBW15 ho (by omega) (fun a ha => by cases ha)
  replace Tw0 := Rep.at_only Tw0 ho (by omega) (fun a ha => by cases ha)
  replace Og0 := Rep.own_only Og0 ho (fun a ha hb => by cases hb)
  replace Vw0 := Rep.var_only Vw0 ho (by omega) (fun hb => by cases hb)
  replace Vg0 := Rep.var_only Vg0 ho (by omega) (fun hb => by cases hb)
  clear HBW15
  clear ho
  have qg0_0 : W16.cell? ⟨W8.heap.size, 0, none⟩ = some (.slice A10 Y.secs.length c11) := var_cell Vg0.out 0
  have qg0_1 : W16.cell? ⟨W8.heap.size, 1, none⟩ = some (.slice B12 Y.cache.length d13) := var_cell Vg0.out 1
  have qg0_2 : W16.cell? ⟨W8.heap.size, 2, none⟩ = some (.int .i64 Y.fuse) := var_cell Vg0.out 2
  have qg0_3 : W16.cell? ⟨W8.heap.size, 3, none⟩ = some (.bool Y.down) := var_cell Vg0.out 3
  have lg0 : W8.heap.size < W16.heap.size := by omega
  go_wp2_with fail
  clear qg0_0 qg0_1 qg0_2 qg0_3 lg0
  obtain ⟨N18, hN, hN2⟩ : ∃ N : Nat, 1 + cntD Y = N ∧ N ≤ 1 + 8796093022208 := ⟨_, rfl, by have := cntD_le2 FY; omega⟩
  have HN18 := Lib.hid hN
  have BN18 := hN2
  clear hN hN2
  refine (markDisk_any [.slice A10 Y.secs.length c11, .slice B12 Y.cache.length d13, .int .i64 Y.fuse, .bool Y.down] 1 Y fp9 W16 _ Og0 FY (by omega)).mono ?_
  rintro e W17 ⟨he, hown, ho⟩
  rw [HN18.out] at he
  subst he
  replace Og0 := hown
  clear hown
  have SW17 : W16.heap.size ≤ W17.heap.size := ho.size
  have HBW17 := Rep.Only.below HBW16 ho (by omega) (fun a ha => by have := (L14.out a ha).1; omega)
  replace Tw0 := Rep.at_only Tw0 ho (by omega) (fun a ha => by have := (L14.out a ha).1; omega)
  replace Vw0 := Rep.var_only Vw0 ho (by omega) (fun hb => by have := L14.out _ hb; omega)
  replace Vg0 := Rep.var_only Vg0 ho (by omega) (fun hb => by have := L14.out _ hb; omega)
  clear HBW16
  clear ho
  have qg0_0 : W17.cell? ⟨W8.heap.size, 0, none⟩ = some (.slice A10 Y.secs.length c11) := var_cell Vg0.out 0
  have qg0_1 : W17.cell? ⟨W8.heap.size, 1, none⟩ = some (.slice B12 Y.cache.length d13) := var_cell Vg0.out 1
  have qg0_2 : W17.cell? ⟨W8.heap.size, 2, none⟩ = some (.int .i64 Y.fuse) := var_cell Vg0.out 2
  have qg0_3 : W17.cell? ⟨W8.heap.size, 3, none⟩ = some (.bool Y.down) := var_cell Vg0.out 3
  have lg0 : W8.heap.size < W17.heap.size := by omega
  go_wp2_with fail
  clear qg0_0 qg0_1 qg0_2 qg0_3 lg0
  refine (heldDisk_any [.slice A10 Y.secs.length c11, .slice B12 Y.cache.length d13, .int .i64 Y.fuse, .bool Y.down] 1 Y W17 (Rep.reads diskR Og0) FY (by omega)).mono ?_
  rintro e W19 ⟨he, hb⟩
  rw [HN18.out] at he
  subst he
  have ho := Rep.only_of_below hb
  clear hb
  have SW19 : W17.heap.size ≤ W19.heap.size := ho.size
  have HBW19 := Rep.Only.below HBW17 ho (by omega) (fun a ha => by cases ha)
  replace Tw0 := Rep.at_only Tw0 ho (by omega) (fun a ha => by cases ha)
  replace Og0 := Rep.own_only Og0 ho (fun a ha hb => by cases hb)
  replace Vw0 := Rep.var_only Vw0 ho (by omega) (fun hb => by cases hb)
  replace Vg0 := Rep.var_only Vg0 ho (by omega) (fun hb => by cases hb)
  clear HBW17
  clear ho
  have nn20 : ((N18 : Int) != (N18 : Int)) = false := by simp
  go_wp2_with fail
  refine (format_rep  W19  ).mono ?_
  rintro e W21 ⟨cs, fp22, rfl, Oh0, hb⟩
  rw [HY.out] at Oh0
  obtain ⟨A23, c24, B25, d26, rfl⟩ := disk_own_shape Oh0
  have ho := Rep.only_of_below hb
  have L27 := Lib.hid (Rep.lt diskR Oh0)
  clear hb
  have SW21 : W19.heap.size ≤ W21.heap.size := ho.size
  have HBW21 := Rep.Only.below HBW19 ho (by omega) (fun a ha => by cases ha)
  replace Tw0 := Rep.at_only Tw0 ho (by omega) (fun a ha => by cases ha)
  replace Og0 := Rep.own_only Og0 ho (fun a ha hb => by cases hb)
  replace Vw0 := Rep.var_only Vw0 ho (by omega) (fun hb => by cases hb)
  replace Vg0 := Rep.var_only Vg0 ho (by omega) (fun hb => by cases hb)
  clear HBW19
  clear ho
  have qw0_0 : W21.cell? ⟨W1.heap.size, 0, none⟩ = some (.slice A3 Y.secs.length c4) := var_cell Vw0.out 0
  have qw0_1 : W21.cell? ⟨W1.heap.size, 1, none⟩ = some (.slice B5 Y.cache.length d6) := var_cell Vw0.out 1
  have qw0_2 : W21.cell? ⟨W1.heap.size, 2, none⟩ = some (.int .i64 Y.fuse) := var_cell Vw0.out 2
  have qw0_3 : W21.cell? ⟨W1.heap.size, 3, none⟩ = some (.bool Y.down) := var_cell Vw0.out 3
  have lw0 : W1.heap.size < W21.heap.size := by omega
  go_wp2_with fail
  clear qw0_0 qw0_1 qw0_2 qw0_3 lw0
  have ho := Rep.only_alloc W21 (.cells #[.slice A23 Y.secs.length c24, .slice B25 Y.cache.length d26, .int .i64 Y.fuse, .bool Y.down] 37)
  have hv := heap_alloc_new W21 (.cells #[.slice A23 Y.secs.length c24, .slice B25 Y.cache.length d26, .int .i64 Y.fuse, .bool Y.down] 37)
  have hs : W21.heap.size < (W21.alloc (.cells #[.slice A23 Y.secs.length c24, .slice B25 Y.cache.length d26, .int .i64 Y.fuse, .bool Y.down] 37)).heap.size := by simp
  generalize hgW : W21.alloc (.cells #[.slice A23 Y.secs.length c24, .slice B25 Y.cache.length d26, .int .i64 Y.fuse, .bool Y.down] 37) = W28 at ho hv hs ⊢
  clear hgW
  have SW28 : W21.heap.size ≤ W28.heap.size := ho.size
  have HBW28 := Rep.Only.below HBW21 ho (by omega) (fun a ha => by cases ha)
  replace Tw0 := Rep.at_only Tw0 ho (by omega) (fun a ha => by cases ha)
  replace Og0 := Rep.own_only Og0 ho (fun a ha hb => by cases hb)
  replace Oh0 := Rep.own_only Oh0 ho (fun a ha hb => by cases hb)
  replace Vw0 := Rep.var_only Vw0 ho (by omega) (fun hb => by cases hb)
  replace Vg0 := Rep.var_only Vg0 ho (by omega) (fun hb => by cases hb)
  clear HBW21
  have Vh0 := Lib.hid hv
  clear hv ho
  have ZW28 : W21.heap.size < W28.heap.size := hs
  clear hs
  refine (eqDisk_same [.slice A23 Y.secs.length c24, .slice B25 Y.cache.length d26, .int .i64 Y.fuse, .bool Y.down] [.slice A3 Y.secs.length c4, .slice B5 Y.cache.length d6, .int .i64 Y.fuse, .bool Y.down] Y W28 (Rep.reads diskR Oh0) (Rep.more diskR Tw0 (by omega)) FY).mono ?_
  rintro e W29 ⟨rfl, hb⟩
  have ho := Rep.only_of_below hb
  clear hb
  have SW29 : W28.heap.size ≤ W29.heap.size := ho.size
  have HBW29 := Rep.Only.below HBW28 ho (by omega) (fun a ha => by cases ha)
  replace Tw0 := Rep.at_only Tw0 ho (by omega) (fun a ha => by cases ha)
  replace Og0 := Rep.own_only Og0 ho (fun a ha hb => by cases hb)
  replace Oh0 := Rep.own_only Oh0 ho (fun a ha hb => by cases hb)
  replace Vw0 := Rep.var_only Vw0 ho (by omega) (fun hb => by cases hb)
  replace Vg0 := Rep.var_only Vg0 ho (by omega) (fun hb => by cases hb)
  replace Vh0 := Rep.var_only Vh0 ho (by omega) (fun hb => by cases hb)
  clear HBW28
  clear ho
  clear Oh0 L27
  clear Tw0
  have qg0_0 : W29.cell? ⟨W8.heap.size, 0, none⟩ = some (.slice A10 Y.secs.length c11) := var_cell Vg0.out 0
  have qg0_1 : W29.cell? ⟨W8.heap.size, 1, none⟩ = some (.slice B12 Y.cache.length d13) := var_cell Vg0.out 1
  have qg0_2 : W29.cell? ⟨W8.heap.size, 2, none⟩ = some (.int .i64 Y.fuse) := var_cell Vg0.out 2
  have qg0_3 : W29.cell? ⟨W8.heap.size, 3, none⟩ = some (.bool Y.down) := var_cell Vg0.out 3
  have lg0 : W8.heap.size < W29.heap.size := by omega
  go_wp2_with fail
  clear qg0_0 qg0_1 qg0_2 qg0_3 lg0
  refine (heldDisk_any [.slice A10 Y.secs.length c11, .slice B12 Y.cache.length d13, .int .i64 Y.fuse, .bool Y.down] 1 Y W29 (Rep.reads diskR Og0) FY (by omega)).mono ?_
  rintro e W30 ⟨he, hb⟩
  rw [HN18.out] at he
  subst he
  have ho := Rep.only_of_below hb
  clear hb
  have SW30 : W29.heap.size ≤ W30.heap.size := ho.size
  have HBW30 := Rep.Only.below HBW29 ho (by omega) (fun a ha => by cases ha)
  replace Og0 := Rep.own_only Og0 ho (fun a ha hb => by cases hb)
  replace Vg0 := Rep.var_only Vg0 ho (by omega) (fun hb => by cases hb)
  clear HBW29
  clear ho
  have nn31 : ((N18 : Int) != (N18 : Int)) = false := by simp
  go_wp2_with fail
  go_ret
  exact ⟨rfl, HBW30⟩

end Go.Proofs.Ytoaaogacaibedaa
