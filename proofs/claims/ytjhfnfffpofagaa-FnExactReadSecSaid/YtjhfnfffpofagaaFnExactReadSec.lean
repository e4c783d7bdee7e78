/- The walk of the exact law of ReadSec (written by gen.py). -/
import Derived.Test.YtjhfnfffpofagaaReadSecS
import Derived.Test.YtjhfnfffpofagaaExact
namespace Go.Proofs.Ytjhfnfffpofagaa
open Go.RowKit
set_option linter.unusedVariables false

set_option maxRecDepth 100000 in
set_option maxHeartbeats 4000000 in
theorem walk_FnExactReadSec (w : World) (cs0 : List Value) (x0 : Disk) (w0 : diskR.at_ w w.heap.size cs0 x0) (k0 : OkDisk x0) (a1 : Int) (w1 : (Lit.int .i64 a1).wf = true) :
    Calls Try.prog 7 #[.agg cs0.toArray, .int .i64 a1] w fun e w' => e = .returned (.bool true) ∧ Below w.heap.size w w' := by
  obtain ⟨A1, c2, B3, d4, rfl⟩ := disk_at_shape w0
  have TaD := w0
  clear w0
  have HBw := Below.refl w.heap.size w
  go_enter Try.func7, Try.ntmps7
  go_wp2_with fail
  have ho := Rep.only_alloc w (.cells #[.slice A1 x0.secs.length c2, .slice B3 x0.cache.length d4, .int .i64 x0.fuse, .bool x0.down] 48)
  have hv := heap_alloc_new w (.cells #[.slice A1 x0.secs.length c2, .slice B3 x0.cache.length d4, .int .i64 x0.fuse, .bool x0.down] 48)
  have hs : w.heap.size < (w.alloc (.cells #[.slice A1 x0.secs.length c2, .slice B3 x0.cache.length d4, .int .i64 x0.fuse, .bool x0.down] 48)).heap.size := by simp
  generalize hgW : w.alloc (.cells #[.slice A1 x0.secs.length c2, .slice B3 x0.cache.length d4, .int .i64 x0.fuse, .bool x0.down] 48) = W5 at ho hv hs ⊢
  clear hgW
  have SW5 : w.heap.size ≤ W5.heap.size := ho.size
  have HBW5 := Rep.Only.below HBw ho (by omega) (fun a ha => by cases ha)
  replace TaD := Rep.at_only TaD ho (by omega) (fun a ha => by cases ha)
  clear HBw
  have VaD := Lib.hid hv
  clear hv ho
  have ZW5 : w.heap.size < W5.heap.size := hs
  clear hs
  refine (szDisk_room [.slice A1 x0.secs.length c2, .slice B3 x0.cache.length d4, .int .i64 x0.fuse, .bool x0.down] x0 1048576 W5 (Rep.more diskR TaD (by omega)) (by omega)).mono ?_
  rintro e W6 ⟨hz, hb⟩
  have ho := Rep.only_of_below hb
  clear hb
  have SW6 : W5.heap.size ≤ W6.heap.size := ho.size
  have HBW6 := Rep.Only.below HBW5 ho (by omega) (fun a ha => by cases ha)
  replace TaD := Rep.at_only TaD ho (by omega) (fun a ha => by cases ha)
  replace VaD := Rep.var_only VaD ho (by omega) (fun hb => by cases hb)
  clear HBW5
  clear ho
  obtain ⟨z7, hz7, HfitaD, rfl⟩ | rfl := hz
  rotate_left
  · go_wp2_with fail
    go_ret
    exact ⟨rfl, HBW6⟩
  have FaD := Lib.hid HfitaD
  clear HfitaD
  obtain ⟨Y, hy⟩ : ∃ Y, readSec x0 a1 = Y := ⟨_, rfl⟩
  have FY : FitsB Y := by rw [← hy]; exact fits_readSec FaD.out _
  have HY := Lib.hid hy
  clear hy
  have qaD_0 : W6.cell? ⟨w.heap.size, 0, none⟩ = some (.slice A1 x0.secs.length c2) := var_cell VaD.out 0
  have qaD_1 : W6.cell? ⟨w.heap.size, 1, none⟩ = some (.slice B3 x0.cache.length d4) := var_cell VaD.out 1
  have qaD_2 : W6.cell? ⟨w.heap.size, 2, none⟩ = some (.int .i64 x0.fuse) := var_cell VaD.out 2
  have qaD_3 : W6.cell? ⟨w.heap.size, 3, none⟩ = some (.bool x0.down) := var_cell VaD.out 3
  have laD : w.heap.size < W6.heap.size := by omega
  go_wp2_with fail
  clear qaD_0 qaD_1 qaD_2 qaD_3 laD
  refine (toDisk_rep [.slice A1 x0.secs.length c2, .slice B3 x0.cache.length d4, .int .i64 x0.fuse, .bool x0.down] x0 W6 (Rep.more diskR TaD (by omega)) FaD.out).mono ?_
  rintro e W9 ⟨cs, fp10, rfl, Ot8, hb⟩
  obtain ⟨A11, c12, B13, d14, rfl⟩ := disk_own_shape Ot8
  have ho := Rep.only_of_below hb
  have L15 := Lib.hid (Rep.lt diskR Ot8)
  clear hb
  have SW9 : W6.heap.size ≤ W9.heap.size := ho.size
  have HBW9 := Rep.Only.below HBW6 ho (by omega) (fun a ha => by cases ha)
  replace TaD := Rep.at_only TaD ho (by omega) (fun a ha => by cases ha)
  replace VaD := Rep.var_only VaD ho (by omega) (fun hb => by cases hb)
  clear HBW6
  clear ho
  go_wp2_with fail
  refine (readSecS_rep [.slice A11 x0.secs.length c12, .slice B13 x0.cache.length d14, .int .i64 x0.fuse, .bool x0.down] x0 a1 W9 (Rep.reads diskR Ot8) FaD.out w1).mono ?_
  rw [HY.out]
  rintro e W16 ⟨A18, c19, fp17, rfl, Ow0, hb⟩
  have Tw0 := Rep.reads byR Ow0
  clear Ow0
  have ho := Rep.only_of_below hb
  clear hb
  have SW16 : W9.heap.size ≤ W16.heap.size := ho.size
  have HBW16 := Rep.Only.below HBW9 ho (by omega) (fun a ha => by cases ha)
  replace TaD := Rep.at_only TaD ho (by omega) (fun a ha => by cases ha)
  replace Ot8 := Rep.own_only Ot8 ho (fun a ha hb => by cases hb)
  replace VaD := Rep.var_only VaD ho (by omega) (fun hb => by cases hb)
  clear HBW9
  clear ho
  clear Ot8 L15
  have qaD_0 : W16.cell? ⟨w.heap.size, 0, none⟩ = some (.slice A1 x0.secs.length c2) := var_cell VaD.out 0
  have qaD_1 : W16.cell? ⟨w.heap.size, 1, none⟩ = some (.slice B3 x0.cache.length d4) := var_cell VaD.out 1
  have qaD_2 : W16.cell? ⟨w.heap.size, 2, none⟩ = some (.int .i64 x0.fuse) := var_cell VaD.out 2
  have qaD_3 : W16.cell? ⟨w.heap.size, 3, none⟩ = some (.bool x0.down) := var_cell VaD.out 3
  have laD : w.heap.size < W16.heap.size := by omega
  go_wp2_with fail
  clear qaD_0 qaD_1 qaD_2 qaD_3 laD
  refine (toDisk_rep [.slice A1 x0.secs.length c2, .slice B3 x0.cache.length d4, .int .i64 x0.fuse, .bool x0.down] x0 W16 (Rep.more diskR TaD (by omega)) FaD.out).mono ?_
  rintro e W20 ⟨cs, fp21, rfl, Ox0, hb⟩
  obtain ⟨A22, c23, B24, d25, rfl⟩ := disk_own_shape Ox0
  have ho := Rep.only_of_below hb
  have L26 := Lib.hid (Rep.lt diskR Ox0)
  clear hb
  have SW20 : W16.heap.size ≤ W20.heap.size := ho.size
  have HBW20 := Rep.Only.below HBW16 ho (by omega) (fun a ha => by cases ha)
  replace TaD := Rep.at_only TaD ho (by omega) (fun a ha => by cases ha)
  replace Tw0 := Rep.at_only Tw0 ho (by omega) (fun a ha => by cases ha)
  replace VaD := Rep.var_only VaD ho (by omega) (fun hb => by cases hb)
  clear HBW16
  clear ho
  go_wp2_with fail
  have ho := Rep.only_alloc W20 (.cells #[.slice A22 x0.secs.length c23, .slice B24 x0.cache.length d25, .int .i64 x0.fuse, .bool x0.down] 27)
  have hv := heap_alloc_new W20 (.cells #[.slice A22 x0.secs.length c23, .slice B24 x0.cache.length d25, .int .i64 x0.fuse, .bool x0.down] 27)
  have hs : W20.heap.size < (W20.alloc (.cells #[.slice A22 x0.secs.length c23, .slice B24 x0.cache.length d25, .int .i64 x0.fuse, .bool x0.down] 27)).heap.size := by simp
  generalize hgW : W20.alloc (.cells #[.slice A22 x0.secs.length c23, .slice B24 x0.cache.length d25, .int .i64 x0.fuse, .bool x0.down] 27) = W27 at ho hv hs ⊢
  clear hgW
  have SW27 : W20.heap.size ≤ W27.heap.size := ho.size
  have HBW27 := Rep.Only.below HBW20 ho (by omega) (fun a ha => by cases ha)
  replace TaD := Rep.at_only TaD ho (by omega) (fun a ha => by cases ha)
  replace Tw0 := Rep.at_only Tw0 ho (by omega) (fun a ha => by cases ha)
  replace Ox0 := Rep.own_only Ox0 ho (fun a ha hb => by cases hb)
  replace VaD := Rep.var_only VaD ho (by omega) (fun hb => by cases hb)
  clear HBW20
  have Vx0 := Lib.hid hv
  clear hv ho
  have ZW27 : W20.heap.size < W27.heap.size := hs
  clear hs
  refine (readSec_rep [.slice A22 x0.secs.length c23, .slice B24 x0.cache.length d25, .int .i64 x0.fuse, .bool x0.down] x0 a1 W27 (Rep.reads diskR Ox0) FaD.out w1).mono ?_
  rw [HY.out]
  rintro e W28 ⟨A30, c31, fp29, rfl, Og0, hb⟩
  have ho := Rep.only_of_below hb
  have L32 := Lib.hid (Rep.lt byR Og0)
  clear hb
  have SW28 : W27.heap.size ≤ W28.heap.size := ho.size
  have HBW28 := Rep.Only.below HBW27 ho (by omega) (fun a ha => by cases ha)
  replace TaD := Rep.at_only TaD ho (by omega) (fun a ha => by cases ha)
  replace Tw0 := Rep.at_only Tw0 ho (by omega) (fun a ha => by cases ha)
  replace Ox0 := Rep.own_only Ox0 ho (fun a ha hb => by cases hb)
  replace VaD := Rep.var_only VaD ho (by omega) (fun hb => by cases hb)
  replace Vx0 := Rep.var_only Vx0 ho (by omega) (fun hb => by cases hb)
  clear HBW27
  clear ho
  go_wp2_with fail
  refine (eqByteS_rep [.slice A30 Y.length c31] [.slice A18 Y.length c19] Y W28 (Rep.reads byR Og0) (Rep.more byR Tw0 (by omega)) FY).mono ?_
  rintro e W33 ⟨rfl, hb⟩
  have ho := Rep.only_of_below hb
  clear hb
  have SW33 : W28.heap.size ≤ W33.heap.size := ho.size
  have HBW33 := Rep.Only.below HBW28 ho (by omega) (fun a ha => by cases ha)
  replace TaD := Rep.at_only TaD ho (by omega) (fun a ha => by cases ha)
  replace Tw0 := Rep.at_only Tw0 ho (by omega) (fun a ha => by cases ha)
  replace Ox0 := Rep.own_only Ox0 ho (fun a ha hb => by cases hb)
  replace Og0 := Rep.own_only Og0 ho (fun a ha hb => by cases hb)
  replace VaD := Rep.var_only VaD ho (by omega) (fun hb => by cases hb)
  replace Vx0 := Rep.var_only Vx0 ho (by omega) (fun hb => by cases hb)
  clear HBW28
  clear ho
  have qx0_0 : W33.cell? ⟨W20.heap.size, 0, none⟩ = some (.slice A22 x0.secs.length c23) := var_cell Vx0.out 0
  have qx0_1 : W33.cell? ⟨W20.heap.size, 1, none⟩ = some (.slice B24 x0.cache.length d25) := var_cell Vx0.out 1
  have qx0_2 : W33.cell? ⟨W20.heap.size, 2, none⟩ = some (.int .i64 x0.fuse) := var_cell Vx0.out 2
  have qx0_3 : W33.cell? ⟨W20.heap.size, 3, none⟩ = some (.bool x0.down) := var_cell Vx0.out 3
  have lx0 : W20.heap.size < W33.heap.size := by omega
  have qaD_0 : W33.cell? ⟨w.heap.size, 0, none⟩ = some (.slice A1 x0.secs.length c2) := var_cell VaD.out 0
  have qaD_1 : W33.cell? ⟨w.heap.size, 1, none⟩ = some (.slice B3 x0.cache.length d4) := var_cell VaD.out 1
  have qaD_2 : W33.cell? ⟨w.heap.size, 2, none⟩ = some (.int .i64 x0.fuse) := var_cell VaD.out 2
  have qaD_3 : W33.cell? ⟨w.heap.size, 3, none⟩ = some (.bool x0.down) := var_cell VaD.out 3
  have laD : w.heap.size < W33.heap.size := by omega
  go_wp2_with fail
  clear qx0_0 qx0_1 qx0_2 qx0_3 lx0 qaD_0 qaD_1 qaD_2 qaD_3 laD
  go_region_held3 (fun w' => w'.cell? ⟨W20.heap.size, 0, none⟩ = some (.slice A22 x0.secs.length c23) ∧ w'.cell? ⟨W20.heap.size, 1, none⟩ = some (.slice B24 x0.cache.length d25) ∧ w'.cell? ⟨W20.heap.size, 2, none⟩ = some (.int .i64 x0.fuse) ∧ w'.cell? ⟨W20.heap.size, 3, none⟩ = some (.bool x0.down) ∧ w'.cell? ⟨w.heap.size, 0, none⟩ = some (.slice A1 x0.secs.length c2) ∧ w'.cell? ⟨w.heap.size, 1, none⟩ = some (.slice B3 x0.cache.length d4) ∧ w'.cell? ⟨w.heap.size, 2, none⟩ = some (.int .i64 x0.fuse) ∧ w'.cell? ⟨w.heap.size, 3, none⟩ = some (.bool x0.down)) (exact ⟨var_cell Vx0.out 0, var_cell Vx0.out 1, var_cell Vx0.out 2, var_cell Vx0.out 3, var_cell VaD.out 0, var_cell VaD.out 1, var_cell VaD.out 2, var_cell VaD.out 3⟩) (first
    | (go_at_call 32
       have ho := Rep.only_drew W33
       generalize W33.drew = W34 at ho ⊢
       have SW34 : W33.heap.size ≤ W34.heap.size := ho.size
       have HBW34 := Rep.Only.below HBW33 ho (by omega) (fun a ha => by cases ha)
       replace TaD := Rep.at_only TaD ho (by omega) (fun a ha => by cases ha)
       replace Tw0 := Rep.at_only Tw0 ho (by omega) (fun a ha => by cases ha)
       replace Ox0 := Rep.own_only Ox0 ho (fun a ha hb => by cases hb)
       replace Og0 := Rep.own_only Og0 ho (fun a ha hb => by cases hb)
       replace VaD := Rep.var_only VaD ho (by omega) (fun hb => by cases hb)
       replace Vx0 := Rep.var_only Vx0 ho (by omega) (fun hb => by cases hb)
       clear HBW33
       clear ho
       refine (toDisk_rep [.slice A1 x0.secs.length c2, .slice B3 x0.cache.length d4, .int .i64 x0.fuse, .bool x0.down] x0 W34 (Rep.more diskR TaD (by omega)) FaD.out).mono ?_
       rintro e W36 ⟨cs, fp37, rfl, Ot35, hb⟩
       obtain ⟨A38, c39, B40, d41, rfl⟩ := disk_own_shape Ot35
       have ho := Rep.only_of_below hb
       have L42 := Lib.hid (Rep.lt diskR Ot35)
       clear hb
       have SW36 : W34.heap.size ≤ W36.heap.size := ho.size
       have HBW36 := Rep.Only.below HBW34 ho (by omega) (fun a ha => by cases ha)
       replace TaD := Rep.at_only TaD ho (by omega) (fun a ha => by cases ha)
       replace Tw0 := Rep.at_only Tw0 ho (by omega) (fun a ha => by cases ha)
       replace Ox0 := Rep.own_only Ox0 ho (fun a ha hb => by cases hb)
       replace Og0 := Rep.own_only Og0 ho (fun a ha hb => by cases hb)
       replace VaD := Rep.var_only VaD ho (by omega) (fun hb => by cases hb)
       replace Vx0 := Rep.var_only Vx0 ho (by omega) (fun hb => by cases hb)
       clear HBW34
       clear ho)
    | (go_at_call 28
       refine (eqDisk_same [.slice A22 x0.secs.length c23, .slice B24 x0.cache.length d25, .int .i64 x0.fuse, .bool x0.down] [.slice A38 x0.secs.length c39, .slice B40 x0.cache.length d41, .int .i64 x0.fuse, .bool x0.down] x0 W36 (Rep.reads diskR Ox0) (Rep.reads diskR Ot35) FaD.out).mono ?_
       rintro e W43 ⟨rfl, hb⟩
       have ho := Rep.only_of_below hb
       clear hb
       have SW43 : W36.heap.size ≤ W43.heap.size := ho.size
       have HBW43 := Rep.Only.below HBW36 ho (by omega) (fun a ha => by cases ha)
       replace TaD := Rep.at_only TaD ho (by omega) (fun a ha => by cases ha)
       replace Tw0 := Rep.at_only Tw0 ho (by omega) (fun a ha => by cases ha)
       replace Ox0 := Rep.own_only Ox0 ho (fun a ha hb => by cases hb)
       replace Og0 := Rep.own_only Og0 ho (fun a ha hb => by cases hb)
       replace Ot35 := Rep.own_only Ot35 ho (fun a ha hb => by cases hb)
       replace VaD := Rep.var_only VaD ho (by omega) (fun hb => by cases hb)
       replace Vx0 := Rep.var_only Vx0 ho (by omega) (fun hb => by cases hb)
       clear HBW36
       clear ho))
  clear Ot35 L42
  have qx0_0 : W43.cell? ⟨W20.heap.size, 0, none⟩ = some (.slice A22 x0.secs.length c23) := var_cell Vx0.out 0
  have qx0_1 : W43.cell? ⟨W20.heap.size, 1, none⟩ = some (.slice B24 x0.cache.length d25) := var_cell Vx0.out 1
  have qx0_2 : W43.cell? ⟨W20.heap.size, 2, none⟩ = some (.int .i64 x0.fuse) := var_cell Vx0.out 2
  have qx0_3 : W43.cell? ⟨W20.heap.size, 3, none⟩ = some (.bool x0.down) := var_cell Vx0.out 3
  have lx0 : W20.heap.size < W43.heap.size := by omega
  go_wp2_with fail
  clear qx0_0 qx0_1 qx0_2 qx0_3 lx0
  obtain ⟨N45, hN, hN2⟩ : ∃ N : Nat, 1 + cntD x0 = N ∧ N ≤ 1 + 8796093022208 := ⟨_, rfl, by have := cntD_le2 FaD.out; omega⟩
  have HN45 := Lib.hid hN
  have BN45 := hN2
  clear hN hN2
  refine (markDisk_any [.slice A22 x0.secs.length c23, .slice B24 x0.cache.length d25, .int .i64 x0.fuse, .bool x0.down] 1 x0 fp21 W43 _ Ox0 FaD.out (by omega)).mono ?_
  rintro e W44 ⟨he, hown, ho⟩
  rw [HN45.out] at he
  subst he
  replace Ox0 := hown
  clear hown
  have SW44 : W43.heap.size ≤ W44.heap.size := ho.size
  have HBW44 := Rep.Only.below HBW43 ho (by omega) (fun a ha => by have := (L26.out a ha).1; omega)
  replace TaD := Rep.at_only TaD ho (by omega) (fun a ha => by have := (L26.out a ha).1; omega)
  replace Tw0 := Rep.at_only Tw0 ho (by omega) (fun a ha => by have := (L26.out a ha).1; omega)
  replace Og0 := Rep.own_only Og0 ho (fun a ha hb => by have := L32.out a ha; have := L26.out a hb; omega)
  replace VaD := Rep.var_only VaD ho (by omega) (fun hb => by have := L26.out _ hb; omega)
  replace Vx0 := Rep.var_only Vx0 ho (by omega) (fun hb => by have := L26.out _ hb; omega)
  clear HBW43
  clear ho
  go_wp2_with fail
  refine (eqByteS_rep [.slice A30 Y.length c31] [.slice A18 Y.length c19] Y W44 (Rep.reads byR Og0) (Rep.more byR Tw0 (by omega)) FY).mono ?_
  rintro e W46 ⟨rfl, hb⟩
  have ho := Rep.only_of_below hb
  clear hb
  have SW46 : W44.heap.size ≤ W46.heap.size := ho.size
  have HBW46 := Rep.Only.below HBW44 ho (by omega) (fun a ha => by cases ha)
  replace TaD := Rep.at_only TaD ho (by omega) (fun a ha => by cases ha)
  replace Tw0 := Rep.at_only Tw0 ho (by omega) (fun a ha => by cases ha)
  replace Ox0 := Rep.own_only Ox0 ho (fun a ha hb => by cases hb)
  replace Og0 := Rep.own_only Og0 ho (fun a ha hb => by cases hb)
  replace VaD := Rep.var_only VaD ho (by omega) (fun hb => by cases hb)
  replace Vx0 := Rep.var_only Vx0 ho (by omega) (fun hb => by cases hb)
  clear HBW44
  clear ho
  go_wp2_with fail
  obtain ⟨N48, hN, hN2⟩ : ∃ N : Nat, 1 + List.length Y = N ∧ N ≤ 1 + 8796093022208 := ⟨_, rfl, by have := byte_cnt_le FY; omega⟩
  have HN48 := Lib.hid hN
  have BN48 := hN2
  clear hN hN2
  refine (markByteS_rep [.slice A30 Y.length c31] 1 Y fp29 W46 _ Og0 FY (by omega)).mono ?_
  rintro e W47 ⟨he, hown, ho⟩
  rw [HN48.out] at he
  subst he
  replace Og0 := hown
  clear hown
  have SW47 : W46.heap.size ≤ W47.heap.size := ho.size
  have HBW47 := Rep.Only.below HBW46 ho (by omega) (fun a ha => by have := (L32.out a ha).1; omega)
  replace TaD := Rep.at_only TaD ho (by omega) (fun a ha => by have := (L32.out a ha).1; omega)
  replace Tw0 := Rep.at_only Tw0 ho (by omega) (fun a ha => by have := (L32.out a ha).1; omega)
  replace Ox0 := Rep.own_only Ox0 ho (fun a ha hb => by have := L26.out a ha; have := L32.out a hb; omega)
  replace VaD := Rep.var_only VaD ho (by omega) (fun hb => by have := L32.out _ hb; omega)
  replace Vx0 := Rep.var_only Vx0 ho (by omega) (fun hb => by have := L32.out _ hb; omega)
  clear HBW46
  clear ho
  clear Ox0 L26
  go_wp2_with fail
  refine (heldByteS_rep [.slice A30 Y.length c31] 1 Y W47 (Rep.reads byR Og0) FY (by omega)).mono ?_
  rintro e W49 ⟨he, hb⟩
  rw [HN48.out] at he
  subst he
  have ho := Rep.only_of_below hb
  clear hb
  have SW49 : W47.heap.size ≤ W49.heap.size := ho.size
  have HBW49 := Rep.Only.below HBW47 ho (by omega) (fun a ha => by cases ha)
  replace TaD := Rep.at_only TaD ho (by omega) (fun a ha => by cases ha)
  replace Tw0 := Rep.at_only Tw0 ho (by omega) (fun a ha => by cases ha)
  replace Og0 := Rep.own_only Og0 ho (fun a ha hb => by cases hb)
  replace VaD := Rep.var_only VaD ho (by omega) (fun hb => by cases hb)
  clear HBW47
  clear ho
  have nn50 : ((N48 : Int) != (N48 : Int)) = false := by simp
  have qaD_0 : W49.cell? ⟨w.heap.size, 0, none⟩ = some (.slice A1 x0.secs.length c2) := var_cell VaD.out 0
  have qaD_1 : W49.cell? ⟨w.heap.size, 1, none⟩ = some (.slice B3 x0.cache.length d4) := var_cell VaD.out 1
  have qaD_2 : W49.cell? ⟨w.heap.size, 2, none⟩ = some (.int .i64 x0.fuse) := var_cell VaD.out 2
  have qaD_3 : W49.cell? ⟨w.heap.size, 3, none⟩ = some (.bool x0.down) := var_cell VaD.out 3
  have laD : w.heap.size < W49.heap.size := by omega
  go_wp2_with fail
  clear qaD_0 qaD_1 qaD_2 qaD_3 laD
  refine (toDisk_rep [.slice A1 x0.secs.length c2, .slice B3 x0.cache.length d4, .int .i64 x0.fuse, .bool x0.down] x0 W49 (Rep.more diskR TaD (by omega)) FaD.out).mono ?_
  rintro e W52 ⟨cs, fp53, rfl, Ot51, hb⟩
  obtain ⟨A54, c55, B56, d57, rfl⟩ := disk_own_shape Ot51
  have ho := Rep.only_of_below hb
  have L58 := Lib.hid (Rep.lt diskR Ot51)
  clear hb
  have SW52 : W49.heap.size ≤ W52.heap.size := ho.size
  have HBW52 := Rep.Only.below HBW49 ho (by omega) (fun a ha => by cases ha)
  replace TaD := Rep.at_only TaD ho (by omega) (fun a ha => by cases ha)
  replace Tw0 := Rep.at_only Tw0 ho (by omega) (fun a ha => by cases ha)
  replace Og0 := Rep.own_only Og0 ho (fun a ha hb => by cases hb)
  replace VaD := Rep.var_only VaD ho (by omega) (fun hb => by cases hb)
  clear HBW49
  clear ho
  go_wp2_with fail
  refine (readSec_rep [.slice A54 x0.secs.length c55, .slice B56 x0.cache.length d57, .int .i64 x0.fuse, .bool x0.down] x0 a1 W52 (Rep.reads diskR Ot51) FaD.out w1).mono ?_
  rw [HY.out]
  rintro e W59 ⟨A61, c62, fp60, rfl, Oh0, hb⟩
  have ho := Rep.only_of_below hb
  have L63 := Lib.hid (Rep.lt byR Oh0)
  clear hb
  have SW59 : W52.heap.size ≤ W59.heap.size := ho.size
  have HBW59 := Rep.Only.below HBW52 ho (by omega) (fun a ha => by cases ha)
  replace TaD := Rep.at_only TaD ho (by omega) (fun a ha => by cases ha)
  replace Tw0 := Rep.at_only Tw0 ho (by omega) (fun a ha => by cases ha)
  replace Og0 := Rep.own_only Og0 ho (fun a ha hb => by cases hb)
  replace Ot51 := Rep.own_only Ot51 ho (fun a ha hb => by cases hb)
  replace VaD := Rep.var_only VaD ho (by omega) (fun hb => by cases hb)
  clear HBW52
  clear ho
  clear Ot51 L58
  go_wp2_with fail
  refine (eqByteS_rep [.slice A61 Y.length c62] [.slice A18 Y.length c19] Y W59 (Rep.reads byR Oh0) (Rep.more byR Tw0 (by omega)) FY).mono ?_
  rintro e W64 ⟨rfl, hb⟩
  have ho := Rep.only_of_below hb
  clear hb
  have SW64 : W59.heap.size ≤ W64.heap.size := ho.size
  have HBW64 := Rep.Only.below HBW59 ho (by omega) (fun a ha => by cases ha)
  replace TaD := Rep.at_only TaD ho (by omega) (fun a ha => by cases ha)
  replace Tw0 := Rep.at_only Tw0 ho (by omega) (fun a ha => by cases ha)
  replace Og0 := Rep.own_only Og0 ho (fun a ha hb => by cases hb)
  replace Oh0 := Rep.own_only Oh0 ho (fun a ha hb => by cases hb)
  replace VaD := Rep.var_only VaD ho (by omega) (fun hb => by cases hb)
  clear HBW59
  clear ho
  clear Oh0 L63
  clear TaD
  clear Tw0
  go_wp2_with fail
  refine (heldByteS_rep [.slice A30 Y.length c31] 1 Y W64 (Rep.reads byR Og0) FY (by omega)).mono ?_
  rintro e W65 ⟨he, hb⟩
  rw [HN48.out] at he
  subst he
  have ho := Rep.only_of_below hb
  clear hb
  have SW65 : W64.heap.size ≤ W65.heap.size := ho.size
  have HBW65 := Rep.Only.below HBW64 ho (by omega) (fun a ha => by cases ha)
  replace Og0 := Rep.own_only Og0 ho (fun a ha hb => by cases hb)
  clear HBW64
  clear ho
  have nn66 : ((N48 : Int) != (N48 : Int)) = false := by simp
  go_wp2_with fail
  go_ret
  exact ⟨rfl, HBW65⟩

end Go.Proofs.Ytjhfnfffpofagaa
