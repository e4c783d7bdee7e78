/- The walk of the exact law of WriteSec (written by gen.py). -/
import Derived.Test.YtjhfnfffpofagaaWriteRep
import Derived.Test.YtjhfnfffpofagaaExact
namespace Go.Proofs.Ytjhfnfffpofagaa
open Go.RowKit
set_option linter.unusedVariables false

set_option maxRecDepth 100000 in
set_option maxHeartbeats 4000000 in
theorem walk_FnExactWriteSec (w : World) (cs0 : List Value) (x0 : Disk) (w0 : diskR.at_ w w.heap.size cs0 x0) (k0 : OkDisk x0) (a1 : Int) (w1 : (Lit.int .i64 a1).wf = true) (cs2 : List Value) (x2 : List UInt8) (w2 : byR.at_ w w.heap.size cs2 x2) (k2 : OkAny x2) :
    Calls Try.prog 8 #[.agg cs0.toArray, .int .i64 a1, cs2.headD undef] w fun e w' => e = .returned (.bool true) ∧ Below w.heap.size w w' := by
  obtain ⟨A1, c2, B3, d4, rfl⟩ := disk_at_shape w0
  have TaD := w0
  clear w0
  obtain ⟨A5, c6, rfl⟩ := byte_at_shape w2
  have TaB := w2
  clear w2
  have HBw := Below.refl w.heap.size w
  by_cases bigaB : 1048576 < x2.length
  · go_enter Try.func8, Try.ntmps8
    go_wp2_with fail
    go_ret
    exact ⟨rfl, by first | exact Below.refl _ _ | exact (Below.refl _ _).alloc (Nat.le_refl _) _⟩
  replace bigaB : x2.length ≤ 1048576 := by omega
  go_enter Try.func8, Try.ntmps8
  go_wp2_with fail
  have ho := Rep.only_alloc w (.cells #[.slice A1 x0.secs.length c2, .slice B3 x0.cache.length d4, .int .i64 x0.fuse, .bool x0.down] 48)
  have hv := heap_alloc_new w (.cells #[.slice A1 x0.secs.length c2, .slice B3 x0.cache.length d4, .int .i64 x0.fuse, .bool x0.down] 48)
  have hs : w.heap.size < (w.alloc (.cells #[.slice A1 x0.secs.length c2, .slice B3 x0.cache.length d4, .int .i64 x0.fuse, .bool x0.down] 48)).heap.size := by simp
  generalize hgW : w.alloc (.cells #[.slice A1 x0.secs.length c2, .slice B3 x0.cache.length d4, .int .i64 x0.fuse, .bool x0.down] 48) = W7 at ho hv hs ⊢
  clear hgW
  have SW7 : w.heap.size ≤ W7.heap.size := ho.size
  have HBW7 := Rep.Only.below HBw ho (by omega) (fun a ha => by cases ha)
  replace TaD := Rep.at_only TaD ho (by omega) (fun a ha => by cases ha)
  replace TaB := Rep.at_only TaB ho (by omega) (fun a ha => by cases ha)
  clear HBw
  have VaD := Lib.hid hv
  clear hv ho
  have ZW7 : w.heap.size < W7.heap.size := hs
  clear hs
  refine (szDisk_room [.slice A1 x0.secs.length c2, .slice B3 x0.cache.length d4, .int .i64 x0.fuse, .bool x0.down] x0 1048576 W7 (Rep.more diskR TaD (by omega)) (by omega)).mono ?_
  rintro e W8 ⟨hz, hb⟩
  have ho := Rep.only_of_below hb
  clear hb
  have SW8 : W7.heap.size ≤ W8.heap.size := ho.size
  have HBW8 := Rep.Only.below HBW7 ho (by omega) (fun a ha => by cases ha)
  replace TaD := Rep.at_only TaD ho (by omega) (fun a ha => by cases ha)
  replace TaB := Rep.at_only TaB ho (by omega) (fun a ha => by cases ha)
  replace VaD := Rep.var_only VaD ho (by omega) (fun hb => by cases hb)
  clear HBW7
  clear ho
  obtain ⟨z9, hz9, HfitaD, rfl⟩ | rfl := hz
  rotate_left
  · go_wp2_with fail
    go_ret
    exact ⟨rfl, HBW8⟩
  have FaD := Lib.hid HfitaD
  clear HfitaD
  obtain ⟨Y, hy⟩ : ∃ Y, writeSec x0 a1 x2 = Y := ⟨_, rfl⟩
  have FY : Fits Y := by rw [← hy]; exact fits_writeSec FaD.out _ bigaB
  have HY := Lib.hid hy
  clear hy
  have qaD_0 : W8.cell? ⟨w.heap.size, 0, none⟩ = some (.slice A1 x0.secs.length c2) := var_cell VaD.out 0
  have qaD_1 : W8.cell? ⟨w.heap.size, 1, none⟩ = some (.slice B3 x0.cache.length d4) := var_cell VaD.out 1
  have qaD_2 : W8.cell? ⟨w.heap.size, 2, none⟩ = some (.int .i64 x0.fuse) := var_cell VaD.out 2
  have qaD_3 : W8.cell? ⟨w.heap.size, 3, none⟩ = some (.bool x0.down) := var_cell VaD.out 3
  have laD : w.heap.size < W8.heap.size := by omega
  go_wp2_with fail
  clear qaD_0 qaD_1 qaD_2 qaD_3 laD
  refine (toDisk_rep [.slice A1 x0.secs.length c2, .slice B3 x0.cache.length d4, .int .i64 x0.fuse, .bool x0.down] x0 W8 (Rep.more diskR TaD (by omega)) FaD.out).mono ?_
  rintro e W11 ⟨cs, fp12, rfl, Ot10, hb⟩
  obtain ⟨A13, c14, B15, d16, rfl⟩ := disk_own_shape Ot10
  have ho := Rep.only_of_below hb
  have L17 := Lib.hid (Rep.lt diskR Ot10)
  clear hb
  have SW11 : W8.heap.size ≤ W11.heap.size := ho.size
  have HBW11 := Rep.Only.below HBW8 ho (by omega) (fun a ha => by cases ha)
  replace TaD := Rep.at_only TaD ho (by omega) (fun a ha => by cases ha)
  replace TaB := Rep.at_only TaB ho (by omega) (fun a ha => by cases ha)
  replace VaD := Rep.var_only VaD ho (by omega) (fun hb => by cases hb)
  clear HBW8
  clear ho
  go_wp2_with fail
  refine (toByteS_rep [.slice A5 x2.length c6] x2 W11 (Rep.more byR TaB (by omega)) bigaB).mono ?_
  rintro e W19 ⟨A21, c22, fp20, rfl, Ot18, hb⟩
  have ho := Rep.only_of_below hb
  have L23 := Lib.hid (Rep.lt byR Ot18)
  clear hb
  have SW19 : W11.heap.size ≤ W19.heap.size := ho.size
  have HBW19 := Rep.Only.below HBW11 ho (by omega) (fun a ha => by cases ha)
  replace TaD := Rep.at_only TaD ho (by omega) (fun a ha => by cases ha)
  replace TaB := Rep.at_only TaB ho (by omega) (fun a ha => by cases ha)
  replace Ot10 := Rep.own_only Ot10 ho (fun a ha hb => by cases hb)
  replace VaD := Rep.var_only VaD ho (by omega) (fun hb => by cases hb)
  clear HBW11
  clear ho
  go_wp2_with fail
  refine (writeSecS_rep [.slice A13 x0.secs.length c14, .slice B15 x0.cache.length d16, .int .i64 x0.fuse, .bool x0.down] x0 a1 [.slice A21 x2.length c22] x2 W19 (Rep.reads diskR Ot10) (Rep.reads byR Ot18) FaD.out w1 bigaB).mono ?_
  rintro e W24 ⟨cs, rfl, Tw0, hb⟩
  rw [HY.out] at Tw0
  obtain ⟨A26, c27, B28, d29, rfl⟩ := disk_at_shape Tw0
  have ho := Rep.only_of_below hb
  clear hb
  have SW24 : W19.heap.size ≤ W24.heap.size := ho.size
  have HBW24 := Rep.Only.below HBW19 ho (by omega) (fun a ha => by cases ha)
  replace TaD := Rep.at_only TaD ho (by omega) (fun a ha => by cases ha)
  replace TaB := Rep.at_only TaB ho (by omega) (fun a ha => by cases ha)
  replace Ot10 := Rep.own_only Ot10 ho (fun a ha hb => by cases hb)
  replace Ot18 := Rep.own_only Ot18 ho (fun a ha hb => by cases hb)
  replace VaD := Rep.var_only VaD ho (by omega) (fun hb => by cases hb)
  clear HBW19
  clear ho
  clear Ot10 L17
  clear Ot18 L23
  have qaD_0 : W24.cell? ⟨w.heap.size, 0, none⟩ = some (.slice A1 x0.secs.length c2) := var_cell VaD.out 0
  have qaD_1 : W24.cell? ⟨w.heap.size, 1, none⟩ = some (.slice B3 x0.cache.length d4) := var_cell VaD.out 1
  have qaD_2 : W24.cell? ⟨w.heap.size, 2, none⟩ = some (.int .i64 x0.fuse) := var_cell VaD.out 2
  have qaD_3 : W24.cell? ⟨w.heap.size, 3, none⟩ = some (.bool x0.down) := var_cell VaD.out 3
  have laD : w.heap.size < W24.heap.size := by omega
  go_wp2_with fail
  clear qaD_0 qaD_1 qaD_2 qaD_3 laD
  have ho := Rep.only_alloc W24 (.cells #[.slice A26 Y.secs.length c27, .slice B28 Y.cache.length d29, .int .i64 Y.fuse, .bool Y.down] 27)
  have hv := heap_alloc_new W24 (.cells #[.slice A26 Y.secs.length c27, .slice B28 Y.cache.length d29, .int .i64 Y.fuse, .bool Y.down] 27)
  have hs : W24.heap.size < (W24.alloc (.cells #[.slice A26 Y.secs.length c27, .slice B28 Y.cache.length d29, .int .i64 Y.fuse, .bool Y.down] 27)).heap.size := by simp
  generalize hgW : W24.alloc (.cells #[.slice A26 Y.secs.length c27, .slice B28 Y.cache.length d29, .int .i64 Y.fuse, .bool Y.down] 27) = W30 at ho hv hs ⊢
  clear hgW
  have SW30 : W24.heap.size ≤ W30.heap.size := ho.size
  have HBW30 := Rep.Only.below HBW24 ho (by omega) (fun a ha => by cases ha)
  replace TaD := Rep.at_only TaD ho (by omega) (fun a ha => by cases ha)
  replace TaB := Rep.at_only TaB ho (by omega) (fun a ha => by cases ha)
  replace Tw0 := Rep.at_only Tw0 ho (by omega) (fun a ha => by cases ha)
  replace VaD := Rep.var_only VaD ho (by omega) (fun hb => by cases hb)
  clear HBW24
  have Vw0 := Lib.hid hv
  clear hv ho
  have ZW30 : W24.heap.size < W30.heap.size := hs
  clear hs
  refine (toDisk_rep [.slice A1 x0.secs.length c2, .slice B3 x0.cache.length d4, .int .i64 x0.fuse, .bool x0.down] x0 W30 (Rep.more diskR TaD (by omega)) FaD.out).mono ?_
  rintro e W31 ⟨cs, fp32, rfl, Ox0, hb⟩
  obtain ⟨A33, c34, B35, d36, rfl⟩ := disk_own_shape Ox0
  have ho := Rep.only_of_below hb
  have L37 := Lib.hid (Rep.lt diskR Ox0)
  clear hb
  have SW31 : W30.heap.size ≤ W31.heap.size := ho.size
  have HBW31 := Rep.Only.below HBW30 ho (by omega) (fun a ha => by cases ha)
  replace TaD := Rep.at_only TaD ho (by omega) (fun a ha => by cases ha)
  replace TaB := Rep.at_only TaB ho (by omega) (fun a ha => by cases ha)
  replace Tw0 := Rep.at_only Tw0 ho (by omega) (fun a ha => by cases ha)
  replace VaD := Rep.var_only VaD ho (by omega) (fun hb => by cases hb)
  replace Vw0 := Rep.var_only Vw0 ho (by omega) (fun hb => by cases hb)
  clear HBW30
  clear ho
  go_wp2_with fail
  have ho := Rep.only_alloc W31 (.cells #[.slice A33 x0.secs.length c34, .slice B35 x0.cache.length d36, .int .i64 x0.fuse, .bool x0.down] 27)
  have hv := heap_alloc_new W31 (.cells #[.slice A33 x0.secs.length c34, .slice B35 x0.cache.length d36, .int .i64 x0.fuse, .bool x0.down] 27)
  have hs : W31.heap.size < (W31.alloc (.cells #[.slice A33 x0.secs.length c34, .slice B35 x0.cache.length d36, .int .i64 x0.fuse, .bool x0.down] 27)).heap.size := by simp
  generalize hgW : W31.alloc (.cells #[.slice A33 x0.secs.length c34, .slice B35 x0.cache.length d36, .int .i64 x0.fuse, .bool x0.down] 27) = W38 at ho hv hs ⊢
  clear hgW
  have SW38 : W31.heap.size ≤ W38.heap.size := ho.size
  have HBW38 := Rep.Only.below HBW31 ho (by omega) (fun a ha => by cases ha)
  replace TaD := Rep.at_only TaD ho (by omega) (fun a ha => by cases ha)
  replace TaB := Rep.at_only TaB ho (by omega) (fun a ha => by cases ha)
  replace Tw0 := Rep.at_only Tw0 ho (by omega) (fun a ha => by cases ha)
  replace Ox0 := Rep.own_only Ox0 ho (fun a ha hb => by cases hb)
  replace VaD := Rep.var_only VaD ho (by omega) (fun hb => by cases hb)
  replace Vw0 := Rep.var_only Vw0 ho (by omega) (fun hb => by cases hb)
  clear HBW31
  have Vx0 := Lib.hid hv
  clear hv ho
  have ZW38 : W31.heap.size < W38.heap.size := hs
  clear hs
  refine (toByteS_rep [.slice A5 x2.length c6] x2 W38 (Rep.more byR TaB (by omega)) bigaB).mono ?_
  rintro e W39 ⟨A41, c42, fp40, rfl, Ox2, hb⟩
  have ho := Rep.only_of_below hb
  have L43 := Lib.hid (Rep.lt byR Ox2)
  clear hb
  have SW39 : W38.heap.size ≤ W39.heap.size := ho.size
  have HBW39 := Rep.Only.below HBW38 ho (by omega) (fun a ha => by cases ha)
  replace TaD := Rep.at_only TaD ho (by omega) (fun a ha => by cases ha)
  replace TaB := Rep.at_only TaB ho (by omega) (fun a ha => by cases ha)
  replace Tw0 := Rep.at_only Tw0 ho (by omega) (fun a ha => by cases ha)
  replace Ox0 := Rep.own_only Ox0 ho (fun a ha hb => by cases hb)
  replace VaD := Rep.var_only VaD ho (by omega) (fun hb => by cases hb)
  replace Vw0 := Rep.var_only Vw0 ho (by omega) (fun hb => by cases hb)
  replace Vx0 := Rep.var_only Vx0 ho (by omega) (fun hb => by cases hb)
  clear HBW38
  clear ho
  have qx0_0 : W39.cell? ⟨W31.heap.size, 0, none⟩ = some (.slice A33 x0.secs.length c34) := var_cell Vx0.out 0
  have qx0_1 : W39.cell? ⟨W31.heap.size, 1, none⟩ = some (.slice B35 x0.cache.length d36) := var_cell Vx0.out 1
  have qx0_2 : W39.cell? ⟨W31.heap.size, 2, none⟩ = some (.int .i64 x0.fuse) := var_cell Vx0.out 2
  have qx0_3 : W39.cell? ⟨W31.heap.size, 3, none⟩ = some (.bool x0.down) := var_cell Vx0.out 3
  have lx0 : W31.heap.size < W39.heap.size := by omega
  go_wp2_with fail
  clear qx0_0 qx0_1 qx0_2 qx0_3 lx0
  refine (writeSec_rep [.slice A33 x0.secs.length c34, .slice B35 x0.cache.length d36, .int .i64 x0.fuse, .bool x0.down] x0 a1 [.slice A41 x2.length c42] x2 W39 (Rep.reads diskR Ox0) (Rep.reads byR Ox2) FaD.out w1 bigaB).mono ?_
  rintro e W44 ⟨cs, fp45, rfl, Og0, hb⟩
  rw [HY.out] at Og0
  obtain ⟨A46, c47, B48, d49, rfl⟩ := disk_own_shape Og0
  have ho := Rep.only_of_below hb
  have L50 := Lib.hid (Rep.lt diskR Og0)
  clear hb
  have SW44 : W39.heap.size ≤ W44.heap.size := ho.size
  have HBW44 := Rep.Only.below HBW39 ho (by omega) (fun a ha => by cases ha)
  replace TaD := Rep.at_only TaD ho (by omega) (fun a ha => by cases ha)
  replace TaB := Rep.at_only TaB ho (by omega) (fun a ha => by cases ha)
  replace Tw0 := Rep.at_only Tw0 ho (by omega) (fun a ha => by cases ha)
  replace Ox0 := Rep.own_only Ox0 ho (fun a ha hb => by cases hb)
  replace Ox2 := Rep.own_only Ox2 ho (fun a ha hb => by cases hb)
  replace VaD := Rep.var_only VaD ho (by omega) (fun hb => by cases hb)
  replace Vw0 := Rep.var_only Vw0 ho (by omega) (fun hb => by cases hb)
  replace Vx0 := Rep.var_only Vx0 ho (by omega) (fun hb => by cases hb)
  clear HBW39
  clear ho
  have qw0_0 : W44.cell? ⟨W24.heap.size, 0, none⟩ = some (.slice A26 Y.secs.length c27) := var_cell Vw0.out 0
  have qw0_1 : W44.cell? ⟨W24.heap.size, 1, none⟩ = some (.slice B28 Y.cache.length d29) := var_cell Vw0.out 1
  have qw0_2 : W44.cell? ⟨W24.heap.size, 2, none⟩ = some (.int .i64 Y.fuse) := var_cell Vw0.out 2
  have qw0_3 : W44.cell? ⟨W24.heap.size, 3, none⟩ = some (.bool Y.down) := var_cell Vw0.out 3
  have lw0 : W24.heap.size < W44.heap.size := by omega
  go_wp2_with fail
  clear qw0_0 qw0_1 qw0_2 qw0_3 lw0
  have ho := Rep.only_alloc W44 (.cells #[.slice A46 Y.secs.length c47, .slice B48 Y.cache.length d49, .int .i64 Y.fuse, .bool Y.down] 27)
  have hv := heap_alloc_new W44 (.cells #[.slice A46 Y.secs.length c47, .slice B48 Y.cache.length d49, .int .i64 Y.fuse, .bool Y.down] 27)
  have hs : W44.heap.size < (W44.alloc (.cells #[.slice A46 Y.secs.length c47, .slice B48 Y.cache.length d49, .int .i64 Y.fuse, .bool Y.down] 27)).heap.size := by simp
  generalize hgW : W44.alloc (.cells #[.slice A46 Y.secs.length c47, .slice B48 Y.cache.length d49, .int .i64 Y.fuse, .bool Y.down] 27) = W51 at ho hv hs ⊢
  clear hgW
  have SW51 : W44.heap.size ≤ W51.heap.size := ho.size
  have HBW51 := Rep.Only.below HBW44 ho (by omega) (fun a ha => by cases ha)
  replace TaD := Rep.at_only TaD ho (by omega) (fun a ha => by cases ha)
  replace TaB := Rep.at_only TaB ho (by omega) (fun a ha => by cases ha)
  replace Tw0 := Rep.at_only Tw0 ho (by omega) (fun a ha => by cases ha)
  replace Ox0 := Rep.own_only Ox0 ho (fun a ha hb => by cases hb)
  replace Ox2 := Rep.own_only Ox2 ho (fun a ha hb => by cases hb)
  replace Og0 := Rep.own_only Og0 ho (fun a ha hb => by cases hb)
  replace VaD := Rep.var_only VaD ho (by omega) (fun hb => by cases hb)
  replace Vw0 := Rep.var_only Vw0 ho (by omega) (fun hb => by cases hb)
  replace Vx0 := Rep.var_only Vx0 ho (by omega) (fun hb => by cases hb)
  clear HBW44
  have Vg0 := Lib.hid hv
  clear hv ho
  have ZW51 : W44.heap.size < W51.heap.size := hs
  clear hs
  refine (eqDisk_same [.slice A46 Y.secs.length c47, .slice B48 Y.cache.length d49, .int .i64 Y.fuse, .bool Y.down] [.slice A26 Y.secs.length c27, .slice B28 Y.cache.length d29, .int .i64 Y.fuse, .bool Y.down] Y W51 (Rep.reads diskR Og0) (Rep.more diskR Tw0 (by omega)) FY).mono ?_
  rintro e W52 ⟨rfl, hb⟩
  have ho := Rep.only_of_below hb
  clear hb
  have SW52 : W51.heap.size ≤ W52.heap.size := ho.size
  have HBW52 := Rep.Only.below HBW51 ho (by omega) (fun a ha => by cases ha)
  replace TaD := Rep.at_only TaD ho (by omega) (fun a ha => by cases ha)
  replace TaB := Rep.at_only TaB ho (by omega) (fun a ha => by cases ha)
  replace Tw0 := Rep.at_only Tw0 ho (by omega) (fun a ha => by cases ha)
  replace Ox0 := Rep.own_only Ox0 ho (fun a ha hb => by cases hb)
  replace Ox2 := Rep.own_only Ox2 ho (fun a ha hb => by cases hb)
  replace Og0 := Rep.own_only Og0 ho (fun a ha hb => by cases hb)
  replace VaD := Rep.var_only VaD ho (by omega) (fun hb => by cases hb)
  replace Vw0 := Rep.var_only Vw0 ho (by omega) (fun hb => by cases hb)
  replace Vx0 := Rep.var_only Vx0 ho (by omega) (fun hb => by cases hb)
  replace Vg0 := Rep.var_only Vg0 ho (by omega) (fun hb => by cases hb)
  clear HBW51
  clear ho
  have qx0_0 : W52.cell? ⟨W31.heap.size, 0, none⟩ = some (.slice A33 x0.secs.length c34) := var_cell Vx0.out 0
  have qx0_1 : W52.cell? ⟨W31.heap.size, 1, none⟩ = some (.slice B35 x0.cache.length d36) := var_cell Vx0.out 1
  have qx0_2 : W52.cell? ⟨W31.heap.size, 2, none⟩ = some (.int .i64 x0.fuse) := var_cell Vx0.out 2
  have qx0_3 : W52.cell? ⟨W31.heap.size, 3, none⟩ = some (.bool x0.down) := var_cell Vx0.out 3
  have lx0 : W31.heap.size < W52.heap.size := by omega
  have qaD_0 : W52.cell? ⟨w.heap.size, 0, none⟩ = some (.slice A1 x0.secs.length c2) := var_cell VaD.out 0
  have qaD_1 : W52.cell? ⟨w.heap.size, 1, none⟩ = some (.slice B3 x0.cache.length d4) := var_cell VaD.out 1
  have qaD_2 : W52.cell? ⟨w.heap.size, 2, none⟩ = some (.int .i64 x0.fuse) := var_cell VaD.out 2
  have qaD_3 : W52.cell? ⟨w.heap.size, 3, none⟩ = some (.bool x0.down) := var_cell VaD.out 3
  have laD : w.heap.size < W52.heap.size := by omega
  go_wp2_with fail
  clear qx0_0 qx0_1 qx0_2 qx0_3 lx0 qaD_0 qaD_1 qaD_2 qaD_3 laD
  go_region_held3 (fun w' => w'.cell? ⟨W31.heap.size, 0, none⟩ = some (.slice A33 x0.secs.length c34) ∧ w'.cell? ⟨W31.heap.size, 1, none⟩ = some (.slice B35 x0.cache.length d36) ∧ w'.cell? ⟨W31.heap.size, 2, none⟩ = some (.int .i64 x0.fuse) ∧ w'.cell? ⟨W31.heap.size, 3, none⟩ = some (.bool x0.down) ∧ w'.cell? ⟨w.heap.size, 0, none⟩ = some (.slice A1 x0.secs.length c2) ∧ w'.cell? ⟨w.heap.size, 1, none⟩ = some (.slice B3 x0.cache.length d4) ∧ w'.cell? ⟨w.heap.size, 2, none⟩ = some (.int .i64 x0.fuse) ∧ w'.cell? ⟨w.heap.size, 3, none⟩ = some (.bool x0.down)) (exact ⟨var_cell Vx0.out 0, var_cell Vx0.out 1, var_cell Vx0.out 2, var_cell Vx0.out 3, var_cell VaD.out 0, var_cell VaD.out 1, var_cell VaD.out 2, var_cell VaD.out 3⟩) (first
    | (go_at_call 32
       have ho := Rep.only_drew W52
       generalize W52.drew = W53 at ho ⊢
       have SW53 : W52.heap.size ≤ W53.heap.size := ho.size
       have HBW53 := Rep.Only.below HBW52 ho (by omega) (fun a ha => by cases ha)
       replace TaD := Rep.at_only TaD ho (by omega) (fun a ha => by cases ha)
       replace TaB := Rep.at_only TaB ho (by omega) (fun a ha => by cases ha)
       replace Tw0 := Rep.at_only Tw0 ho (by omega) (fun a ha => by cases ha)
       replace Ox0 := Rep.own_only Ox0 ho (fun a ha hb => by cases hb)
       replace Ox2 := Rep.own_only Ox2 ho (fun a ha hb => by cases hb)
       replace Og0 := Rep.own_only Og0 ho (fun a ha hb => by cases hb)
       replace VaD := Rep.var_only VaD ho (by omega) (fun hb => by cases hb)
       replace Vw0 := Rep.var_only Vw0 ho (by omega) (fun hb => by cases hb)
       replace Vx0 := Rep.var_only Vx0 ho (by omega) (fun hb => by cases hb)
       replace Vg0 := Rep.var_only Vg0 ho (by omega) (fun hb => by cases hb)
       clear HBW52
       clear ho
       refine (toDisk_rep [.slice A1 x0.secs.length c2, .slice B3 x0.cache.length d4, .int .i64 x0.fuse, .bool x0.down] x0 W53 (Rep.more diskR TaD (by omega)) FaD.out).mono ?_
       rintro e W55 ⟨cs, fp56, rfl, Ot54, hb⟩
       obtain ⟨A57, c58, B59, d60, rfl⟩ := disk_own_shape Ot54
       have ho := Rep.only_of_below hb
       have L61 := Lib.hid (Rep.lt diskR Ot54)
       clear hb
       have SW55 : W53.heap.size ≤ W55.heap.size := ho.size
       have HBW55 := Rep.Only.below HBW53 ho (by omega) (fun a ha => by cases ha)
       replace TaD := Rep.at_only TaD ho (by omega) (fun a ha => by cases ha)
       replace TaB := Rep.at_only TaB ho (by omega) (fun a ha => by cases ha)
       replace Tw0 := Rep.at_only Tw0 ho (by omega) (fun a ha => by cases ha)
       replace Ox0 := Rep.own_only Ox0 ho (fun a ha hb => by cases hb)
       replace Ox2 := Rep.own_only Ox2 ho (fun a ha hb => by cases hb)
       replace Og0 := Rep.own_only Og0 ho (fun a ha hb => by cases hb)
       replace VaD := Rep.var_only VaD ho (by omega) (fun hb => by cases hb)
       replace Vw0 := Rep.var_only Vw0 ho (by omega) (fun hb => by cases hb)
       replace Vx0 := Rep.var_only Vx0 ho (by omega) (fun hb => by cases hb)
       replace Vg0 := Rep.var_only Vg0 ho (by omega) (fun hb => by cases hb)
       clear HBW53
       clear ho)
    | (go_at_call 28
       refine (eqDisk_same [.slice A33 x0.secs.length c34, .slice B35 x0.cache.length d36, .int .i64 x0.fuse, .bool x0.down] [.slice A57 x0.secs.length c58, .slice B59 x0.cache.length d60, .int .i64 x0.fuse, .bool x0.down] x0 W55 (Rep.reads diskR Ox0) (Rep.reads diskR Ot54) FaD.out).mono ?_
       rintro e W62 ⟨rfl, hb⟩
       have ho := Rep.only_of_below hb
       clear hb
       have SW62 : W55.heap.size ≤ W62.heap.size := ho.size
       have HBW62 := Rep.Only.below HBW55 ho (by omega) (fun a ha => by cases ha)
       replace TaD := Rep.at_only TaD ho (by omega) (fun a ha => by cases ha)
       replace TaB := Rep.at_only TaB ho (by omega) (fun a ha => by cases ha)
       replace Tw0 := Rep.at_only Tw0 ho (by omega) (fun a ha => by cases ha)
       replace Ox0 := Rep.own_only Ox0 ho (fun a ha hb => by cases hb)
       replace Ox2 := Rep.own_only Ox2 ho (fun a ha hb => by cases hb)
       replace Og0 := Rep.own_only Og0 ho (fun a ha hb => by cases hb)
       replace Ot54 := Rep.own_only Ot54 ho (fun a ha hb => by cases hb)
       replace VaD := Rep.var_only VaD ho (by omega) (fun hb => by cases hb)
       replace Vw0 := Rep.var_only Vw0 ho (by omega) (fun hb => by cases hb)
       replace Vx0 := Rep.var_only Vx0 ho (by omega) (fun hb => by cases hb)
       replace Vg0 := Rep.var_only Vg0 ho (by omega) (fun hb => by cases hb)
       clear HBW55
       clear ho))
  clear Ot54 L61
  go_wp2_with fail
  refine (toByteS_rep [.slice A5 x2.length c6] x2 W62 (Rep.more byR TaB (by omega)) bigaB).mono ?_
  rintro e W64 ⟨A66, c67, fp65, rfl, Ot63, hb⟩
  have ho := Rep.only_of_below hb
  have L68 := Lib.hid (Rep.lt byR Ot63)
  clear hb
  have SW64 : W62.heap.size ≤ W64.heap.size := ho.size
  have HBW64 := Rep.Only.below HBW62 ho (by omega) (fun a ha => by cases ha)
  replace TaD := Rep.at_only TaD ho (by omega) (fun a ha => by cases ha)
  replace TaB := Rep.at_only TaB ho (by omega) (fun a ha => by cases ha)
  replace Tw0 := Rep.at_only Tw0 ho (by omega) (fun a ha => by cases ha)
  replace Ox0 := Rep.own_only Ox0 ho (fun a ha hb => by cases hb)
  replace Ox2 := Rep.own_only Ox2 ho (fun a ha hb => by cases hb)
  replace Og0 := Rep.own_only Og0 ho (fun a ha hb => by cases hb)
  replace VaD := Rep.var_only VaD ho (by omega) (fun hb => by cases hb)
  replace Vw0 := Rep.var_only Vw0 ho (by omega) (fun hb => by cases hb)
  replace Vx0 := Rep.var_only Vx0 ho (by omega) (fun hb => by cases hb)
  replace Vg0 := Rep.var_only Vg0 ho (by omega) (fun hb => by cases hb)
  clear HBW62
  clear ho
  go_wp2_with fail
  refine (eqByteS_rep [.slice A41 x2.length c42] [.slice A66 x2.length c67] x2 W64 (Rep.reads byR Ox2) (Rep.reads byR Ot63) bigaB).mono ?_
  rintro e W69 ⟨rfl, hb⟩
  have ho := Rep.only_of_below hb
  clear hb
  have SW69 : W64.heap.size ≤ W69.heap.size := ho.size
  have HBW69 := Rep.Only.below HBW64 ho (by omega) (fun a ha => by cases ha)
  replace TaD := Rep.at_only TaD ho (by omega) (fun a ha => by cases ha)
  replace TaB := Rep.at_only TaB ho (by omega) (fun a ha => by cases ha)
  replace Tw0 := Rep.at_only Tw0 ho (by omega) (fun a ha => by cases ha)
  replace Ox0 := Rep.own_only Ox0 ho (fun a ha hb => by cases hb)
  replace Ox2 := Rep.own_only Ox2 ho (fun a ha hb => by cases hb)
  replace Og0 := Rep.own_only Og0 ho (fun a ha hb => by cases hb)
  replace Ot63 := Rep.own_only Ot63 ho (fun a ha hb => by cases hb)
  replace VaD := Rep.var_only VaD ho (by omega) (fun hb => by cases hb)
  replace Vw0 := Rep.var_only Vw0 ho (by omega) (fun hb => by cases hb)
  replace Vx0 := Rep.var_only Vx0 ho (by omega) (fun hb => by cases hb)
  replace Vg0 := Rep.var_only Vg0 ho (by omega) (fun hb => by cases hb)
  clear HBW64
  clear ho
  clear Ot63 L68
  have qx0_0 : W69.cell? ⟨W31.heap.size, 0, none⟩ = some (.slice A33 x0.secs.length c34) := var_cell Vx0.out 0
  have qx0_1 : W69.cell? ⟨W31.heap.size, 1, none⟩ = some (.slice B35 x0.cache.length d36) := var_cell Vx0.out 1
  have qx0_2 : W69.cell? ⟨W31.heap.size, 2, none⟩ = some (.int .i64 x0.fuse) := var_cell Vx0.out 2
  have qx0_3 : W69.cell? ⟨W31.heap.size, 3, none⟩ = some (.bool x0.down) := var_cell Vx0.out 3
  have lx0 : W31.heap.size < W69.heap.size := by omega
  go_wp2_with fail
  clear qx0_0 qx0_1 qx0_2 qx0_3 lx0
  obtain ⟨N71, hN, hN2⟩ : ∃ N : Nat, 1 + cntD x0 = N ∧ N ≤ 1 + 8796093022208 := ⟨_, rfl, by have := cntD_le2 FaD.out; omega⟩
  have HN71 := Lib.hid hN
  have BN71 := hN2
  clear hN hN2
  refine (markDisk_any [.slice A33 x0.secs.length c34, .slice B35 x0.cache.length d36, .int .i64 x0.fuse, .bool x0.down] 1 x0 fp32 W69 _ Ox0 FaD.out (by omega)).mono ?_
  rintro e W70 ⟨he, hown, ho⟩
  rw [HN71.out] at he
  subst he
  replace Ox0 := hown
  clear hown
  have SW70 : W69.heap.size ≤ W70.heap.size := ho.size
  have HBW70 := Rep.Only.below HBW69 ho (by omega) (fun a ha => by have := (L37.out a ha).1; omega)
  replace TaD := Rep.at_only TaD ho (by omega) (fun a ha => by have := (L37.out a ha).1; omega)
  replace TaB := Rep.at_only TaB ho (by omega) (fun a ha => by have := (L37.out a ha).1; omega)
  replace Tw0 := Rep.at_only Tw0 ho (by omega) (fun a ha => by have := (L37.out a ha).1; omega)
  replace Ox2 := Rep.own_only Ox2 ho (fun a ha hb => by have := L43.out a ha; have := L37.out a hb; omega)
  replace Og0 := Rep.own_only Og0 ho (fun a ha hb => by have := L50.out a ha; have := L37.out a hb; omega)
  replace VaD := Rep.var_only VaD ho (by omega) (fun hb => by have := L37.out _ hb; omega)
  replace Vw0 := Rep.var_only Vw0 ho (by omega) (fun hb => by have := L37.out _ hb; omega)
  replace Vx0 := Rep.var_only Vx0 ho (by omega) (fun hb => by have := L37.out _ hb; omega)
  replace Vg0 := Rep.var_only Vg0 ho (by omega) (fun hb => by have := L37.out _ hb; omega)
  clear HBW69
  clear ho
  go_wp2_with fail
  obtain ⟨N73, hN, hN2⟩ : ∃ N : Nat, N71 + List.length x2 = N ∧ N ≤ N71 + 8796093022208 := ⟨_, rfl, by have := byte_cnt_le bigaB; omega⟩
  have HN73 := Lib.hid hN
  have BN73 := hN2
  clear hN hN2
  refine (markByteS_rep [.slice A41 x2.length c42] N71 x2 fp40 W70 _ Ox2 bigaB (by omega)).mono ?_
  rintro e W72 ⟨he, hown, ho⟩
  rw [HN73.out] at he
  subst he
  replace Ox2 := hown
  clear hown
  have SW72 : W70.heap.size ≤ W72.heap.size := ho.size
  have HBW72 := Rep.Only.below HBW70 ho (by omega) (fun a ha => by have := (L43.out a ha).1; omega)
  replace TaD := Rep.at_only TaD ho (by omega) (fun a ha => by have := (L43.out a ha).1; omega)
  replace TaB := Rep.at_only TaB ho (by omega) (fun a ha => by have := (L43.out a ha).1; omega)
  replace Tw0 := Rep.at_only Tw0 ho (by omega) (fun a ha => by have := (L43.out a ha).1; omega)
  replace Ox0 := Rep.own_only Ox0 ho (fun a ha hb => by have := L37.out a ha; have := L43.out a hb; omega)
  replace Og0 := Rep.own_only Og0 ho (fun a ha hb => by have := L50.out a ha; have := L43.out a hb; omega)
  replace VaD := Rep.var_only VaD ho (by omega) (fun hb => by have := L43.out _ hb; omega)
  replace Vw0 := Rep.var_only Vw0 ho (by omega) (fun hb => by have := L43.out _ hb; omega)
  replace Vx0 := Rep.var_only Vx0 ho (by omega) (fun hb => by have := L43.out _ hb; omega)
  replace Vg0 := Rep.var_only Vg0 ho (by omega) (fun hb => by have := L43.out _ hb; omega)
  clear HBW70
  clear ho
  have qg0_0 : W72.cell? ⟨W44.heap.size, 0, none⟩ = some (.slice A46 Y.secs.length c47) := var_cell Vg0.out 0
  have qg0_1 : W72.cell? ⟨W44.heap.size, 1, none⟩ = some (.slice B48 Y.cache.length d49) := var_cell Vg0.out 1
  have qg0_2 : W72.cell? ⟨W44.heap.size, 2, none⟩ = some (.int .i64 Y.fuse) := var_cell Vg0.out 2
  have qg0_3 : W72.cell? ⟨W44.heap.size, 3, none⟩ = some (.bool Y.down) := var_cell Vg0.out 3
  have lg0 : W44.heap.size < W72.heap.size := by omega
  have qw0_0 : W72.cell? ⟨W24.heap.size, 0, none⟩ = some (.slice A26 Y.secs.length c27) := var_cell Vw0.out 0
  have qw0_1 : W72.cell? ⟨W24.heap.size, 1, none⟩ = some (.slice B28 Y.cache.length d29) := var_cell Vw0.out 1
  have qw0_2 : W72.cell? ⟨W24.heap.size, 2, none⟩ = some (.int .i64 Y.fuse) := var_cell Vw0.out 2
  have qw0_3 : W72.cell? ⟨W24.heap.size, 3, none⟩ = some (.bool Y.down) := var_cell Vw0.out 3
  have lw0 : W24.heap.size < W72.heap.size := by omega
  go_wp2_with fail
  clear qg0_0 qg0_1 qg0_2 qg0_3 lg0 qw0_0 qw0_1 qw0_2 qw0_3 lw0
  refine (eqDisk_same [.slice A46 Y.secs.length c47, .slice B48 Y.cache.length d49, .int .i64 Y.fuse, .bool Y.down] [.slice A26 Y.secs.length c27, .slice B28 Y.cache.length d29, .int .i64 Y.fuse, .bool Y.down] Y W72 (Rep.reads diskR Og0) (Rep.more diskR Tw0 (by omega)) FY).mono ?_
  rintro e W74 ⟨rfl, hb⟩
  have ho := Rep.only_of_below hb
  clear hb
  have SW74 : W72.heap.size ≤ W74.heap.size := ho.size
  have HBW74 := Rep.Only.below HBW72 ho (by omega) (fun a ha => by cases ha)
  replace TaD := Rep.at_only TaD ho (by omega) (fun a ha => by cases ha)
  replace TaB := Rep.at_only TaB ho (by omega) (fun a ha => by cases ha)
  replace Tw0 := Rep.at_only Tw0 ho (by omega) (fun a ha => by cases ha)
  replace Ox0 := Rep.own_only Ox0 ho (fun a ha hb => by cases hb)
  replace Ox2 := Rep.own_only Ox2 ho (fun a ha hb => by cases hb)
  replace Og0 := Rep.own_only Og0 ho (fun a ha hb => by cases hb)
  replace VaD := Rep.var_only VaD ho (by omega) (fun hb => by cases hb)
  replace Vw0 := Rep.var_only Vw0 ho (by omega) (fun hb => by cases hb)
  replace Vx0 := Rep.var_only Vx0 ho (by omega) (fun hb => by cases hb)
  replace Vg0 := Rep.var_only Vg0 ho (by omega) (fun hb => by cases hb)
  clear HBW72
  clear ho
  have qg0_0 : W74.cell? ⟨W44.heap.size, 0, none⟩ = some (.slice A46 Y.secs.length c47) := var_cell Vg0.out 0
  have qg0_1 : W74.cell? ⟨W44.heap.size, 1, none⟩ = some (.slice B48 Y.cache.length d49) := var_cell Vg0.out 1
  have qg0_2 : W74.cell? ⟨W44.heap.size, 2, none⟩ = some (.int .i64 Y.fuse) := var_cell Vg0.out 2
  have qg0_3 : W74.cell? ⟨W44.heap.size, 3, none⟩ = some (.bool Y.down) := var_cell Vg0.out 3
  have lg0 : W44.heap.size < W74.heap.size := by omega
  go_wp2_with fail
  clear qg0_0 qg0_1 qg0_2 qg0_3 lg0
  obtain ⟨N76, hN, hN2⟩ : ∃ N : Nat, 1 + cntD Y = N ∧ N ≤ 1 + 8796093022208 := ⟨_, rfl, by have := cntD_le2 FY; omega⟩
  have HN76 := Lib.hid hN
  have BN76 := hN2
  clear hN hN2
  refine (markDisk_any [.slice A46 Y.secs.length c47, .slice B48 Y.cache.length d49, .int .i64 Y.fuse, .bool Y.down] 1 Y fp45 W74 _ Og0 FY (by omega)).mono ?_
  rintro e W75 ⟨he, hown, ho⟩
  rw [HN76.out] at he
  subst he
  replace Og0 := hown
  clear hown
  have SW75 : W74.heap.size ≤ W75.heap.size := ho.size
  have HBW75 := Rep.Only.below HBW74 ho (by omega) (fun a ha => by have := (L50.out a ha).1; omega)
  replace TaD := Rep.at_only TaD ho (by omega) (fun a ha => by have := (L50.out a ha).1; omega)
  replace TaB := Rep.at_only TaB ho (by omega) (fun a ha => by have := (L50.out a ha).1; omega)
  replace Tw0 := Rep.at_only Tw0 ho (by omega) (fun a ha => by have := (L50.out a ha).1; omega)
  replace Ox0 := Rep.own_only Ox0 ho (fun a ha hb => by have := L37.out a ha; have := L50.out a hb; omega)
  replace Ox2 := Rep.own_only Ox2 ho (fun a ha hb => by have := L43.out a ha; have := L50.out a hb; omega)
  replace VaD := Rep.var_only VaD ho (by omega) (fun hb => by have := L50.out _ hb; omega)
  replace Vw0 := Rep.var_only Vw0 ho (by omega) (fun hb => by have := L50.out _ hb; omega)
  replace Vx0 := Rep.var_only Vx0 ho (by omega) (fun hb => by have := L50.out _ hb; omega)
  replace Vg0 := Rep.var_only Vg0 ho (by omega) (fun hb => by have := L50.out _ hb; omega)
  clear HBW74
  clear ho
  clear Ox0 L37
  clear Ox2 L43
  have qg0_0 : W75.cell? ⟨W44.heap.size, 0, none⟩ = some (.slice A46 Y.secs.length c47) := var_cell Vg0.out 0
  have qg0_1 : W75.cell? ⟨W44.heap.size, 1, none⟩ = some (.slice B48 Y.cache.length d49) := var_cell Vg0.out 1
  have qg0_2 : W75.cell? ⟨W44.heap.size, 2, none⟩ = some (.int .i64 Y.fuse) := var_cell Vg0.out 2
  have qg0_3 : W75.cell? ⟨W44.heap.size, 3, none⟩ = some (.bool Y.down) := var_cell Vg0.out 3
  have lg0 : W44.heap.size < W75.heap.size := by omega
  go_wp2_with fail
  clear qg0_0 qg0_1 qg0_2 qg0_3 lg0
  refine (heldDisk_any [.slice A46 Y.secs.length c47, .slice B48 Y.cache.length d49, .int .i64 Y.fuse, .bool Y.down] 1 Y W75 (Rep.reads diskR Og0) FY (by omega)).mono ?_
  rintro e W77 ⟨he, hb⟩
  rw [HN76.out] at he
  subst he
  have ho := Rep.only_of_below hb
  clear hb
  have SW77 : W75.heap.size ≤ W77.heap.size := ho.size
  have HBW77 := Rep.Only.below HBW75 ho (by omega) (fun a ha => by cases ha)
  replace TaD := Rep.at_only TaD ho (by omega) (fun a ha => by cases ha)
  replace TaB := Rep.at_only TaB ho (by omega) (fun a ha => by cases ha)
  replace Tw0 := Rep.at_only Tw0 ho (by omega) (fun a ha => by cases ha)
  replace Og0 := Rep.own_only Og0 ho (fun a ha hb => by cases hb)
  replace VaD := Rep.var_only VaD ho (by omega) (fun hb => by cases hb)
  replace Vw0 := Rep.var_only Vw0 ho (by omega) (fun hb => by cases hb)
  replace Vg0 := Rep.var_only Vg0 ho (by omega) (fun hb => by cases hb)
  clear HBW75
  clear ho
  have nn78 : ((N76 : Int) != (N76 : Int)) = false := by simp
  have qaD_0 : W77.cell? ⟨w.heap.size, 0, none⟩ = some (.slice A1 x0.secs.length c2) := var_cell VaD.out 0
  have qaD_1 : W77.cell? ⟨w.heap.size, 1, none⟩ = some (.slice B3 x0.cache.length d4) := var_cell VaD.out 1
  have qaD_2 : W77.cell? ⟨w.heap.size, 2, none⟩ = some (.int .i64 x0.fuse) := var_cell VaD.out 2
  have qaD_3 : W77.cell? ⟨w.heap.size, 3, none⟩ = some (.bool x0.down) := var_cell VaD.out 3
  have laD : w.heap.size < W77.heap.size := by omega
  go_wp2_with fail
  clear qaD_0 qaD_1 qaD_2 qaD_3 laD
  refine (toDisk_rep [.slice A1 x0.secs.length c2, .slice B3 x0.cache.length d4, .int .i64 x0.fuse, .bool x0.down] x0 W77 (Rep.more diskR TaD (by omega)) FaD.out).mono ?_
  rintro e W80 ⟨cs, fp81, rfl, Ot79, hb⟩
  obtain ⟨A82, c83, B84, d85, rfl⟩ := disk_own_shape Ot79
  have ho := Rep.only_of_below hb
  have L86 := Lib.hid (Rep.lt diskR Ot79)
  clear hb
  have SW80 : W77.heap.size ≤ W80.heap.size := ho.size
  have HBW80 := Rep.Only.below HBW77 ho (by omega) (fun a ha => by cases ha)
  replace TaD := Rep.at_only TaD ho (by omega) (fun a ha => by cases ha)
  replace TaB := Rep.at_only TaB ho (by omega) (fun a ha => by cases ha)
  replace Tw0 := Rep.at_only Tw0 ho (by omega) (fun a ha => by cases ha)
  replace Og0 := Rep.own_only Og0 ho (fun a ha hb => by cases hb)
  replace VaD := Rep.var_only VaD ho (by omega) (fun hb => by cases hb)
  replace Vw0 := Rep.var_only Vw0 ho (by omega) (fun hb => by cases hb)
  replace Vg0 := Rep.var_only Vg0 ho (by omega) (fun hb => by cases hb)
  clear HBW77
  clear ho
  go_wp2_with fail
  refine (toByteS_rep [.slice A5 x2.length c6] x2 W80 (Rep.more byR TaB (by omega)) bigaB).mono ?_
  rintro e W88 ⟨A90, c91, fp89, rfl, Ot87, hb⟩
  have ho := Rep.only_of_below hb
  have L92 := Lib.hid (Rep.lt byR Ot87)
  clear hb
  have SW88 : W80.heap.size ≤ W88.heap.size := ho.size
  have HBW88 := Rep.Only.below HBW80 ho (by omega) (fun a ha => by cases ha)
  replace TaD := Rep.at_only TaD ho (by omega) (fun a ha => by cases ha)
  replace TaB := Rep.at_only TaB ho (by omega) (fun a ha => by cases ha)
  replace Tw0 := Rep.at_only Tw0 ho (by omega) (fun a ha => by cases ha)
  replace Og0 := Rep.own_only Og0 ho (fun a ha hb => by cases hb)
  replace Ot79 := Rep.own_only Ot79 ho (fun a ha hb => by cases hb)
  replace VaD := Rep.var_only VaD ho (by omega) (fun hb => by cases hb)
  replace Vw0 := Rep.var_only Vw0 ho (by omega) (fun hb => by cases hb)
  replace Vg0 := Rep.var_only Vg0 ho (by omega) (fun hb => by cases hb)
  clear HBW80
  clear ho
  go_wp2_with fail
  refine (writeSec_rep [.slice A82 x0.secs.length c83, .slice B84 x0.cache.length d85, .int .i64 x0.fuse, .bool x0.down] x0 a1 [.slice A90 x2.length c91] x2 W88 (Rep.reads diskR Ot79) (Rep.reads byR Ot87) FaD.out w1 bigaB).mono ?_
  rintro e W93 ⟨cs, fp94, rfl, Oh0, hb⟩
  rw [HY.out] at Oh0
  obtain ⟨A95, c96, B97, d98, rfl⟩ := disk_own_shape Oh0
  have ho := Rep.only_of_below hb
  have L99 := Lib.hid (Rep.lt diskR Oh0)
  clear hb
  have SW93 : W88.heap.size ≤ W93.heap.size := ho.size
  have HBW93 := Rep.Only.below HBW88 ho (by omega) (fun a ha => by cases ha)
  replace TaD := Rep.at_only TaD ho (by omega) (fun a ha => by cases ha)
  replace TaB := Rep.at_only TaB ho (by omega) (fun a ha => by cases ha)
  replace Tw0 := Rep.at_only Tw0 ho (by omega) (fun a ha => by cases ha)
  replace Og0 := Rep.own_only Og0 ho (fun a ha hb => by cases hb)
  replace Ot79 := Rep.own_only Ot79 ho (fun a ha hb => by cases hb)
  replace Ot87 := Rep.own_only Ot87 ho (fun a ha hb => by cases hb)
  replace VaD := Rep.var_only VaD ho (by omega) (fun hb => by cases hb)
  replace Vw0 := Rep.var_only Vw0 ho (by omega) (fun hb => by cases hb)
  replace Vg0 := Rep.var_only Vg0 ho (by omega) (fun hb => by cases hb)
  clear HBW88
  clear ho
  clear Ot79 L86
  clear Ot87 L92
  have qw0_0 : W93.cell? ⟨W24.heap.size, 0, none⟩ = some (.slice A26 Y.secs.length c27) := var_cell Vw0.out 0
  have qw0_1 : W93.cell? ⟨W24.heap.size, 1, none⟩ = some (.slice B28 Y.cache.length d29) := var_cell Vw0.out 1
  have qw0_2 : W93.cell? ⟨W24.heap.size, 2, none⟩ = some (.int .i64 Y.fuse) := var_cell Vw0.out 2
  have qw0_3 : W93.cell? ⟨W24.heap.size, 3, none⟩ = some (.bool Y.down) := var_cell Vw0.out 3
  have lw0 : W24.heap.size < W93.heap.size := by omega
  go_wp2_with fail
  clear qw0_0 qw0_1 qw0_2 qw0_3 lw0
  have ho := Rep.only_alloc W93 (.cells #[.slice A95 Y.secs.length c96, .slice B97 Y.cache.length d98, .int .i64 Y.fuse, .bool Y.down] 27)
  have hv := heap_alloc_new W93 (.cells #[.slice A95 Y.secs.length c96, .slice B97 Y.cache.length d98, .int .i64 Y.fuse, .bool Y.down] 27)
  have hs : W93.heap.size < (W93.alloc (.cells #[.slice A95 Y.secs.length c96, .slice B97 Y.cache.length d98, .int .i64 Y.fuse, .bool Y.down] 27)).heap.size := by simp
  generalize hgW : W93.alloc (.cells #[.slice A95 Y.secs.length c96, .slice B97 Y.cache.length d98, .int .i64 Y.fuse, .bool Y.down] 27) = W100 at ho hv hs ⊢
  clear hgW
  have SW100 : W93.heap.size ≤ W100.heap.size := ho.size
  have HBW100 := Rep.Only.below HBW93 ho (by omega) (fun a ha => by cases ha)
  replace TaD := Rep.at_only TaD ho (by omega) (fun a ha => by cases ha)
  replace TaB := Rep.at_only TaB ho (by omega) (fun a ha => by cases ha)
  replace Tw0 := Rep.at_only Tw0 ho (by omega) (fun a ha => by cases ha)
  replace Og0 := Rep.own_only Og0 ho (fun a ha hb => by cases hb)
  replace Oh0 := Rep.own_only Oh0 ho (fun a ha hb => by cases hb)
  replace VaD := Rep.var_only VaD ho (by omega) (fun hb => by cases hb)
  replace Vw0 := Rep.var_only Vw0 ho (by omega) (fun hb => by cases hb)
  replace Vg0 := Rep.var_only Vg0 ho (by omega) (fun hb => by cases hb)
  clear HBW93
  have Vh0 := Lib.hid hv
  clear hv ho
  have ZW100 : W93.heap.size < W100.heap.size := hs
  clear hs
  refine (eqDisk_same [.slice A95 Y.secs.length c96, .slice B97 Y.cache.length d98, .int .i64 Y.fuse, .bool Y.down] [.slice A26 Y.secs.length c27, .slice B28 Y.cache.length d29, .int .i64 Y.fuse, .bool Y.down] Y W100 (Rep.reads diskR Oh0) (Rep.more diskR Tw0 (by omega)) FY).mono ?_
  rintro e W101 ⟨rfl, hb⟩
  have ho := Rep.only_of_below hb
  clear hb
  have SW101 : W100.heap.size ≤ W101.heap.size := ho.size
  have HBW101 := Rep.Only.below HBW100 ho (by omega) (fun a ha => by cases ha)
  replace TaD := Rep.at_only TaD ho (by omega) (fun a ha => by cases ha)
  replace TaB := Rep.at_only TaB ho (by omega) (fun a ha => by cases ha)
  replace Tw0 := Rep.at_only Tw0 ho (by omega) (fun a ha => by cases ha)
  replace Og0 := Rep.own_only Og0 ho (fun a ha hb => by cases hb)
  replace Oh0 := Rep.own_only Oh0 ho (fun a ha hb => by cases hb)
  replace VaD := Rep.var_only VaD ho (by omega) (fun hb => by cases hb)
  replace Vw0 := Rep.var_only Vw0 ho (by omega) (fun hb => by cases hb)
  replace Vg0 := Rep.var_only Vg0 ho (by omega) (fun hb => by cases hb)
  replace Vh0 := Rep.var_only Vh0 ho (by omega) (fun hb => by cases hb)
  clear HBW100
  clear ho
  clear Oh0 L99
  clear TaD
  clear TaB
  clear Tw0
  have qg0_0 : W101.cell? ⟨W44.heap.size, 0, none⟩ = some (.slice A46 Y.secs.length c47) := var_cell Vg0.out 0
  have qg0_1 : W101.cell? ⟨W44.heap.size, 1, none⟩ = some (.slice B48 Y.cache.length d49) := var_cell Vg0.out 1
  have qg0_2 : W101.cell? ⟨W44.heap.size, 2, none⟩ = some (.int .i64 Y.fuse) := var_cell Vg0.out 2
  have qg0_3 : W101.cell? ⟨W44.heap.size, 3, none⟩ = some (.bool Y.down) := var_cell Vg0.out 3
  have lg0 : W44.heap.size < W101.heap.size := by omega
  go_wp2_with fail
  clear qg0_0 qg0_1 qg0_2 qg0_3 lg0
  refine (heldDisk_any [.slice A46 Y.secs.length c47, .slice B48 Y.cache.length d49, .int .i64 Y.fuse, .bool Y.down] 1 Y W101 (Rep.reads diskR Og0) FY (by omega)).mono ?_
  rintro e W102 ⟨he, hb⟩
  rw [HN76.out] at he
  subst he
  have ho := Rep.only_of_below hb
  clear hb
  have SW102 : W101.heap.size ≤ W102.heap.size := ho.size
  have HBW102 := Rep.Only.below HBW101 ho (by omega) (fun a ha => by cases ha)
  replace Og0 := Rep.own_only Og0 ho (fun a ha hb => by cases hb)
  replace Vg0 := Rep.var_only Vg0 ho (by omega) (fun hb => by cases hb)
  clear HBW101
  clear ho
  have nn103 : ((N76 : Int) != (N76 : Int)) = false := by simp
  go_wp2_with fail
  go_ret
  exact ⟨rfl, HBW102⟩

end Go.Proofs.Ytjhfnfffpofagaa
