/- The walk of the exact law of Tell (written by gen.py). -/
import Derived.Test.YtcelkmphdeaaeaaTellS
import Derived.Test.YtcelkmphdeaaeaaTellI
import Derived.Test.YtcelkmphdeaaeaaExactFr
import Derived.Test.YtcelkmphdeaaeaaPut8
import Derived.Test.YtcelkmphdeaaeaaExactB
import Derived.Deep.Cut
import Derived.Test.YtcelkmphdeaaeaaLex
namespace Go.Proofs.Ytcelkmphdeaaeaa
open Go.RowKit
set_option linter.unusedVariables false

set_option maxRecDepth 100000 in
set_option maxHeartbeats 4000000 in
theorem walk_FnExactTell (w : World) (cs0 : List Value) (x0 : Sk) (w0 : skR.at_ w w.heap.size cs0 x0) (k0 : OkSk x0) (cs1 : List Value) (x1 : Fr) (w1 : frR.at_ w w.heap.size cs1 x1) (k1 : OkFr x1) :
    Calls Try.prog 11 #[.agg cs0.toArray, .agg cs1.toArray] w fun e w' => e = .returned (.bool true) ∧ Below w.heap.size w w' := by
  obtain ⟨A1, c2, B3, d4, rfl⟩ := sk_at_shape w0
  have TaS := w0
  clear w0
  obtain rfl := fr_at_shape w1
  have TaF := w1
  clear w1
  have HBw := Below.refl w.heap.size w
  go_enter Try.func11, Try.ntmps11
  go_wp2_with fail
  have ho := Rep.only_alloc w (.cells #[.int .i64 x0.id, .int .i64 x0.kind, .int .i64 x0.hold, .bool x0.shut, .slice A1 x0.inn.length c2, .slice B3 x0.out.length d4, .int .i64 x0.st, .int .i64 x0.done] 57)
  have hv := heap_alloc_new w (.cells #[.int .i64 x0.id, .int .i64 x0.kind, .int .i64 x0.hold, .bool x0.shut, .slice A1 x0.inn.length c2, .slice B3 x0.out.length d4, .int .i64 x0.st, .int .i64 x0.done] 57)
  have hs : w.heap.size < (w.alloc (.cells #[.int .i64 x0.id, .int .i64 x0.kind, .int .i64 x0.hold, .bool x0.shut, .slice A1 x0.inn.length c2, .slice B3 x0.out.length d4, .int .i64 x0.st, .int .i64 x0.done] 57)).heap.size := by simp
  generalize hgW : w.alloc (.cells #[.int .i64 x0.id, .int .i64 x0.kind, .int .i64 x0.hold, .bool x0.shut, .slice A1 x0.inn.length c2, .slice B3 x0.out.length d4, .int .i64 x0.st, .int .i64 x0.done] 57) = W5 at ho hv hs ⊢
  have hEW5 : Hid (W5.heap.size = w.heap.size + 1) := Lib.hid (by rw [← hgW]; simp)
  clear hgW
  have SW5 : w.heap.size ≤ W5.heap.size := ho.size
  have HBW5 := Rep.Only.below HBw ho (by omega) (fun a ha => by cases ha)
  replace TaS := Rep.at_only TaS ho (by omega) (fun a ha => by cases ha)
  replace TaF := Rep.at_only TaF ho (by omega) (fun a ha => by cases ha)
  clear HBw
  have VaS := Lib.hid hv
  clear hv ho
  have ZW5 : w.heap.size < W5.heap.size := hs
  clear hs
  have ho := Rep.only_alloc W5 (.cells #[.int .i64 x1.k, .string x1.s, .int .i64 x1.st] 72)
  have hv := heap_alloc_new W5 (.cells #[.int .i64 x1.k, .string x1.s, .int .i64 x1.st] 72)
  have hs : W5.heap.size < (W5.alloc (.cells #[.int .i64 x1.k, .string x1.s, .int .i64 x1.st] 72)).heap.size := by simp
  rw [hEW5.out] at hv hs
  generalize hgW : W5.alloc (.cells #[.int .i64 x1.k, .string x1.s, .int .i64 x1.st] 72) = W6 at ho hv hs ⊢
  have hEW6 : Hid (W6.heap.size = w.heap.size + 1 + 1) := Lib.hid (by rw [← hgW, ← hEW5.out]; simp)
  clear hgW
  have SW6 : W5.heap.size ≤ W6.heap.size := ho.size
  have HBW6 := Rep.Only.below HBW5 ho (by omega) (fun a ha => by cases ha)
  replace TaS := Rep.at_only TaS ho (by omega) (fun a ha => by cases ha)
  replace TaF := Rep.at_only TaF ho (by omega) (fun a ha => by cases ha)
  replace VaS := Rep.var_only VaS ho (by omega) (fun hb => by cases hb)
  clear HBW5
  have VaF := Lib.hid hv
  clear hv ho
  have ZW6 : w.heap.size + 1 < W6.heap.size := hs
  clear hs
  refine (szSk_room [.int .i64 x0.id, .int .i64 x0.kind, .int .i64 x0.hold, .bool x0.shut, .slice A1 x0.inn.length c2, .slice B3 x0.out.length d4, .int .i64 x0.st, .int .i64 x0.done] x0 1048576 W6 (Rep.more skR TaS (by omega)) (by omega)).mono ?_
  rintro e W7 ⟨hz, hb⟩
  have ho := Rep.only_of_below hb
  clear hb
  have SW7 : W6.heap.size ≤ W7.heap.size := ho.size
  have HBW7 := Rep.Only.below HBW6 ho (by omega) (fun a ha => by cases ha)
  replace TaS := Rep.at_only TaS ho (by omega) (fun a ha => by cases ha)
  replace TaF := Rep.at_only TaF ho (by omega) (fun a ha => by cases ha)
  replace VaS := Rep.var_only VaS ho (by omega) (fun hb => by cases hb)
  replace VaF := Rep.var_only VaF ho (by omega) (fun hb => by cases hb)
  clear HBW6
  clear ho
  obtain ⟨z8, hz8, HfitaS, rfl⟩ | rfl := hz
  rotate_left
  · go_wp2_with fail
    go_ret
    exact ⟨rfl, HBW7⟩
  have RaS := Lib.hid HfitaS
  have FaS := Lib.hid HfitaS.fits
  clear HfitaS
  have qaF_0 : W7.cell? ⟨w.heap.size + 1, 0, none⟩ = some (.int .i64 x1.k) := var_cell VaF.out 0
  have qaF_1 : W7.cell? ⟨w.heap.size + 1, 1, none⟩ = some (.string x1.s) := var_cell VaF.out 1
  have qaF_2 : W7.cell? ⟨w.heap.size + 1, 2, none⟩ = some (.int .i64 x1.st) := var_cell VaF.out 2
  have laF : w.heap.size + 1 < W7.heap.size := by omega
  go_wp2_with fail
  clear qaF_0 qaF_1 qaF_2 laF
  refine (szFr_rep [.int .i64 x1.k, .string x1.s, .int .i64 x1.st] x1 z8 W7 (Rep.more frR TaF (by omega)) (by omega) k1).mono ?_
  rintro e W9 ⟨hz, hb⟩
  have ho := Rep.only_of_below hb
  clear hb
  have SW9 : W7.heap.size ≤ W9.heap.size := ho.size
  have HBW9 := Rep.Only.below HBW7 ho (by omega) (fun a ha => by cases ha)
  replace TaS := Rep.at_only TaS ho (by omega) (fun a ha => by cases ha)
  replace TaF := Rep.at_only TaF ho (by omega) (fun a ha => by cases ha)
  replace VaS := Rep.var_only VaS ho (by omega) (fun hb => by cases hb)
  replace VaF := Rep.var_only VaF ho (by omega) (fun hb => by cases hb)
  clear HBW7
  clear ho
  obtain ⟨z10, hz10, HfitaF, rfl⟩ | rfl := hz
  rotate_left
  · go_wp2_with fail
    go_ret
    exact ⟨rfl, HBW9⟩
  have FaF := Lib.hid HfitaF
  clear HfitaF
  obtain ⟨Y, hy⟩ : ∃ Y, tellP x0 x1 = Y := ⟨_, rfl⟩
  have FY : FitsSk Y := by rw [← hy]; exact fits_tell x1 RaS.out
  have HY := Lib.hid hy
  clear hy
  go_upto_region 8 with (fail)
  go_cut [6] from 13 (fun v W' => ∃ (DW : Nat) (A : Option Addr) (c : Nat) (B : Option Addr) (d : Nat) (fp : List Nat), v = .pointer (some ⟨DW, 0, none⟩) ∧ Below W9.heap.size W9 W' ∧ W'.heap[DW]? = some (.cells #[.int .i64 Y.id, .int .i64 Y.kind, .int .i64 Y.hold, .bool Y.shut, .slice A Y.inn.length c, .slice B Y.out.length d, .int .i64 Y.st, .int .i64 Y.done] 25 (0, 0)) ∧ W9.heap.size ≤ DW ∧ skR.own W' W9.heap.size [.int .i64 Y.id, .int .i64 Y.kind, .int .i64 Y.hold, .bool Y.shut, .slice A Y.inn.length c, .slice B Y.out.length d, .int .i64 Y.st, .int .i64 Y.done] Y fp ∧ DW ∉ fp)
  case first =>
    rename_i J K1 hJ hK
    have TT : All (fun w' => Below W9.heap.size W9 w' ∧ (w'.heap[w.heap.size]? = some (.cells #[.int .i64 x0.id, .int .i64 x0.kind, .int .i64 x0.hold, .bool x0.shut, .slice A1 x0.inn.length c2, .slice B3 x0.out.length d4, .int .i64 x0.st, .int .i64 x0.done] 57 (0, 0)) ∧ w'.heap[w.heap.size + 1]? = some (.cells #[.int .i64 x1.k, .string x1.s, .int .i64 x1.st] 72 (0, 0)))) W9 := ⟨Below.refl _ _, VaS.out, VaF.out⟩
    refine wp_region_open 6 (fun w' => w'.heap[w.heap.size]? = some (.cells #[.int .i64 x0.id, .int .i64 x0.kind, .int .i64 x0.hold, .bool x0.shut, .slice A1 x0.inn.length c2, .slice B3 x0.out.length d4, .int .i64 x0.st, .int .i64 x0.done] 57 (0, 0)) ∧ w'.heap[w.heap.size + 1]? = some (.cells #[.int .i64 x1.k, .string x1.s, .int .i64 x1.st] 72 (0, 0))) (by kernel_rfl) ?_
    replace TT := TT.drew
    generalize W9.drew = Wa at TT ⊢
    refine wpAnyL_reads [0, 2] (fuel := 5) (by kernel_rfl) TT.out.2 ?_
    refine LexR.cons rfl ?_ (fun w' hw => ?_) ?_
    rotate_left
    focus (have hw2 := hw.1; have q0 := var_cell hw2 0; have q1 := var_cell hw2 1; have q2 := var_cell hw2 2; have q3 := var_cell hw2 3; have q4 := var_cell hw2 4; have q5 := var_cell hw2 5; have q6 := var_cell hw2 6; have q7 := var_cell hw2 7; clear hw hw2; go_simp; (try exact rfl))
    try go_frame
    refine LexR.cons rfl ?_ (fun w' hw => ?_) ?_
    rotate_left
    focus (have hw2 := hw.2; have q0 := var_cell hw2 0; have q1 := var_cell hw2 1; have q2 := var_cell hw2 2; clear hw hw2; go_simp; (try exact rfl))
    try go_frame
    refine LexR.nil ?_
    refine wpAnyL_two (i := 1) (j := 5) (by kernel_rfl) ?_ ?_
    · skip
      refine lexA_get rfl ?_
      try go_frame
      go_wp2_with fail
      refine (toSk_rep [.int .i64 x0.id, .int .i64 x0.kind, .int .i64 x0.hold, .bool x0.shut, .slice A1 x0.inn.length c2, .slice B3 x0.out.length d4, .int .i64 x0.st, .int .i64 x0.done] x0 Wa (Rep.more skR (Rep.at_below (Rep.more skR TaS (by omega)) TT.out.1) TT.out.1.size) FaS.out).mono ?_
      rintro e Vc0 ⟨cs, fp0, rfl, Ot11, hb⟩
      obtain ⟨At11, ct11, Bt11, dt11, rfl⟩ := sk_own_shape Ot11
      have Lot11 := Rep.lt skR Ot11
      replace TT := TT.later hb
      clear hb
      go_wp2_with fail
      refine ⟨fun _ => TT.out.2, ?_⟩
      refine wpAnyL_two (i := 3) (j := 5) (by kernel_rfl) ?_ ?_
      · skip
        refine lexA_get rfl ?_
        try go_frame
        go_wp2_with fail
        refine (toFr_rep [.int .i64 x1.k, .string x1.s, .int .i64 x1.st] x1 Vc0 (Rep.more frR (Rep.at_below (Rep.more frR TaF (by omega)) TT.out.1) TT.out.1.size) FaF.out).mono ?_
        rintro e Vc1 ⟨cs, fp1, rfl, Ot12, hb⟩
        obtain rfl := fr_own_shape Ot12
        have Lot12 := Rep.lt frR Ot12
        replace Ot11 := Rep.own_below Ot11 hb
        replace TT := TT.later hb
        clear hb
        go_wp2_with fail
        refine ⟨fun _ => TT.out.2, ?_⟩
        refine wpAnyL_two (i := 4) (j := 5) (by kernel_rfl) ?_ ?_
        · skip
          refine lexA_get rfl ?_
          try go_frame
          go_wp2_with fail
          refine (tellS_own [.int .i64 x0.id, .int .i64 x0.kind, .int .i64 x0.hold, .bool x0.shut, .slice At11 x0.inn.length ct11, .slice Bt11 x0.out.length dt11, .int .i64 x0.st, .int .i64 x0.done] x0 [.int .i64 x1.k, .string x1.s, .int .i64 x1.st] x1 Vc1 (Rep.reads skR Ot11) (Rep.reads frR Ot12) RaS.out FaF.out).mono ?_
          rw [HY.out]
          rintro e Vc2 ⟨cs, fp2, rfl, Ores, hb⟩
          obtain ⟨A, c, B, d, rfl⟩ := sk_own_shape Ores
          have Lores := Rep.lt skR Ores
          replace Ot11 := Rep.own_below Ot11 hb
          replace Ot12 := Rep.own_below Ot12 hb
          replace Ores := Rep.low skR Ores TT.out.1.size
          replace TT := TT.later hb
          clear hb
          go_wp2_with fail
          refine ⟨fun _ => TT.out.2, ?_⟩
          refine wpAnyL_one (i := 5) (by kernel_rfl) ?_
          refine lexA_get rfl ?_
          try go_frame
          go_wp2_with fail
          have hz := heap_alloc_new Vc2 (.cells #[.int .i64 0, .int .i64 0, .int .i64 0, .bool false, .slice none 0 0, .slice none 0 0, .int .i64 0, .int .i64 0] 25)
          have hEl : Vc2.heap.size < (Vc2.alloc (.cells #[.int .i64 0, .int .i64 0, .int .i64 0, .bool false, .slice none 0 0, .slice none 0 0, .int .i64 0, .int .i64 0] 25)).heap.size := by simp
          have hEo := TT.out.1.size
          replace Ot11 := Rep.own_below Ot11 (Later.alloc Vc2 (.cells #[.int .i64 0, .int .i64 0, .int .i64 0, .bool false, .slice none 0 0, .slice none 0 0, .int .i64 0, .int .i64 0] 25))
          replace Ot12 := Rep.own_below Ot12 (Later.alloc Vc2 (.cells #[.int .i64 0, .int .i64 0, .int .i64 0, .bool false, .slice none 0 0, .slice none 0 0, .int .i64 0, .int .i64 0] 25))
          replace Ores := Rep.own_below Ores (Later.alloc Vc2 (.cells #[.int .i64 0, .int .i64 0, .int .i64 0, .bool false, .slice none 0 0, .slice none 0 0, .int .i64 0, .int .i64 0] 25))
          have hEn : Vc2.heap.size ∉ fp2 := fun hm => by have := (Lores _ hm).2; omega
          replace TT := TT.alloc (.cells #[.int .i64 0, .int .i64 0, .int .i64 0, .bool false, .slice none 0 0, .slice none 0 0, .int .i64 0, .int .i64 0] 25)
          refine ⟨fun _ => TT.out.2, ?_⟩
          generalize Vc2.alloc (.cells #[.int .i64 0, .int .i64 0, .int .i64 0, .bool false, .slice none 0 0, .slice none 0 0, .int .i64 0, .int .i64 0] 25) = Va3 at TT hz hEl Ot11 Ot12 Ores ⊢
          generalize hEE : Vc2.heap.size = E at hz hEl hEo hEn ⊢
          clear hEE
          refine wpAnyL_writes [6] (by kernel_rfl) (LexW.cons rfl ?_)
          try go_frame
          have z0 := var_cell hz 0
          have zf0 := var_frozen hz 0
          have z1 := var_cell hz 1
          have zf1 := var_frozen hz 1
          have z2 := var_cell hz 2
          have zf2 := var_frozen hz 2
          have z3 := var_cell hz 3
          have zf3 := var_frozen hz 3
          have z4 := var_cell hz 4
          have zf4 := var_frozen hz 4
          have z5 := var_cell hz 5
          have zf5 := var_frozen hz 5
          have z6 := var_cell hz 6
          have zf6 := var_frozen hz 6
          have z7 := var_cell hz 7
          have zf7 := var_frozen hz 7
          go_wp2_with fail
          refine ⟨fun h => absurd rfl h, LexW.nil (hK _ _ (Met.intro (hJ _ _ ?_)))⟩
          have hB8 := put8_below (.int .i64 Y.id) (.int .i64 Y.kind) (.int .i64 Y.hold) (.bool Y.shut) (.slice A Y.inn.length c) (.slice B Y.out.length d) (.int .i64 Y.st) (.int .i64 Y.done) TT.out.1 hEo
          have hz8 := put8 (.int .i64 Y.id) (.int .i64 Y.kind) (.int .i64 Y.hold) (.bool Y.shut) (.slice A Y.inn.length c) (.slice B Y.out.length d) (.int .i64 Y.st) (.int .i64 Y.done) hz
          have hO8 := put8_own (R := skR) (E := E) (.int .i64 Y.id) (.int .i64 Y.kind) (.int .i64 Y.hold) (.bool Y.shut) (.slice A Y.inn.length c) (.slice B Y.out.length d) (.int .i64 Y.st) (.int .i64 Y.done) Ores hEn
          (repeat apply Exists.intro)
          refine ⟨?_, rfl⟩
          exact ⟨E, A, c, B, d, fp2, rfl, hB8, hz8, hEo, hO8, hEn⟩
        · skip
          refine lexA_get rfl ?_
          try go_frame
          go_wp2_with fail
          have hz := heap_alloc_new Vc1 (.cells #[.int .i64 0, .int .i64 0, .int .i64 0, .bool false, .slice none 0 0, .slice none 0 0, .int .i64 0, .int .i64 0] 25)
          have hEl : Vc1.heap.size < (Vc1.alloc (.cells #[.int .i64 0, .int .i64 0, .int .i64 0, .bool false, .slice none 0 0, .slice none 0 0, .int .i64 0, .int .i64 0] 25)).heap.size := by simp
          have hEo := TT.out.1.size
          replace Ot11 := Rep.own_below Ot11 (Later.alloc Vc1 (.cells #[.int .i64 0, .int .i64 0, .int .i64 0, .bool false, .slice none 0 0, .slice none 0 0, .int .i64 0, .int .i64 0] 25))
          replace Ot12 := Rep.own_below Ot12 (Later.alloc Vc1 (.cells #[.int .i64 0, .int .i64 0, .int .i64 0, .bool false, .slice none 0 0, .slice none 0 0, .int .i64 0, .int .i64 0] 25))
          replace TT := TT.alloc (.cells #[.int .i64 0, .int .i64 0, .int .i64 0, .bool false, .slice none 0 0, .slice none 0 0, .int .i64 0, .int .i64 0] 25)
          refine ⟨fun _ => TT.out.2, ?_⟩
          generalize Vc1.alloc (.cells #[.int .i64 0, .int .i64 0, .int .i64 0, .bool false, .slice none 0 0, .slice none 0 0, .int .i64 0, .int .i64 0] 25) = Va2 at TT hz hEl Ot11 Ot12 ⊢
          generalize hEE : Vc1.heap.size = E at hz hEl hEo  ⊢
          clear hEE
          refine wpAnyL_one (i := 4) (by kernel_rfl) ?_
          refine lexA_get rfl ?_
          try go_frame
          go_wp2_with fail
          refine (tellS_own [.int .i64 x0.id, .int .i64 x0.kind, .int .i64 x0.hold, .bool x0.shut, .slice At11 x0.inn.length ct11, .slice Bt11 x0.out.length dt11, .int .i64 x0.st, .int .i64 x0.done] x0 [.int .i64 x1.k, .string x1.s, .int .i64 x1.st] x1 Va2 (Rep.reads skR Ot11) (Rep.reads frR Ot12) RaS.out FaF.out).mono ?_
          rw [HY.out]
          rintro e Vc2a ⟨cs, fp2, rfl, Ores, hb⟩
          obtain ⟨A, c, B, d, rfl⟩ := sk_own_shape Ores
          have Lores := Rep.lt skR Ores
          replace Ot11 := Rep.own_below Ot11 hb
          replace Ot12 := Rep.own_below Ot12 hb
          have hEn : E ∉ fp2 := fun hm => by have := (Lores E hm).1; omega
          replace hz := (hb.block E hEl).trans hz
          replace hEl : E < Vc2a.heap.size := Nat.lt_of_lt_of_le hEl hb.size
          replace Ores := Rep.low skR Ores TT.out.1.size
          replace TT := TT.later hb
          clear hb
          go_wp2_with fail
          refine ⟨fun _ => TT.out.2, ?_⟩
          refine wpAnyL_writes [6] (by kernel_rfl) (LexW.cons rfl ?_)
          try go_frame
          have z0 := var_cell hz 0
          have zf0 := var_frozen hz 0
          have z1 := var_cell hz 1
          have zf1 := var_frozen hz 1
          have z2 := var_cell hz 2
          have zf2 := var_frozen hz 2
          have z3 := var_cell hz 3
          have zf3 := var_frozen hz 3
          have z4 := var_cell hz 4
          have zf4 := var_frozen hz 4
          have z5 := var_cell hz 5
          have zf5 := var_frozen hz 5
          have z6 := var_cell hz 6
          have zf6 := var_frozen hz 6
          have z7 := var_cell hz 7
          have zf7 := var_frozen hz 7
          go_wp2_with fail
          refine ⟨fun h => absurd rfl h, LexW.nil (hK _ _ (Met.intro (hJ _ _ ?_)))⟩
          have hB8 := put8_below (.int .i64 Y.id) (.int .i64 Y.kind) (.int .i64 Y.hold) (.bool Y.shut) (.slice A Y.inn.length c) (.slice B Y.out.length d) (.int .i64 Y.st) (.int .i64 Y.done) TT.out.1 hEo
          have hz8 := put8 (.int .i64 Y.id) (.int .i64 Y.kind) (.int .i64 Y.hold) (.bool Y.shut) (.slice A Y.inn.length c) (.slice B Y.out.length d) (.int .i64 Y.st) (.int .i64 Y.done) hz
          have hO8 := put8_own (R := skR) (E := E) (.int .i64 Y.id) (.int .i64 Y.kind) (.int .i64 Y.hold) (.bool Y.shut) (.slice A Y.inn.length c) (.slice B Y.out.length d) (.int .i64 Y.st) (.int .i64 Y.done) Ores hEn
          (repeat apply Exists.intro)
          refine ⟨?_, rfl⟩
          exact ⟨E, A, c, B, d, fp2, rfl, hB8, hz8, hEo, hO8, hEn⟩
      · skip
        refine lexA_get rfl ?_
        try go_frame
        go_wp2_with fail
        have hz := heap_alloc_new Vc0 (.cells #[.int .i64 0, .int .i64 0, .int .i64 0, .bool false, .slice none 0 0, .slice none 0 0, .int .i64 0, .int .i64 0] 25)
        have hEl : Vc0.heap.size < (Vc0.alloc (.cells #[.int .i64 0, .int .i64 0, .int .i64 0, .bool false, .slice none 0 0, .slice none 0 0, .int .i64 0, .int .i64 0] 25)).heap.size := by simp
        have hEo := TT.out.1.size
        replace Ot11 := Rep.own_below Ot11 (Later.alloc Vc0 (.cells #[.int .i64 0, .int .i64 0, .int .i64 0, .bool false, .slice none 0 0, .slice none 0 0, .int .i64 0, .int .i64 0] 25))
        replace TT := TT.alloc (.cells #[.int .i64 0, .int .i64 0, .int .i64 0, .bool false, .slice none 0 0, .slice none 0 0, .int .i64 0, .int .i64 0] 25)
        refine ⟨fun _ => TT.out.2, ?_⟩
        generalize Vc0.alloc (.cells #[.int .i64 0, .int .i64 0, .int .i64 0, .bool false, .slice none 0 0, .slice none 0 0, .int .i64 0, .int .i64 0] 25) = Va1 at TT hz hEl Ot11 ⊢
        generalize hEE : Vc0.heap.size = E at hz hEl hEo  ⊢
        clear hEE
        refine wpAnyL_one (i := 3) (by kernel_rfl) ?_
        refine lexA_get rfl ?_
        try go_frame
        go_wp2_with fail
        refine (toFr_rep [.int .i64 x1.k, .string x1.s, .int .i64 x1.st] x1 Va1 (Rep.more frR (Rep.at_below (Rep.more frR TaF (by omega)) TT.out.1) TT.out.1.size) FaF.out).mono ?_
        rintro e Vc1a ⟨cs, fp1, rfl, Ot12, hb⟩
        obtain rfl := fr_own_shape Ot12
        have Lot12 := Rep.lt frR Ot12
        replace Ot11 := Rep.own_below Ot11 hb
        replace hz := (hb.block E hEl).trans hz
        replace hEl : E < Vc1a.heap.size := Nat.lt_of_lt_of_le hEl hb.size
        replace TT := TT.later hb
        clear hb
        go_wp2_with fail
        refine ⟨fun _ => TT.out.2, ?_⟩
        refine wpAnyL_one (i := 4) (by kernel_rfl) ?_
        refine lexA_get rfl ?_
        try go_frame
        go_wp2_with fail
        refine (tellS_own [.int .i64 x0.id, .int .i64 x0.kind, .int .i64 x0.hold, .bool x0.shut, .slice At11 x0.inn.length ct11, .slice Bt11 x0.out.length dt11, .int .i64 x0.st, .int .i64 x0.done] x0 [.int .i64 x1.k, .string x1.s, .int .i64 x1.st] x1 Vc1a (Rep.reads skR Ot11) (Rep.reads frR Ot12) RaS.out FaF.out).mono ?_
        rw [HY.out]
        rintro e Vc2a ⟨cs, fp2, rfl, Ores, hb⟩
        obtain ⟨A, c, B, d, rfl⟩ := sk_own_shape Ores
        have Lores := Rep.lt skR Ores
        replace Ot11 := Rep.own_below Ot11 hb
        replace Ot12 := Rep.own_below Ot12 hb
        have hEn : E ∉ fp2 := fun hm => by have := (Lores E hm).1; omega
        replace hz := (hb.block E hEl).trans hz
        replace hEl : E < Vc2a.heap.size := Nat.lt_of_lt_of_le hEl hb.size
        replace Ores := Rep.low skR Ores TT.out.1.size
        replace TT := TT.later hb
        clear hb
        go_wp2_with fail
        refine ⟨fun _ => TT.out.2, ?_⟩
        refine wpAnyL_writes [6] (by kernel_rfl) (LexW.cons rfl ?_)
        try go_frame
        have z0 := var_cell hz 0
        have zf0 := var_frozen hz 0
        have z1 := var_cell hz 1
        have zf1 := var_frozen hz 1
        have z2 := var_cell hz 2
        have zf2 := var_frozen hz 2
        have z3 := var_cell hz 3
        have zf3 := var_frozen hz 3
        have z4 := var_cell hz 4
        have zf4 := var_frozen hz 4
        have z5 := var_cell hz 5
        have zf5 := var_frozen hz 5
        have z6 := var_cell hz 6
        have zf6 := var_frozen hz 6
        have z7 := var_cell hz 7
        have zf7 := var_frozen hz 7
        go_wp2_with fail
        refine ⟨fun h => absurd rfl h, LexW.nil (hK _ _ (Met.intro (hJ _ _ ?_)))⟩
        have hB8 := put8_below (.int .i64 Y.id) (.int .i64 Y.kind) (.int .i64 Y.hold) (.bool Y.shut) (.slice A Y.inn.length c) (.slice B Y.out.length d) (.int .i64 Y.st) (.int .i64 Y.done) TT.out.1 hEo
        have hz8 := put8 (.int .i64 Y.id) (.int .i64 Y.kind) (.int .i64 Y.hold) (.bool Y.shut) (.slice A Y.inn.length c) (.slice B Y.out.length d) (.int .i64 Y.st) (.int .i64 Y.done) hz
        have hO8 := put8_own (R := skR) (E := E) (.int .i64 Y.id) (.int .i64 Y.kind) (.int .i64 Y.hold) (.bool Y.shut) (.slice A Y.inn.length c) (.slice B Y.out.length d) (.int .i64 Y.st) (.int .i64 Y.done) Ores hEn
        (repeat apply Exists.intro)
        refine ⟨?_, rfl⟩
        exact ⟨E, A, c, B, d, fp2, rfl, hB8, hz8, hEo, hO8, hEn⟩
    · skip
      refine lexA_get rfl ?_
      try go_frame
      go_wp2_with fail
      have hz := heap_alloc_new Wa (.cells #[.int .i64 0, .int .i64 0, .int .i64 0, .bool false, .slice none 0 0, .slice none 0 0, .int .i64 0, .int .i64 0] 25)
      have hEl : Wa.heap.size < (Wa.alloc (.cells #[.int .i64 0, .int .i64 0, .int .i64 0, .bool false, .slice none 0 0, .slice none 0 0, .int .i64 0, .int .i64 0] 25)).heap.size := by simp
      have hEo := TT.out.1.size
      replace TT := TT.alloc (.cells #[.int .i64 0, .int .i64 0, .int .i64 0, .bool false, .slice none 0 0, .slice none 0 0, .int .i64 0, .int .i64 0] 25)
      refine ⟨fun _ => TT.out.2, ?_⟩
      generalize Wa.alloc (.cells #[.int .i64 0, .int .i64 0, .int .i64 0, .bool false, .slice none 0 0, .slice none 0 0, .int .i64 0, .int .i64 0] 25) = Va0 at TT hz hEl  ⊢
      generalize hEE : Wa.heap.size = E at hz hEl hEo  ⊢
      clear hEE
      refine wpAnyL_one (i := 1) (by kernel_rfl) ?_
      refine lexA_get rfl ?_
      try go_frame
      go_wp2_with fail
      refine (toSk_rep [.int .i64 x0.id, .int .i64 x0.kind, .int .i64 x0.hold, .bool x0.shut, .slice A1 x0.inn.length c2, .slice B3 x0.out.length d4, .int .i64 x0.st, .int .i64 x0.done] x0 Va0 (Rep.more skR (Rep.at_below (Rep.more skR TaS (by omega)) TT.out.1) TT.out.1.size) FaS.out).mono ?_
      rintro e Vc0a ⟨cs, fp0, rfl, Ot11, hb⟩
      obtain ⟨At11, ct11, Bt11, dt11, rfl⟩ := sk_own_shape Ot11
      have Lot11 := Rep.lt skR Ot11
      replace hz := (hb.block E hEl).trans hz
      replace hEl : E < Vc0a.heap.size := Nat.lt_of_lt_of_le hEl hb.size
      replace TT := TT.later hb
      clear hb
      go_wp2_with fail
      refine ⟨fun _ => TT.out.2, ?_⟩
      refine wpAnyL_one (i := 3) (by kernel_rfl) ?_
      refine lexA_get rfl ?_
      try go_frame
      go_wp2_with fail
      refine (toFr_rep [.int .i64 x1.k, .string x1.s, .int .i64 x1.st] x1 Vc0a (Rep.more frR (Rep.at_below (Rep.more frR TaF (by omega)) TT.out.1) TT.out.1.size) FaF.out).mono ?_
      rintro e Vc1a ⟨cs, fp1, rfl, Ot12, hb⟩
      obtain rfl := fr_own_shape Ot12
      have Lot12 := Rep.lt frR Ot12
      replace Ot11 := Rep.own_below Ot11 hb
      replace hz := (hb.block E hEl).trans hz
      replace hEl : E < Vc1a.heap.size := Nat.lt_of_lt_of_le hEl hb.size
      replace TT := TT.later hb
      clear hb
      go_wp2_with fail
      refine ⟨fun _ => TT.out.2, ?_⟩
      refine wpAnyL_one (i := 4) (by kernel_rfl) ?_
      refine lexA_get rfl ?_
      try go_frame
      go_wp2_with fail
      refine (tellS_own [.int .i64 x0.id, .int .i64 x0.kind, .int .i64 x0.hold, .bool x0.shut, .slice At11 x0.inn.length ct11, .slice Bt11 x0.out.length dt11, .int .i64 x0.st, .int .i64 x0.done] x0 [.int .i64 x1.k, .string x1.s, .int .i64 x1.st] x1 Vc1a (Rep.reads skR Ot11) (Rep.reads frR Ot12) RaS.out FaF.out).mono ?_
      rw [HY.out]
      rintro e Vc2a ⟨cs, fp2, rfl, Ores, hb⟩
      obtain ⟨A, c, B, d, rfl⟩ := sk_own_shape Ores
      have Lores := Rep.lt skR Ores
      replace Ot11 := Rep.own_below Ot11 hb
      replace Ot12 := Rep.own_below Ot12 hb
      have hEn : E ∉ fp2 := fun hm => by have := (Lores E hm).1; omega
      replace hz := (hb.block E hEl).trans hz
      replace hEl : E < Vc2a.heap.size := Nat.lt_of_lt_of_le hEl hb.size
      replace Ores := Rep.low skR Ores TT.out.1.size
      replace TT := TT.later hb
      clear hb
      go_wp2_with fail
      refine ⟨fun _ => TT.out.2, ?_⟩
      refine wpAnyL_writes [6] (by kernel_rfl) (LexW.cons rfl ?_)
      try go_frame
      have z0 := var_cell hz 0
      have zf0 := var_frozen hz 0
      have z1 := var_cell hz 1
      have zf1 := var_frozen hz 1
      have z2 := var_cell hz 2
      have zf2 := var_frozen hz 2
      have z3 := var_cell hz 3
      have zf3 := var_frozen hz 3
      have z4 := var_cell hz 4
      have zf4 := var_frozen hz 4
      have z5 := var_cell hz 5
      have zf5 := var_frozen hz 5
      have z6 := var_cell hz 6
      have zf6 := var_frozen hz 6
      have z7 := var_cell hz 7
      have zf7 := var_frozen hz 7
      go_wp2_with fail
      refine ⟨fun h => absurd rfl h, LexW.nil (hK _ _ (Met.intro (hJ _ _ ?_)))⟩
      have hB8 := put8_below (.int .i64 Y.id) (.int .i64 Y.kind) (.int .i64 Y.hold) (.bool Y.shut) (.slice A Y.inn.length c) (.slice B Y.out.length d) (.int .i64 Y.st) (.int .i64 Y.done) TT.out.1 hEo
      have hz8 := put8 (.int .i64 Y.id) (.int .i64 Y.kind) (.int .i64 Y.hold) (.bool Y.shut) (.slice A Y.inn.length c) (.slice B Y.out.length d) (.int .i64 Y.st) (.int .i64 Y.done) hz
      have hO8 := put8_own (R := skR) (E := E) (.int .i64 Y.id) (.int .i64 Y.kind) (.int .i64 Y.hold) (.bool Y.shut) (.slice A Y.inn.length c) (.slice B Y.out.length d) (.int .i64 Y.st) (.int .i64 Y.done) Ores hEn
      (repeat apply Exists.intro)
      refine ⟨?_, rfl⟩
      exact ⟨E, A, c, B, d, fp2, rfl, hB8, hz8, hEo, hO8, hEn⟩
  case rest =>
    obtain ⟨D15, A16, c17, B18, d19, fp14, rfl, hb, hv, hloD15, Ow0, hDnD15⟩ := hcut
    obtain ⟨W13, rfl⟩ : ∃ wo : World, wo = wc := ⟨_, rfl⟩
    have ho := Rep.only_of_below hb
    have L20 := Lib.hid (Rep.lt skR Ow0)
    have HDD15 := Lib.hid hDnD15
    clear hb hDnD15
    have SW13 : W9.heap.size ≤ W13.heap.size := ho.size
    have HBW13 := Rep.Only.below HBW9 ho (by omega) (fun a ha => by cases ha)
    replace TaS := Rep.at_only TaS ho (by omega) (fun a ha => by cases ha)
    replace TaF := Rep.at_only TaF ho (by omega) (fun a ha => by cases ha)
    replace VaS := Rep.var_only VaS ho (by omega) (fun hb => by cases hb)
    replace VaF := Rep.var_only VaF ho (by omega) (fun hb => by cases hb)
    clear HBW9
    clear ho
    have ZW13 : D15 < W13.heap.size := (Array.getElem?_eq_some_iff.1 hv).1
    have Vw0 := Lib.hid hv
    clear hv
    have Tw0 := Rep.reads skR Ow0
    clear Ow0 L20
    have qaS_0 : W13.cell? ⟨w.heap.size, 0, none⟩ = some (.int .i64 x0.id) := var_cell VaS.out 0
    have qaS_1 : W13.cell? ⟨w.heap.size, 1, none⟩ = some (.int .i64 x0.kind) := var_cell VaS.out 1
    have qaS_2 : W13.cell? ⟨w.heap.size, 2, none⟩ = some (.int .i64 x0.hold) := var_cell VaS.out 2
    have qaS_3 : W13.cell? ⟨w.heap.size, 3, none⟩ = some (.bool x0.shut) := var_cell VaS.out 3
    have qaS_4 : W13.cell? ⟨w.heap.size, 4, none⟩ = some (.slice A1 x0.inn.length c2) := var_cell VaS.out 4
    have qaS_5 : W13.cell? ⟨w.heap.size, 5, none⟩ = some (.slice B3 x0.out.length d4) := var_cell VaS.out 5
    have qaS_6 : W13.cell? ⟨w.heap.size, 6, none⟩ = some (.int .i64 x0.st) := var_cell VaS.out 6
    have qaS_7 : W13.cell? ⟨w.heap.size, 7, none⟩ = some (.int .i64 x0.done) := var_cell VaS.out 7
    have laS : w.heap.size < W13.heap.size := by omega
    go_wp2_with fail
    clear qaS_0 qaS_1 qaS_2 qaS_3 qaS_4 qaS_5 qaS_6 qaS_7 laS
    refine (toSk_rep [.int .i64 x0.id, .int .i64 x0.kind, .int .i64 x0.hold, .bool x0.shut, .slice A1 x0.inn.length c2, .slice B3 x0.out.length d4, .int .i64 x0.st, .int .i64 x0.done] x0 W13 (Rep.more skR TaS (by omega)) FaS.out).mono ?_
    rintro e W21 ⟨cs, fp22, rfl, Ox0, hb⟩
    obtain ⟨A23, c24, B25, d26, rfl⟩ := sk_own_shape Ox0
    have ho := Rep.only_of_below hb
    have L27 := Lib.hid (Rep.lt skR Ox0)
    clear hb
    have SW21 : W13.heap.size ≤ W21.heap.size := ho.size
    have HBW21 := Rep.Only.below HBW13 ho (by omega) (fun a ha => by cases ha)
    replace TaS := Rep.at_only TaS ho (by omega) (fun a ha => by cases ha)
    replace TaF := Rep.at_only TaF ho (by omega) (fun a ha => by cases ha)
    replace Tw0 := Rep.at_only Tw0 ho (by omega) (fun a ha => by cases ha)
    replace VaS := Rep.var_only VaS ho (by omega) (fun hb => by cases hb)
    replace VaF := Rep.var_only VaF ho (by omega) (fun hb => by cases hb)
    replace Vw0 := Rep.var_only Vw0 ho (by omega) (fun hb => by cases hb)
    clear HBW13
    clear ho
    go_upto_region 10 with (fail)
    have ho := Rep.only_alloc W21 (.cells #[.int .i64 x0.id, .int .i64 x0.kind, .int .i64 x0.hold, .bool x0.shut, .slice A23 x0.inn.length c24, .slice B25 x0.out.length d26, .int .i64 x0.st, .int .i64 x0.done] 25)
    have hv := heap_alloc_new W21 (.cells #[.int .i64 x0.id, .int .i64 x0.kind, .int .i64 x0.hold, .bool x0.shut, .slice A23 x0.inn.length c24, .slice B25 x0.out.length d26, .int .i64 x0.st, .int .i64 x0.done] 25)
    have hs : W21.heap.size < (W21.alloc (.cells #[.int .i64 x0.id, .int .i64 x0.kind, .int .i64 x0.hold, .bool x0.shut, .slice A23 x0.inn.length c24, .slice B25 x0.out.length d26, .int .i64 x0.st, .int .i64 x0.done] 25)).heap.size := by simp
    generalize hgW : W21.alloc (.cells #[.int .i64 x0.id, .int .i64 x0.kind, .int .i64 x0.hold, .bool x0.shut, .slice A23 x0.inn.length c24, .slice B25 x0.out.length d26, .int .i64 x0.st, .int .i64 x0.done] 25) = W28 at ho hv hs ⊢
    clear hgW
    have SW28 : W21.heap.size ≤ W28.heap.size := ho.size
    have HBW28 := Rep.Only.below HBW21 ho (by omega) (fun a ha => by cases ha)
    replace TaS := Rep.at_only TaS ho (by omega) (fun a ha => by cases ha)
    replace TaF := Rep.at_only TaF ho (by omega) (fun a ha => by cases ha)
    replace Tw0 := Rep.at_only Tw0 ho (by omega) (fun a ha => by cases ha)
    replace Ox0 := Rep.own_only Ox0 ho (fun a ha hb => by cases hb)
    replace VaS := Rep.var_only VaS ho (by omega) (fun hb => by cases hb)
    replace VaF := Rep.var_only VaF ho (by omega) (fun hb => by cases hb)
    replace Vw0 := Rep.var_only Vw0 ho (by omega) (fun hb => by cases hb)
    clear HBW21
    have Vx0 := Lib.hid hv
    clear hv ho
    have ZW28 : W21.heap.size < W28.heap.size := hs
    clear hs
    go_cut [8] from 13 (fun v W' => ∃ (DW : Nat) (A : Option Addr) (c : Nat) (B : Option Addr) (d : Nat) (fp : List Nat), v = .pointer (some ⟨DW, 0, none⟩) ∧ Below W28.heap.size W28 W' ∧ W'.heap[DW]? = some (.cells #[.int .i64 Y.id, .int .i64 Y.kind, .int .i64 Y.hold, .bool Y.shut, .slice A Y.inn.length c, .slice B Y.out.length d, .int .i64 Y.st, .int .i64 Y.done] 25 (0, 0)) ∧ W28.heap.size ≤ DW ∧ skR.own W' W28.heap.size [.int .i64 Y.id, .int .i64 Y.kind, .int .i64 Y.hold, .bool Y.shut, .slice A Y.inn.length c, .slice B Y.out.length d, .int .i64 Y.st, .int .i64 Y.done] Y fp ∧ DW ∉ fp)
    case first =>
      rename_i J K1 hJ hK
      have TT : All (fun w' => Below W28.heap.size W28 w' ∧ (w'.heap[W21.heap.size]? = some (.cells #[.int .i64 x0.id, .int .i64 x0.kind, .int .i64 x0.hold, .bool x0.shut, .slice A23 x0.inn.length c24, .slice B25 x0.out.length d26, .int .i64 x0.st, .int .i64 x0.done] 25 (0, 0)) ∧ w'.heap[w.heap.size + 1]? = some (.cells #[.int .i64 x1.k, .string x1.s, .int .i64 x1.st] 72 (0, 0)))) W28 := ⟨Below.refl _ _, Vx0.out, VaF.out⟩
      refine wp_region_open 5 (fun w' => w'.heap[W21.heap.size]? = some (.cells #[.int .i64 x0.id, .int .i64 x0.kind, .int .i64 x0.hold, .bool x0.shut, .slice A23 x0.inn.length c24, .slice B25 x0.out.length d26, .int .i64 x0.st, .int .i64 x0.done] 25 (0, 0)) ∧ w'.heap[w.heap.size + 1]? = some (.cells #[.int .i64 x1.k, .string x1.s, .int .i64 x1.st] 72 (0, 0))) (by kernel_rfl) ?_
      replace TT := TT.drew
      generalize W28.drew = Wa at TT ⊢
      refine wpAnyL_reads [0, 1] (fuel := 4) (by kernel_rfl) TT.out.2 ?_
      refine LexR.cons rfl ?_ (fun w' hw => ?_) ?_
      rotate_left
      focus (have hw2 := hw.1; have q0 := var_cell hw2 0; have q1 := var_cell hw2 1; have q2 := var_cell hw2 2; have q3 := var_cell hw2 3; have q4 := var_cell hw2 4; have q5 := var_cell hw2 5; have q6 := var_cell hw2 6; have q7 := var_cell hw2 7; clear hw hw2; go_simp; (try exact rfl))
      try go_frame
      refine LexR.cons rfl ?_ (fun w' hw => ?_) ?_
      rotate_left
      focus (have hw2 := hw.2; have q0 := var_cell hw2 0; have q1 := var_cell hw2 1; have q2 := var_cell hw2 2; clear hw hw2; go_simp; (try exact rfl))
      try go_frame
      refine LexR.nil ?_
      refine wpAnyL_two (i := 2) (j := 4) (by kernel_rfl) ?_ ?_
      · skip
        refine lexA_get rfl ?_
        try go_frame
        go_wp2_with fail
        refine (toFr_rep [.int .i64 x1.k, .string x1.s, .int .i64 x1.st] x1 Wa (Rep.more frR (Rep.at_below (Rep.more frR TaF (by omega)) TT.out.1) TT.out.1.size) FaF.out).mono ?_
        rintro e Vc0 ⟨cs, fp0, rfl, Ot29, hb⟩
        obtain rfl := fr_own_shape Ot29
        have Lot29 := Rep.lt frR Ot29
        replace TT := TT.later hb
        clear hb
        go_wp2_with fail
        refine ⟨fun _ => TT.out.2, ?_⟩
        refine wpAnyL_two (i := 3) (j := 4) (by kernel_rfl) ?_ ?_
        · skip
          refine lexA_get rfl ?_
          try go_frame
          go_wp2_with fail
          refine (tell_rep [.int .i64 x0.id, .int .i64 x0.kind, .int .i64 x0.hold, .bool x0.shut, .slice A23 x0.inn.length c24, .slice B25 x0.out.length d26, .int .i64 x0.st, .int .i64 x0.done] x0 [.int .i64 x1.k, .string x1.s, .int .i64 x1.st] x1 Vc0 (Rep.reads skR (Rep.own_below Ox0 TT.out.1)) (Rep.reads frR Ot29) RaS.out FaF.out).mono ?_
          rw [HY.out]
          rintro e Vc1 ⟨cs, fp1, rfl, Ores, hb⟩
          obtain ⟨A, c, B, d, rfl⟩ := sk_own_shape Ores
          have Lores := Rep.lt skR Ores
          replace Ot29 := Rep.own_below Ot29 hb
          replace Ores := Rep.low skR Ores TT.out.1.size
          replace TT := TT.later hb
          clear hb
          go_wp2_with fail
          refine ⟨fun _ => TT.out.2, ?_⟩
          refine wpAnyL_one (i := 4) (by kernel_rfl) ?_
          refine lexA_get rfl ?_
          try go_frame
          go_wp2_with fail
          have hz := heap_alloc_new Vc1 (.cells #[.int .i64 0, .int .i64 0, .int .i64 0, .bool false, .slice none 0 0, .slice none 0 0, .int .i64 0, .int .i64 0] 25)
          have hEl : Vc1.heap.size < (Vc1.alloc (.cells #[.int .i64 0, .int .i64 0, .int .i64 0, .bool false, .slice none 0 0, .slice none 0 0, .int .i64 0, .int .i64 0] 25)).heap.size := by simp
          have hEo := TT.out.1.size
          replace Ot29 := Rep.own_below Ot29 (Later.alloc Vc1 (.cells #[.int .i64 0, .int .i64 0, .int .i64 0, .bool false, .slice none 0 0, .slice none 0 0, .int .i64 0, .int .i64 0] 25))
          replace Ores := Rep.own_below Ores (Later.alloc Vc1 (.cells #[.int .i64 0, .int .i64 0, .int .i64 0, .bool false, .slice none 0 0, .slice none 0 0, .int .i64 0, .int .i64 0] 25))
          have hEn : Vc1.heap.size ∉ fp1 := fun hm => by have := (Lores _ hm).2; omega
          replace TT := TT.alloc (.cells #[.int .i64 0, .int .i64 0, .int .i64 0, .bool false, .slice none 0 0, .slice none 0 0, .int .i64 0, .int .i64 0] 25)
          refine ⟨fun _ => TT.out.2, ?_⟩
          generalize Vc1.alloc (.cells #[.int .i64 0, .int .i64 0, .int .i64 0, .bool false, .slice none 0 0, .slice none 0 0, .int .i64 0, .int .i64 0] 25) = Va2 at TT hz hEl Ot29 Ores ⊢
          generalize hEE : Vc1.heap.size = E at hz hEl hEo hEn ⊢
          clear hEE
          refine wpAnyL_writes [5] (by kernel_rfl) (LexW.cons rfl ?_)
          try go_frame
          have z0 := var_cell hz 0
          have zf0 := var_frozen hz 0
          have z1 := var_cell hz 1
          have zf1 := var_frozen hz 1
          have z2 := var_cell hz 2
          have zf2 := var_frozen hz 2
          have z3 := var_cell hz 3
          have zf3 := var_frozen hz 3
          have z4 := var_cell hz 4
          have zf4 := var_frozen hz 4
          have z5 := var_cell hz 5
          have zf5 := var_frozen hz 5
          have z6 := var_cell hz 6
          have zf6 := var_frozen hz 6
          have z7 := var_cell hz 7
          have zf7 := var_frozen hz 7
          go_wp2_with fail
          refine ⟨fun h => absurd rfl h, LexW.nil (hK _ _ (Met.intro (hJ _ _ ?_)))⟩
          have hB8 := put8_below (.int .i64 Y.id) (.int .i64 Y.kind) (.int .i64 Y.hold) (.bool Y.shut) (.slice A Y.inn.length c) (.slice B Y.out.length d) (.int .i64 Y.st) (.int .i64 Y.done) TT.out.1 hEo
          have hz8 := put8 (.int .i64 Y.id) (.int .i64 Y.kind) (.int .i64 Y.hold) (.bool Y.shut) (.slice A Y.inn.length c) (.slice B Y.out.length d) (.int .i64 Y.st) (.int .i64 Y.done) hz
          have hO8 := put8_own (R := skR) (E := E) (.int .i64 Y.id) (.int .i64 Y.kind) (.int .i64 Y.hold) (.bool Y.shut) (.slice A Y.inn.length c) (.slice B Y.out.length d) (.int .i64 Y.st) (.int .i64 Y.done) Ores hEn
          (repeat apply Exists.intro)
          refine ⟨?_, rfl⟩
          exact ⟨E, A, c, B, d, fp1, rfl, hB8, hz8, hEo, hO8, hEn⟩
        · skip
          refine lexA_get rfl ?_
          try go_frame
          go_wp2_with fail
          have hz := heap_alloc_new Vc0 (.cells #[.int .i64 0, .int .i64 0, .int .i64 0, .bool false, .slice none 0 0, .slice none 0 0, .int .i64 0, .int .i64 0] 25)
          have hEl : Vc0.heap.size < (Vc0.alloc (.cells #[.int .i64 0, .int .i64 0, .int .i64 0, .bool false, .slice none 0 0, .slice none 0 0, .int .i64 0, .int .i64 0] 25)).heap.size := by simp
          have hEo := TT.out.1.size
          replace Ot29 := Rep.own_below Ot29 (Later.alloc Vc0 (.cells #[.int .i64 0, .int .i64 0, .int .i64 0, .bool false, .slice none 0 0, .slice none 0 0, .int .i64 0, .int .i64 0] 25))
          replace TT := TT.alloc (.cells #[.int .i64 0, .int .i64 0, .int .i64 0, .bool false, .slice none 0 0, .slice none 0 0, .int .i64 0, .int .i64 0] 25)
          refine ⟨fun _ => TT.out.2, ?_⟩
          generalize Vc0.alloc (.cells #[.int .i64 0, .int .i64 0, .int .i64 0, .bool false, .slice none 0 0, .slice none 0 0, .int .i64 0, .int .i64 0] 25) = Va1 at TT hz hEl Ot29 ⊢
          generalize hEE : Vc0.heap.size = E at hz hEl hEo  ⊢
          clear hEE
          refine wpAnyL_one (i := 3) (by kernel_rfl) ?_
          refine lexA_get rfl ?_
          try go_frame
          go_wp2_with fail
          refine (tell_rep [.int .i64 x0.id, .int .i64 x0.kind, .int .i64 x0.hold, .bool x0.shut, .slice A23 x0.inn.length c24, .slice B25 x0.out.length d26, .int .i64 x0.st, .int .i64 x0.done] x0 [.int .i64 x1.k, .string x1.s, .int .i64 x1.st] x1 Va1 (Rep.reads skR (Rep.own_below Ox0 TT.out.1)) (Rep.reads frR Ot29) RaS.out FaF.out).mono ?_
          rw [HY.out]
          rintro e Vc1a ⟨cs, fp1, rfl, Ores, hb⟩
          obtain ⟨A, c, B, d, rfl⟩ := sk_own_shape Ores
          have Lores := Rep.lt skR Ores
          replace Ot29 := Rep.own_below Ot29 hb
          have hEn : E ∉ fp1 := fun hm => by have := (Lores E hm).1; omega
          replace hz := (hb.block E hEl).trans hz
          replace hEl : E < Vc1a.heap.size := Nat.lt_of_lt_of_le hEl hb.size
          replace Ores := Rep.low skR Ores TT.out.1.size
          replace TT := TT.later hb
          clear hb
          go_wp2_with fail
          refine ⟨fun _ => TT.out.2, ?_⟩
          refine wpAnyL_writes [5] (by kernel_rfl) (LexW.cons rfl ?_)
          try go_frame
          have z0 := var_cell hz 0
          have zf0 := var_frozen hz 0
          have z1 := var_cell hz 1
          have zf1 := var_frozen hz 1
          have z2 := var_cell hz 2
          have zf2 := var_frozen hz 2
          have z3 := var_cell hz 3
          have zf3 := var_frozen hz 3
          have z4 := var_cell hz 4
          have zf4 := var_frozen hz 4
          have z5 := var_cell hz 5
          have zf5 := var_frozen hz 5
          have z6 := var_cell hz 6
          have zf6 := var_frozen hz 6
          have z7 := var_cell hz 7
          have zf7 := var_frozen hz 7
          go_wp2_with fail
          refine ⟨fun h => absurd rfl h, LexW.nil (hK _ _ (Met.intro (hJ _ _ ?_)))⟩
          have hB8 := put8_below (.int .i64 Y.id) (.int .i64 Y.kind) (.int .i64 Y.hold) (.bool Y.shut) (.slice A Y.inn.length c) (.slice B Y.out.length d) (.int .i64 Y.st) (.int .i64 Y.done) TT.out.1 hEo
          have hz8 := put8 (.int .i64 Y.id) (.int .i64 Y.kind) (.int .i64 Y.hold) (.bool Y.shut) (.slice A Y.inn.length c) (.slice B Y.out.length d) (.int .i64 Y.st) (.int .i64 Y.done) hz
          have hO8 := put8_own (R := skR) (E := E) (.int .i64 Y.id) (.int .i64 Y.kind) (.int .i64 Y.hold) (.bool Y.shut) (.slice A Y.inn.length c) (.slice B Y.out.length d) (.int .i64 Y.st) (.int .i64 Y.done) Ores hEn
          (repeat apply Exists.intro)
          refine ⟨?_, rfl⟩
          exact ⟨E, A, c, B, d, fp1, rfl, hB8, hz8, hEo, hO8, hEn⟩
      · skip
        refine lexA_get rfl ?_
        try go_frame
        go_wp2_with fail
        have hz := heap_alloc_new Wa (.cells #[.int .i64 0, .int .i64 0, .int .i64 0, .bool false, .slice none 0 0, .slice none 0 0, .int .i64 0, .int .i64 0] 25)
        have hEl : Wa.heap.size < (Wa.alloc (.cells #[.int .i64 0, .int .i64 0, .int .i64 0, .bool false, .slice none 0 0, .slice none 0 0, .int .i64 0, .int .i64 0] 25)).heap.size := by simp
        have hEo := TT.out.1.size
        replace TT := TT.alloc (.cells #[.int .i64 0, .int .i64 0, .int .i64 0, .bool false, .slice none 0 0, .slice none 0 0, .int .i64 0, .int .i64 0] 25)
        refine ⟨fun _ => TT.out.2, ?_⟩
        generalize Wa.alloc (.cells #[.int .i64 0, .int .i64 0, .int .i64 0, .bool false, .slice none 0 0, .slice none 0 0, .int .i64 0, .int .i64 0] 25) = Va0 at TT hz hEl  ⊢
        generalize hEE : Wa.heap.size = E at hz hEl hEo  ⊢
        clear hEE
        refine wpAnyL_one (i := 2) (by kernel_rfl) ?_
        refine lexA_get rfl ?_
        try go_frame
        go_wp2_with fail
        refine (toFr_rep [.int .i64 x1.k, .string x1.s, .int .i64 x1.st] x1 Va0 (Rep.more frR (Rep.at_below (Rep.more frR TaF (by omega)) TT.out.1) TT.out.1.size) FaF.out).mono ?_
        rintro e Vc0a ⟨cs, fp0, rfl, Ot29, hb⟩
        obtain rfl := fr_own_shape Ot29
        have Lot29 := Rep.lt frR Ot29
        replace hz := (hb.block E hEl).trans hz
        replace hEl : E < Vc0a.heap.size := Nat.lt_of_lt_of_le hEl hb.size
        replace TT := TT.later hb
        clear hb
        go_wp2_with fail
        refine ⟨fun _ => TT.out.2, ?_⟩
        refine wpAnyL_one (i := 3) (by kernel_rfl) ?_
        refine lexA_get rfl ?_
        try go_frame
        go_wp2_with fail
        refine (tell_rep [.int .i64 x0.id, .int .i64 x0.kind, .int .i64 x0.hold, .bool x0.shut, .slice A23 x0.inn.length c24, .slice B25 x0.out.length d26, .int .i64 x0.st, .int .i64 x0.done] x0 [.int .i64 x1.k, .string x1.s, .int .i64 x1.st] x1 Vc0a (Rep.reads skR (Rep.own_below Ox0 TT.out.1)) (Rep.reads frR Ot29) RaS.out FaF.out).mono ?_
        rw [HY.out]
        rintro e Vc1a ⟨cs, fp1, rfl, Ores, hb⟩
        obtain ⟨A, c, B, d, rfl⟩ := sk_own_shape Ores
        have Lores := Rep.lt skR Ores
        replace Ot29 := Rep.own_below Ot29 hb
        have hEn : E ∉ fp1 := fun hm => by have := (Lores E hm).1; omega
        replace hz := (hb.block E hEl).trans hz
        replace hEl : E < Vc1a.heap.size := Nat.lt_of_lt_of_le hEl hb.size
        replace Ores := Rep.low skR Ores TT.out.1.size
        replace TT := TT.later hb
        clear hb
        go_wp2_with fail
        refine ⟨fun _ => TT.out.2, ?_⟩
        refine wpAnyL_writes [5] (by kernel_rfl) (LexW.cons rfl ?_)
        try go_frame
        have z0 := var_cell hz 0
        have zf0 := var_frozen hz 0
        have z1 := var_cell hz 1
        have zf1 := var_frozen hz 1
        have z2 := var_cell hz 2
        have zf2 := var_frozen hz 2
        have z3 := var_cell hz 3
        have zf3 := var_frozen hz 3
        have z4 := var_cell hz 4
        have zf4 := var_frozen hz 4
        have z5 := var_cell hz 5
        have zf5 := var_frozen hz 5
        have z6 := var_cell hz 6
        have zf6 := var_frozen hz 6
        have z7 := var_cell hz 7
        have zf7 := var_frozen hz 7
        go_wp2_with fail
        refine ⟨fun h => absurd rfl h, LexW.nil (hK _ _ (Met.intro (hJ _ _ ?_)))⟩
        have hB8 := put8_below (.int .i64 Y.id) (.int .i64 Y.kind) (.int .i64 Y.hold) (.bool Y.shut) (.slice A Y.inn.length c) (.slice B Y.out.length d) (.int .i64 Y.st) (.int .i64 Y.done) TT.out.1 hEo
        have hz8 := put8 (.int .i64 Y.id) (.int .i64 Y.kind) (.int .i64 Y.hold) (.bool Y.shut) (.slice A Y.inn.length c) (.slice B Y.out.length d) (.int .i64 Y.st) (.int .i64 Y.done) hz
        have hO8 := put8_own (R := skR) (E := E) (.int .i64 Y.id) (.int .i64 Y.kind) (.int .i64 Y.hold) (.bool Y.shut) (.slice A Y.inn.length c) (.slice B Y.out.length d) (.int .i64 Y.st) (.int .i64 Y.done) Ores hEn
        (repeat apply Exists.intro)
        refine ⟨?_, rfl⟩
        exact ⟨E, A, c, B, d, fp1, rfl, hB8, hz8, hEo, hO8, hEn⟩
    case rest =>
      obtain ⟨D32, A33, c34, B35, d36, fp31, rfl, hb, hv, hloD32, Og0, hDnD32⟩ := hcut
      obtain ⟨W30, rfl⟩ : ∃ wo : World, wo = wc := ⟨_, rfl⟩
      have ho := Rep.only_of_below hb
      have L37 := Lib.hid (Rep.lt skR Og0)
      have HDD32 := Lib.hid hDnD32
      clear hb hDnD32
      have SW30 : W28.heap.size ≤ W30.heap.size := ho.size
      have HBW30 := Rep.Only.below HBW28 ho (by omega) (fun a ha => by cases ha)
      replace TaS := Rep.at_only TaS ho (by omega) (fun a ha => by cases ha)
      replace TaF := Rep.at_only TaF ho (by omega) (fun a ha => by cases ha)
      replace Tw0 := Rep.at_only Tw0 ho (by omega) (fun a ha => by cases ha)
      replace Ox0 := Rep.own_only Ox0 ho (fun a ha hb => by cases hb)
      replace VaS := Rep.var_only VaS ho (by omega) (fun hb => by cases hb)
      replace VaF := Rep.var_only VaF ho (by omega) (fun hb => by cases hb)
      replace Vw0 := Rep.var_only Vw0 ho (by omega) (fun hb => by cases hb)
      replace Vx0 := Rep.var_only Vx0 ho (by omega) (fun hb => by cases hb)
      clear HBW28
      clear ho
      have ZW30 : D32 < W30.heap.size := (Array.getElem?_eq_some_iff.1 hv).1
      have Vg0 := Lib.hid hv
      clear hv
      have qg0_0 : W30.cell? ⟨D32, 0, none⟩ = some (.int .i64 Y.id) := var_cell Vg0.out 0
      have qg0_1 : W30.cell? ⟨D32, 1, none⟩ = some (.int .i64 Y.kind) := var_cell Vg0.out 1
      have qg0_2 : W30.cell? ⟨D32, 2, none⟩ = some (.int .i64 Y.hold) := var_cell Vg0.out 2
      have qg0_3 : W30.cell? ⟨D32, 3, none⟩ = some (.bool Y.shut) := var_cell Vg0.out 3
      have qg0_4 : W30.cell? ⟨D32, 4, none⟩ = some (.slice A33 Y.inn.length c34) := var_cell Vg0.out 4
      have qg0_5 : W30.cell? ⟨D32, 5, none⟩ = some (.slice B35 Y.out.length d36) := var_cell Vg0.out 5
      have qg0_6 : W30.cell? ⟨D32, 6, none⟩ = some (.int .i64 Y.st) := var_cell Vg0.out 6
      have qg0_7 : W30.cell? ⟨D32, 7, none⟩ = some (.int .i64 Y.done) := var_cell Vg0.out 7
      have lg0 : D32 < W30.heap.size := by omega
      have qw0_0 : W30.cell? ⟨D15, 0, none⟩ = some (.int .i64 Y.id) := var_cell Vw0.out 0
      have qw0_1 : W30.cell? ⟨D15, 1, none⟩ = some (.int .i64 Y.kind) := var_cell Vw0.out 1
      have qw0_2 : W30.cell? ⟨D15, 2, none⟩ = some (.int .i64 Y.hold) := var_cell Vw0.out 2
      have qw0_3 : W30.cell? ⟨D15, 3, none⟩ = some (.bool Y.shut) := var_cell Vw0.out 3
      have qw0_4 : W30.cell? ⟨D15, 4, none⟩ = some (.slice A16 Y.inn.length c17) := var_cell Vw0.out 4
      have qw0_5 : W30.cell? ⟨D15, 5, none⟩ = some (.slice B18 Y.out.length d19) := var_cell Vw0.out 5
      have qw0_6 : W30.cell? ⟨D15, 6, none⟩ = some (.int .i64 Y.st) := var_cell Vw0.out 6
      have qw0_7 : W30.cell? ⟨D15, 7, none⟩ = some (.int .i64 Y.done) := var_cell Vw0.out 7
      have lw0 : D15 < W30.heap.size := by omega
      go_wp2_with fail
      clear qg0_0 qg0_1 qg0_2 qg0_3 qg0_4 qg0_5 qg0_6 qg0_7 lg0 qw0_0 qw0_1 qw0_2 qw0_3 qw0_4 qw0_5 qw0_6 qw0_7 lw0
      refine (eqSk_same [.int .i64 Y.id, .int .i64 Y.kind, .int .i64 Y.hold, .bool Y.shut, .slice A33 Y.inn.length c34, .slice B35 Y.out.length d36, .int .i64 Y.st, .int .i64 Y.done] [.int .i64 Y.id, .int .i64 Y.kind, .int .i64 Y.hold, .bool Y.shut, .slice A16 Y.inn.length c17, .slice B18 Y.out.length d19, .int .i64 Y.st, .int .i64 Y.done] Y W30 (Rep.reads skR Og0) (Rep.more skR Tw0 (by omega)) FY).mono ?_
      rintro e W38 ⟨rfl, hb⟩
      have ho := Rep.only_of_below hb
      clear hb
      have SW38 : W30.heap.size ≤ W38.heap.size := ho.size
      have HBW38 := Rep.Only.below HBW30 ho (by omega) (fun a ha => by cases ha)
      replace TaS := Rep.at_only TaS ho (by omega) (fun a ha => by cases ha)
      replace TaF := Rep.at_only TaF ho (by omega) (fun a ha => by cases ha)
      replace Tw0 := Rep.at_only Tw0 ho (by omega) (fun a ha => by cases ha)
      replace Ox0 := Rep.own_only Ox0 ho (fun a ha hb => by cases hb)
      replace Og0 := Rep.own_only Og0 ho (fun a ha hb => by cases hb)
      replace VaS := Rep.var_only VaS ho (by omega) (fun hb => by cases hb)
      replace VaF := Rep.var_only VaF ho (by omega) (fun hb => by cases hb)
      replace Vw0 := Rep.var_only Vw0 ho (by omega) (fun hb => by cases hb)
      replace Vx0 := Rep.var_only Vx0 ho (by omega) (fun hb => by cases hb)
      replace Vg0 := Rep.var_only Vg0 ho (by omega) (fun hb => by cases hb)
      clear HBW30
      clear ho
      have qx0_0 : W38.cell? ⟨W21.heap.size, 0, none⟩ = some (.int .i64 x0.id) := var_cell Vx0.out 0
      have qx0_1 : W38.cell? ⟨W21.heap.size, 1, none⟩ = some (.int .i64 x0.kind) := var_cell Vx0.out 1
      have qx0_2 : W38.cell? ⟨W21.heap.size, 2, none⟩ = some (.int .i64 x0.hold) := var_cell Vx0.out 2
      have qx0_3 : W38.cell? ⟨W21.heap.size, 3, none⟩ = some (.bool x0.shut) := var_cell Vx0.out 3
      have qx0_4 : W38.cell? ⟨W21.heap.size, 4, none⟩ = some (.slice A23 x0.inn.length c24) := var_cell Vx0.out 4
      have qx0_5 : W38.cell? ⟨W21.heap.size, 5, none⟩ = some (.slice B25 x0.out.length d26) := var_cell Vx0.out 5
      have qx0_6 : W38.cell? ⟨W21.heap.size, 6, none⟩ = some (.int .i64 x0.st) := var_cell Vx0.out 6
      have qx0_7 : W38.cell? ⟨W21.heap.size, 7, none⟩ = some (.int .i64 x0.done) := var_cell Vx0.out 7
      have lx0 : W21.heap.size < W38.heap.size := by omega
      have qaS_0 : W38.cell? ⟨w.heap.size, 0, none⟩ = some (.int .i64 x0.id) := var_cell VaS.out 0
      have qaS_1 : W38.cell? ⟨w.heap.size, 1, none⟩ = some (.int .i64 x0.kind) := var_cell VaS.out 1
      have qaS_2 : W38.cell? ⟨w.heap.size, 2, none⟩ = some (.int .i64 x0.hold) := var_cell VaS.out 2
      have qaS_3 : W38.cell? ⟨w.heap.size, 3, none⟩ = some (.bool x0.shut) := var_cell VaS.out 3
      have qaS_4 : W38.cell? ⟨w.heap.size, 4, none⟩ = some (.slice A1 x0.inn.length c2) := var_cell VaS.out 4
      have qaS_5 : W38.cell? ⟨w.heap.size, 5, none⟩ = some (.slice B3 x0.out.length d4) := var_cell VaS.out 5
      have qaS_6 : W38.cell? ⟨w.heap.size, 6, none⟩ = some (.int .i64 x0.st) := var_cell VaS.out 6
      have qaS_7 : W38.cell? ⟨w.heap.size, 7, none⟩ = some (.int .i64 x0.done) := var_cell VaS.out 7
      have laS : w.heap.size < W38.heap.size := by omega
      go_wp2_with fail
      clear qx0_0 qx0_1 qx0_2 qx0_3 qx0_4 qx0_5 qx0_6 qx0_7 lx0 qaS_0 qaS_1 qaS_2 qaS_3 qaS_4 qaS_5 qaS_6 qaS_7 laS
      go_region_held3 (fun w' => w'.cell? ⟨W21.heap.size, 0, none⟩ = some (.int .i64 x0.id) ∧ w'.cell? ⟨W21.heap.size, 1, none⟩ = some (.int .i64 x0.kind) ∧ w'.cell? ⟨W21.heap.size, 2, none⟩ = some (.int .i64 x0.hold) ∧ w'.cell? ⟨W21.heap.size, 3, none⟩ = some (.bool x0.shut) ∧ w'.cell? ⟨W21.heap.size, 4, none⟩ = some (.slice A23 x0.inn.length c24) ∧ w'.cell? ⟨W21.heap.size, 5, none⟩ = some (.slice B25 x0.out.length d26) ∧ w'.cell? ⟨W21.heap.size, 6, none⟩ = some (.int .i64 x0.st) ∧ w'.cell? ⟨W21.heap.size, 7, none⟩ = some (.int .i64 x0.done) ∧ w'.cell? ⟨w.heap.size, 0, none⟩ = some (.int .i64 x0.id) ∧ w'.cell? ⟨w.heap.size, 1, none⟩ = some (.int .i64 x0.kind) ∧ w'.cell? ⟨w.heap.size, 2, none⟩ = some (.int .i64 x0.hold) ∧ w'.cell? ⟨w.heap.size, 3, none⟩ = some (.bool x0.shut) ∧ w'.cell? ⟨w.heap.size, 4, none⟩ = some (.slice A1 x0.inn.length c2) ∧ w'.cell? ⟨w.heap.size, 5, none⟩ = some (.slice B3 x0.out.length d4) ∧ w'.cell? ⟨w.heap.size, 6, none⟩ = some (.int .i64 x0.st) ∧ w'.cell? ⟨w.heap.size, 7, none⟩ = some (.int .i64 x0.done)) (exact ⟨var_cell Vx0.out 0, var_cell Vx0.out 1, var_cell Vx0.out 2, var_cell Vx0.out 3, var_cell Vx0.out 4, var_cell Vx0.out 5, var_cell Vx0.out 6, var_cell Vx0.out 7, var_cell VaS.out 0, var_cell VaS.out 1, var_cell VaS.out 2, var_cell VaS.out 3, var_cell VaS.out 4, var_cell VaS.out 5, var_cell VaS.out 6, var_cell VaS.out 7⟩) (first
        | (go_at_call 43
           have ho := Rep.only_drew W38
           generalize W38.drew = W39 at ho ⊢
           have SW39 : W38.heap.size ≤ W39.heap.size := ho.size
           have HBW39 := Rep.Only.below HBW38 ho (by omega) (fun a ha => by cases ha)
           replace TaS := Rep.at_only TaS ho (by omega) (fun a ha => by cases ha)
           replace TaF := Rep.at_only TaF ho (by omega) (fun a ha => by cases ha)
           replace Tw0 := Rep.at_only Tw0 ho (by omega) (fun a ha => by cases ha)
           replace Ox0 := Rep.own_only Ox0 ho (fun a ha hb => by cases hb)
           replace Og0 := Rep.own_only Og0 ho (fun a ha hb => by cases hb)
           replace VaS := Rep.var_only VaS ho (by omega) (fun hb => by cases hb)
           replace VaF := Rep.var_only VaF ho (by omega) (fun hb => by cases hb)
           replace Vw0 := Rep.var_only Vw0 ho (by omega) (fun hb => by cases hb)
           replace Vx0 := Rep.var_only Vx0 ho (by omega) (fun hb => by cases hb)
           replace Vg0 := Rep.var_only Vg0 ho (by omega) (fun hb => by cases hb)
           clear HBW38
           clear ho
           refine (toSk_rep [.int .i64 x0.id, .int .i64 x0.kind, .int .i64 x0.hold, .bool x0.shut, .slice A1 x0.inn.length c2, .slice B3 x0.out.length d4, .int .i64 x0.st, .int .i64 x0.done] x0 W39 (Rep.more skR TaS (by omega)) FaS.out).mono ?_
           rintro e W41 ⟨cs, fp42, rfl, Ot40, hb⟩
           obtain ⟨A43, c44, B45, d46, rfl⟩ := sk_own_shape Ot40
           have ho := Rep.only_of_below hb
           have L47 := Lib.hid (Rep.lt skR Ot40)
           clear hb
           have SW41 : W39.heap.size ≤ W41.heap.size := ho.size
           have HBW41 := Rep.Only.below HBW39 ho (by omega) (fun a ha => by cases ha)
           replace TaS := Rep.at_only TaS ho (by omega) (fun a ha => by cases ha)
           replace TaF := Rep.at_only TaF ho (by omega) (fun a ha => by cases ha)
           replace Tw0 := Rep.at_only Tw0 ho (by omega) (fun a ha => by cases ha)
           replace Ox0 := Rep.own_only Ox0 ho (fun a ha hb => by cases hb)
           replace Og0 := Rep.own_only Og0 ho (fun a ha hb => by cases hb)
           replace VaS := Rep.var_only VaS ho (by omega) (fun hb => by cases hb)
           replace VaF := Rep.var_only VaF ho (by omega) (fun hb => by cases hb)
           replace Vw0 := Rep.var_only Vw0 ho (by omega) (fun hb => by cases hb)
           replace Vx0 := Rep.var_only Vx0 ho (by omega) (fun hb => by cases hb)
           replace Vg0 := Rep.var_only Vg0 ho (by omega) (fun hb => by cases hb)
           clear HBW39
           clear ho)
        | (go_at_call 44
           refine (eqSk_same [.int .i64 x0.id, .int .i64 x0.kind, .int .i64 x0.hold, .bool x0.shut, .slice A23 x0.inn.length c24, .slice B25 x0.out.length d26, .int .i64 x0.st, .int .i64 x0.done] [.int .i64 x0.id, .int .i64 x0.kind, .int .i64 x0.hold, .bool x0.shut, .slice A43 x0.inn.length c44, .slice B45 x0.out.length d46, .int .i64 x0.st, .int .i64 x0.done] x0 W41 (Rep.reads skR Ox0) (Rep.reads skR Ot40) FaS.out).mono ?_
           rintro e W48 ⟨rfl, hb⟩
           have ho := Rep.only_of_below hb
           clear hb
           have SW48 : W41.heap.size ≤ W48.heap.size := ho.size
           have HBW48 := Rep.Only.below HBW41 ho (by omega) (fun a ha => by cases ha)
           replace TaS := Rep.at_only TaS ho (by omega) (fun a ha => by cases ha)
           replace TaF := Rep.at_only TaF ho (by omega) (fun a ha => by cases ha)
           replace Tw0 := Rep.at_only Tw0 ho (by omega) (fun a ha => by cases ha)
           replace Ox0 := Rep.own_only Ox0 ho (fun a ha hb => by cases hb)
           replace Og0 := Rep.own_only Og0 ho (fun a ha hb => by cases hb)
           replace Ot40 := Rep.own_only Ot40 ho (fun a ha hb => by cases hb)
           replace VaS := Rep.var_only VaS ho (by omega) (fun hb => by cases hb)
           replace VaF := Rep.var_only VaF ho (by omega) (fun hb => by cases hb)
           replace Vw0 := Rep.var_only Vw0 ho (by omega) (fun hb => by cases hb)
           replace Vx0 := Rep.var_only Vx0 ho (by omega) (fun hb => by cases hb)
           replace Vg0 := Rep.var_only Vg0 ho (by omega) (fun hb => by cases hb)
           clear HBW41
           clear ho))
      clear Ot40 L47
      have qx0_0 : W48.cell? ⟨W21.heap.size, 0, none⟩ = some (.int .i64 x0.id) := var_cell Vx0.out 0
      have qx0_1 : W48.cell? ⟨W21.heap.size, 1, none⟩ = some (.int .i64 x0.kind) := var_cell Vx0.out 1
      have qx0_2 : W48.cell? ⟨W21.heap.size, 2, none⟩ = some (.int .i64 x0.hold) := var_cell Vx0.out 2
      have qx0_3 : W48.cell? ⟨W21.heap.size, 3, none⟩ = some (.bool x0.shut) := var_cell Vx0.out 3
      have qx0_4 : W48.cell? ⟨W21.heap.size, 4, none⟩ = some (.slice A23 x0.inn.length c24) := var_cell Vx0.out 4
      have qx0_5 : W48.cell? ⟨W21.heap.size, 5, none⟩ = some (.slice B25 x0.out.length d26) := var_cell Vx0.out 5
      have qx0_6 : W48.cell? ⟨W21.heap.size, 6, none⟩ = some (.int .i64 x0.st) := var_cell Vx0.out 6
      have qx0_7 : W48.cell? ⟨W21.heap.size, 7, none⟩ = some (.int .i64 x0.done) := var_cell Vx0.out 7
      have lx0 : W21.heap.size < W48.heap.size := by omega
      go_wp2_with fail
      clear qx0_0 qx0_1 qx0_2 qx0_3 qx0_4 qx0_5 qx0_6 qx0_7 lx0
      obtain ⟨N50, hN, hN2⟩ : ∃ N : Nat, 1 + cntSk x0 = N ∧ N ≤ 1 + 8796093022208 := ⟨_, rfl, by have := cntSk_le FaS.out; omega⟩
      have HN50 := Lib.hid hN
      have BN50 := hN2
      clear hN hN2
      refine (markSk_any [.int .i64 x0.id, .int .i64 x0.kind, .int .i64 x0.hold, .bool x0.shut, .slice A23 x0.inn.length c24, .slice B25 x0.out.length d26, .int .i64 x0.st, .int .i64 x0.done] 1 x0 fp22 W48 _ Ox0 FaS.out (by omega)).mono ?_
      rintro e W49 ⟨he, hown, ho⟩
      rw [HN50.out] at he
      subst he
      replace Ox0 := hown
      clear hown
      have SW49 : W48.heap.size ≤ W49.heap.size := ho.size
      have HBW49 := Rep.Only.below HBW48 ho (by omega) (fun a ha => by have := (L27.out a ha).1; omega)
      replace TaS := Rep.at_only TaS ho (by omega) (fun a ha => by have := (L27.out a ha).1; omega)
      replace TaF := Rep.at_only TaF ho (by omega) (fun a ha => by have := (L27.out a ha).1; omega)
      replace Tw0 := Rep.at_only Tw0 ho (by omega) (fun a ha => by have := (L27.out a ha).1; omega)
      replace Og0 := Rep.own_only Og0 ho (fun a ha hb => by have := L37.out a ha; have := L27.out a hb; omega)
      replace VaS := Rep.var_only VaS ho (by omega) (fun hb => by have := L27.out _ hb; omega)
      replace VaF := Rep.var_only VaF ho (by omega) (fun hb => by have := L27.out _ hb; omega)
      replace Vw0 := Rep.var_only Vw0 ho (by omega) (fun hb => by have := L27.out _ hb; omega)
      replace Vx0 := Rep.var_only Vx0 ho (by omega) (fun hb => by have := L27.out _ hb; omega)
      replace Vg0 := Rep.var_only Vg0 ho (by omega) (fun hb => by have := L27.out _ hb; omega)
      clear HBW48
      clear ho
      have qg0_0 : W49.cell? ⟨D32, 0, none⟩ = some (.int .i64 Y.id) := var_cell Vg0.out 0
      have qg0_1 : W49.cell? ⟨D32, 1, none⟩ = some (.int .i64 Y.kind) := var_cell Vg0.out 1
      have qg0_2 : W49.cell? ⟨D32, 2, none⟩ = some (.int .i64 Y.hold) := var_cell Vg0.out 2
      have qg0_3 : W49.cell? ⟨D32, 3, none⟩ = some (.bool Y.shut) := var_cell Vg0.out 3
      have qg0_4 : W49.cell? ⟨D32, 4, none⟩ = some (.slice A33 Y.inn.length c34) := var_cell Vg0.out 4
      have qg0_5 : W49.cell? ⟨D32, 5, none⟩ = some (.slice B35 Y.out.length d36) := var_cell Vg0.out 5
      have qg0_6 : W49.cell? ⟨D32, 6, none⟩ = some (.int .i64 Y.st) := var_cell Vg0.out 6
      have qg0_7 : W49.cell? ⟨D32, 7, none⟩ = some (.int .i64 Y.done) := var_cell Vg0.out 7
      have lg0 : D32 < W49.heap.size := by omega
      have qw0_0 : W49.cell? ⟨D15, 0, none⟩ = some (.int .i64 Y.id) := var_cell Vw0.out 0
      have qw0_1 : W49.cell? ⟨D15, 1, none⟩ = some (.int .i64 Y.kind) := var_cell Vw0.out 1
      have qw0_2 : W49.cell? ⟨D15, 2, none⟩ = some (.int .i64 Y.hold) := var_cell Vw0.out 2
      have qw0_3 : W49.cell? ⟨D15, 3, none⟩ = some (.bool Y.shut) := var_cell Vw0.out 3
      have qw0_4 : W49.cell? ⟨D15, 4, none⟩ = some (.slice A16 Y.inn.length c17) := var_cell Vw0.out 4
      have qw0_5 : W49.cell? ⟨D15, 5, none⟩ = some (.slice B18 Y.out.length d19) := var_cell Vw0.out 5
      have qw0_6 : W49.cell? ⟨D15, 6, none⟩ = some (.int .i64 Y.st) := var_cell Vw0.out 6
      have qw0_7 : W49.cell? ⟨D15, 7, none⟩ = some (.int .i64 Y.done) := var_cell Vw0.out 7
      have lw0 : D15 < W49.heap.size := by omega
      go_wp2_with fail
      clear qg0_0 qg0_1 qg0_2 qg0_3 qg0_4 qg0_5 qg0_6 qg0_7 lg0 qw0_0 qw0_1 qw0_2 qw0_3 qw0_4 qw0_5 qw0_6 qw0_7 lw0
      refine (eqSk_same [.int .i64 Y.id, .int .i64 Y.kind, .int .i64 Y.hold, .bool Y.shut, .slice A33 Y.inn.length c34, .slice B35 Y.out.length d36, .int .i64 Y.st, .int .i64 Y.done] [.int .i64 Y.id, .int .i64 Y.kind, .int .i64 Y.hold, .bool Y.shut, .slice A16 Y.inn.length c17, .slice B18 Y.out.length d19, .int .i64 Y.st, .int .i64 Y.done] Y W49 (Rep.reads skR Og0) (Rep.more skR Tw0 (by omega)) FY).mono ?_
      rintro e W51 ⟨rfl, hb⟩
      have ho := Rep.only_of_below hb
      clear hb
      have SW51 : W49.heap.size ≤ W51.heap.size := ho.size
      have HBW51 := Rep.Only.below HBW49 ho (by omega) (fun a ha => by cases ha)
      replace TaS := Rep.at_only TaS ho (by omega) (fun a ha => by cases ha)
      replace TaF := Rep.at_only TaF ho (by omega) (fun a ha => by cases ha)
      replace Tw0 := Rep.at_only Tw0 ho (by omega) (fun a ha => by cases ha)
      replace Ox0 := Rep.own_only Ox0 ho (fun a ha hb => by cases hb)
      replace Og0 := Rep.own_only Og0 ho (fun a ha hb => by cases hb)
      replace VaS := Rep.var_only VaS ho (by omega) (fun hb => by cases hb)
      replace VaF := Rep.var_only VaF ho (by omega) (fun hb => by cases hb)
      replace Vw0 := Rep.var_only Vw0 ho (by omega) (fun hb => by cases hb)
      replace Vx0 := Rep.var_only Vx0 ho (by omega) (fun hb => by cases hb)
      replace Vg0 := Rep.var_only Vg0 ho (by omega) (fun hb => by cases hb)
      clear HBW49
      clear ho
      have qg0_0 : W51.cell? ⟨D32, 0, none⟩ = some (.int .i64 Y.id) := var_cell Vg0.out 0
      have qg0_1 : W51.cell? ⟨D32, 1, none⟩ = some (.int .i64 Y.kind) := var_cell Vg0.out 1
      have qg0_2 : W51.cell? ⟨D32, 2, none⟩ = some (.int .i64 Y.hold) := var_cell Vg0.out 2
      have qg0_3 : W51.cell? ⟨D32, 3, none⟩ = some (.bool Y.shut) := var_cell Vg0.out 3
      have qg0_4 : W51.cell? ⟨D32, 4, none⟩ = some (.slice A33 Y.inn.length c34) := var_cell Vg0.out 4
      have qg0_5 : W51.cell? ⟨D32, 5, none⟩ = some (.slice B35 Y.out.length d36) := var_cell Vg0.out 5
      have qg0_6 : W51.cell? ⟨D32, 6, none⟩ = some (.int .i64 Y.st) := var_cell Vg0.out 6
      have qg0_7 : W51.cell? ⟨D32, 7, none⟩ = some (.int .i64 Y.done) := var_cell Vg0.out 7
      have lg0 : D32 < W51.heap.size := by omega
      go_wp2_with fail
      clear qg0_0 qg0_1 qg0_2 qg0_3 qg0_4 qg0_5 qg0_6 qg0_7 lg0
      obtain ⟨N53, hN, hN2⟩ : ∃ N : Nat, 1 + cntSk Y = N ∧ N ≤ 1 + 8796093022208 := ⟨_, rfl, by have := cntSk_le FY; omega⟩
      have HN53 := Lib.hid hN
      have BN53 := hN2
      clear hN hN2
      refine (markSk_any [.int .i64 Y.id, .int .i64 Y.kind, .int .i64 Y.hold, .bool Y.shut, .slice A33 Y.inn.length c34, .slice B35 Y.out.length d36, .int .i64 Y.st, .int .i64 Y.done] 1 Y fp31 W51 _ Og0 FY (by omega)).mono ?_
      rintro e W52 ⟨he, hown, ho⟩
      rw [HN53.out] at he
      subst he
      replace Og0 := hown
      clear hown
      have SW52 : W51.heap.size ≤ W52.heap.size := ho.size
      have HBW52 := Rep.Only.below HBW51 ho (by omega) (fun a ha => by have := (L37.out a ha).1; omega)
      replace TaS := Rep.at_only TaS ho (by omega) (fun a ha => by have := (L37.out a ha).1; omega)
      replace TaF := Rep.at_only TaF ho (by omega) (fun a ha => by have := (L37.out a ha).1; omega)
      replace Tw0 := Rep.at_only Tw0 ho (by omega) (fun a ha => by have := (L37.out a ha).1; omega)
      replace Ox0 := Rep.own_only Ox0 ho (fun a ha hb => by have := L27.out a ha; have := L37.out a hb; omega)
      replace VaS := Rep.var_only VaS ho (by omega) (fun hb => by have := L37.out _ hb; omega)
      replace VaF := Rep.var_only VaF ho (by omega) (fun hb => by have := L37.out _ hb; omega)
      replace Vw0 := Rep.var_only Vw0 ho (by omega) (fun hb => by have := L37.out _ hb; omega)
      replace Vx0 := Rep.var_only Vx0 ho (by omega) (fun hb => by have := L37.out _ hb; omega)
      replace Vg0 := Rep.var_only Vg0 ho (by omega) (fun hb => HDD32.out hb)
      clear HBW51
      clear ho
      clear Ox0 L27
      have qg0_0 : W52.cell? ⟨D32, 0, none⟩ = some (.int .i64 Y.id) := var_cell Vg0.out 0
      have qg0_1 : W52.cell? ⟨D32, 1, none⟩ = some (.int .i64 Y.kind) := var_cell Vg0.out 1
      have qg0_2 : W52.cell? ⟨D32, 2, none⟩ = some (.int .i64 Y.hold) := var_cell Vg0.out 2
      have qg0_3 : W52.cell? ⟨D32, 3, none⟩ = some (.bool Y.shut) := var_cell Vg0.out 3
      have qg0_4 : W52.cell? ⟨D32, 4, none⟩ = some (.slice A33 Y.inn.length c34) := var_cell Vg0.out 4
      have qg0_5 : W52.cell? ⟨D32, 5, none⟩ = some (.slice B35 Y.out.length d36) := var_cell Vg0.out 5
      have qg0_6 : W52.cell? ⟨D32, 6, none⟩ = some (.int .i64 Y.st) := var_cell Vg0.out 6
      have qg0_7 : W52.cell? ⟨D32, 7, none⟩ = some (.int .i64 Y.done) := var_cell Vg0.out 7
      have lg0 : D32 < W52.heap.size := by omega
      go_wp2_with fail
      clear qg0_0 qg0_1 qg0_2 qg0_3 qg0_4 qg0_5 qg0_6 qg0_7 lg0
      refine (heldSk_any [.int .i64 Y.id, .int .i64 Y.kind, .int .i64 Y.hold, .bool Y.shut, .slice A33 Y.inn.length c34, .slice B35 Y.out.length d36, .int .i64 Y.st, .int .i64 Y.done] 1 Y W52 (Rep.reads skR Og0) FY (by omega)).mono ?_
      rintro e W54 ⟨he, hb⟩
      rw [HN53.out] at he
      subst he
      have ho := Rep.only_of_below hb
      clear hb
      have SW54 : W52.heap.size ≤ W54.heap.size := ho.size
      have HBW54 := Rep.Only.below HBW52 ho (by omega) (fun a ha => by cases ha)
      replace TaS := Rep.at_only TaS ho (by omega) (fun a ha => by cases ha)
      replace TaF := Rep.at_only TaF ho (by omega) (fun a ha => by cases ha)
      replace Tw0 := Rep.at_only Tw0 ho (by omega) (fun a ha => by cases ha)
      replace Og0 := Rep.own_only Og0 ho (fun a ha hb => by cases hb)
      replace VaS := Rep.var_only VaS ho (by omega) (fun hb => by cases hb)
      replace VaF := Rep.var_only VaF ho (by omega) (fun hb => by cases hb)
      replace Vw0 := Rep.var_only Vw0 ho (by omega) (fun hb => by cases hb)
      replace Vg0 := Rep.var_only Vg0 ho (by omega) (fun hb => by cases hb)
      clear HBW52
      clear ho
      have nn55 : ((N53 : Int) != (N53 : Int)) = false := by simp
      go_upto_region 27 with (fail)
      go_cut [12] from 13 (fun v W' => ∃ (DW : Nat) (A : Option Addr) (c : Nat) (B : Option Addr) (d : Nat) (fp : List Nat), v = .pointer (some ⟨DW, 0, none⟩) ∧ Below W54.heap.size W54 W' ∧ W'.heap[DW]? = some (.cells #[.int .i64 Y.id, .int .i64 Y.kind, .int .i64 Y.hold, .bool Y.shut, .slice A Y.inn.length c, .slice B Y.out.length d, .int .i64 Y.st, .int .i64 Y.done] 25 (0, 0)) ∧ W54.heap.size ≤ DW ∧ skR.own W' W54.heap.size [.int .i64 Y.id, .int .i64 Y.kind, .int .i64 Y.hold, .bool Y.shut, .slice A Y.inn.length c, .slice B Y.out.length d, .int .i64 Y.st, .int .i64 Y.done] Y fp ∧ DW ∉ fp)
      case first =>
        rename_i J K1 hJ hK
        have TT : All (fun w' => Below W54.heap.size W54 w' ∧ (w'.heap[w.heap.size]? = some (.cells #[.int .i64 x0.id, .int .i64 x0.kind, .int .i64 x0.hold, .bool x0.shut, .slice A1 x0.inn.length c2, .slice B3 x0.out.length d4, .int .i64 x0.st, .int .i64 x0.done] 57 (0, 0)) ∧ w'.heap[w.heap.size + 1]? = some (.cells #[.int .i64 x1.k, .string x1.s, .int .i64 x1.st] 72 (0, 0)))) W54 := ⟨Below.refl _ _, VaS.out, VaF.out⟩
        refine wp_region_open 6 (fun w' => w'.heap[w.heap.size]? = some (.cells #[.int .i64 x0.id, .int .i64 x0.kind, .int .i64 x0.hold, .bool x0.shut, .slice A1 x0.inn.length c2, .slice B3 x0.out.length d4, .int .i64 x0.st, .int .i64 x0.done] 57 (0, 0)) ∧ w'.heap[w.heap.size + 1]? = some (.cells #[.int .i64 x1.k, .string x1.s, .int .i64 x1.st] 72 (0, 0))) (by kernel_rfl) ?_
        replace TT := TT.drew
        generalize W54.drew = Wa at TT ⊢
        refine wpAnyL_reads [0, 2] (fuel := 5) (by kernel_rfl) TT.out.2 ?_
        refine LexR.cons rfl ?_ (fun w' hw => ?_) ?_
        rotate_left
        focus (have hw2 := hw.1; have q0 := var_cell hw2 0; have q1 := var_cell hw2 1; have q2 := var_cell hw2 2; have q3 := var_cell hw2 3; have q4 := var_cell hw2 4; have q5 := var_cell hw2 5; have q6 := var_cell hw2 6; have q7 := var_cell hw2 7; clear hw hw2; go_simp; (try exact rfl))
        try go_frame
        refine LexR.cons rfl ?_ (fun w' hw => ?_) ?_
        rotate_left
        focus (have hw2 := hw.2; have q0 := var_cell hw2 0; have q1 := var_cell hw2 1; have q2 := var_cell hw2 2; clear hw hw2; go_simp; (try exact rfl))
        try go_frame
        refine LexR.nil ?_
        refine wpAnyL_two (i := 1) (j := 5) (by kernel_rfl) ?_ ?_
        · skip
          refine lexA_get rfl ?_
          try go_frame
          go_wp2_with fail
          refine (toSk_rep [.int .i64 x0.id, .int .i64 x0.kind, .int .i64 x0.hold, .bool x0.shut, .slice A1 x0.inn.length c2, .slice B3 x0.out.length d4, .int .i64 x0.st, .int .i64 x0.done] x0 Wa (Rep.more skR (Rep.at_below (Rep.more skR TaS (by omega)) TT.out.1) TT.out.1.size) FaS.out).mono ?_
          rintro e Vc0 ⟨cs, fp0, rfl, Ot56, hb⟩
          obtain ⟨At56, ct56, Bt56, dt56, rfl⟩ := sk_own_shape Ot56
          have Lot56 := Rep.lt skR Ot56
          replace TT := TT.later hb
          clear hb
          go_wp2_with fail
          refine ⟨fun _ => TT.out.2, ?_⟩
          refine wpAnyL_two (i := 3) (j := 5) (by kernel_rfl) ?_ ?_
          · skip
            refine lexA_get rfl ?_
            try go_frame
            go_wp2_with fail
            refine (toFr_rep [.int .i64 x1.k, .string x1.s, .int .i64 x1.st] x1 Vc0 (Rep.more frR (Rep.at_below (Rep.more frR TaF (by omega)) TT.out.1) TT.out.1.size) FaF.out).mono ?_
            rintro e Vc1 ⟨cs, fp1, rfl, Ot57, hb⟩
            obtain rfl := fr_own_shape Ot57
            have Lot57 := Rep.lt frR Ot57
            replace Ot56 := Rep.own_below Ot56 hb
            replace TT := TT.later hb
            clear hb
            go_wp2_with fail
            refine ⟨fun _ => TT.out.2, ?_⟩
            refine wpAnyL_two (i := 4) (j := 5) (by kernel_rfl) ?_ ?_
            · skip
              refine lexA_get rfl ?_
              try go_frame
              go_wp2_with fail
              refine (tell_rep [.int .i64 x0.id, .int .i64 x0.kind, .int .i64 x0.hold, .bool x0.shut, .slice At56 x0.inn.length ct56, .slice Bt56 x0.out.length dt56, .int .i64 x0.st, .int .i64 x0.done] x0 [.int .i64 x1.k, .string x1.s, .int .i64 x1.st] x1 Vc1 (Rep.reads skR Ot56) (Rep.reads frR Ot57) RaS.out FaF.out).mono ?_
              rw [HY.out]
              rintro e Vc2 ⟨cs, fp2, rfl, Ores, hb⟩
              obtain ⟨A, c, B, d, rfl⟩ := sk_own_shape Ores
              have Lores := Rep.lt skR Ores
              replace Ot56 := Rep.own_below Ot56 hb
              replace Ot57 := Rep.own_below Ot57 hb
              replace Ores := Rep.low skR Ores TT.out.1.size
              replace TT := TT.later hb
              clear hb
              go_wp2_with fail
              refine ⟨fun _ => TT.out.2, ?_⟩
              refine wpAnyL_one (i := 5) (by kernel_rfl) ?_
              refine lexA_get rfl ?_
              try go_frame
              go_wp2_with fail
              have hz := heap_alloc_new Vc2 (.cells #[.int .i64 0, .int .i64 0, .int .i64 0, .bool false, .slice none 0 0, .slice none 0 0, .int .i64 0, .int .i64 0] 25)
              have hEl : Vc2.heap.size < (Vc2.alloc (.cells #[.int .i64 0, .int .i64 0, .int .i64 0, .bool false, .slice none 0 0, .slice none 0 0, .int .i64 0, .int .i64 0] 25)).heap.size := by simp
              have hEo := TT.out.1.size
              replace Ot56 := Rep.own_below Ot56 (Later.alloc Vc2 (.cells #[.int .i64 0, .int .i64 0, .int .i64 0, .bool false, .slice none 0 0, .slice none 0 0, .int .i64 0, .int .i64 0] 25))
              replace Ot57 := Rep.own_below Ot57 (Later.alloc Vc2 (.cells #[.int .i64 0, .int .i64 0, .int .i64 0, .bool false, .slice none 0 0, .slice none 0 0, .int .i64 0, .int .i64 0] 25))
              replace Ores := Rep.own_below Ores (Later.alloc Vc2 (.cells #[.int .i64 0, .int .i64 0, .int .i64 0, .bool false, .slice none 0 0, .slice none 0 0, .int .i64 0, .int .i64 0] 25))
              have hEn : Vc2.heap.size ∉ fp2 := fun hm => by have := (Lores _ hm).2; omega
              replace TT := TT.alloc (.cells #[.int .i64 0, .int .i64 0, .int .i64 0, .bool false, .slice none 0 0, .slice none 0 0, .int .i64 0, .int .i64 0] 25)
              refine ⟨fun _ => TT.out.2, ?_⟩
              generalize Vc2.alloc (.cells #[.int .i64 0, .int .i64 0, .int .i64 0, .bool false, .slice none 0 0, .slice none 0 0, .int .i64 0, .int .i64 0] 25) = Va3 at TT hz hEl Ot56 Ot57 Ores ⊢
              generalize hEE : Vc2.heap.size = E at hz hEl hEo hEn ⊢
              clear hEE
              refine wpAnyL_writes [6] (by kernel_rfl) (LexW.cons rfl ?_)
              try go_frame
              have z0 := var_cell hz 0
              have zf0 := var_frozen hz 0
              have z1 := var_cell hz 1
              have zf1 := var_frozen hz 1
              have z2 := var_cell hz 2
              have zf2 := var_frozen hz 2
              have z3 := var_cell hz 3
              have zf3 := var_frozen hz 3
              have z4 := var_cell hz 4
              have zf4 := var_frozen hz 4
              have z5 := var_cell hz 5
              have zf5 := var_frozen hz 5
              have z6 := var_cell hz 6
              have zf6 := var_frozen hz 6
              have z7 := var_cell hz 7
              have zf7 := var_frozen hz 7
              go_wp2_with fail
              refine ⟨fun h => absurd rfl h, LexW.nil (hK _ _ (Met.intro (hJ _ _ ?_)))⟩
              have hB8 := put8_below (.int .i64 Y.id) (.int .i64 Y.kind) (.int .i64 Y.hold) (.bool Y.shut) (.slice A Y.inn.length c) (.slice B Y.out.length d) (.int .i64 Y.st) (.int .i64 Y.done) TT.out.1 hEo
              have hz8 := put8 (.int .i64 Y.id) (.int .i64 Y.kind) (.int .i64 Y.hold) (.bool Y.shut) (.slice A Y.inn.length c) (.slice B Y.out.length d) (.int .i64 Y.st) (.int .i64 Y.done) hz
              have hO8 := put8_own (R := skR) (E := E) (.int .i64 Y.id) (.int .i64 Y.kind) (.int .i64 Y.hold) (.bool Y.shut) (.slice A Y.inn.length c) (.slice B Y.out.length d) (.int .i64 Y.st) (.int .i64 Y.done) Ores hEn
              (repeat apply Exists.intro)
              refine ⟨?_, rfl⟩
              exact ⟨E, A, c, B, d, fp2, rfl, hB8, hz8, hEo, hO8, hEn⟩
            · skip
              refine lexA_get rfl ?_
              try go_frame
              go_wp2_with fail
              have hz := heap_alloc_new Vc1 (.cells #[.int .i64 0, .int .i64 0, .int .i64 0, .bool false, .slice none 0 0, .slice none 0 0, .int .i64 0, .int .i64 0] 25)
              have hEl : Vc1.heap.size < (Vc1.alloc (.cells #[.int .i64 0, .int .i64 0, .int .i64 0, .bool false, .slice none 0 0, .slice none 0 0, .int .i64 0, .int .i64 0] 25)).heap.size := by simp
              have hEo := TT.out.1.size
              replace Ot56 := Rep.own_below Ot56 (Later.alloc Vc1 (.cells #[.int .i64 0, .int .i64 0, .int .i64 0, .bool false, .slice none 0 0, .slice none 0 0, .int .i64 0, .int .i64 0] 25))
              replace Ot57 := Rep.own_below Ot57 (Later.alloc Vc1 (.cells #[.int .i64 0, .int .i64 0, .int .i64 0, .bool false, .slice none 0 0, .slice none 0 0, .int .i64 0, .int .i64 0] 25))
              replace TT := TT.alloc (.cells #[.int .i64 0, .int .i64 0, .int .i64 0, .bool false, .slice none 0 0, .slice none 0 0, .int .i64 0, .int .i64 0] 25)
              refine ⟨fun _ => TT.out.2, ?_⟩
              generalize Vc1.alloc (.cells #[.int .i64 0, .int .i64 0, .int .i64 0, .bool false, .slice none 0 0, .slice none 0 0, .int .i64 0, .int .i64 0] 25) = Va2 at TT hz hEl Ot56 Ot57 ⊢
              generalize hEE : Vc1.heap.size = E at hz hEl hEo  ⊢
              clear hEE
              refine wpAnyL_one (i := 4) (by kernel_rfl) ?_
              refine lexA_get rfl ?_
              try go_frame
              go_wp2_with fail
              refine (tell_rep [.int .i64 x0.id, .int .i64 x0.kind, .int .i64 x0.hold, .bool x0.shut, .slice At56 x0.inn.length ct56, .slice Bt56 x0.out.length dt56, .int .i64 x0.st, .int .i64 x0.done] x0 [.int .i64 x1.k, .string x1.s, .int .i64 x1.st] x1 Va2 (Rep.reads skR Ot56) (Rep.reads frR Ot57) RaS.out FaF.out).mono ?_
              rw [HY.out]
              rintro e Vc2a ⟨cs, fp2, rfl, Ores, hb⟩
              obtain ⟨A, c, B, d, rfl⟩ := sk_own_shape Ores
              have Lores := Rep.lt skR Ores
              replace Ot56 := Rep.own_below Ot56 hb
              replace Ot57 := Rep.own_below Ot57 hb
              have hEn : E ∉ fp2 := fun hm => by have := (Lores E hm).1; omega
              replace hz := (hb.block E hEl).trans hz
              replace hEl : E < Vc2a.heap.size := Nat.lt_of_lt_of_le hEl hb.size
              replace Ores := Rep.low skR Ores TT.out.1.size
              replace TT := TT.later hb
              clear hb
              go_wp2_with fail
              refine ⟨fun _ => TT.out.2, ?_⟩
              refine wpAnyL_writes [6] (by kernel_rfl) (LexW.cons rfl ?_)
              try go_frame
              have z0 := var_cell hz 0
              have zf0 := var_frozen hz 0
              have z1 := var_cell hz 1
              have zf1 := var_frozen hz 1
              have z2 := var_cell hz 2
              have zf2 := var_frozen hz 2
              have z3 := var_cell hz 3
              have zf3 := var_frozen hz 3
              have z4 := var_cell hz 4
              have zf4 := var_frozen hz 4
              have z5 := var_cell hz 5
              have zf5 := var_frozen hz 5
              have z6 := var_cell hz 6
              have zf6 := var_frozen hz 6
              have z7 := var_cell hz 7
              have zf7 := var_frozen hz 7
              go_wp2_with fail
              refine ⟨fun h => absurd rfl h, LexW.nil (hK _ _ (Met.intro (hJ _ _ ?_)))⟩
              have hB8 := put8_below (.int .i64 Y.id) (.int .i64 Y.kind) (.int .i64 Y.hold) (.bool Y.shut) (.slice A Y.inn.length c) (.slice B Y.out.length d) (.int .i64 Y.st) (.int .i64 Y.done) TT.out.1 hEo
              have hz8 := put8 (.int .i64 Y.id) (.int .i64 Y.kind) (.int .i64 Y.hold) (.bool Y.shut) (.slice A Y.inn.length c) (.slice B Y.out.length d) (.int .i64 Y.st) (.int .i64 Y.done) hz
              have hO8 := put8_own (R := skR) (E := E) (.int .i64 Y.id) (.int .i64 Y.kind) (.int .i64 Y.hold) (.bool Y.shut) (.slice A Y.inn.length c) (.slice B Y.out.length d) (.int .i64 Y.st) (.int .i64 Y.done) Ores hEn
              (repeat apply Exists.intro)
              refine ⟨?_, rfl⟩
              exact ⟨E, A, c, B, d, fp2, rfl, hB8, hz8, hEo, hO8, hEn⟩
          · skip
            refine lexA_get rfl ?_
            try go_frame
            go_wp2_with fail
            have hz := heap_alloc_new Vc0 (.cells #[.int .i64 0, .int .i64 0, .int .i64 0, .bool false, .slice none 0 0, .slice none 0 0, .int .i64 0, .int .i64 0] 25)
            have hEl : Vc0.heap.size < (Vc0.alloc (.cells #[.int .i64 0, .int .i64 0, .int .i64 0, .bool false, .slice none 0 0, .slice none 0 0, .int .i64 0, .int .i64 0] 25)).heap.size := by simp
            have hEo := TT.out.1.size
            replace Ot56 := Rep.own_below Ot56 (Later.alloc Vc0 (.cells #[.int .i64 0, .int .i64 0, .int .i64 0, .bool false, .slice none 0 0, .slice none 0 0, .int .i64 0, .int .i64 0] 25))
            replace TT := TT.alloc (.cells #[.int .i64 0, .int .i64 0, .int .i64 0, .bool false, .slice none 0 0, .slice none 0 0, .int .i64 0, .int .i64 0] 25)
            refine ⟨fun _ => TT.out.2, ?_⟩
            generalize Vc0.alloc (.cells #[.int .i64 0, .int .i64 0, .int .i64 0, .bool false, .slice none 0 0, .slice none 0 0, .int .i64 0, .int .i64 0] 25) = Va1 at TT hz hEl Ot56 ⊢
            generalize hEE : Vc0.heap.size = E at hz hEl hEo  ⊢
            clear hEE
            refine wpAnyL_one (i := 3) (by kernel_rfl) ?_
            refine lexA_get rfl ?_
            try go_frame
            go_wp2_with fail
            refine (toFr_rep [.int .i64 x1.k, .string x1.s, .int .i64 x1.st] x1 Va1 (Rep.more frR (Rep.at_below (Rep.more frR TaF (by omega)) TT.out.1) TT.out.1.size) FaF.out).mono ?_
            rintro e Vc1a ⟨cs, fp1, rfl, Ot57, hb⟩
            obtain rfl := fr_own_shape Ot57
            have Lot57 := Rep.lt frR Ot57
            replace Ot56 := Rep.own_below Ot56 hb
            replace hz := (hb.block E hEl).trans hz
            replace hEl : E < Vc1a.heap.size := Nat.lt_of_lt_of_le hEl hb.size
            replace TT := TT.later hb
            clear hb
            go_wp2_with fail
            refine ⟨fun _ => TT.out.2, ?_⟩
            refine wpAnyL_one (i := 4) (by kernel_rfl) ?_
            refine lexA_get rfl ?_
            try go_frame
            go_wp2_with fail
            refine (tell_rep [.int .i64 x0.id, .int .i64 x0.kind, .int .i64 x0.hold, .bool x0.shut, .slice At56 x0.inn.length ct56, .slice Bt56 x0.out.length dt56, .int .i64 x0.st, .int .i64 x0.done] x0 [.int .i64 x1.k, .string x1.s, .int .i64 x1.st] x1 Vc1a (Rep.reads skR Ot56) (Rep.reads frR Ot57) RaS.out FaF.out).mono ?_
            rw [HY.out]
            rintro e Vc2a ⟨cs, fp2, rfl, Ores, hb⟩
            obtain ⟨A, c, B, d, rfl⟩ := sk_own_shape Ores
            have Lores := Rep.lt skR Ores
            replace Ot56 := Rep.own_below Ot56 hb
            replace Ot57 := Rep.own_below Ot57 hb
            have hEn : E ∉ fp2 := fun hm => by have := (Lores E hm).1; omega
            replace hz := (hb.block E hEl).trans hz
            replace hEl : E < Vc2a.heap.size := Nat.lt_of_lt_of_le hEl hb.size
            replace Ores := Rep.low skR Ores TT.out.1.size
            replace TT := TT.later hb
            clear hb
            go_wp2_with fail
            refine ⟨fun _ => TT.out.2, ?_⟩
            refine wpAnyL_writes [6] (by kernel_rfl) (LexW.cons rfl ?_)
            try go_frame
            have z0 := var_cell hz 0
            have zf0 := var_frozen hz 0
            have z1 := var_cell hz 1
            have zf1 := var_frozen hz 1
            have z2 := var_cell hz 2
            have zf2 := var_frozen hz 2
            have z3 := var_cell hz 3
            have zf3 := var_frozen hz 3
            have z4 := var_cell hz 4
            have zf4 := var_frozen hz 4
            have z5 := var_cell hz 5
            have zf5 := var_frozen hz 5
            have z6 := var_cell hz 6
            have zf6 := var_frozen hz 6
            have z7 := var_cell hz 7
            have zf7 := var_frozen hz 7
            go_wp2_with fail
            refine ⟨fun h => absurd rfl h, LexW.nil (hK _ _ (Met.intro (hJ _ _ ?_)))⟩
            have hB8 := put8_below (.int .i64 Y.id) (.int .i64 Y.kind) (.int .i64 Y.hold) (.bool Y.shut) (.slice A Y.inn.length c) (.slice B Y.out.length d) (.int .i64 Y.st) (.int .i64 Y.done) TT.out.1 hEo
            have hz8 := put8 (.int .i64 Y.id) (.int .i64 Y.kind) (.int .i64 Y.hold) (.bool Y.shut) (.slice A Y.inn.length c) (.slice B Y.out.length d) (.int .i64 Y.st) (.int .i64 Y.done) hz
            have hO8 := put8_own (R := skR) (E := E) (.int .i64 Y.id) (.int .i64 Y.kind) (.int .i64 Y.hold) (.bool Y.shut) (.slice A Y.inn.length c) (.slice B Y.out.length d) (.int .i64 Y.st) (.int .i64 Y.done) Ores hEn
            (repeat apply Exists.intro)
            refine ⟨?_, rfl⟩
            exact ⟨E, A, c, B, d, fp2, rfl, hB8, hz8, hEo, hO8, hEn⟩
        · skip
          refine lexA_get rfl ?_
          try go_frame
          go_wp2_with fail
          have hz := heap_alloc_new Wa (.cells #[.int .i64 0, .int .i64 0, .int .i64 0, .bool false, .slice none 0 0, .slice none 0 0, .int .i64 0, .int .i64 0] 25)
          have hEl : Wa.heap.size < (Wa.alloc (.cells #[.int .i64 0, .int .i64 0, .int .i64 0, .bool false, .slice none 0 0, .slice none 0 0, .int .i64 0, .int .i64 0] 25)).heap.size := by simp
          have hEo := TT.out.1.size
          replace TT := TT.alloc (.cells #[.int .i64 0, .int .i64 0, .int .i64 0, .bool false, .slice none 0 0, .slice none 0 0, .int .i64 0, .int .i64 0] 25)
          refine ⟨fun _ => TT.out.2, ?_⟩
          generalize Wa.alloc (.cells #[.int .i64 0, .int .i64 0, .int .i64 0, .bool false, .slice none 0 0, .slice none 0 0, .int .i64 0, .int .i64 0] 25) = Va0 at TT hz hEl  ⊢
          generalize hEE : Wa.heap.size = E at hz hEl hEo  ⊢
          clear hEE
          refine wpAnyL_one (i := 1) (by kernel_rfl) ?_
          refine lexA_get rfl ?_
          try go_frame
          go_wp2_with fail
          refine (toSk_rep [.int .i64 x0.id, .int .i64 x0.kind, .int .i64 x0.hold, .bool x0.shut, .slice A1 x0.inn.length c2, .slice B3 x0.out.length d4, .int .i64 x0.st, .int .i64 x0.done] x0 Va0 (Rep.more skR (Rep.at_below (Rep.more skR TaS (by omega)) TT.out.1) TT.out.1.size) FaS.out).mono ?_
          rintro e Vc0a ⟨cs, fp0, rfl, Ot56, hb⟩
          obtain ⟨At56, ct56, Bt56, dt56, rfl⟩ := sk_own_shape Ot56
          have Lot56 := Rep.lt skR Ot56
          replace hz := (hb.block E hEl).trans hz
          replace hEl : E < Vc0a.heap.size := Nat.lt_of_lt_of_le hEl hb.size
          replace TT := TT.later hb
          clear hb
          go_wp2_with fail
          refine ⟨fun _ => TT.out.2, ?_⟩
          refine wpAnyL_one (i := 3) (by kernel_rfl) ?_
          refine lexA_get rfl ?_
          try go_frame
          go_wp2_with fail
          refine (toFr_rep [.int .i64 x1.k, .string x1.s, .int .i64 x1.st] x1 Vc0a (Rep.more frR (Rep.at_below (Rep.more frR TaF (by omega)) TT.out.1) TT.out.1.size) FaF.out).mono ?_
          rintro e Vc1a ⟨cs, fp1, rfl, Ot57, hb⟩
          obtain rfl := fr_own_shape Ot57
          have Lot57 := Rep.lt frR Ot57
          replace Ot56 := Rep.own_below Ot56 hb
          replace hz := (hb.block E hEl).trans hz
          replace hEl : E < Vc1a.heap.size := Nat.lt_of_lt_of_le hEl hb.size
          replace TT := TT.later hb
          clear hb
          go_wp2_with fail
          refine ⟨fun _ => TT.out.2, ?_⟩
          refine wpAnyL_one (i := 4) (by kernel_rfl) ?_
          refine lexA_get rfl ?_
          try go_frame
          go_wp2_with fail
          refine (tell_rep [.int .i64 x0.id, .int .i64 x0.kind, .int .i64 x0.hold, .bool x0.shut, .slice At56 x0.inn.length ct56, .slice Bt56 x0.out.length dt56, .int .i64 x0.st, .int .i64 x0.done] x0 [.int .i64 x1.k, .string x1.s, .int .i64 x1.st] x1 Vc1a (Rep.reads skR Ot56) (Rep.reads frR Ot57) RaS.out FaF.out).mono ?_
          rw [HY.out]
          rintro e Vc2a ⟨cs, fp2, rfl, Ores, hb⟩
          obtain ⟨A, c, B, d, rfl⟩ := sk_own_shape Ores
          have Lores := Rep.lt skR Ores
          replace Ot56 := Rep.own_below Ot56 hb
          replace Ot57 := Rep.own_below Ot57 hb
          have hEn : E ∉ fp2 := fun hm => by have := (Lores E hm).1; omega
          replace hz := (hb.block E hEl).trans hz
          replace hEl : E < Vc2a.heap.size := Nat.lt_of_lt_of_le hEl hb.size
          replace Ores := Rep.low skR Ores TT.out.1.size
          replace TT := TT.later hb
          clear hb
          go_wp2_with fail
          refine ⟨fun _ => TT.out.2, ?_⟩
          refine wpAnyL_writes [6] (by kernel_rfl) (LexW.cons rfl ?_)
          try go_frame
          have z0 := var_cell hz 0
          have zf0 := var_frozen hz 0
          have z1 := var_cell hz 1
          have zf1 := var_frozen hz 1
          have z2 := var_cell hz 2
          have zf2 := var_frozen hz 2
          have z3 := var_cell hz 3
          have zf3 := var_frozen hz 3
          have z4 := var_cell hz 4
          have zf4 := var_frozen hz 4
          have z5 := var_cell hz 5
          have zf5 := var_frozen hz 5
          have z6 := var_cell hz 6
          have zf6 := var_frozen hz 6
          have z7 := var_cell hz 7
          have zf7 := var_frozen hz 7
          go_wp2_with fail
          refine ⟨fun h => absurd rfl h, LexW.nil (hK _ _ (Met.intro (hJ _ _ ?_)))⟩
          have hB8 := put8_below (.int .i64 Y.id) (.int .i64 Y.kind) (.int .i64 Y.hold) (.bool Y.shut) (.slice A Y.inn.length c) (.slice B Y.out.length d) (.int .i64 Y.st) (.int .i64 Y.done) TT.out.1 hEo
          have hz8 := put8 (.int .i64 Y.id) (.int .i64 Y.kind) (.int .i64 Y.hold) (.bool Y.shut) (.slice A Y.inn.length c) (.slice B Y.out.length d) (.int .i64 Y.st) (.int .i64 Y.done) hz
          have hO8 := put8_own (R := skR) (E := E) (.int .i64 Y.id) (.int .i64 Y.kind) (.int .i64 Y.hold) (.bool Y.shut) (.slice A Y.inn.length c) (.slice B Y.out.length d) (.int .i64 Y.st) (.int .i64 Y.done) Ores hEn
          (repeat apply Exists.intro)
          refine ⟨?_, rfl⟩
          exact ⟨E, A, c, B, d, fp2, rfl, hB8, hz8, hEo, hO8, hEn⟩
      case rest =>
        obtain ⟨D60, A61, c62, B63, d64, fp59, rfl, hb, hv, hloD60, Oh0, hDnD60⟩ := hcut
        obtain ⟨W58, rfl⟩ : ∃ wo : World, wo = wc := ⟨_, rfl⟩
        have ho := Rep.only_of_below hb
        have L65 := Lib.hid (Rep.lt skR Oh0)
        have HDD60 := Lib.hid hDnD60
        clear hb hDnD60
        have SW58 : W54.heap.size ≤ W58.heap.size := ho.size
        have HBW58 := Rep.Only.below HBW54 ho (by omega) (fun a ha => by cases ha)
        replace TaS := Rep.at_only TaS ho (by omega) (fun a ha => by cases ha)
        replace TaF := Rep.at_only TaF ho (by omega) (fun a ha => by cases ha)
        replace Tw0 := Rep.at_only Tw0 ho (by omega) (fun a ha => by cases ha)
        replace Og0 := Rep.own_only Og0 ho (fun a ha hb => by cases hb)
        replace VaS := Rep.var_only VaS ho (by omega) (fun hb => by cases hb)
        replace VaF := Rep.var_only VaF ho (by omega) (fun hb => by cases hb)
        replace Vw0 := Rep.var_only Vw0 ho (by omega) (fun hb => by cases hb)
        replace Vg0 := Rep.var_only Vg0 ho (by omega) (fun hb => by cases hb)
        clear HBW54
        clear ho
        have ZW58 : D60 < W58.heap.size := (Array.getElem?_eq_some_iff.1 hv).1
        have Vh0 := Lib.hid hv
        clear hv
        have qh0_0 : W58.cell? ⟨D60, 0, none⟩ = some (.int .i64 Y.id) := var_cell Vh0.out 0
        have qh0_1 : W58.cell? ⟨D60, 1, none⟩ = some (.int .i64 Y.kind) := var_cell Vh0.out 1
        have qh0_2 : W58.cell? ⟨D60, 2, none⟩ = some (.int .i64 Y.hold) := var_cell Vh0.out 2
        have qh0_3 : W58.cell? ⟨D60, 3, none⟩ = some (.bool Y.shut) := var_cell Vh0.out 3
        have qh0_4 : W58.cell? ⟨D60, 4, none⟩ = some (.slice A61 Y.inn.length c62) := var_cell Vh0.out 4
        have qh0_5 : W58.cell? ⟨D60, 5, none⟩ = some (.slice B63 Y.out.length d64) := var_cell Vh0.out 5
        have qh0_6 : W58.cell? ⟨D60, 6, none⟩ = some (.int .i64 Y.st) := var_cell Vh0.out 6
        have qh0_7 : W58.cell? ⟨D60, 7, none⟩ = some (.int .i64 Y.done) := var_cell Vh0.out 7
        have lh0 : D60 < W58.heap.size := by omega
        have qw0_0 : W58.cell? ⟨D15, 0, none⟩ = some (.int .i64 Y.id) := var_cell Vw0.out 0
        have qw0_1 : W58.cell? ⟨D15, 1, none⟩ = some (.int .i64 Y.kind) := var_cell Vw0.out 1
        have qw0_2 : W58.cell? ⟨D15, 2, none⟩ = some (.int .i64 Y.hold) := var_cell Vw0.out 2
        have qw0_3 : W58.cell? ⟨D15, 3, none⟩ = some (.bool Y.shut) := var_cell Vw0.out 3
        have qw0_4 : W58.cell? ⟨D15, 4, none⟩ = some (.slice A16 Y.inn.length c17) := var_cell Vw0.out 4
        have qw0_5 : W58.cell? ⟨D15, 5, none⟩ = some (.slice B18 Y.out.length d19) := var_cell Vw0.out 5
        have qw0_6 : W58.cell? ⟨D15, 6, none⟩ = some (.int .i64 Y.st) := var_cell Vw0.out 6
        have qw0_7 : W58.cell? ⟨D15, 7, none⟩ = some (.int .i64 Y.done) := var_cell Vw0.out 7
        have lw0 : D15 < W58.heap.size := by omega
        go_wp2_with fail
        clear qh0_0 qh0_1 qh0_2 qh0_3 qh0_4 qh0_5 qh0_6 qh0_7 lh0 qw0_0 qw0_1 qw0_2 qw0_3 qw0_4 qw0_5 qw0_6 qw0_7 lw0
        refine (eqSk_same [.int .i64 Y.id, .int .i64 Y.kind, .int .i64 Y.hold, .bool Y.shut, .slice A61 Y.inn.length c62, .slice B63 Y.out.length d64, .int .i64 Y.st, .int .i64 Y.done] [.int .i64 Y.id, .int .i64 Y.kind, .int .i64 Y.hold, .bool Y.shut, .slice A16 Y.inn.length c17, .slice B18 Y.out.length d19, .int .i64 Y.st, .int .i64 Y.done] Y W58 (Rep.reads skR Oh0) (Rep.more skR Tw0 (by omega)) FY).mono ?_
        rintro e W66 ⟨rfl, hb⟩
        have ho := Rep.only_of_below hb
        clear hb
        have SW66 : W58.heap.size ≤ W66.heap.size := ho.size
        have HBW66 := Rep.Only.below HBW58 ho (by omega) (fun a ha => by cases ha)
        replace TaS := Rep.at_only TaS ho (by omega) (fun a ha => by cases ha)
        replace TaF := Rep.at_only TaF ho (by omega) (fun a ha => by cases ha)
        replace Tw0 := Rep.at_only Tw0 ho (by omega) (fun a ha => by cases ha)
        replace Og0 := Rep.own_only Og0 ho (fun a ha hb => by cases hb)
        replace Oh0 := Rep.own_only Oh0 ho (fun a ha hb => by cases hb)
        replace VaS := Rep.var_only VaS ho (by omega) (fun hb => by cases hb)
        replace VaF := Rep.var_only VaF ho (by omega) (fun hb => by cases hb)
        replace Vw0 := Rep.var_only Vw0 ho (by omega) (fun hb => by cases hb)
        replace Vg0 := Rep.var_only Vg0 ho (by omega) (fun hb => by cases hb)
        replace Vh0 := Rep.var_only Vh0 ho (by omega) (fun hb => by cases hb)
        clear HBW58
        clear ho
        clear Oh0 L65
        clear TaS
        clear TaF
        clear Tw0
        have qg0_0 : W66.cell? ⟨D32, 0, none⟩ = some (.int .i64 Y.id) := var_cell Vg0.out 0
        have qg0_1 : W66.cell? ⟨D32, 1, none⟩ = some (.int .i64 Y.kind) := var_cell Vg0.out 1
        have qg0_2 : W66.cell? ⟨D32, 2, none⟩ = some (.int .i64 Y.hold) := var_cell Vg0.out 2
        have qg0_3 : W66.cell? ⟨D32, 3, none⟩ = some (.bool Y.shut) := var_cell Vg0.out 3
        have qg0_4 : W66.cell? ⟨D32, 4, none⟩ = some (.slice A33 Y.inn.length c34) := var_cell Vg0.out 4
        have qg0_5 : W66.cell? ⟨D32, 5, none⟩ = some (.slice B35 Y.out.length d36) := var_cell Vg0.out 5
        have qg0_6 : W66.cell? ⟨D32, 6, none⟩ = some (.int .i64 Y.st) := var_cell Vg0.out 6
        have qg0_7 : W66.cell? ⟨D32, 7, none⟩ = some (.int .i64 Y.done) := var_cell Vg0.out 7
        have lg0 : D32 < W66.heap.size := by omega
        go_wp2_with fail
        clear qg0_0 qg0_1 qg0_2 qg0_3 qg0_4 qg0_5 qg0_6 qg0_7 lg0
        refine (heldSk_any [.int .i64 Y.id, .int .i64 Y.kind, .int .i64 Y.hold, .bool Y.shut, .slice A33 Y.inn.length c34, .slice B35 Y.out.length d36, .int .i64 Y.st, .int .i64 Y.done] 1 Y W66 (Rep.reads skR Og0) FY (by omega)).mono ?_
        rintro e W67 ⟨he, hb⟩
        rw [HN53.out] at he
        subst he
        have ho := Rep.only_of_below hb
        clear hb
        have SW67 : W66.heap.size ≤ W67.heap.size := ho.size
        have HBW67 := Rep.Only.below HBW66 ho (by omega) (fun a ha => by cases ha)
        replace Og0 := Rep.own_only Og0 ho (fun a ha hb => by cases hb)
        replace Vg0 := Rep.var_only Vg0 ho (by omega) (fun hb => by cases hb)
        clear HBW66
        clear ho
        have nn68 : ((N53 : Int) != (N53 : Int)) = false := by simp
        go_wp2_with fail
        go_ret
        exact ⟨rfl, HBW67⟩

end Go.Proofs.Ytcelkmphdeaaeaa
