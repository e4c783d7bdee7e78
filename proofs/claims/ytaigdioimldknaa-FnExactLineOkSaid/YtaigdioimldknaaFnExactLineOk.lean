/- The walk of the exact law of LineOk (written by gen.py). -/
import Derived.Test.YtaigdioimldknaaLinOk
import Derived.Test.YtaigdioimldknaaAskRep
import Derived.Test.YtaigdioimldknaaExactB
namespace Go.Proofs.Ytaigdioimldknaa
open Go.RowKit
set_option linter.unusedVariables false

set_option maxRecDepth 100000 in
set_option maxHeartbeats 4000000 in
theorem walk_FnExactLineOk (w : World) (cs0 : List Value) (x0 : Ln) (w0 : lnR.at_ w w.heap.size cs0 x0) (k0 : OkLn x0) :
    Calls Try.prog 7 #[.agg cs0.toArray] w fun e w' => e = .returned (.bool true) ∧ Below w.heap.size w w' := by
  obtain rfl := ln_at_shape w0
  have TaX := w0
  clear w0
  have HBw := Below.refl w.heap.size w
  go_enter Try.func7, Try.ntmps7
  go_wp2_with fail
  have ho := Rep.only_alloc w (.cells #[.int .i64 x0.sock, .string x0.db, .int .i64 x0.gen, .int .i64 x0.st, .int .i64 x0.since, .int .i64 x0.asker, .int .i64 x0.lease] 76)
  have hv := heap_alloc_new w (.cells #[.int .i64 x0.sock, .string x0.db, .int .i64 x0.gen, .int .i64 x0.st, .int .i64 x0.since, .int .i64 x0.asker, .int .i64 x0.lease] 76)
  have hs : w.heap.size < (w.alloc (.cells #[.int .i64 x0.sock, .string x0.db, .int .i64 x0.gen, .int .i64 x0.st, .int .i64 x0.since, .int .i64 x0.asker, .int .i64 x0.lease] 76)).heap.size := by simp
  generalize hgW : w.alloc (.cells #[.int .i64 x0.sock, .string x0.db, .int .i64 x0.gen, .int .i64 x0.st, .int .i64 x0.since, .int .i64 x0.asker, .int .i64 x0.lease] 76) = W1 at ho hv hs ⊢
  have hEW1 : Hid (W1.heap.size = w.heap.size + 1) := Lib.hid (by rw [← hgW]; simp)
  clear hgW
  have SW1 : w.heap.size ≤ W1.heap.size := ho.size
  have HBW1 := Rep.Only.below HBw ho (by omega) (fun a ha => by cases ha)
  replace TaX := Rep.at_only TaX ho (by omega) (fun a ha => by cases ha)
  clear HBw
  have VaX := Lib.hid hv
  clear hv ho
  have ZW1 : w.heap.size < W1.heap.size := hs
  clear hs
  refine (szLn_rep [.int .i64 x0.sock, .string x0.db, .int .i64 x0.gen, .int .i64 x0.st, .int .i64 x0.since, .int .i64 x0.asker, .int .i64 x0.lease] x0 1048576 W1 (Rep.more lnR TaX (by omega)) (by omega) k0).mono ?_
  rintro e W2 ⟨hz, hb⟩
  have ho := Rep.only_of_below hb
  clear hb
  have SW2 : W1.heap.size ≤ W2.heap.size := ho.size
  have HBW2 := Rep.Only.below HBW1 ho (by omega) (fun a ha => by cases ha)
  replace TaX := Rep.at_only TaX ho (by omega) (fun a ha => by cases ha)
  replace VaX := Rep.var_only VaX ho (by omega) (fun hb => by cases hb)
  clear HBW1
  clear ho
  obtain ⟨z3, hz3, HfitaX, rfl⟩ | rfl := hz
  rotate_left
  · go_wp2_with fail
    go_ret
    exact ⟨rfl, HBW2⟩
  have FaX := Lib.hid HfitaX
  clear HfitaX
  obtain ⟨Y, hy⟩ : ∃ Y, lnB x0 = Y := ⟨_, rfl⟩
  have ny : (Y != Y) = false := by simp
  have HY := Lib.hid hy
  clear hy
  have qaX_0 : W2.cell? ⟨w.heap.size, 0, none⟩ = some (.int .i64 x0.sock) := var_cell VaX.out 0
  have qaX_1 : W2.cell? ⟨w.heap.size, 1, none⟩ = some (.string x0.db) := var_cell VaX.out 1
  have qaX_2 : W2.cell? ⟨w.heap.size, 2, none⟩ = some (.int .i64 x0.gen) := var_cell VaX.out 2
  have qaX_3 : W2.cell? ⟨w.heap.size, 3, none⟩ = some (.int .i64 x0.st) := var_cell VaX.out 3
  have qaX_4 : W2.cell? ⟨w.heap.size, 4, none⟩ = some (.int .i64 x0.since) := var_cell VaX.out 4
  have qaX_5 : W2.cell? ⟨w.heap.size, 5, none⟩ = some (.int .i64 x0.asker) := var_cell VaX.out 5
  have qaX_6 : W2.cell? ⟨w.heap.size, 6, none⟩ = some (.int .i64 x0.lease) := var_cell VaX.out 6
  have laX : w.heap.size < W2.heap.size := by omega
  go_wp2_with fail
  clear qaX_0 qaX_1 qaX_2 qaX_3 qaX_4 qaX_5 qaX_6 laX
  refine (toLn_rep [.int .i64 x0.sock, .string x0.db, .int .i64 x0.gen, .int .i64 x0.st, .int .i64 x0.since, .int .i64 x0.asker, .int .i64 x0.lease] x0 W2 (Rep.more lnR TaX (by omega)) FaX.out).mono ?_
  rintro e W5 ⟨cs, fp6, rfl, Ot4, hb⟩
  obtain rfl := ln_own_shape Ot4
  have ho := Rep.only_of_below hb
  have L7 := Lib.hid (Rep.lt lnR Ot4)
  clear hb
  have SW5 : W2.heap.size ≤ W5.heap.size := ho.size
  have HBW5 := Rep.Only.below HBW2 ho (by omega) (fun a ha => by cases ha)
  replace TaX := Rep.at_only TaX ho (by omega) (fun a ha => by cases ha)
  replace VaX := Rep.var_only VaX ho (by omega) (fun hb => by cases hb)
  clear HBW2
  clear ho
  go_wp2_with fail
  refine (lineOkS_rep [.int .i64 x0.sock, .string x0.db, .int .i64 x0.gen, .int .i64 x0.st, .int .i64 x0.since, .int .i64 x0.asker, .int .i64 x0.lease] x0 W5 (Rep.reads lnR Ot4) FaX.out).mono ?_
  rintro e W8 ⟨he, hb⟩
  rw [HY.out] at he
  subst he
  have ho := Rep.only_of_below hb
  clear hb
  have SW8 : W5.heap.size ≤ W8.heap.size := ho.size
  have HBW8 := Rep.Only.below HBW5 ho (by omega) (fun a ha => by cases ha)
  replace TaX := Rep.at_only TaX ho (by omega) (fun a ha => by cases ha)
  replace Ot4 := Rep.own_only Ot4 ho (fun a ha hb => by cases hb)
  replace VaX := Rep.var_only VaX ho (by omega) (fun hb => by cases hb)
  clear HBW5
  clear ho
  clear Ot4 L7
  have qaX_0 : W8.cell? ⟨w.heap.size, 0, none⟩ = some (.int .i64 x0.sock) := var_cell VaX.out 0
  have qaX_1 : W8.cell? ⟨w.heap.size, 1, none⟩ = some (.string x0.db) := var_cell VaX.out 1
  have qaX_2 : W8.cell? ⟨w.heap.size, 2, none⟩ = some (.int .i64 x0.gen) := var_cell VaX.out 2
  have qaX_3 : W8.cell? ⟨w.heap.size, 3, none⟩ = some (.int .i64 x0.st) := var_cell VaX.out 3
  have qaX_4 : W8.cell? ⟨w.heap.size, 4, none⟩ = some (.int .i64 x0.since) := var_cell VaX.out 4
  have qaX_5 : W8.cell? ⟨w.heap.size, 5, none⟩ = some (.int .i64 x0.asker) := var_cell VaX.out 5
  have qaX_6 : W8.cell? ⟨w.heap.size, 6, none⟩ = some (.int .i64 x0.lease) := var_cell VaX.out 6
  have laX : w.heap.size < W8.heap.size := by omega
  go_wp2_with fail
  clear qaX_0 qaX_1 qaX_2 qaX_3 qaX_4 qaX_5 qaX_6 laX
  refine (toLn_rep [.int .i64 x0.sock, .string x0.db, .int .i64 x0.gen, .int .i64 x0.st, .int .i64 x0.since, .int .i64 x0.asker, .int .i64 x0.lease] x0 W8 (Rep.more lnR TaX (by omega)) FaX.out).mono ?_
  rintro e W10 ⟨cs, fp11, rfl, Ot9, hb⟩
  obtain rfl := ln_own_shape Ot9
  have ho := Rep.only_of_below hb
  have L12 := Lib.hid (Rep.lt lnR Ot9)
  clear hb
  have SW10 : W8.heap.size ≤ W10.heap.size := ho.size
  have HBW10 := Rep.Only.below HBW8 ho (by omega) (fun a ha => by cases ha)
  replace TaX := Rep.at_only TaX ho (by omega) (fun a ha => by cases ha)
  replace VaX := Rep.var_only VaX ho (by omega) (fun hb => by cases hb)
  clear HBW8
  clear ho
  go_wp2_with fail
  refine (lineOk_rep [.int .i64 x0.sock, .string x0.db, .int .i64 x0.gen, .int .i64 x0.st, .int .i64 x0.since, .int .i64 x0.asker, .int .i64 x0.lease] x0 W10 (Rep.reads lnR Ot9) FaX.out).mono ?_
  rintro e W13 ⟨he, hb⟩
  rw [HY.out] at he
  subst he
  have ho := Rep.only_of_below hb
  clear hb
  have SW13 : W10.heap.size ≤ W13.heap.size := ho.size
  have HBW13 := Rep.Only.below HBW10 ho (by omega) (fun a ha => by cases ha)
  replace TaX := Rep.at_only TaX ho (by omega) (fun a ha => by cases ha)
  replace Ot9 := Rep.own_only Ot9 ho (fun a ha hb => by cases hb)
  replace VaX := Rep.var_only VaX ho (by omega) (fun hb => by cases hb)
  clear HBW10
  clear ho
  clear Ot9 L12
  go_wp2_with fail
  go_ret
  exact ⟨rfl, HBW13⟩

end Go.Proofs.Ytaigdioimldknaa
