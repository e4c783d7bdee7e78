/- The walk of the exact law of AskerOk (written by gen.py). -/
import Derived.Test.YtaigdioimldknaaAskI
import Derived.Test.YtaigdioimldknaaAskS
import Derived.Test.YtaigdioimldknaaAskRep
import Derived.Test.YtaigdioimldknaaExactB
namespace Go.Proofs.Ytaigdioimldknaa
open Go.RowKit
set_option linter.unusedVariables false

set_option maxRecDepth 100000 in
set_option maxHeartbeats 4000000 in
theorem walk_FnExactAskerOk (w : World) (cs0 : List Value) (x0 : Ak) (w0 : akR.at_ w w.heap.size cs0 x0) (k0 : OkAk x0) :
    Calls Try.prog 6 #[.agg cs0.toArray] w fun e w' => e = .returned (.bool true) ∧ Below w.heap.size w w' := by
  obtain rfl := ak_at_shape w0
  have TaA := w0
  clear w0
  have HBw := Below.refl w.heap.size w
  go_enter Try.func6, Try.ntmps6
  go_wp2_with fail
  have ho := Rep.only_alloc w (.cells #[.int .i64 x0.sock, .string x0.db, .int .i64 x0.st, .int .i64 x0.ticket, .int .i64 x0.since, .string x0.q, .int .i64 x0.line, .int .i64 x0.lease] 72)
  have hv := heap_alloc_new w (.cells #[.int .i64 x0.sock, .string x0.db, .int .i64 x0.st, .int .i64 x0.ticket, .int .i64 x0.since, .string x0.q, .int .i64 x0.line, .int .i64 x0.lease] 72)
  have hs : w.heap.size < (w.alloc (.cells #[.int .i64 x0.sock, .string x0.db, .int .i64 x0.st, .int .i64 x0.ticket, .int .i64 x0.since, .string x0.q, .int .i64 x0.line, .int .i64 x0.lease] 72)).heap.size := by simp
  generalize hgW : w.alloc (.cells #[.int .i64 x0.sock, .string x0.db, .int .i64 x0.st, .int .i64 x0.ticket, .int .i64 x0.since, .string x0.q, .int .i64 x0.line, .int .i64 x0.lease] 72) = W1 at ho hv hs ⊢
  have hEW1 : Hid (W1.heap.size = w.heap.size + 1) := Lib.hid (by rw [← hgW]; simp)
  clear hgW
  have SW1 : w.heap.size ≤ W1.heap.size := ho.size
  have HBW1 := Rep.Only.below HBw ho (by omega) (fun a ha => by cases ha)
  replace TaA := Rep.at_only TaA ho (by omega) (fun a ha => by cases ha)
  clear HBw
  have VaA := Lib.hid hv
  clear hv ho
  have ZW1 : w.heap.size < W1.heap.size := hs
  clear hs
  refine (szAk_rep [.int .i64 x0.sock, .string x0.db, .int .i64 x0.st, .int .i64 x0.ticket, .int .i64 x0.since, .string x0.q, .int .i64 x0.line, .int .i64 x0.lease] x0 1048576 W1 (Rep.more akR TaA (by omega)) (by omega) k0).mono ?_
  rintro e W2 ⟨hz, hb⟩
  have ho := Rep.only_of_below hb
  clear hb
  have SW2 : W1.heap.size ≤ W2.heap.size := ho.size
  have HBW2 := Rep.Only.below HBW1 ho (by omega) (fun a ha => by cases ha)
  replace TaA := Rep.at_only TaA ho (by omega) (fun a ha => by cases ha)
  replace VaA := Rep.var_only VaA ho (by omega) (fun hb => by cases hb)
  clear HBW1
  clear ho
  obtain ⟨z3, hz3, HfitaA, rfl⟩ | rfl := hz
  rotate_left
  · go_wp2_with fail
    go_ret
    exact ⟨rfl, HBW2⟩
  have FaA := Lib.hid HfitaA
  clear HfitaA
  obtain ⟨Y, hy⟩ : ∃ Y, akB x0 = Y := ⟨_, rfl⟩
  have ny : (Y != Y) = false := by simp
  have HY := Lib.hid hy
  clear hy
  have qaA_0 : W2.cell? ⟨w.heap.size, 0, none⟩ = some (.int .i64 x0.sock) := var_cell VaA.out 0
  have qaA_1 : W2.cell? ⟨w.heap.size, 1, none⟩ = some (.string x0.db) := var_cell VaA.out 1
  have qaA_2 : W2.cell? ⟨w.heap.size, 2, none⟩ = some (.int .i64 x0.st) := var_cell VaA.out 2
  have qaA_3 : W2.cell? ⟨w.heap.size, 3, none⟩ = some (.int .i64 x0.ticket) := var_cell VaA.out 3
  have qaA_4 : W2.cell? ⟨w.heap.size, 4, none⟩ = some (.int .i64 x0.since) := var_cell VaA.out 4
  have qaA_5 : W2.cell? ⟨w.heap.size, 5, none⟩ = some (.string x0.q) := var_cell VaA.out 5
  have qaA_6 : W2.cell? ⟨w.heap.size, 6, none⟩ = some (.int .i64 x0.line) := var_cell VaA.out 6
  have qaA_7 : W2.cell? ⟨w.heap.size, 7, none⟩ = some (.int .i64 x0.lease) := var_cell VaA.out 7
  have laA : w.heap.size < W2.heap.size := by omega
  go_wp2_with fail
  clear qaA_0 qaA_1 qaA_2 qaA_3 qaA_4 qaA_5 qaA_6 qaA_7 laA
  refine (toAk_rep [.int .i64 x0.sock, .string x0.db, .int .i64 x0.st, .int .i64 x0.ticket, .int .i64 x0.since, .string x0.q, .int .i64 x0.line, .int .i64 x0.lease] x0 W2 (Rep.more akR TaA (by omega)) FaA.out).mono ?_
  rintro e W5 ⟨cs, fp6, rfl, Ot4, hb⟩
  obtain rfl := ak_own_shape Ot4
  have ho := Rep.only_of_below hb
  have L7 := Lib.hid (Rep.lt akR Ot4)
  clear hb
  have SW5 : W2.heap.size ≤ W5.heap.size := ho.size
  have HBW5 := Rep.Only.below HBW2 ho (by omega) (fun a ha => by cases ha)
  replace TaA := Rep.at_only TaA ho (by omega) (fun a ha => by cases ha)
  replace VaA := Rep.var_only VaA ho (by omega) (fun hb => by cases hb)
  clear HBW2
  clear ho
  go_wp2_with fail
  refine (askerOkS_rep [.int .i64 x0.sock, .string x0.db, .int .i64 x0.st, .int .i64 x0.ticket, .int .i64 x0.since, .string x0.q, .int .i64 x0.line, .int .i64 x0.lease] x0 W5 (Rep.reads akR Ot4) FaA.out).mono ?_
  rintro e W8 ⟨he, hb⟩
  rw [HY.out] at he
  subst he
  have ho := Rep.only_of_below hb
  clear hb
  have SW8 : W5.heap.size ≤ W8.heap.size := ho.size
  have HBW8 := Rep.Only.below HBW5 ho (by omega) (fun a ha => by cases ha)
  replace TaA := Rep.at_only TaA ho (by omega) (fun a ha => by cases ha)
  replace Ot4 := Rep.own_only Ot4 ho (fun a ha hb => by cases hb)
  replace VaA := Rep.var_only VaA ho (by omega) (fun hb => by cases hb)
  clear HBW5
  clear ho
  clear Ot4 L7
  have qaA_0 : W8.cell? ⟨w.heap.size, 0, none⟩ = some (.int .i64 x0.sock) := var_cell VaA.out 0
  have qaA_1 : W8.cell? ⟨w.heap.size, 1, none⟩ = some (.string x0.db) := var_cell VaA.out 1
  have qaA_2 : W8.cell? ⟨w.heap.size, 2, none⟩ = some (.int .i64 x0.st) := var_cell VaA.out 2
  have qaA_3 : W8.cell? ⟨w.heap.size, 3, none⟩ = some (.int .i64 x0.ticket) := var_cell VaA.out 3
  have qaA_4 : W8.cell? ⟨w.heap.size, 4, none⟩ = some (.int .i64 x0.since) := var_cell VaA.out 4
  have qaA_5 : W8.cell? ⟨w.heap.size, 5, none⟩ = some (.string x0.q) := var_cell VaA.out 5
  have qaA_6 : W8.cell? ⟨w.heap.size, 6, none⟩ = some (.int .i64 x0.line) := var_cell VaA.out 6
  have qaA_7 : W8.cell? ⟨w.heap.size, 7, none⟩ = some (.int .i64 x0.lease) := var_cell VaA.out 7
  have laA : w.heap.size < W8.heap.size := by omega
  go_wp2_with fail
  clear qaA_0 qaA_1 qaA_2 qaA_3 qaA_4 qaA_5 qaA_6 qaA_7 laA
  refine (toAk_rep [.int .i64 x0.sock, .string x0.db, .int .i64 x0.st, .int .i64 x0.ticket, .int .i64 x0.since, .string x0.q, .int .i64 x0.line, .int .i64 x0.lease] x0 W8 (Rep.more akR TaA (by omega)) FaA.out).mono ?_
  rintro e W10 ⟨cs, fp11, rfl, Ot9, hb⟩
  obtain rfl := ak_own_shape Ot9
  have ho := Rep.only_of_below hb
  have L12 := Lib.hid (Rep.lt akR Ot9)
  clear hb
  have SW10 : W8.heap.size ≤ W10.heap.size := ho.size
  have HBW10 := Rep.Only.below HBW8 ho (by omega) (fun a ha => by cases ha)
  replace TaA := Rep.at_only TaA ho (by omega) (fun a ha => by cases ha)
  replace VaA := Rep.var_only VaA ho (by omega) (fun hb => by cases hb)
  clear HBW8
  clear ho
  go_wp2_with fail
  refine (askerOk_rep [.int .i64 x0.sock, .string x0.db, .int .i64 x0.st, .int .i64 x0.ticket, .int .i64 x0.since, .string x0.q, .int .i64 x0.line, .int .i64 x0.lease] x0 W10 (Rep.reads akR Ot9) FaA.out).mono ?_
  rintro e W13 ⟨he, hb⟩
  rw [HY.out] at he
  subst he
  have ho := Rep.only_of_below hb
  clear hb
  have SW13 : W10.heap.size ≤ W13.heap.size := ho.size
  have HBW13 := Rep.Only.below HBW10 ho (by omega) (fun a ha => by cases ha)
  replace TaA := Rep.at_only TaA ho (by omega) (fun a ha => by cases ha)
  replace Ot9 := Rep.own_only Ot9 ho (fun a ha hb => by cases hb)
  replace VaA := Rep.var_only VaA ho (by omega) (fun hb => by cases hb)
  clear HBW10
  clear ho
  clear Ot9 L12
  go_wp2_with fail
  go_ret
  exact ⟨rfl, HBW13⟩

end Go.Proofs.Ytaigdioimldknaa
