/- The walk of the exact law of PutItem (written by gen.py). -/
import Derived.Test.YtaigdioimldknaaItemRep
import Derived.Test.YtaigdioimldknaaExactB
namespace Go.Proofs.Ytaigdioimldknaa
open Go.RowKit
set_option linter.unusedVariables false

set_option maxRecDepth 100000 in
set_option maxHeartbeats 4000000 in
theorem walk_FnExactPutItem (w : World) (cs0 : List Value) (x0 : It) (w0 : itR.at_ w w.heap.size cs0 x0) (k0 : OkIt x0) :
    Calls Try.prog 10 #[.agg cs0.toArray] w fun e w' => e = .returned (.bool true) ∧ Below w.heap.size w w' := by
  obtain rfl := it_at_shape w0
  have TaX := w0
  clear w0
  have HBw := Below.refl w.heap.size w
  go_enter Try.func10, Try.ntmps10
  go_wp2_with fail
  have ho := Rep.only_alloc w (.cells #[.int .i64 x0.kind, .int .i64 x0.a.sock, .string x0.a.db, .int .i64 x0.a.st, .int .i64 x0.a.ticket, .int .i64 x0.a.since, .string x0.a.q, .int .i64 x0.a.line, .int .i64 x0.a.lease, .int .i64 x0.l.sock, .string x0.l.db, .int .i64 x0.l.gen, .int .i64 x0.l.st, .int .i64 x0.l.since, .int .i64 x0.l.asker, .int .i64 x0.l.lease] 95)
  have hv := heap_alloc_new w (.cells #[.int .i64 x0.kind, .int .i64 x0.a.sock, .string x0.a.db, .int .i64 x0.a.st, .int .i64 x0.a.ticket, .int .i64 x0.a.since, .string x0.a.q, .int .i64 x0.a.line, .int .i64 x0.a.lease, .int .i64 x0.l.sock, .string x0.l.db, .int .i64 x0.l.gen, .int .i64 x0.l.st, .int .i64 x0.l.since, .int .i64 x0.l.asker, .int .i64 x0.l.lease] 95)
  have hs : w.heap.size < (w.alloc (.cells #[.int .i64 x0.kind, .int .i64 x0.a.sock, .string x0.a.db, .int .i64 x0.a.st, .int .i64 x0.a.ticket, .int .i64 x0.a.since, .string x0.a.q, .int .i64 x0.a.line, .int .i64 x0.a.lease, .int .i64 x0.l.sock, .string x0.l.db, .int .i64 x0.l.gen, .int .i64 x0.l.st, .int .i64 x0.l.since, .int .i64 x0.l.asker, .int .i64 x0.l.lease] 95)).heap.size := by simp
  generalize hgW : w.alloc (.cells #[.int .i64 x0.kind, .int .i64 x0.a.sock, .string x0.a.db, .int .i64 x0.a.st, .int .i64 x0.a.ticket, .int .i64 x0.a.since, .string x0.a.q, .int .i64 x0.a.line, .int .i64 x0.a.lease, .int .i64 x0.l.sock, .string x0.l.db, .int .i64 x0.l.gen, .int .i64 x0.l.st, .int .i64 x0.l.since, .int .i64 x0.l.asker, .int .i64 x0.l.lease] 95) = W1 at ho hv hs ⊢
  have hEW1 : Hid (W1.heap.size = w.heap.size + 1) := Lib.hid (by rw [← hgW]; simp)
  clear hgW
  have SW1 : w.heap.size ≤ W1.heap.size := ho.size
  have HBW1 := Rep.Only.below HBw ho (by omega) (fun a ha => by cases ha)
  replace TaX := Rep.at_only TaX ho (by omega) (fun a ha => by cases ha)
  clear HBw
  have VaX := Lib.hid hv
  clear hv ho
  have ZW1 : w.heap.size < W1.heap.size := hs
  clear hs
  refine (szIt_rep [.int .i64 x0.kind, .int .i64 x0.a.sock, .string x0.a.db, .int .i64 x0.a.st, .int .i64 x0.a.ticket, .int .i64 x0.a.since, .string x0.a.q, .int .i64 x0.a.line, .int .i64 x0.a.lease, .int .i64 x0.l.sock, .string x0.l.db, .int .i64 x0.l.gen, .int .i64 x0.l.st, .int .i64 x0.l.since, .int .i64 x0.l.asker, .int .i64 x0.l.lease] x0 1048576 W1 (Rep.more itR TaX (by omega)) (by omega) k0).mono ?_
  rintro e W2 ⟨hz, hb⟩
  have ho := Rep.only_of_below hb
  clear hb
  have SW2 : W1.heap.size ≤ W2.heap.size := ho.size
  have HBW2 := Rep.Only.below HBW1 ho (by omega) (fun a ha => by cases ha)
  replace TaX := Rep.at_only TaX ho (by omega) (fun a ha => by cases ha)
  replace VaX := Rep.var_only VaX ho (by omega) (fun hb => by cases hb)
  clear HBW1
  clear ho
  obtain ⟨z3, hz3, HfitaX, rfl⟩ | rfl := hz
  rotate_left
  · go_wp2_with fail
    go_ret
    exact ⟨rfl, HBW2⟩
  have FaX := Lib.hid HfitaX
  clear HfitaX
  obtain ⟨Y, hy⟩ : ∃ Y, itemB x0 = Y := ⟨_, rfl⟩
  have FY : FitsB Y := by rw [← hy]; exact fits_item x0
  have HY := Lib.hid hy
  clear hy
  have qaX_0 : W2.cell? ⟨w.heap.size, 0, none⟩ = some (.int .i64 x0.kind) := var_cell VaX.out 0
  have qaX_1 : W2.cell? ⟨w.heap.size, 1, none⟩ = some (.int .i64 x0.a.sock) := var_cell VaX.out 1
  have qaX_2 : W2.cell? ⟨w.heap.size, 2, none⟩ = some (.string x0.a.db) := var_cell VaX.out 2
  have qaX_3 : W2.cell? ⟨w.heap.size, 3, none⟩ = some (.int .i64 x0.a.st) := var_cell VaX.out 3
  have qaX_4 : W2.cell? ⟨w.heap.size, 4, none⟩ = some (.int .i64 x0.a.ticket) := var_cell VaX.out 4
  have qaX_5 : W2.cell? ⟨w.heap.size, 5, none⟩ = some (.int .i64 x0.a.since) := var_cell VaX.out 5
  have qaX_6 : W2.cell? ⟨w.heap.size, 6, none⟩ = some (.string x0.a.q) := var_cell VaX.out 6
  have qaX_7 : W2.cell? ⟨w.heap.size, 7, none⟩ = some (.int .i64 x0.a.line) := var_cell VaX.out 7
  have qaX_8 : W2.cell? ⟨w.heap.size, 8, none⟩ = some (.int .i64 x0.a.lease) := var_cell VaX.out 8
  have qaX_9 : W2.cell? ⟨w.heap.size, 9, none⟩ = some (.int .i64 x0.l.sock) := var_cell VaX.out 9
  have qaX_10 : W2.cell? ⟨w.heap.size, 10, none⟩ = some (.string x0.l.db) := var_cell VaX.out 10
  have qaX_11 : W2.cell? ⟨w.heap.size, 11, none⟩ = some (.int .i64 x0.l.gen) := var_cell VaX.out 11
  have qaX_12 : W2.cell? ⟨w.heap.size, 12, none⟩ = some (.int .i64 x0.l.st) := var_cell VaX.out 12
  have qaX_13 : W2.cell? ⟨w.heap.size, 13, none⟩ = some (.int .i64 x0.l.since) := var_cell VaX.out 13
  have qaX_14 : W2.cell? ⟨w.heap.size, 14, none⟩ = some (.int .i64 x0.l.asker) := var_cell VaX.out 14
  have qaX_15 : W2.cell? ⟨w.heap.size, 15, none⟩ = some (.int .i64 x0.l.lease) := var_cell VaX.out 15
  have laX : w.heap.size < W2.heap.size := by omega
  go_wp2_with fail
  clear qaX_0 qaX_1 qaX_2 qaX_3 qaX_4 qaX_5 qaX_6 qaX_7 qaX_8 qaX_9 qaX_10 qaX_11 qaX_12 qaX_13 qaX_14 qaX_15 laX
  refine (toIt_rep [.int .i64 x0.kind, .int .i64 x0.a.sock, .string x0.a.db, .int .i64 x0.a.st, .int .i64 x0.a.ticket, .int .i64 x0.a.since, .string x0.a.q, .int .i64 x0.a.line, .int .i64 x0.a.lease, .int .i64 x0.l.sock, .string x0.l.db, .int .i64 x0.l.gen, .int .i64 x0.l.st, .int .i64 x0.l.since, .int .i64 x0.l.asker, .int .i64 x0.l.lease] x0 W2 (Rep.more itR TaX (by omega)) FaX.out).mono ?_
  rintro e W5 ⟨cs, fp6, rfl, Ot4, hb⟩
  obtain rfl := it_own_shape Ot4
  have ho := Rep.only_of_below hb
  have L7 := Lib.hid (Rep.lt itR Ot4)
  clear hb
  have SW5 : W2.heap.size ≤ W5.heap.size := ho.size
  have HBW5 := Rep.Only.below HBW2 ho (by omega) (fun a ha => by cases ha)
  replace TaX := Rep.at_only TaX ho (by omega) (fun a ha => by cases ha)
  replace VaX := Rep.var_only VaX ho (by omega) (fun hb => by cases hb)
  clear HBW2
  clear ho
  go_wp2_with fail
  refine (putItemS_rep [.int .i64 x0.kind, .int .i64 x0.a.sock, .string x0.a.db, .int .i64 x0.a.st, .int .i64 x0.a.ticket, .int .i64 x0.a.since, .string x0.a.q, .int .i64 x0.a.line, .int .i64 x0.a.lease, .int .i64 x0.l.sock, .string x0.l.db, .int .i64 x0.l.gen, .int .i64 x0.l.st, .int .i64 x0.l.since, .int .i64 x0.l.asker, .int .i64 x0.l.lease] x0 W5 (Rep.reads itR Ot4) FaX.out).mono ?_
  rw [HY.out]
  rintro e W8 ⟨A10, c11, fp9, rfl, Ow0, hb⟩
  have Tw0 := Rep.reads byR Ow0
  clear Ow0
  have ho := Rep.only_of_below hb
  clear hb
  have SW8 : W5.heap.size ≤ W8.heap.size := ho.size
  have HBW8 := Rep.Only.below HBW5 ho (by omega) (fun a ha => by cases ha)
  replace TaX := Rep.at_only TaX ho (by omega) (fun a ha => by cases ha)
  replace Ot4 := Rep.own_only Ot4 ho (fun a ha hb => by cases hb)
  replace VaX := Rep.var_only VaX ho (by omega) (fun hb => by cases hb)
  clear HBW5
  clear ho
  clear Ot4 L7
  have qaX_0 : W8.cell? ⟨w.heap.size, 0, none⟩ = some (.int .i64 x0.kind) := var_cell VaX.out 0
  have qaX_1 : W8.cell? ⟨w.heap.size, 1, none⟩ = some (.int .i64 x0.a.sock) := var_cell VaX.out 1
  have qaX_2 : W8.cell? ⟨w.heap.size, 2, none⟩ = some (.string x0.a.db) := var_cell VaX.out 2
  have qaX_3 : W8.cell? ⟨w.heap.size, 3, none⟩ = some (.int .i64 x0.a.st) := var_cell VaX.out 3
  have qaX_4 : W8.cell? ⟨w.heap.size, 4, none⟩ = some (.int .i64 x0.a.ticket) := var_cell VaX.out 4
  have qaX_5 : W8.cell? ⟨w.heap.size, 5, none⟩ = some (.int .i64 x0.a.since) := var_cell VaX.out 5
  have qaX_6 : W8.cell? ⟨w.heap.size, 6, none⟩ = some (.string x0.a.q) := var_cell VaX.out 6
  have qaX_7 : W8.cell? ⟨w.heap.size, 7, none⟩ = some (.int .i64 x0.a.line) := var_cell VaX.out 7
  have qaX_8 : W8.cell? ⟨w.heap.size, 8, none⟩ = some (.int .i64 x0.a.lease) := var_cell VaX.out 8
  have qaX_9 : W8.cell? ⟨w.heap.size, 9, none⟩ = some (.int .i64 x0.l.sock) := var_cell VaX.out 9
  have qaX_10 : W8.cell? ⟨w.heap.size, 10, none⟩ = some (.string x0.l.db) := var_cell VaX.out 10
  have qaX_11 : W8.cell? ⟨w.heap.size, 11, none⟩ = some (.int .i64 x0.l.gen) := var_cell VaX.out 11
  have qaX_12 : W8.cell? ⟨w.heap.size, 12, none⟩ = some (.int .i64 x0.l.st) := var_cell VaX.out 12
  have qaX_13 : W8.cell? ⟨w.heap.size, 13, none⟩ = some (.int .i64 x0.l.since) := var_cell VaX.out 13
  have qaX_14 : W8.cell? ⟨w.heap.size, 14, none⟩ = some (.int .i64 x0.l.asker) := var_cell VaX.out 14
  have qaX_15 : W8.cell? ⟨w.heap.size, 15, none⟩ = some (.int .i64 x0.l.lease) := var_cell VaX.out 15
  have laX : w.heap.size < W8.heap.size := by omega
  go_wp2_with fail
  clear qaX_0 qaX_1 qaX_2 qaX_3 qaX_4 qaX_5 qaX_6 qaX_7 qaX_8 qaX_9 qaX_10 qaX_11 qaX_12 qaX_13 qaX_14 qaX_15 laX
  refine (toIt_rep [.int .i64 x0.kind, .int .i64 x0.a.sock, .string x0.a.db, .int .i64 x0.a.st, .int .i64 x0.a.ticket, .int .i64 x0.a.since, .string x0.a.q, .int .i64 x0.a.line, .int .i64 x0.a.lease, .int .i64 x0.l.sock, .string x0.l.db, .int .i64 x0.l.gen, .int .i64 x0.l.st, .int .i64 x0.l.since, .int .i64 x0.l.asker, .int .i64 x0.l.lease] x0 W8 (Rep.more itR TaX (by omega)) FaX.out).mono ?_
  rintro e W13 ⟨cs, fp14, rfl, Ot12, hb⟩
  obtain rfl := it_own_shape Ot12
  have ho := Rep.only_of_below hb
  have L15 := Lib.hid (Rep.lt itR Ot12)
  clear hb
  have SW13 : W8.heap.size ≤ W13.heap.size := ho.size
  have HBW13 := Rep.Only.below HBW8 ho (by omega) (fun a ha => by cases ha)
  replace TaX := Rep.at_only TaX ho (by omega) (fun a ha => by cases ha)
  replace Tw0 := Rep.at_only Tw0 ho (by omega) (fun a ha => by cases ha)
  replace VaX := Rep.var_only VaX ho (by omega) (fun hb => by cases hb)
  clear HBW8
  clear ho
  go_wp2_with fail
  refine (putItem_rep [.int .i64 x0.kind, .int .i64 x0.a.sock, .string x0.a.db, .int .i64 x0.a.st, .int .i64 x0.a.ticket, .int .i64 x0.a.since, .string x0.a.q, .int .i64 x0.a.line, .int .i64 x0.a.lease, .int .i64 x0.l.sock, .string x0.l.db, .int .i64 x0.l.gen, .int .i64 x0.l.st, .int .i64 x0.l.since, .int .i64 x0.l.asker, .int .i64 x0.l.lease] x0 W13 (Rep.reads itR Ot12) FaX.out).mono ?_
  rw [HY.out]
  rintro e W16 ⟨A18, c19, fp17, rfl, Og0, hb⟩
  have ho := Rep.only_of_below hb
  have L20 := Lib.hid (Rep.lt byR Og0)
  clear hb
  have SW16 : W13.heap.size ≤ W16.heap.size := ho.size
  have HBW16 := Rep.Only.below HBW13 ho (by omega) (fun a ha => by cases ha)
  replace TaX := Rep.at_only TaX ho (by omega) (fun a ha => by cases ha)
  replace Tw0 := Rep.at_only Tw0 ho (by omega) (fun a ha => by cases ha)
  replace Ot12 := Rep.own_only Ot12 ho (fun a ha hb => by cases hb)
  replace VaX := Rep.var_only VaX ho (by omega) (fun hb => by cases hb)
  clear HBW13
  clear ho
  clear Ot12 L15
  go_wp2_with fail
  refine (eqByteS_rep [.slice A18 Y.length c19] [.slice A10 Y.length c11] Y W16 (Rep.reads byR Og0) (Rep.more byR Tw0 (by omega)) FY).mono ?_
  rintro e W21 ⟨rfl, hb⟩
  have ho := Rep.only_of_below hb
  clear hb
  have SW21 : W16.heap.size ≤ W21.heap.size := ho.size
  have HBW21 := Rep.Only.below HBW16 ho (by omega) (fun a ha => by cases ha)
  replace TaX := Rep.at_only TaX ho (by omega) (fun a ha => by cases ha)
  replace Tw0 := Rep.at_only Tw0 ho (by omega) (fun a ha => by cases ha)
  replace Og0 := Rep.own_only Og0 ho (fun a ha hb => by cases hb)
  replace VaX := Rep.var_only VaX ho (by omega) (fun hb => by cases hb)
  clear HBW16
  clear ho
  go_wp2_with fail
  obtain ⟨N23, hN, hN2⟩ : ∃ N : Nat, 1 + List.length Y = N ∧ N ≤ 1 + 8796093022208 := ⟨_, rfl, by have := byte_cnt_le FY; omega⟩
  have HN23 := Lib.hid hN
  have BN23 := hN2
  clear hN hN2
  refine (markByteS_rep [.slice A18 Y.length c19] 1 Y fp17 W21 _ Og0 FY (by omega)).mono ?_
  rintro e W22 ⟨he, hown, ho⟩
  rw [HN23.out] at he
  subst he
  replace Og0 := hown
  clear hown
  have SW22 : W21.heap.size ≤ W22.heap.size := ho.size
  have HBW22 := Rep.Only.below HBW21 ho (by omega) (fun a ha => by have := (L20.out a ha).1; omega)
  replace TaX := Rep.at_only TaX ho (by omega) (fun a ha => by have := (L20.out a ha).1; omega)
  replace Tw0 := Rep.at_only Tw0 ho (by omega) (fun a ha => by have := (L20.out a ha).1; omega)
  replace VaX := Rep.var_only VaX ho (by omega) (fun hb => by have := L20.out _ hb; omega)
  clear HBW21
  clear ho
  go_wp2_with fail
  refine (heldByteS_rep [.slice A18 Y.length c19] 1 Y W22 (Rep.reads byR Og0) FY (by omega)).mono ?_
  rintro e W24 ⟨he, hb⟩
  rw [HN23.out] at he
  subst he
  have ho := Rep.only_of_below hb
  clear hb
  have SW24 : W22.heap.size ≤ W24.heap.size := ho.size
  have HBW24 := Rep.Only.below HBW22 ho (by omega) (fun a ha => by cases ha)
  replace TaX := Rep.at_only TaX ho (by omega) (fun a ha => by cases ha)
  replace Tw0 := Rep.at_only Tw0 ho (by omega) (fun a ha => by cases ha)
  replace Og0 := Rep.own_only Og0 ho (fun a ha hb => by cases hb)
  replace VaX := Rep.var_only VaX ho (by omega) (fun hb => by cases hb)
  clear HBW22
  clear ho
  have nn25 : ((N23 : Int) != (N23 : Int)) = false := by simp
  have qaX_0 : W24.cell? ⟨w.heap.size, 0, none⟩ = some (.int .i64 x0.kind) := var_cell VaX.out 0
  have qaX_1 : W24.cell? ⟨w.heap.size, 1, none⟩ = some (.int .i64 x0.a.sock) := var_cell VaX.out 1
  have qaX_2 : W24.cell? ⟨w.heap.size, 2, none⟩ = some (.string x0.a.db) := var_cell VaX.out 2
  have qaX_3 : W24.cell? ⟨w.heap.size, 3, none⟩ = some (.int .i64 x0.a.st) := var_cell VaX.out 3
  have qaX_4 : W24.cell? ⟨w.heap.size, 4, none⟩ = some (.int .i64 x0.a.ticket) := var_cell VaX.out 4
  have qaX_5 : W24.cell? ⟨w.heap.size, 5, none⟩ = some (.int .i64 x0.a.since) := var_cell VaX.out 5
  have qaX_6 : W24.cell? ⟨w.heap.size, 6, none⟩ = some (.string x0.a.q) := var_cell VaX.out 6
  have qaX_7 : W24.cell? ⟨w.heap.size, 7, none⟩ = some (.int .i64 x0.a.line) := var_cell VaX.out 7
  have qaX_8 : W24.cell? ⟨w.heap.size, 8, none⟩ = some (.int .i64 x0.a.lease) := var_cell VaX.out 8
  have qaX_9 : W24.cell? ⟨w.heap.size, 9, none⟩ = some (.int .i64 x0.l.sock) := var_cell VaX.out 9
  have qaX_10 : W24.cell? ⟨w.heap.size, 10, none⟩ = some (.string x0.l.db) := var_cell VaX.out 10
  have qaX_11 : W24.cell? ⟨w.heap.size, 11, none⟩ = some (.int .i64 x0.l.gen) := var_cell VaX.out 11
  have qaX_12 : W24.cell? ⟨w.heap.size, 12, none⟩ = some (.int .i64 x0.l.st) := var_cell VaX.out 12
  have qaX_13 : W24.cell? ⟨w.heap.size, 13, none⟩ = some (.int .i64 x0.l.since) := var_cell VaX.out 13
  have qaX_14 : W24.cell? ⟨w.heap.size, 14, none⟩ = some (.int .i64 x0.l.asker) := var_cell VaX.out 14
  have qaX_15 : W24.cell? ⟨w.heap.size, 15, none⟩ = some (.int .i64 x0.l.lease) := var_cell VaX.out 15
  have laX : w.heap.size < W24.heap.size := by omega
  go_wp2_with fail
  clear qaX_0 qaX_1 qaX_2 qaX_3 qaX_4 qaX_5 qaX_6 qaX_7 qaX_8 qaX_9 qaX_10 qaX_11 qaX_12 qaX_13 qaX_14 qaX_15 laX
  refine (toIt_rep [.int .i64 x0.kind, .int .i64 x0.a.sock, .string x0.a.db, .int .i64 x0.a.st, .int .i64 x0.a.ticket, .int .i64 x0.a.since, .string x0.a.q, .int .i64 x0.a.line, .int .i64 x0.a.lease, .int .i64 x0.l.sock, .string x0.l.db, .int .i64 x0.l.gen, .int .i64 x0.l.st, .int .i64 x0.l.since, .int .i64 x0.l.asker, .int .i64 x0.l.lease] x0 W24 (Rep.more itR TaX (by omega)) FaX.out).mono ?_
  rintro e W27 ⟨cs, fp28, rfl, Ot26, hb⟩
  obtain rfl := it_own_shape Ot26
  have ho := Rep.only_of_below hb
  have L29 := Lib.hid (Rep.lt itR Ot26)
  clear hb
  have SW27 : W24.heap.size ≤ W27.heap.size := ho.size
  have HBW27 := Rep.Only.below HBW24 ho (by omega) (fun a ha => by cases ha)
  replace TaX := Rep.at_only TaX ho (by omega) (fun a ha => by cases ha)
  replace Tw0 := Rep.at_only Tw0 ho (by omega) (fun a ha => by cases ha)
  replace Og0 := Rep.own_only Og0 ho (fun a ha hb => by cases hb)
  replace VaX := Rep.var_only VaX ho (by omega) (fun hb => by cases hb)
  clear HBW24
  clear ho
  go_wp2_with fail
  refine (putItem_rep [.int .i64 x0.kind, .int .i64 x0.a.sock, .string x0.a.db, .int .i64 x0.a.st, .int .i64 x0.a.ticket, .int .i64 x0.a.since, .string x0.a.q, .int .i64 x0.a.line, .int .i64 x0.a.lease, .int .i64 x0.l.sock, .string x0.l.db, .int .i64 x0.l.gen, .int .i64 x0.l.st, .int .i64 x0.l.since, .int .i64 x0.l.asker, .int .i64 x0.l.lease] x0 W27 (Rep.reads itR Ot26) FaX.out).mono ?_
  rw [HY.out]
  rintro e W30 ⟨A32, c33, fp31, rfl, Oh0, hb⟩
  have ho := Rep.only_of_below hb
  have L34 := Lib.hid (Rep.lt byR Oh0)
  clear hb
  have SW30 : W27.heap.size ≤ W30.heap.size := ho.size
  have HBW30 := Rep.Only.below HBW27 ho (by omega) (fun a ha => by cases ha)
  replace TaX := Rep.at_only TaX ho (by omega) (fun a ha => by cases ha)
  replace Tw0 := Rep.at_only Tw0 ho (by omega) (fun a ha => by cases ha)
  replace Og0 := Rep.own_only Og0 ho (fun a ha hb => by cases hb)
  replace Ot26 := Rep.own_only Ot26 ho (fun a ha hb => by cases hb)
  replace VaX := Rep.var_only VaX ho (by omega) (fun hb => by cases hb)
  clear HBW27
  clear ho
  clear Ot26 L29
  go_wp2_with fail
  refine (eqByteS_rep [.slice A32 Y.length c33] [.slice A10 Y.length c11] Y W30 (Rep.reads byR Oh0) (Rep.more byR Tw0 (by omega)) FY).mono ?_
  rintro e W35 ⟨rfl, hb⟩
  have ho := Rep.only_of_below hb
  clear hb
  have SW35 : W30.heap.size ≤ W35.heap.size := ho.size
  have HBW35 := Rep.Only.below HBW30 ho (by omega) (fun a ha => by cases ha)
  replace TaX := Rep.at_only TaX ho (by omega) (fun a ha => by cases ha)
  replace Tw0 := Rep.at_only Tw0 ho (by omega) (fun a ha => by cases ha)
  replace Og0 := Rep.own_only Og0 ho (fun a ha hb => by cases hb)
  replace Oh0 := Rep.own_only Oh0 ho (fun a ha hb => by cases hb)
  replace VaX := Rep.var_only VaX ho (by omega) (fun hb => by cases hb)
  clear HBW30
  clear ho
  clear Oh0 L34
  clear TaX
  clear Tw0
  go_wp2_with fail
  refine (heldByteS_rep [.slice A18 Y.length c19] 1 Y W35 (Rep.reads byR Og0) FY (by omega)).mono ?_
  rintro e W36 ⟨he, hb⟩
  rw [HN23.out] at he
  subst he
  have ho := Rep.only_of_below hb
  clear hb
  have SW36 : W35.heap.size ≤ W36.heap.size := ho.size
  have HBW36 := Rep.Only.below HBW35 ho (by omega) (fun a ha => by cases ha)
  replace Og0 := Rep.own_only Og0 ho (fun a ha hb => by cases hb)
  clear HBW35
  clear ho
  have nn37 : ((N23 : Int) != (N23 : Int)) = false := by simp
  go_wp2_with fail
  go_ret
  exact ⟨rfl, HBW36⟩

end Go.Proofs.Ytaigdioimldknaa
