/- The walk of the exact law of GetItem. (By gen_l9h.py.) -/
import Derived.Test.YtgdhhhibkhfdlaaGetItemI
import Derived.Test.YtgdhhhibkhfdlaaGetItemS
namespace Go.Proofs.Ytgdhhhibkhfdlaa
open Go.RowKit
set_option linter.unusedVariables false

set_option maxRecDepth 100000 in
set_option maxHeartbeats 8000000 in
theorem walk_FnExactGetItem (a0 : Option Addr) (len0 cap0 : Nat) (z0 : List Int) (w : World) (w0 : IsRow .u8 w a0 len0 cap0 z0) :
    Calls Try.prog 6 #[.slice a0 len0 cap0] w fun e w' => e = .returned (.bool true) ∧ Below w.heap.size w w' := by
  obtain ⟨l, rfl, _, hr⟩ := w0.reads
  clear w0
  by_cases hbig : 1048576 < l.length
  · go_enter Try.func6, Try.ntmps6
    go_wp2_with fail
    go_ret
    exact ⟨rfl, Below.refl _ _⟩
  · have hn : l.length ≤ 1048576 := by omega
    obtain ⟨⟨x, k⟩, hp⟩ : ∃ p, getI l = p := ⟨_, rfl⟩
    have HP := Lib.hid hp
    clear hp
    have ny : (k != k) = false := by simp
    have HR := Lib.hid hr
    clear hr
    go_enter Try.func6, Try.ntmps6
    go_wp2_with fail
    refine (toByteS_any a0 cap0 l w HR.out (by omega)).mono ?_
    rintro e W1 ⟨v1, rfl, o1, hb⟩
    obtain ⟨A1, c1, rfl, hc1, _, r1, _⟩ := o1.shape
    have S : All (fun w' => Below w.heap.size w w') W1 := ⟨hb⟩
    clear o1 hb
    go_wp2_with fail
    refine (getItemS_any A1 c1 l W1 r1 (by omega) hc1).mono ?_
    rw [HP.out]
    rintro e W2 ⟨h9, hb⟩
    replace h9 : e = .returned (.tuple #[.agg #[.int .i64 x.kind, .int .i64 x.a.sock, .string x.a.db, .int .i64 x.a.st, .int .i64 x.a.ticket, .int .i64 x.a.since, .string x.a.q, .int .i64 x.a.line, .int .i64 x.a.lease, .int .i64 x.l.sock, .string x.l.db, .int .i64 x.l.gen, .int .i64 x.l.st, .int .i64 x.l.since, .int .i64 x.l.asker, .int .i64 x.l.lease], .bool k]) := h9
    subst h9
    replace S := S.later hb
    clear r1 hb
    have S2 : All (fun w' => Below w.heap.size w w' ∧ Hid (w'.heap[W2.heap.size]? = some (.cells #[.int .i64 x.kind, .int .i64 x.a.sock, .string x.a.db, .int .i64 x.a.st, .int .i64 x.a.ticket, .int .i64 x.a.since, .string x.a.q, .int .i64 x.a.line, .int .i64 x.a.lease, .int .i64 x.l.sock, .string x.l.db, .int .i64 x.l.gen, .int .i64 x.l.st, .int .i64 x.l.since, .int .i64 x.l.asker, .int .i64 x.l.lease] 54 (0, 0)))) (W2.alloc (.cells #[.int .i64 x.kind, .int .i64 x.a.sock, .string x.a.db, .int .i64 x.a.st, .int .i64 x.a.ticket, .int .i64 x.a.since, .string x.a.q, .int .i64 x.a.line, .int .i64 x.a.lease, .int .i64 x.l.sock, .string x.l.db, .int .i64 x.l.gen, .int .i64 x.l.st, .int .i64 x.l.since, .int .i64 x.l.asker, .int .i64 x.l.lease] 54)) := ⟨(S.alloc _).out, Lib.hid (heap_alloc_new W2 _)⟩
    clear S
    go_wp2_with fail
    replace S2 : All (fun w' => Below w.heap.size w w' ∧ Hid (w'.heap[W2.heap.size]? = some (.cells #[.int .i64 x.kind, .int .i64 x.a.sock, .string x.a.db, .int .i64 x.a.st, .int .i64 x.a.ticket, .int .i64 x.a.since, .string x.a.q, .int .i64 x.a.line, .int .i64 x.a.lease, .int .i64 x.l.sock, .string x.l.db, .int .i64 x.l.gen, .int .i64 x.l.st, .int .i64 x.l.since, .int .i64 x.l.asker, .int .i64 x.l.lease] 54 (0, 0)))) (W2.alloc (.cells #[.int .i64 x.kind, .int .i64 x.a.sock, .string x.a.db, .int .i64 x.a.st, .int .i64 x.a.ticket, .int .i64 x.a.since, .string x.a.q, .int .i64 x.a.line, .int .i64 x.a.lease, .int .i64 x.l.sock, .string x.l.db, .int .i64 x.l.gen, .int .i64 x.l.st, .int .i64 x.l.since, .int .i64 x.l.asker, .int .i64 x.l.lease] 54)) := S2
    generalize W2.alloc (.cells #[.int .i64 x.kind, .int .i64 x.a.sock, .string x.a.db, .int .i64 x.a.st, .int .i64 x.a.ticket, .int .i64 x.a.since, .string x.a.q, .int .i64 x.a.line, .int .i64 x.a.lease, .int .i64 x.l.sock, .string x.l.db, .int .i64 x.l.gen, .int .i64 x.l.st, .int .i64 x.l.since, .int .i64 x.l.asker, .int .i64 x.l.lease] 54) = W3 at S2 ⊢
    generalize W2.heap.size = D2 at S2 ⊢
    refine (toByteS_any a0 cap0 l W3 ((HR.out.below S2.out.1).more S2.out.1.size) (by omega)).mono ?_
    rintro e W4 ⟨v4, rfl, o4, hb⟩
    obtain ⟨A4, c4, rfl, hc4, _, r4, _⟩ := o4.shape
    have S4 : All (fun w' => (Below w.heap.size w w' ∧ Hid (w'.heap[D2]? = some (.cells #[.int .i64 x.kind, .int .i64 x.a.sock, .string x.a.db, .int .i64 x.a.st, .int .i64 x.a.ticket, .int .i64 x.a.since, .string x.a.q, .int .i64 x.a.line, .int .i64 x.a.lease, .int .i64 x.l.sock, .string x.l.db, .int .i64 x.l.gen, .int .i64 x.l.st, .int .i64 x.l.since, .int .i64 x.l.asker, .int .i64 x.l.lease] 54 (0, 0)))) ∧ Reads w' w'.heap.size 1 A4 l.length (bys l)) W4 := ⟨(S2.later hb).out, r4⟩
    clear o4 hb r4 S2
    go_wp2_with fail
    refine (getItem_any A4 c4 l W4 S4.out.2 (by omega) hc4).mono ?_
    rw [HP.out]
    rintro e W5 ⟨h9, hb⟩
    replace h9 : e = .returned (.tuple #[.agg #[.int .i64 x.kind, .int .i64 x.a.sock, .string x.a.db, .int .i64 x.a.st, .int .i64 x.a.ticket, .int .i64 x.a.since, .string x.a.q, .int .i64 x.a.line, .int .i64 x.a.lease, .int .i64 x.l.sock, .string x.l.db, .int .i64 x.l.gen, .int .i64 x.l.st, .int .i64 x.l.since, .int .i64 x.l.asker, .int .i64 x.l.lease], .bool k]) := h9
    subst h9
    replace S4 := S4.later hb
    clear hb
    have S6 : All (fun w' => ((Below w.heap.size w w' ∧ Hid (w'.heap[D2]? = some (.cells #[.int .i64 x.kind, .int .i64 x.a.sock, .string x.a.db, .int .i64 x.a.st, .int .i64 x.a.ticket, .int .i64 x.a.since, .string x.a.q, .int .i64 x.a.line, .int .i64 x.a.lease, .int .i64 x.l.sock, .string x.l.db, .int .i64 x.l.gen, .int .i64 x.l.st, .int .i64 x.l.since, .int .i64 x.l.asker, .int .i64 x.l.lease] 54 (0, 0)))) ∧ Reads w' w'.heap.size 1 A4 l.length (bys l)) ∧ Hid (w'.heap[W5.heap.size]? = some (.cells #[.int .i64 x.kind, .int .i64 x.a.sock, .string x.a.db, .int .i64 x.a.st, .int .i64 x.a.ticket, .int .i64 x.a.since, .string x.a.q, .int .i64 x.a.line, .int .i64 x.a.lease, .int .i64 x.l.sock, .string x.l.db, .int .i64 x.l.gen, .int .i64 x.l.st, .int .i64 x.l.since, .int .i64 x.l.asker, .int .i64 x.l.lease] 54 (0, 0)))) (W5.alloc (.cells #[.int .i64 x.kind, .int .i64 x.a.sock, .string x.a.db, .int .i64 x.a.st, .int .i64 x.a.ticket, .int .i64 x.a.since, .string x.a.q, .int .i64 x.a.line, .int .i64 x.a.lease, .int .i64 x.l.sock, .string x.l.db, .int .i64 x.l.gen, .int .i64 x.l.st, .int .i64 x.l.since, .int .i64 x.l.asker, .int .i64 x.l.lease] 54)) := ⟨(S4.alloc _).out, Lib.hid (heap_alloc_new W5 _)⟩
    have hlt : D2 < W5.heap.size := (Array.getElem?_eq_some_iff.1 S4.out.1.2.out).1
    have hlt2 : D2 < (W5.alloc (.cells #[.int .i64 x.kind, .int .i64 x.a.sock, .string x.a.db, .int .i64 x.a.st, .int .i64 x.a.ticket, .int .i64 x.a.since, .string x.a.q, .int .i64 x.a.line, .int .i64 x.a.lease, .int .i64 x.l.sock, .string x.l.db, .int .i64 x.l.gen, .int .i64 x.l.st, .int .i64 x.l.since, .int .i64 x.l.asker, .int .i64 x.l.lease] 54)).heap.size := by simp; omega
    clear S4
    go_upto_region 6 with (fail)
    replace S6 : All (fun w' => ((Below w.heap.size w w' ∧ Hid (w'.heap[D2]? = some (.cells #[.int .i64 x.kind, .int .i64 x.a.sock, .string x.a.db, .int .i64 x.a.st, .int .i64 x.a.ticket, .int .i64 x.a.since, .string x.a.q, .int .i64 x.a.line, .int .i64 x.a.lease, .int .i64 x.l.sock, .string x.l.db, .int .i64 x.l.gen, .int .i64 x.l.st, .int .i64 x.l.since, .int .i64 x.l.asker, .int .i64 x.l.lease] 54 (0, 0)))) ∧ Reads w' w'.heap.size 1 A4 l.length (bys l)) ∧ Hid (w'.heap[W5.heap.size]? = some (.cells #[.int .i64 x.kind, .int .i64 x.a.sock, .string x.a.db, .int .i64 x.a.st, .int .i64 x.a.ticket, .int .i64 x.a.since, .string x.a.q, .int .i64 x.a.line, .int .i64 x.a.lease, .int .i64 x.l.sock, .string x.l.db, .int .i64 x.l.gen, .int .i64 x.l.st, .int .i64 x.l.since, .int .i64 x.l.asker, .int .i64 x.l.lease] 54 (0, 0)))) (W5.alloc (.cells #[.int .i64 x.kind, .int .i64 x.a.sock, .string x.a.db, .int .i64 x.a.st, .int .i64 x.a.ticket, .int .i64 x.a.since, .string x.a.q, .int .i64 x.a.line, .int .i64 x.a.lease, .int .i64 x.l.sock, .string x.l.db, .int .i64 x.l.gen, .int .i64 x.l.st, .int .i64 x.l.since, .int .i64 x.l.asker, .int .i64 x.l.lease] 54)) := S6
    generalize W5.alloc (.cells #[.int .i64 x.kind, .int .i64 x.a.sock, .string x.a.db, .int .i64 x.a.st, .int .i64 x.a.ticket, .int .i64 x.a.since, .string x.a.q, .int .i64 x.a.line, .int .i64 x.a.lease, .int .i64 x.l.sock, .string x.l.db, .int .i64 x.l.gen, .int .i64 x.l.st, .int .i64 x.l.since, .int .i64 x.l.asker, .int .i64 x.l.lease] 54) = W6 at S6 hlt2 ⊢
    generalize W5.heap.size = D5 at S6 ⊢
    have d0 := var_cell S6.out.1.1.2.out 0
    have e0 := var_cell S6.out.2.out 0
    have d1 := var_cell S6.out.1.1.2.out 1
    have e1 := var_cell S6.out.2.out 1
    have d2 := var_cell S6.out.1.1.2.out 2
    have e2 := var_cell S6.out.2.out 2
    have d3 := var_cell S6.out.1.1.2.out 3
    have e3 := var_cell S6.out.2.out 3
    have d4 := var_cell S6.out.1.1.2.out 4
    have e4 := var_cell S6.out.2.out 4
    have d5 := var_cell S6.out.1.1.2.out 5
    have e5 := var_cell S6.out.2.out 5
    have d6 := var_cell S6.out.1.1.2.out 6
    have e6 := var_cell S6.out.2.out 6
    have d7 := var_cell S6.out.1.1.2.out 7
    have e7 := var_cell S6.out.2.out 7
    have d8 := var_cell S6.out.1.1.2.out 8
    have e8 := var_cell S6.out.2.out 8
    have d9 := var_cell S6.out.1.1.2.out 9
    have e9 := var_cell S6.out.2.out 9
    have d10 := var_cell S6.out.1.1.2.out 10
    have e10 := var_cell S6.out.2.out 10
    have d11 := var_cell S6.out.1.1.2.out 11
    have e11 := var_cell S6.out.2.out 11
    have d12 := var_cell S6.out.1.1.2.out 12
    have e12 := var_cell S6.out.2.out 12
    have d13 := var_cell S6.out.1.1.2.out 13
    have e13 := var_cell S6.out.2.out 13
    have d14 := var_cell S6.out.1.1.2.out 14
    have e14 := var_cell S6.out.2.out 14
    have d15 := var_cell S6.out.1.1.2.out 15
    have e15 := var_cell S6.out.2.out 15
    go_wp2_with fail
    refine (eqIt_same x W6).mono ?_
    rintro e W7 ⟨rfl, hb⟩
    replace S6 := S6.later hb
    clear hb d0 e0 d1 e1 d2 e2 d3 e3 d4 e4 d5 e5 d6 e6 d7 e7 d8 e8 d9 e9 d10 e10 d11 e11 d12 e12 d13 e13 d14 e14 d15 e15
    go_wp2_with fail
    refine (toByteS_any a0 cap0 l W7 ((HR.out.below S6.out.1.1.1).more S6.out.1.1.1.size) (by omega)).mono ?_
    rintro e W8 ⟨v8, rfl, o8, hb⟩
    obtain ⟨A8, c8, rfl, _, _, r8, _⟩ := o8.shape
    replace S6 := S6.later hb
    clear o8 hb
    go_wp2_with fail
    refine (eqByteS_same A4 A8 c4 c8 l W8 S6.out.1.2 r8 (by omega)).mono ?_
    rintro e W9 ⟨rfl, n9, rfl⟩
    have hfin := belowD S6.out.1.1.1 n9
    clear S6 r8
    go_wp2_with fail
    go_ret
    exact ⟨rfl, hfin⟩

end Go.Proofs.Ytgdhhhibkhfdlaa
