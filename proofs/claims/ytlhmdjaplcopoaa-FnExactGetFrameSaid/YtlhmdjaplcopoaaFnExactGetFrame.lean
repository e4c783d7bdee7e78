/- The walk of the exact law of GetFrame. -/
import Derived.Test.YtlhmdjaplcopoaaGetFrameI
import Derived.Test.YtlhmdjaplcopoaaBent
namespace Go.Proofs.Ytlhmdjaplcopoaa
open Go.RowKit
set_option linter.unusedVariables false

set_option maxRecDepth 10000 in
set_option maxHeartbeats 8000000 in
theorem walk_FnExactGetFrame (a0 : Option Addr) (len0 cap0 : Nat) (z0 : List Int) (w : World) (w0 : IsRow .u8 w a0 len0 cap0 z0) :
    Calls Try.prog 7 #[.slice a0 len0 cap0] w fun e w' => e = .returned (.bool true) ∧ Below w.heap.size w w' := by
  obtain ⟨l, rfl, _, hr⟩ := w0.reads
  clear w0
  by_cases hbig : 1048576 < l.length
  · go_enter Try.func7, Try.ntmps7
    go_wp2_with fail
    go_ret
    exact ⟨rfl, Below.refl _ _⟩
  · have hn : l.length ≤ 1048576 := by omega
    obtain ⟨⟨⟨fk, fs, fst⟩, n, code⟩, hp⟩ : ∃ p, getF l = p := ⟨_, rfl⟩
    have HP := Lib.hid hp
    clear hp
    have nx : (n != n) = false := by simp
    have ny : (code != code) = false := by simp
    have HR := Lib.hid hr
    clear hr
    go_enter Try.func7, Try.ntmps7
    go_wp2_with fail
    refine (toByteS_any a0 cap0 l w HR.out (by omega)).mono ?_
    rintro e W1 ⟨v1, rfl, o1, hb⟩
    obtain ⟨A1, c1, rfl, hc1, _, r1, _⟩ := o1.shape
    have S : All (fun w' => Below w.heap.size w w') W1 := ⟨hb⟩
    clear o1 hb
    go_wp2_with fail
    refine (getFrameS_any A1 c1 l W1 r1 (by omega) hc1).mono ?_
    rw [HP.out]
    rintro e W2 ⟨h9, hb⟩
    replace h9 : e = .returned (.tuple #[.agg #[.int .i64 fk, .string fs, .int .i64 fst], .int .i64 n, .int .i64 code]) := h9
    subst h9
    replace S := S.later hb
    clear r1 hb
    have S2 : All (fun w' => Below w.heap.size w w' ∧ Hid (w'.heap[W2.heap.size]? = some (.cells (frC ⟨fk, fs, fst⟩).toArray 25 (0, 0)))) (W2.alloc (.cells (frC ⟨fk, fs, fst⟩).toArray 25)) := ⟨(S.alloc _).out, Lib.hid (heap_alloc_new W2 _)⟩
    clear S
    go_wp2_with fail
    replace S2 : All (fun w' => Below w.heap.size w w' ∧ Hid (w'.heap[W2.heap.size]? = some (.cells (frC ⟨fk, fs, fst⟩).toArray 25 (0, 0)))) (W2.alloc (.cells #[.int .i64 fk, .string fs, .int .i64 fst] 25)) := S2
    generalize W2.alloc (.cells #[.int .i64 fk, .string fs, .int .i64 fst] 25) = W3 at S2 ⊢
    generalize W2.heap.size = D2 at S2 ⊢
    refine (toByteS_any a0 cap0 l W3 ((HR.out.below S2.out.1).more S2.out.1.size) (by omega)).mono ?_
    rintro e W4 ⟨v4, rfl, o4, hb⟩
    obtain ⟨A4, c4, rfl, hc4, _, r4, _⟩ := o4.shape
    have S4 : All (fun w' => (Below w.heap.size w w' ∧ Hid (w'.heap[D2]? = some (.cells (frC ⟨fk, fs, fst⟩).toArray 25 (0, 0)))) ∧ Reads w' w'.heap.size 1 A4 l.length (bys l)) W4 := ⟨(S2.later hb).out, r4⟩
    clear o4 hb r4 S2
    go_wp2_with fail
    refine (getFrame_any A4 c4 l W4 S4.out.2 (by omega) hc4).mono ?_
    rw [HP.out]
    rintro e W5 ⟨h9, hb⟩
    replace h9 : e = .returned (.tuple #[.agg #[.int .i64 fk, .string fs, .int .i64 fst], .int .i64 n, .int .i64 code]) := h9
    subst h9
    replace S4 := S4.later hb
    clear hb
    have S6 : All (fun w' => ((Below w.heap.size w w' ∧ Hid (w'.heap[D2]? = some (.cells (frC ⟨fk, fs, fst⟩).toArray 25 (0, 0)))) ∧ Reads w' w'.heap.size 1 A4 l.length (bys l)) ∧ Hid (w'.heap[W5.heap.size]? = some (.cells (frC ⟨fk, fs, fst⟩).toArray 25 (0, 0)))) (W5.alloc (.cells (frC ⟨fk, fs, fst⟩).toArray 25)) := ⟨(S4.alloc _).out, Lib.hid (heap_alloc_new W5 _)⟩
    have hlt : D2 < W5.heap.size := (Array.getElem?_eq_some_iff.1 S4.out.1.2.out).1
    have hlt2 : D2 < (W5.alloc (.cells #[.int .i64 fk, .string fs, .int .i64 fst] 25)).heap.size := by simp; omega
    clear S4
    go_upto_region 6 with (fail)
    replace S6 : All (fun w' => ((Below w.heap.size w w' ∧ Hid (w'.heap[D2]? = some (.cells (frC ⟨fk, fs, fst⟩).toArray 25 (0, 0)))) ∧ Reads w' w'.heap.size 1 A4 l.length (bys l)) ∧ Hid (w'.heap[W5.heap.size]? = some (.cells (frC ⟨fk, fs, fst⟩).toArray 25 (0, 0)))) (W5.alloc (.cells #[.int .i64 fk, .string fs, .int .i64 fst] 25)) := S6
    generalize W5.alloc (.cells #[.int .i64 fk, .string fs, .int .i64 fst] 25) = W6 at S6 hlt2 ⊢
    generalize W5.heap.size = D5 at S6 ⊢
    obtain ⟨d0, d1, d2⟩ := fr_box S6.out.1.1.2.out
    obtain ⟨e0, e1, e2⟩ := fr_box S6.out.2.out
    go_wp2_with fail
    refine (eqFr_same ⟨fk, fs, fst⟩ W6).mono ?_
    rintro e W7 ⟨rfl, hb⟩
    replace S6 := S6.later hb
    clear hb d0 d1 d2 e0 e1 e2
    go_wp2_with fail
    refine (toByteS_any a0 cap0 l W7 ((HR.out.below S6.out.1.1.1).more S6.out.1.1.1.size) (by omega)).mono ?_
    rintro e W8 ⟨v8, rfl, o8, hb⟩
    obtain ⟨A8, c8, rfl, _, _, r8, _⟩ := o8.shape
    replace S6 := S6.later hb
    clear o8 hb
    go_wp2_with fail
    refine (eqByteS_same A4 A8 c4 c8 l W8 S6.out.1.2 r8 (by omega)).mono ?_
    rintro e W9 ⟨rfl, n9, rfl⟩
    have hfin := belowD S6.out.1.1.1 n9
    clear S6 r8
    go_wp2_with fail
    go_ret
    exact ⟨rfl, hfin⟩

end Go.Proofs.Ytlhmdjaplcopoaa
