/- The walk of the exact law of GetRec. -/
import Derived.Test.YtannedjfmgflpaaDoorGetRecI
import Derived.Test.YtannedjfmgflpaaDoorTRec
namespace Go.Proofs.YtannedjfmgflpaaDoor
open Go.RowKit
set_option maxRecDepth 100000
set_option linter.unusedVariables false

theorem RetGet.lit {w w' : World} {a b k n o : Int} {t : ByteArray} {y : Bool} {e : Ending} (h : RetGet w ((a, b, ⟨k, n, o, t⟩), y) e w') : e = .returned (.tuple #[.int .i64 a, .int .i64 b, .agg #[.int .i64 k, .int .i64 n, .int .i64 o, .string t], .bool y]) ∧ Below w.heap.size w w' := h

set_option maxRecDepth 100000 in
set_option maxHeartbeats 4000000 in
theorem walk_FnExactGetRec (a0 : Option Addr) (len0 cap0 : Nat) (z0 : List Int) (w : World) (w0 : IsRow .u8 w a0 len0 cap0 z0) (hg : Given w) :
    Calls Tryd.prog 5 #[.slice a0 len0 cap0] w fun e w' => e = .returned (.bool true) ∧ Below w.heap.size w w' := by
  obtain ⟨l, rfl, _, hr⟩ := w0.reads
  clear w0
  by_cases hbig : 1048576 < l.length
  · go_enter Tryd.func5, Tryd.ntmps5
    go_wp2_with fail
    go_ret
    exact ⟨rfl, Below.refl _ _⟩
  · have hn : l.length ≤ 1048576 := by omega
    have S : All (fun w' => Below w.heap.size w w' ∧ Given w' ∧ Reads w' w'.heap.size 1 a0 l.length (bys l)) w := ⟨Below.refl _ _, hg, hr⟩
    clear hg hr
    obtain ⟨⟨⟨ga, gb, gk, gn, go, gt⟩, gy⟩, hp⟩ : ∃ p, getP l = p := ⟨_, rfl⟩
    have HP := Lib.hid hp
    clear hp
    have na : (ga != ga) = false := by simp
    have nb : (gb != gb) = false := by simp
    have ny : (gy != gy) = false := by simp
    go_enter Tryd.func5, Tryd.ntmps5
    go_wp2_with fail
    refine (toByteS_any a0 cap0 l w S.out.2.2 (by omega)).mono ?_
    rintro e W1 ⟨v1, rfl, o1, hb⟩
    replace S := S.later hb
    obtain ⟨A1, c1, rfl, k1, _, r1, _⟩ := o1.shape
    clear hb o1
    go_wp2_with fail
    refine (getRS_any A1 c1 l W1 r1 hn k1 S.out.2.1).mono ?_
    rw [HP.out]
    rintro e W2 hret
    obtain ⟨rfl, hb⟩ := hret.lit
    replace S := S.later hb
    clear hb r1
    go_wp2_with fail
    have HD := Lib.hid (heap_alloc_new W2 (.cells #[.int .i64 gk, .int .i64 gn, .int .i64 go, .string gt] 42))
    replace S := S.alloc (.cells #[.int .i64 gk, .int .i64 gn, .int .i64 go, .string gt] 42)
    generalize W2.alloc (.cells #[.int .i64 gk, .int .i64 gn, .int .i64 go, .string gt] 42) = W3 at S HD ⊢
    generalize W2.heap.size = D at HD ⊢
    refine (toByteS_any a0 cap0 l W3 S.out.2.2 (by omega)).mono ?_
    rintro e W4 ⟨v4, rfl, o4, hb⟩
    obtain ⟨A4, c4, rfl, k4, _, r4, _⟩ := o4.shape
    have S2 : All (fun w' => (Below w.heap.size w w' ∧ Given w' ∧ Reads w' w'.heap.size 1 a0 l.length (bys l)) ∧ Hid (w'.heap[D]? = some (.cells #[.int .i64 gk, .int .i64 gn, .int .i64 go, .string gt] 42 (0, 0))) ∧ Reads w' w'.heap.size 1 A4 l.length (bys l)) W4 :=
      ⟨(S.later hb).out, Keeps.keeps (F := fun w' => Hid (w'.heap[D]? = some (.cells #[.int .i64 gk, .int .i64 gn, .int .i64 go, .string gt] 42 (0, 0)))) hb HD, r4⟩
    clear hb o4 S HD r4
    go_wp2_with fail
    refine (getRI_any A4 c4 l W4 S2.out.2.2 hn k4 S2.out.1.2.1).mono ?_
    rw [HP.out]
    rintro e W5 hret
    obtain ⟨rfl, hb⟩ := hret.lit
    replace S2 := S2.later hb
    clear hb
    obtain ⟨d0, d1, d2, d3⟩ := rec_box (r := ⟨gk, gn, go, gt⟩) S2.out.2.1.out
    have hD : D < W5.heap.size := (Array.getElem?_eq_some_iff.1 S2.out.2.1.out).1
    go_wp2_with fail
    replace S2 := S2.alloc (.cells #[.int .i64 gk, .int .i64 gn, .int .i64 go, .string gt] 42)
    clear d0 d1 d2 d3 hD
    generalize W5.alloc (.cells #[.int .i64 gk, .int .i64 gn, .int .i64 go, .string gt] 42) = W6 at S2 ⊢
    refine (eqRec_same ⟨gk, gn, go, gt⟩ W6).mono ?_
    rintro e W7 ⟨rfl, hb⟩
    replace S2 := S2.later hb
    clear hb
    go_wp2_with fail
    refine (toByteS_any a0 cap0 l W7 S2.out.1.2.2 (by omega)).mono ?_
    rintro e W8 ⟨v8, rfl, o8, hb⟩
    obtain ⟨A8, c8, rfl, k8, _, r8, _⟩ := o8.shape
    replace S2 := S2.later hb
    clear hb o8
    go_wp2_with fail
    refine (eqByteS_same A4 A8 c4 c8 l W8 S2.out.2.2 r8 (by omega)).mono ?_
    rintro e W9 ⟨rfl, n9, rfl⟩
    have hb := belowD S2.out.1.1 n9
    clear S2 r8
    go_wp2_with fail
    go_ret
    exact ⟨rfl, hb⟩

end Go.Proofs.YtannedjfmgflpaaDoor
