/- The walk of the exact law of FrameOk. -/
import Derived.Test.YtlhmdjaplcopoaaFrameS
import Derived.Test.YtlhmdjaplcopoaaValid
namespace Go.Proofs.Ytlhmdjaplcopoaa
open Go.RowKit
set_option linter.unusedVariables false

set_option maxRecDepth 100000 in
set_option maxHeartbeats 4000000 in
theorem walk_FnExactFrameOk (w : World) (cs0 : List Value) (x0 : Fr) (w0 : frR.at_ w w.heap.size cs0 x0) (k0 : OkFr x0) :
    Calls Try.prog 5 #[.agg cs0.toArray] w fun e w' => e = .returned (.bool true) ∧ Below w.heap.size w w' := by
  obtain rfl := fr_cells w0
  have S : All (fun w' => Below w.heap.size w w' ∧ Hid (w'.heap[w.heap.size]? = some (.cells (frC x0).toArray 39 (0, 0)))) (w.alloc (.cells (frC x0).toArray 39)) := ⟨Later.alloc w _, Lib.hid (heap_alloc_new w _)⟩
  clear w0
  obtain ⟨v, hv⟩ : ∃ v, frB x0 = v := ⟨_, rfl⟩
  have HV := Lib.hid hv
  have hvv : (v != v) = false := by simp
  clear hv
  have hk := k0.2.1
  clear k0
  show Calls Try.prog 5 #[.agg #[.int .i64 x0.k, .string x0.s, .int .i64 x0.st]] w _
  go_enter Try.func5, Try.ntmps5
  go_wp2_with fail
  replace S : All (fun w' => Below w.heap.size w w' ∧ Hid (w'.heap[w.heap.size]? = some (.cells (frC x0).toArray 39 (0, 0)))) (w.alloc (.cells #[.int .i64 x0.k, .string x0.s, .int .i64 x0.st] 39)) := S
  generalize w.alloc (.cells #[.int .i64 x0.k, .string x0.s, .int .i64 x0.st] 39) = W0 at S ⊢
  refine (szFr_room x0 1048576 W0 hk (by omega)).mono ?_
  rintro e W1 ⟨⟨z, hz, hfit, rfl⟩ | rfl, hb⟩
  rotate_left
  · replace S := S.later hb
    clear hb
    go_wp2_with fail
    go_ret
    exact ⟨rfl, S.out.1⟩
  · replace S := S.later hb
    clear hb
    obtain ⟨c0, c1, c2⟩ := fr_box S.out.2.out
    go_wp2_with fail
    refine (toFr_any x0 W1).mono ?_
    rintro e W2 ⟨rfl, hb⟩
    replace S := S.later hb
    clear hb c0 c1 c2
    go_wp2_with fail
    refine (frameOkS_any x0 W2 hfit).mono ?_
    rw [HV.out]
    rintro e W3 ⟨rfl, hb⟩
    replace S := S.later hb
    clear hb
    obtain ⟨c0, c1, c2⟩ := fr_box S.out.2.out
    go_wp2_with fail
    refine (toFr_any x0 W3).mono ?_
    rintro e W4 ⟨rfl, hb⟩
    replace S := S.later hb
    clear hb c0 c1 c2
    go_wp2_with fail
    refine (frameOk_any x0 W4 hfit).mono ?_
    rw [HV.out]
    rintro e W5 ⟨rfl, hb⟩
    replace S := S.later hb
    clear hb
    go_wp2_with fail
    go_ret
    exact ⟨rfl, S.out.1⟩

end Go.Proofs.Ytlhmdjaplcopoaa
