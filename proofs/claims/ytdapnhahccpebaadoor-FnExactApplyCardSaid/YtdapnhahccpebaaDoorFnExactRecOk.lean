/- The walk of the exact law of RecOk. -/
import Derived.Test.YtdapnhahccpebaaDoorRecOkI
import Derived.Test.YtdapnhahccpebaaDoorTRec
namespace Go.Proofs.YtdapnhahccpebaaDoor
open Go.RowKit
set_option maxRecDepth 100000
set_option linter.unusedVariables false

theorem ok_rec {r : Rec} (h : OkRec r) : r.text.size ≤ maxLen := h.2.2.2

set_option maxRecDepth 100000 in
set_option maxHeartbeats 4000000 in
theorem walk_FnExactRecOk (w : World) (cs0 : List Value) (x0 : Rec) (w0 : recR.at_ w w.heap.size cs0 x0) (k0 : OkRec x0) (hg : Given w) :
    Calls Tryd.prog 6 #[.agg cs0.toArray] w fun e w' => e = .returned (.bool true) ∧ Below w.heap.size w w' := by
  obtain rfl := rec_cells w0
  have S : All (fun w' => Below w.heap.size w w' ∧ Given w' ∧ Hid (w'.heap[w.heap.size]? = some (.cells (recC x0).toArray 53 (0, 0)))) (w.alloc (.cells (recC x0).toArray 53)) :=
    ⟨Later.alloc w _, Keeps.keeps (F := Given) (Later.alloc w _) hg, Lib.hid (heap_alloc_new w _)⟩
  clear w0 hg
  obtain ⟨b, hb⟩ : ∃ b, recB x0 = b := ⟨_, rfl⟩
  have HB := Lib.hid hb
  have hbb : (b != b) = false := by simp
  have hk := ok_rec k0
  clear hb k0
  show Calls Tryd.prog 6 #[.agg #[.int .i64 x0.kind, .int .i64 x0.n, .int .i64 x0.owner, .string x0.text]] w _
  go_enter Tryd.func6, Tryd.ntmps6
  go_wp2_with fail
  replace S : All (fun w' => Below w.heap.size w w' ∧ Given w' ∧ Hid (w'.heap[w.heap.size]? = some (.cells (recC x0).toArray 53 (0, 0)))) (w.alloc (.cells #[.int .i64 x0.kind, .int .i64 x0.n, .int .i64 x0.owner, .string x0.text] 53)) := S
  generalize w.alloc (.cells #[.int .i64 x0.kind, .int .i64 x0.n, .int .i64 x0.owner, .string x0.text] 53) = W0 at S ⊢
  refine (szRec_room x0 1048576 W0 hk (by omega)).mono ?_
  rintro e W1 ⟨⟨z, hz, hfit, rfl⟩ | rfl, hb⟩
  rotate_left
  · replace S := S.later hb
    clear hb
    go_wp2_with fail
    go_ret
    exact ⟨rfl, S.out.1⟩
  · replace S := S.later hb
    clear hb
    obtain ⟨c0, c1, c2, c3⟩ := rec_box S.out.2.2.out
    go_wp2_with fail
    refine (toRec_any x0 W1).mono ?_
    rintro e W2 ⟨rfl, hb⟩
    replace S := S.later hb
    clear hb c0 c1 c2 c3
    go_wp2_with fail
    refine (recOkS_any x0 W2).mono ?_
    rw [HB.out]
    rintro e W3 ⟨rfl, hb⟩
    replace S := S.later hb
    clear hb
    obtain ⟨c0, c1, c2, c3⟩ := rec_box S.out.2.2.out
    go_wp2_with fail
    refine (toRec_any x0 W3).mono ?_
    rintro e W4 ⟨rfl, hb⟩
    replace S := S.later hb
    clear hb c0 c1 c2 c3
    go_wp2_with fail
    refine (recOkI_any x0 W4 S.out.2.1 hfit).mono ?_
    rw [HB.out]
    rintro e W5 ⟨rfl, hb⟩
    replace S := S.later hb
    clear hb
    go_wp2_with fail
    go_ret
    exact ⟨rfl, S.out.1⟩

end Go.Proofs.YtdapnhahccpebaaDoor
