/- The walk of the exact law of KnownOk. -/
import Derived.Test.YtdapnhahccpebaaDoorKnownI
namespace Go.Proofs.YtdapnhahccpebaaDoor
open Go.RowKit
set_option maxRecDepth 100000
set_option linter.unusedVariables false

theorem ok_known {r : Known} (h : OkKnown r) : r.text.size ≤ maxLen ∧ r.pText.size ≤ maxLen := ⟨h.2.1, h.2.2.2.1⟩

set_option maxRecDepth 100000 in
set_option maxHeartbeats 4000000 in
theorem walk_FnExactKnownOk (w : World) (cs0 : List Value) (x0 : Known) (w0 : knownR.at_ w w.heap.size cs0 x0) (k0 : OkKnown x0) (hg : Given w) :
    Calls Tryd.prog 9 #[.agg cs0.toArray] w fun e w' => e = .returned (.bool true) ∧ Below w.heap.size w w' := by
  obtain rfl := known_cells w0
  have S : All (fun w' => Below w.heap.size w w' ∧ Given w' ∧ Hid (w'.heap[w.heap.size]? = some (.cells (knownC x0).toArray 65 (0, 0)))) (w.alloc (.cells (knownC x0).toArray 65)) :=
    ⟨Later.alloc w _, Keeps.keeps (F := Given) (Later.alloc w _) hg, Lib.hid (heap_alloc_new w _)⟩
  clear w0 hg
  obtain ⟨b, hb⟩ : ∃ b, knownB x0 = b := ⟨_, rfl⟩
  have HB := Lib.hid hb
  have hbb : (b != b) = false := by simp
  have hk := ok_known k0
  clear hb k0
  show Calls Tryd.prog 9 #[.agg #[.int .i64 x0.gen, .string x0.text, .int .i64 x0.pGen, .string x0.pText, .int .i64 x0.epoch, .int .i64 x0.owner]] w _
  go_enter Tryd.func9, Tryd.ntmps9
  go_wp2_with fail
  replace S : All (fun w' => Below w.heap.size w w' ∧ Given w' ∧ Hid (w'.heap[w.heap.size]? = some (.cells (knownC x0).toArray 65 (0, 0)))) (w.alloc (.cells #[.int .i64 x0.gen, .string x0.text, .int .i64 x0.pGen, .string x0.pText, .int .i64 x0.epoch, .int .i64 x0.owner] 65)) := S
  generalize w.alloc (.cells #[.int .i64 x0.gen, .string x0.text, .int .i64 x0.pGen, .string x0.pText, .int .i64 x0.epoch, .int .i64 x0.owner] 65) = W0 at S ⊢
  refine (szKnown_room x0 1048576 W0 hk.1 hk.2 (by omega)).mono ?_
  rintro e W1 ⟨⟨z, hz, hfit, rfl⟩ | rfl, hb⟩
  rotate_left
  · replace S := S.later hb
    clear hb
    go_wp2_with fail
    go_ret
    exact ⟨rfl, S.out.1⟩
  · replace S := S.later hb
    clear hb
    obtain ⟨c0, c1, c2, c3, c4, c5⟩ := known_box S.out.2.2.out
    go_wp2_with fail
    refine (toKnown_any x0 W1).mono ?_
    rintro e W2 ⟨rfl, hb⟩
    replace S := S.later hb
    clear hb c0 c1 c2 c3 c4 c5
    go_wp2_with fail
    refine (knownOkS_any x0 W2).mono ?_
    rw [HB.out]
    rintro e W3 ⟨rfl, hb⟩
    replace S := S.later hb
    clear hb
    obtain ⟨c0, c1, c2, c3, c4, c5⟩ := known_box S.out.2.2.out
    go_wp2_with fail
    refine (toKnown_any x0 W3).mono ?_
    rintro e W4 ⟨rfl, hb⟩
    replace S := S.later hb
    clear hb c0 c1 c2 c3 c4 c5
    go_wp2_with fail
    refine (knownOkI_any x0 W4 S.out.2.1 hfit.1 hfit.2).mono ?_
    rw [HB.out]
    rintro e W5 ⟨rfl, hb⟩
    replace S := S.later hb
    clear hb
    go_wp2_with fail
    go_ret
    exact ⟨rfl, S.out.1⟩

end Go.Proofs.YtdapnhahccpebaaDoor
