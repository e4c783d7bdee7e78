/- Answer in the exact laws (gen.py). -/
import Derived.Test.YtcelkmphdeaaeaaAnswerS
import Derived.Test.YtcelkmphdeaaeaaAnsI
import Derived.Test.YtcelkmphdeaaeaaExactSk
namespace Go.Proofs.Ytcelkmphdeaaeaa
open Go.RowKit
set_option linter.unusedVariables false

theorem fits_ans {x : Sk} (h : RoomSk x) : FitsSk (ansP x).1 := by
  have h0 := h.fits
  have hc : FitsSk (ansC x).1 := by
    unfold ansC
    split
    · rename_i hq
      unfold RoomSk at h
      unfold FitsSk
      have := hq.2
      simp only [List.length_append]
      omega
    · exact h0
  unfold ansP
  split
  · exact hc
  · exact h0
theorem answer_rep (cs : List Value) (x : Sk) (w : World) (h : skR.at_ w w.heap.size cs x) (hs : RoomSk x) : Calls Try.prog 36 #[.agg cs.toArray] w (RetSkB w (ansP x)) := answer_any cs x w h hs
theorem answerS_rep (cs : List Value) (x : Sk) (w : World) (h : skR.at_ w w.heap.size cs x) (hs : RoomSk x) : Calls Try.prog 37 #[.agg cs.toArray] w (RetSkB w (ansP x)) := answerS_any cs x w h hs

end Go.Proofs.Ytcelkmphdeaaeaa
