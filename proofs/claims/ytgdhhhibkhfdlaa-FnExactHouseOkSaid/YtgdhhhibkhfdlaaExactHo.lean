/- What the exact laws of chapter 10 ask of a House. -/
import Derived.Test.YtgdhhhibkhfdlaaRHouse
import Derived.Test.YtgdhhhibkhfdlaaExactB
namespace Go.Proofs.Ytgdhhhibkhfdlaa
open Go.RowKit
set_option linter.unusedVariables false
set_option maxRecDepth 100000

def RetHo1 (w : World) (x : Ho) (e : Ending) (w' : World) : Prop := ∃ cs fp, e = .returned (.agg cs.toArray) ∧ hoR.own w' w.heap.size cs x fp ∧ Below w.heap.size w w'
theorem toHoX_rep (cs : List Value) (x : Ho) (w : World) (h : hoR.at_ w w.heap.size cs x) (hs : FitsHo x) : Calls Try.prog 66 #[.agg cs.toArray] w (RetHo1 w x) :=
  (toHo_rep cs x w h hs).mono fun e w' ⟨A3, c3, A5, c5, A6, c6, fp, he, ho, hb⟩ => ⟨_, fp, he, ho, hb⟩

end Go.Proofs.Ytgdhhhibkhfdlaa
