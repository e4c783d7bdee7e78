/- PutItem in the exact laws (gen.py). -/
import Derived.Test.YtaigdioimldknaaPutItemI
import Derived.Test.YtaigdioimldknaaPutItemS
import Derived.Test.YtaigdioimldknaaExactB
namespace Go.Proofs.Ytaigdioimldknaa
open Go.RowKit
theorem RetOwn.b {w : World} {l : List UInt8} {e : Ending} {w' : World} (h : RetOwn w l e w') : RetB w l e w' := by
  obtain ⟨v, rfl, ho, hb⟩ := h
  obtain ⟨A, c, rfl, _, _, _, _⟩ := ho.shape
  exact ⟨A, c, _, rfl, ⟨_, rfl, ho, rfl⟩, hb⟩
theorem putItem_rep (cs : List Value) (x : It) (w : World) (h : itR.at_ w w.heap.size cs x) (hs : FitsIt x) : Calls Try.prog 41 #[.agg cs.toArray] w (RetB w (itemB x)) := by
  obtain rfl := it_cells h
  exact (putItem_any x w hs).mono fun e w' h => h.b
theorem putItemS_rep (cs : List Value) (x : It) (w : World) (h : itR.at_ w w.heap.size cs x) (hs : FitsIt x) : Calls Try.prog 51 #[.agg cs.toArray] w (RetB w (itemB x)) := by
  obtain rfl := it_cells h
  exact (putItemS_any x w hs).mono fun e w' h => h.b
theorem fits_item (x : It) : FitsB (itemB x) := Nat.le_trans (itemB_len x) (by decide)
end Go.Proofs.Ytaigdioimldknaa
