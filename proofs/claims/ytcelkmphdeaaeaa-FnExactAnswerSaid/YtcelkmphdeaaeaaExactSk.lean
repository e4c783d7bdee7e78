/- Sockets in the exact laws (gen.py). -/
import Derived.Test.YtcelkmphdeaaeaaNSock
import Derived.Test.YtcelkmphdeaaeaaExactB
import Derived.Test.YtcelkmphdeaaeaaHearI
import Derived.Test.YtcelkmphdeaaeaaTellI
import Derived.Test.YtcelkmphdeaaeaaHearS
namespace Go.Proofs.Ytcelkmphdeaaeaa
open Go.RowKit
set_option linter.unusedVariables false

theorem toSk_rep (cs : List Value) (x : Sk) (w : World) (h : skR.at_ w w.heap.size cs x) (hs : FitsSk x) : Calls Try.prog 43 #[.agg cs.toArray] w (RetSk1 w x) :=
  (toSk_any cs x w h hs).mono fun e w' ⟨A4, c4, A5, c5, fp, he, ho, hb⟩ => ⟨_, fp, he, ho, hb⟩
theorem fits_hear {x : Sk} {b : List UInt8} (h : RoomSk x) (hb : b.length ≤ 1048576) : FitsSk (hearP x b).1 := by
  unfold hearP RoomSk at *
  unfold FitsSk
  split
  · simp only [List.length_append]; omega
  · (try dsimp only); omega
theorem fits_eat {x : Sk} (h : RoomSk x) : FitsSk (eatP x) := by
  unfold eatP RoomSk at *
  unfold FitsSk
  simp only [List.length_drop]
  omega
theorem fits_tell {x : Sk} (f : Fr) (h : RoomSk x) : FitsSk (tellP x f) := by
  unfold tellP RoomSk at *
  unfold FitsSk
  have := putF_len f
  split
  · simp only [List.length_append]; omega
  · (try dsimp only); omega

theorem hear_rep (cs : List Value) (x : Sk) (cs2 : List Value) (b : List UInt8) (w : World) (h : skR.at_ w w.heap.size cs x) (h2 : byR.at_ w w.heap.size cs2 b) (hs : RoomSk x) (hb : b.length ≤ 1048576) :
    Calls Try.prog 16 #[.agg cs.toArray, cs2.headD undef] w (RetSkB w (hearP x b)) := by
  obtain ⟨A, c, rfl, hc, hr⟩ := h2
  exact hear_any cs x A c b w h hr hs hb
theorem hearS_rep (cs : List Value) (x : Sk) (cs2 : List Value) (b : List UInt8) (w : World) (h : skR.at_ w w.heap.size cs x) (h2 : byR.at_ w w.heap.size cs2 b) (hs : RoomSk x) (hb : b.length ≤ 1048576) :
    Calls Try.prog 17 #[.agg cs.toArray, cs2.headD undef] w (RetSkB w (hearP x b)) := by
  obtain ⟨A, c, rfl, hc, hr⟩ := h2
  exact hearS_any cs x A c b w h hr hs hb
theorem eat_rep (cs : List Value) (x : Sk) (w : World) (h : skR.at_ w w.heap.size cs x) (hs : RoomSk x) :
    Calls Try.prog 19 #[.agg cs.toArray] w (RetSk1 w (eatP x)) := eat_any cs x w h hs
theorem eatS_rep (cs : List Value) (x : Sk) (w : World) (h : skR.at_ w w.heap.size cs x) (hs : RoomSk x) :
    Calls Try.prog 56 #[.agg cs.toArray] w (fun e w' => ∃ cs', e = .returned (.agg cs'.toArray) ∧ skR.at_ w' w'.heap.size cs' (eatP x) ∧ Below w.heap.size w w') :=
  (eatS_any cs x w h hs).mono fun e w' ⟨cs', fp, he, ho, hb⟩ => ⟨cs', he, Rep.reads skR ho, hb⟩

theorem sockOk_rep (cs : List Value) (x : Sk) (w : World) (h : skR.at_ w w.heap.size cs x) (hs : RoomSk x) : Calls Try.prog 24 #[.agg cs.toArray] w fun e w' => e = .returned (.bool (skB x)) ∧ Below w.heap.size w w' := sockOk_any cs x w h
theorem sockOkS_rep (cs : List Value) (x : Sk) (w : World) (h : skR.at_ w w.heap.size cs x) (hs : RoomSk x) : Calls Try.prog 25 #[.agg cs.toArray] w fun e w' => e = .returned (.bool (skB x)) ∧ Below w.heap.size w w' := sockOkS_any cs x w h

end Go.Proofs.Ytcelkmphdeaaeaa
