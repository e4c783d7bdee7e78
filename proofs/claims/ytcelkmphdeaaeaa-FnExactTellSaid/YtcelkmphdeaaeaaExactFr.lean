/- Frames in the exact laws (gen.py). -/
import Derived.Test.YtcelkmphdeaaeaaTFrame
import Derived.Test.YtcelkmphdeaaeaaExactSk
import Derived.Test.YtcelkmphdeaaeaaPeek
import Derived.Test.YtcelkmphdeaaeaaTellS
namespace Go.Proofs.Ytcelkmphdeaaeaa
open Go.RowKit
set_option linter.unusedVariables false

def FitsFr (f : Fr) : Prop := f.s.size ≤ 1048576
theorem fr_at_shape {w : World} {B : Nat} {cs : List Value} {x : Fr} (h : frR.at_ w B cs x) : cs = [.int .i64 x.k, .string x.s, .int .i64 x.st] := fr_cells h
theorem fr_own_shape {w : World} {base : Nat} {cs : List Value} {x : Fr} {fp : List Nat} (h : frR.own w base cs x fp) : cs = [.int .i64 x.k, .string x.s, .int .i64 x.st] := fr_cells (Rep.reads frR h)
theorem toFr_rep (cs : List Value) (x : Fr) (w : World) (h : frR.at_ w w.heap.size cs x) (hs : FitsFr x) : Calls Try.prog 59 #[.agg cs.toArray] w (fun e w' => ∃ cs' fp, e = .returned (.agg cs'.toArray) ∧ frR.own w' w.heap.size cs' x fp ∧ Below w.heap.size w w') := by
  obtain rfl := fr_cells h
  exact (toFr_any x w).mono fun e w' ⟨he, hb⟩ => ⟨_, _, he, fr_own w' _ x, hb⟩
theorem eqFr_rep (cs cs' : List Value) (x : Fr) (w : World) (h : frR.at_ w w.heap.size cs x) (h' : frR.at_ w w.heap.size cs' x) (hs : FitsFr x) : Calls Try.prog 55 #[.agg cs.toArray, .agg cs'.toArray] w fun e w' => e = .returned (.bool true) ∧ Below w.heap.size w w' := by
  obtain rfl := fr_cells h
  obtain rfl := fr_cells h'
  exact eqFr_same x w
theorem szFr_rep (cs : List Value) (x : Fr) (left : Nat) (w : World) (h : frR.at_ w w.heap.size cs x) (hl : left ≤ 1048576) (hk : OkFr x) : Calls Try.prog 57 #[.agg cs.toArray, .int .i64 left] w (RoomB (FitsFr x) left w) := by
  obtain rfl := fr_cells h
  exact szFr_room x left w hk.2.1 hl
theorem getF_size (l : List UInt8) : (getF l).1.s.size ≤ 1048576 := by
  have ht := tx_size l
  have ht2 : (txF l).s.size ≤ 1048576 := Nat.le_trans ht (by decide)
  unfold getF
  (repeat' split) <;> first | exact ht2 | (simp [waitF, badF, zeroFr]; done) | exact (show (⟨#[]⟩ : ByteArray).size ≤ 1048576 by decide)

theorem fits_peek {x : Sk} (h : RoomSk x) : FitsFr (peekP x).1 := by
  unfold peekP FitsFr
  split
  · decide
  · by_cases h0 : (getF x.inn).2.2 = 0
    · exact getF_size _
    · rw [(getF_bad h0).1]; decide

theorem peek_rep (cs : List Value) (x : Sk) (w : World) (h : skR.at_ w w.heap.size cs x) (hs : RoomSk x) : Calls Try.prog 20 #[.agg cs.toArray] w (fun e w' => ∃ cs' fp, e = .returned (.tuple #[.agg cs'.toArray, .int .i64 (peekP x).2]) ∧ frR.own w' w.heap.size cs' (peekP x).1 fp ∧ Below w.heap.size w w') :=
  (peek_any cs x w h hs).mono fun e w' ⟨he, hb⟩ => ⟨_, _, he, fr_own w' _ _, hb⟩
theorem peekS_rep (cs : List Value) (x : Sk) (w : World) (h : skR.at_ w w.heap.size cs x) (hs : RoomSk x) : Calls Try.prog 21 #[.agg cs.toArray] w (fun e w' => ∃ cs' fp, e = .returned (.tuple #[.agg cs'.toArray, .int .i64 (peekP x).2]) ∧ frR.own w' w.heap.size cs' (peekP x).1 fp ∧ Below w.heap.size w w') :=
  (peekS_any cs x w h hs).mono fun e w' ⟨he, hb⟩ => ⟨_, _, he, fr_own w' _ _, hb⟩

theorem tell_rep (cs : List Value) (x : Sk) (cs2 : List Value) (f : Fr) (w : World) (h : skR.at_ w w.heap.size cs x) (h2 : frR.at_ w w.heap.size cs2 f) (hs : RoomSk x) (hf : FitsFr f) :
    Calls Try.prog 34 #[.agg cs.toArray, .agg cs2.toArray] w (RetSk1 w (tellP x f)) := by
  obtain rfl := fr_cells h2
  exact tell_any cs x f w h hs hf
theorem tellS_rep (cs : List Value) (x : Sk) (cs2 : List Value) (f : Fr) (w : World) (h : skR.at_ w w.heap.size cs x) (h2 : frR.at_ w w.heap.size cs2 f) (hs : RoomSk x) (hf : FitsFr f) :
    Calls Try.prog 58 #[.agg cs.toArray, .agg cs2.toArray] w (fun e w' => ∃ cs', e = .returned (.agg cs'.toArray) ∧ skR.at_ w' w'.heap.size cs' (tellP x f) ∧ Below w.heap.size w w') := by
  obtain rfl := fr_cells h2
  exact (tellS_any cs x f w h hs hf).mono fun e w' ⟨cs', fp, he, ho, hb⟩ => ⟨cs', he, Rep.reads skR ho, hb⟩

theorem tellS_own (cs : List Value) (x : Sk) (cs2 : List Value) (f : Fr) (w : World) (h : skR.at_ w w.heap.size cs x) (h2 : frR.at_ w w.heap.size cs2 f) (hs : RoomSk x) (hf : FitsFr f) :
    Calls Try.prog 58 #[.agg cs.toArray, .agg cs2.toArray] w (RetSk1 w (tellP x f)) := by
  obtain rfl := fr_cells h2
  exact tellS_any cs x f w h hs hf

end Go.Proofs.Ytcelkmphdeaaeaa
