/- What the exact laws of chapter 10 ask of the contracts. -/
import Derived.Test.YtgdhhhibkhfdlaaHouse2
import Derived.Test.YtgdhhhibkhfdlaaExactHo
namespace Go.Proofs.Ytgdhhhibkhfdlaa
open Go.RowKit
set_option linter.unusedVariables false
set_option maxRecDepth 100000

theorem countSX_rep (cs : List Value) (x : Ho) (db : ByteArray) (w : World) (h : hoR.at_ w w.heap.size cs x) (hs : FitsHo x) (hd : db.size ≤ maxLen) :
    Calls Try.prog 68 #[.agg cs.toArray, .string db] w (fun e w' => e = .returned (.int .i64 (countP x db)) ∧ Below w.heap.size w w') := countS_rep cs x db w h hs

theorem countX_rep (cs : List Value) (x : Ho) (db : ByteArray) (w : World) (h : hoR.at_ w w.heap.size cs x) (hs : FitsHo x) (hd : db.size ≤ maxLen) :
    Calls Try.prog 60 #[.agg cs.toArray, .string db] w (fun e w' => e = .returned (.int .i64 (countP x db)) ∧ Below w.heap.size w w') := count_rep cs x db w h hs

theorem freeLineSX_rep (cs : List Value) (x : Ho) (db : ByteArray) (w : World) (h : hoR.at_ w w.heap.size cs x) (hs : FitsHo x) (hd : db.size ≤ maxLen) :
    Calls Try.prog 57 #[.agg cs.toArray, .string db] w (fun e w' => e = .returned (.int .i64 (freeLineP x db)) ∧ Below w.heap.size w w') := freeLineS_rep cs x db w h hs

theorem freeLineX_rep (cs : List Value) (x : Ho) (db : ByteArray) (w : World) (h : hoR.at_ w w.heap.size cs x) (hs : FitsHo x) (hd : db.size ≤ maxLen) :
    Calls Try.prog 54 #[.agg cs.toArray, .string db] w (fun e w' => e = .returned (.int .i64 (freeLineP x db)) ∧ Below w.heap.size w w') := freeLine_rep cs x db w h hs

theorem mayOpenSX_rep (cs : List Value) (x : Ho) (db : ByteArray) (w : World) (h : hoR.at_ w w.heap.size cs x) (hs : FitsHo x) (hd : db.size ≤ maxLen) :
    Calls Try.prog 59 #[.agg cs.toArray, .string db] w (fun e w' => e = .returned (.bool (mayOpenP x db)) ∧ Below w.heap.size w w') := mayOpenS_rep cs x db w h hs

theorem mayOpenX_rep (cs : List Value) (x : Ho) (db : ByteArray) (w : World) (h : hoR.at_ w w.heap.size cs x) (hs : FitsHo x) (hd : db.size ≤ maxLen) :
    Calls Try.prog 58 #[.agg cs.toArray, .string db] w (fun e w' => e = .returned (.bool (mayOpenP x db)) ∧ Below w.heap.size w w') := mayOpen_rep cs x db w h hs

end Go.Proofs.Ytgdhhhibkhfdlaa
