/-
  No cell of these rows narrows 'for every input' (looked for: loops, veiled, ifaces, maps, wideKeys, modest, calm, conditions, laid).
  DERIVED. THE GIVEN ROWS OF THIS SEAT. 9 by the template 'for every input the law returns true; each argument reads behind the call as it read before'; 0 by the template 'total and deterministic' (their statements: YtgdhhhibkhfdlaaTotals.lean).
  GIVEN WITH THE SEED: the statements are not yours to turn. If you find one false, say at which input.
  Laid BY PROGRAM, IN A SANDBOX (cutbox-rows.mjs): the forced cells as the released guide's own fill.sh prints them over the translation ab82d185dfda4b6c… (all of the seat's roots in one cut). By AI agents, Wed Nov 11 2026. No macro, syntax, notation, axiom, sorry.
-/
import Derived.Test.YtgdhhhibkhfdlaaChecked
import GoSem.Claim
import GoSem.ClaimJoined
import GoSem.ClaimMapViews
import Derived.JoinedTies
import Derived.KernelRfl
namespace Go.Proofs.Ytgdhhhibkhfdlaa
/- THE CELL 'sum', in the pinned program and in every row, IS THE sha256 OF THE DUMP (.gsa) THAT YtgdhhhibkhfdlaaProg.lean LOADS. Nothing in Lean hashes anything: it is a label: what it is worth is what the hold of that sum in a sandbox is worth. -/
noncomputable def Try.pinned : Pinned := { name := "ytgdhhhibkhfdlaa", sum := "ab82d185dfda4b6cbb96fbd6d1c02dd211ec203a1f4cb02e6c1f07eb9253ec12", checked := Try.checked }
namespace Rows
def none {H : Type} : Left H := { results := [], args := [] }

/-- 'laws.FnSocks': WHATEVER THE INPUT: true; the input reads as it did. -/
def fnSocksSpec : ChangeSpec := { name := "fnSocks", fn := fun _ => fun
  | [d] => { results := [.lit (.bool true)], args := [d] }
  | _ => none }
def fnSocksRow : OpenClaim := { program := "ytgdhhhibkhfdlaa", sum := "ab82d185dfda4b6cbb96fbd6d1c02dd211ec203a1f4cb02e6c1f07eb9253ec12", func := "loop.example/g00482/laws.FnSocks", spec := "fnSocks", unfollowed := true, recurses := true, apart := false }
def FnSocksSaid : Prop := fnSocksRow.holds Try.pinned (OpenSpec.ofChange fnSocksSpec)

/-- ITS FALSE NEIGHBOUR: 'it returns false'. Refute it at one input. -/
def fnSocksWrong : ChangeSpec := { name := "fnSocks", fn := fun _ => fun
  | [d] => { results := [.lit (.bool false)], args := [d] }
  | _ => none }
def FnSocksWrongFalsely : Prop := fnSocksRow.holds Try.pinned (OpenSpec.ofChange fnSocksWrong)

/-- 'laws.FnItems': WHATEVER THE INPUT: true; the input reads as it did. -/
def fnItemsSpec : ChangeSpec := { name := "fnItems", fn := fun _ => fun
  | [d] => { results := [.lit (.bool true)], args := [d] }
  | _ => none }
def fnItemsRow : OpenClaim := { program := "ytgdhhhibkhfdlaa", sum := "ab82d185dfda4b6cbb96fbd6d1c02dd211ec203a1f4cb02e6c1f07eb9253ec12", func := "loop.example/g00482/laws.FnItems", spec := "fnItems", apart := false }
def FnItemsSaid : Prop := fnItemsRow.holds Try.pinned (OpenSpec.ofChange fnItemsSpec)

/-- ITS FALSE NEIGHBOUR: 'it returns false'. Refute it at one input. -/
def fnItemsWrong : ChangeSpec := { name := "fnItems", fn := fun _ => fun
  | [d] => { results := [.lit (.bool false)], args := [d] }
  | _ => none }
def FnItemsWrongFalsely : Prop := fnItemsRow.holds Try.pinned (OpenSpec.ofChange fnItemsWrong)

/-- 'laws.FnHouses': WHATEVER THE INPUT: true; the input reads as it did. -/
def fnHousesSpec : ChangeSpec := { name := "fnHouses", fn := fun _ => fun
  | [d] => { results := [.lit (.bool true)], args := [d] }
  | _ => none }
def fnHousesRow : OpenClaim := { program := "ytgdhhhibkhfdlaa", sum := "ab82d185dfda4b6cbb96fbd6d1c02dd211ec203a1f4cb02e6c1f07eb9253ec12", func := "loop.example/g00482/laws.FnHouses", spec := "fnHouses", unfollowed := true, recurses := true, apart := false }
def FnHousesSaid : Prop := fnHousesRow.holds Try.pinned (OpenSpec.ofChange fnHousesSpec)

/-- ITS FALSE NEIGHBOUR: 'it returns false'. Refute it at one input. -/
def fnHousesWrong : ChangeSpec := { name := "fnHouses", fn := fun _ => fun
  | [d] => { results := [.lit (.bool false)], args := [d] }
  | _ => none }
def FnHousesWrongFalsely : Prop := fnHousesRow.holds Try.pinned (OpenSpec.ofChange fnHousesWrong)

/-- 'laws.FnExactGetItem': WHATEVER THE INPUT: true; the input reads as it did. -/
def fnExactGetItemSpec : ChangeSpec := { name := "fnExactGetItem", fn := fun _ => fun
  | [d] => { results := [.lit (.bool true)], args := [d] }
  | _ => none }
def fnExactGetItemRow : OpenClaim := { program := "ytgdhhhibkhfdlaa", sum := "ab82d185dfda4b6cbb96fbd6d1c02dd211ec203a1f4cb02e6c1f07eb9253ec12", func := "loop.example/g00482/laws.FnExactGetItem", spec := "fnExactGetItem", apart := false }
def FnExactGetItemSaid : Prop := fnExactGetItemRow.holds Try.pinned (OpenSpec.ofChange fnExactGetItemSpec)

/-- ITS FALSE NEIGHBOUR: 'it returns false'. Refute it at one input. -/
def fnExactGetItemWrong : ChangeSpec := { name := "fnExactGetItem", fn := fun _ => fun
  | [d] => { results := [.lit (.bool false)], args := [d] }
  | _ => none }
def FnExactGetItemWrongFalsely : Prop := fnExactGetItemRow.holds Try.pinned (OpenSpec.ofChange fnExactGetItemWrong)

/-- 'laws.FnExactHouseOk': WHATEVER THE INPUT: true; the input reads as it did. -/
def fnExactHouseOkSpec : ChangeSpec := { name := "fnExactHouseOk", fn := fun _ => fun
  | [d] => { results := [.lit (.bool true)], args := [d] }
  | _ => none }
def fnExactHouseOkRow : OpenClaim := { program := "ytgdhhhibkhfdlaa", sum := "ab82d185dfda4b6cbb96fbd6d1c02dd211ec203a1f4cb02e6c1f07eb9253ec12", func := "loop.example/g00482/laws.FnExactHouseOk", spec := "fnExactHouseOk", unfollowed := true, recurses := true, apart := false }
def FnExactHouseOkSaid : Prop := fnExactHouseOkRow.holds Try.pinned (OpenSpec.ofChange fnExactHouseOkSpec)

/-- ITS FALSE NEIGHBOUR: 'it returns false'. Refute it at one input. -/
def fnExactHouseOkWrong : ChangeSpec := { name := "fnExactHouseOk", fn := fun _ => fun
  | [d] => { results := [.lit (.bool false)], args := [d] }
  | _ => none }
def FnExactHouseOkWrongFalsely : Prop := fnExactHouseOkRow.holds Try.pinned (OpenSpec.ofChange fnExactHouseOkWrong)

/-- 'laws.FnExactCount': WHATEVER THE INPUT: true; the input reads as it did. -/
def fnExactCountSpec : ChangeSpec := { name := "fnExactCount", fn := fun _ => fun
  | [d1, d2] => { results := [.lit (.bool true)], args := [d1, d2] }
  | _ => none }
def fnExactCountRow : OpenClaim := { program := "ytgdhhhibkhfdlaa", sum := "ab82d185dfda4b6cbb96fbd6d1c02dd211ec203a1f4cb02e6c1f07eb9253ec12", func := "loop.example/g00482/laws.FnExactCount", spec := "fnExactCount", apart := false }
def FnExactCountSaid : Prop := fnExactCountRow.holds Try.pinned (OpenSpec.ofChange fnExactCountSpec)

/-- ITS FALSE NEIGHBOUR: 'it returns false'. Refute it at one input. -/
def fnExactCountWrong : ChangeSpec := { name := "fnExactCount", fn := fun _ => fun
  | [d1, d2] => { results := [.lit (.bool false)], args := [d1, d2] }
  | _ => none }
def FnExactCountWrongFalsely : Prop := fnExactCountRow.holds Try.pinned (OpenSpec.ofChange fnExactCountWrong)

/-- 'laws.FnExactFreeLine': WHATEVER THE INPUT: true; the input reads as it did. -/
def fnExactFreeLineSpec : ChangeSpec := { name := "fnExactFreeLine", fn := fun _ => fun
  | [d1, d2] => { results := [.lit (.bool true)], args := [d1, d2] }
  | _ => none }
def fnExactFreeLineRow : OpenClaim := { program := "ytgdhhhibkhfdlaa", sum := "ab82d185dfda4b6cbb96fbd6d1c02dd211ec203a1f4cb02e6c1f07eb9253ec12", func := "loop.example/g00482/laws.FnExactFreeLine", spec := "fnExactFreeLine", apart := false }
def FnExactFreeLineSaid : Prop := fnExactFreeLineRow.holds Try.pinned (OpenSpec.ofChange fnExactFreeLineSpec)

/-- ITS FALSE NEIGHBOUR: 'it returns false'. Refute it at one input. -/
def fnExactFreeLineWrong : ChangeSpec := { name := "fnExactFreeLine", fn := fun _ => fun
  | [d1, d2] => { results := [.lit (.bool false)], args := [d1, d2] }
  | _ => none }
def FnExactFreeLineWrongFalsely : Prop := fnExactFreeLineRow.holds Try.pinned (OpenSpec.ofChange fnExactFreeLineWrong)

/-- 'laws.FnExactWaiters': WHATEVER THE INPUT: true; the input reads as it did. -/
def fnExactWaitersSpec : ChangeSpec := { name := "fnExactWaiters", fn := fun _ => fun
  | [d1, d2] => { results := [.lit (.bool true)], args := [d1, d2] }
  | _ => none }
def fnExactWaitersRow : OpenClaim := { program := "ytgdhhhibkhfdlaa", sum := "ab82d185dfda4b6cbb96fbd6d1c02dd211ec203a1f4cb02e6c1f07eb9253ec12", func := "loop.example/g00482/laws.FnExactWaiters", spec := "fnExactWaiters", unfollowed := true, recurses := true, apart := false }
def FnExactWaitersSaid : Prop := fnExactWaitersRow.holds Try.pinned (OpenSpec.ofChange fnExactWaitersSpec)

/-- ITS FALSE NEIGHBOUR: 'it returns false'. Refute it at one input. -/
def fnExactWaitersWrong : ChangeSpec := { name := "fnExactWaiters", fn := fun _ => fun
  | [d1, d2] => { results := [.lit (.bool false)], args := [d1, d2] }
  | _ => none }
def FnExactWaitersWrongFalsely : Prop := fnExactWaitersRow.holds Try.pinned (OpenSpec.ofChange fnExactWaitersWrong)

/-- 'laws.FnExactMayOpen': WHATEVER THE INPUT: true; the input reads as it did. -/
def fnExactMayOpenSpec : ChangeSpec := { name := "fnExactMayOpen", fn := fun _ => fun
  | [d1, d2] => { results := [.lit (.bool true)], args := [d1, d2] }
  | _ => none }
def fnExactMayOpenRow : OpenClaim := { program := "ytgdhhhibkhfdlaa", sum := "ab82d185dfda4b6cbb96fbd6d1c02dd211ec203a1f4cb02e6c1f07eb9253ec12", func := "loop.example/g00482/laws.FnExactMayOpen", spec := "fnExactMayOpen", apart := false }
def FnExactMayOpenSaid : Prop := fnExactMayOpenRow.holds Try.pinned (OpenSpec.ofChange fnExactMayOpenSpec)

/-- ITS FALSE NEIGHBOUR: 'it returns false'. Refute it at one input. -/
def fnExactMayOpenWrong : ChangeSpec := { name := "fnExactMayOpen", fn := fun _ => fun
  | [d1, d2] => { results := [.lit (.bool false)], args := [d1, d2] }
  | _ => none }
def FnExactMayOpenWrongFalsely : Prop := fnExactMayOpenRow.holds Try.pinned (OpenSpec.ofChange fnExactMayOpenWrong)

/- THE SECOND FORM. 'bulk': how many values and letters a reading holds, each counted each time it is reached (what is shared counts as often as it is met; a slice's spare places count too). A statement '..UptoSaid' is the law's where the arguments, and the package variables that the reading takes, are together of bulk at most 1048576: NARROWER than '..Said'. Prove '..Said' where nothing that the law and all that it calls make is longer than what came in: it says more and counts as full. Else prove '..UptoSaid'. A law counts once. -/
mutual
def uptoBulk {H : Type} : DataW H → Nat
  | .lit (.string bytes) => bytes.length + 1
  | .lit _ => 1
  | .nil => 1
  | .ptr d => uptoBulk d + 1
  | .slice elems spare => uptoBulkAll elems + uptoBulkAll spare + 1
  | .agg parts => uptoBulkAll parts + 1
  | .iface _ d => uptoBulk d + 1
  | .map entries => uptoBulkEntries entries + 1
  | .held _ => 1
def uptoBulkAll {H : Type} : List (DataW H) → Nat
  | [] => 0
  | d :: r => uptoBulk d + uptoBulkAll r
def uptoBulkEntries {H : Type} : List (Lit × DataW H) → Nat
  | [] => 0
  | x :: r => uptoBulkEntry x + uptoBulkEntries r
def uptoBulkEntry {H : Type} : Lit × DataW H → Nat
  | (.string bytes, d) => bytes.length + uptoBulk d + 1
  | (_, d) => uptoBulk d + 1
 end
def uptoSmall : (H : Type) → List (DataW H) → Bool := fun _ ds => decide (uptoBulkAll ds ≤ 1048576)
def OpenSpec.upto (s : _root_.Go.ChangeSpec) : _root_.Go.OpenSpec := { _root_.Go.OpenSpec.ofChange s with cond := some uptoSmall }

/-- 'laws.FnSocks', WHERE WHAT IT READS IS OF BULK AT MOST 1048576: true; the input reads as it did. -/
def fnSocksUptoRow : OpenClaim := { program := "ytgdhhhibkhfdlaa", sum := "ab82d185dfda4b6cbb96fbd6d1c02dd211ec203a1f4cb02e6c1f07eb9253ec12", func := "loop.example/g00482/laws.FnSocks", spec := "fnSocks", unfollowed := true, recurses := true, apart := false, narrowed := true }
def FnSocksUptoSaid : Prop := fnSocksUptoRow.holds Try.pinned (OpenSpec.upto fnSocksSpec)

/-- 'laws.FnItems', WHERE WHAT IT READS IS OF BULK AT MOST 1048576: true; the input reads as it did. -/
def fnItemsUptoRow : OpenClaim := { program := "ytgdhhhibkhfdlaa", sum := "ab82d185dfda4b6cbb96fbd6d1c02dd211ec203a1f4cb02e6c1f07eb9253ec12", func := "loop.example/g00482/laws.FnItems", spec := "fnItems", apart := false, narrowed := true }
def FnItemsUptoSaid : Prop := fnItemsUptoRow.holds Try.pinned (OpenSpec.upto fnItemsSpec)

/-- 'laws.FnHouses', WHERE WHAT IT READS IS OF BULK AT MOST 1048576: true; the input reads as it did. -/
def fnHousesUptoRow : OpenClaim := { program := "ytgdhhhibkhfdlaa", sum := "ab82d185dfda4b6cbb96fbd6d1c02dd211ec203a1f4cb02e6c1f07eb9253ec12", func := "loop.example/g00482/laws.FnHouses", spec := "fnHouses", unfollowed := true, recurses := true, apart := false, narrowed := true }
def FnHousesUptoSaid : Prop := fnHousesUptoRow.holds Try.pinned (OpenSpec.upto fnHousesSpec)

/-- 'laws.FnExactGetItem', WHERE WHAT IT READS IS OF BULK AT MOST 1048576: true; the input reads as it did. -/
def fnExactGetItemUptoRow : OpenClaim := { program := "ytgdhhhibkhfdlaa", sum := "ab82d185dfda4b6cbb96fbd6d1c02dd211ec203a1f4cb02e6c1f07eb9253ec12", func := "loop.example/g00482/laws.FnExactGetItem", spec := "fnExactGetItem", apart := false, narrowed := true }
def FnExactGetItemUptoSaid : Prop := fnExactGetItemUptoRow.holds Try.pinned (OpenSpec.upto fnExactGetItemSpec)

/-- 'laws.FnExactHouseOk', WHERE WHAT IT READS IS OF BULK AT MOST 1048576: true; the input reads as it did. -/
def fnExactHouseOkUptoRow : OpenClaim := { program := "ytgdhhhibkhfdlaa", sum := "ab82d185dfda4b6cbb96fbd6d1c02dd211ec203a1f4cb02e6c1f07eb9253ec12", func := "loop.example/g00482/laws.FnExactHouseOk", spec := "fnExactHouseOk", unfollowed := true, recurses := true, apart := false, narrowed := true }
def FnExactHouseOkUptoSaid : Prop := fnExactHouseOkUptoRow.holds Try.pinned (OpenSpec.upto fnExactHouseOkSpec)

/-- 'laws.FnExactCount', WHERE WHAT IT READS IS OF BULK AT MOST 1048576: true; the input reads as it did. -/
def fnExactCountUptoRow : OpenClaim := { program := "ytgdhhhibkhfdlaa", sum := "ab82d185dfda4b6cbb96fbd6d1c02dd211ec203a1f4cb02e6c1f07eb9253ec12", func := "loop.example/g00482/laws.FnExactCount", spec := "fnExactCount", apart := false, narrowed := true }
def FnExactCountUptoSaid : Prop := fnExactCountUptoRow.holds Try.pinned (OpenSpec.upto fnExactCountSpec)

/-- 'laws.FnExactFreeLine', WHERE WHAT IT READS IS OF BULK AT MOST 1048576: true; the input reads as it did. -/
def fnExactFreeLineUptoRow : OpenClaim := { program := "ytgdhhhibkhfdlaa", sum := "ab82d185dfda4b6cbb96fbd6d1c02dd211ec203a1f4cb02e6c1f07eb9253ec12", func := "loop.example/g00482/laws.FnExactFreeLine", spec := "fnExactFreeLine", apart := false, narrowed := true }
def FnExactFreeLineUptoSaid : Prop := fnExactFreeLineUptoRow.holds Try.pinned (OpenSpec.upto fnExactFreeLineSpec)

/-- 'laws.FnExactWaiters', WHERE WHAT IT READS IS OF BULK AT MOST 1048576: true; the input reads as it did. -/
def fnExactWaitersUptoRow : OpenClaim := { program := "ytgdhhhibkhfdlaa", sum := "ab82d185dfda4b6cbb96fbd6d1c02dd211ec203a1f4cb02e6c1f07eb9253ec12", func := "loop.example/g00482/laws.FnExactWaiters", spec := "fnExactWaiters", unfollowed := true, recurses := true, apart := false, narrowed := true }
def FnExactWaitersUptoSaid : Prop := fnExactWaitersUptoRow.holds Try.pinned (OpenSpec.upto fnExactWaitersSpec)

/-- 'laws.FnExactMayOpen', WHERE WHAT IT READS IS OF BULK AT MOST 1048576: true; the input reads as it did. -/
def fnExactMayOpenUptoRow : OpenClaim := { program := "ytgdhhhibkhfdlaa", sum := "ab82d185dfda4b6cbb96fbd6d1c02dd211ec203a1f4cb02e6c1f07eb9253ec12", func := "loop.example/g00482/laws.FnExactMayOpen", spec := "fnExactMayOpen", apart := false, narrowed := true }
def FnExactMayOpenUptoSaid : Prop := fnExactMayOpenUptoRow.holds Try.pinned (OpenSpec.upto fnExactMayOpenSpec)

end Rows
end Go.Proofs.Ytgdhhhibkhfdlaa
