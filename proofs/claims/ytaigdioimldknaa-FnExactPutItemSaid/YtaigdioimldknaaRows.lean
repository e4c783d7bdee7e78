/-
  No cell of these rows narrows 'for every input' (looked for: loops, veiled, ifaces, maps, wideKeys, modest, calm, conditions, laid).
  DERIVED. THE GIVEN ROWS OF THIS SEAT. 9 by the template 'for every input the law returns true; each argument reads behind the call as it read before'; 0 by the template 'total and deterministic' (their statements: YtaigdioimldknaaTotals.lean).
  GIVEN WITH THE SEED: the statements are not yours to turn. If you find one false, say at which input.
  Laid BY PROGRAM, IN A SANDBOX (cutbox-rows.mjs): the forced cells as the released guide's own fill.sh prints them over the translation 2c780830f044c47f… (all of the seat's roots in one cut). By AI agents, Wed Nov 11 2026. No macro, syntax, notation, axiom, sorry.
-/
import Derived.Test.YtaigdioimldknaaChecked
import GoSem.Claim
import GoSem.ClaimJoined
import GoSem.ClaimMapViews
import Derived.JoinedTies
import Derived.KernelRfl
namespace Go.Proofs.Ytaigdioimldknaa
/- THE CELL 'sum', in the pinned program and in every row, IS THE sha256 OF THE DUMP (.gsa) THAT YtaigdioimldknaaProg.lean LOADS. Nothing in Lean hashes anything: it is a label: what it is worth is what the hold of that sum in a sandbox is worth. -/
noncomputable def Try.pinned : Pinned := { name := "ytaigdioimldknaa", sum := "2c780830f044c47f73f58292ede7f87b0eac88e1ad95913f79182611d1784bad", checked := Try.checked }
namespace Rows
def none {H : Type} : Left H := { results := [], args := [] }

/-- 'laws.FnSocks': WHATEVER THE INPUT: true; the input reads as it did. -/
def fnSocksSpec : ChangeSpec := { name := "fnSocks", fn := fun _ => fun
  | [d] => { results := [.lit (.bool true)], args := [d] }
  | _ => none }
def fnSocksRow : OpenClaim := { program := "ytaigdioimldknaa", sum := "2c780830f044c47f73f58292ede7f87b0eac88e1ad95913f79182611d1784bad", func := "loop.example/g00482/laws.FnSocks", spec := "fnSocks", unfollowed := true, recurses := true, apart := false }
def FnSocksSaid : Prop := fnSocksRow.holds Try.pinned (OpenSpec.ofChange fnSocksSpec)

/-- ITS FALSE NEIGHBOUR: 'it returns false'. Refute it at one input. -/
def fnSocksWrong : ChangeSpec := { name := "fnSocks", fn := fun _ => fun
  | [d] => { results := [.lit (.bool false)], args := [d] }
  | _ => none }
def FnSocksWrongFalsely : Prop := fnSocksRow.holds Try.pinned (OpenSpec.ofChange fnSocksWrong)

/-- 'laws.FnFar': WHATEVER THE INPUT: true; the input reads as it did. -/
def fnFarSpec : ChangeSpec := { name := "fnFar", fn := fun _ => fun
  | [d] => { results := [.lit (.bool true)], args := [d] }
  | _ => none }
def fnFarRow : OpenClaim := { program := "ytaigdioimldknaa", sum := "2c780830f044c47f73f58292ede7f87b0eac88e1ad95913f79182611d1784bad", func := "loop.example/g00482/laws.FnFar", spec := "fnFar", unfollowed := true, recurses := true, apart := false }
def FnFarSaid : Prop := fnFarRow.holds Try.pinned (OpenSpec.ofChange fnFarSpec)

/-- ITS FALSE NEIGHBOUR: 'it returns false'. Refute it at one input. -/
def fnFarWrong : ChangeSpec := { name := "fnFar", fn := fun _ => fun
  | [d] => { results := [.lit (.bool false)], args := [d] }
  | _ => none }
def FnFarWrongFalsely : Prop := fnFarRow.holds Try.pinned (OpenSpec.ofChange fnFarWrong)

/-- 'laws.FnItems': WHATEVER THE INPUT: true; the input reads as it did. -/
def fnItemsSpec : ChangeSpec := { name := "fnItems", fn := fun _ => fun
  | [d] => { results := [.lit (.bool true)], args := [d] }
  | _ => none }
def fnItemsRow : OpenClaim := { program := "ytaigdioimldknaa", sum := "2c780830f044c47f73f58292ede7f87b0eac88e1ad95913f79182611d1784bad", func := "loop.example/g00482/laws.FnItems", spec := "fnItems", apart := false }
def FnItemsSaid : Prop := fnItemsRow.holds Try.pinned (OpenSpec.ofChange fnItemsSpec)

/-- ITS FALSE NEIGHBOUR: 'it returns false'. Refute it at one input. -/
def fnItemsWrong : ChangeSpec := { name := "fnItems", fn := fun _ => fun
  | [d] => { results := [.lit (.bool false)], args := [d] }
  | _ => none }
def FnItemsWrongFalsely : Prop := fnItemsRow.holds Try.pinned (OpenSpec.ofChange fnItemsWrong)

/-- 'laws.FnExactAskerOk': WHATEVER THE INPUT: true; the input reads as it did. -/
def fnExactAskerOkSpec : ChangeSpec := { name := "fnExactAskerOk", fn := fun _ => fun
  | [d] => { results := [.lit (.bool true)], args := [d] }
  | _ => none }
def fnExactAskerOkRow : OpenClaim := { program := "ytaigdioimldknaa", sum := "2c780830f044c47f73f58292ede7f87b0eac88e1ad95913f79182611d1784bad", func := "loop.example/g00482/laws.FnExactAskerOk", spec := "fnExactAskerOk", apart := false }
def FnExactAskerOkSaid : Prop := fnExactAskerOkRow.holds Try.pinned (OpenSpec.ofChange fnExactAskerOkSpec)

/-- ITS FALSE NEIGHBOUR: 'it returns false'. Refute it at one input. -/
def fnExactAskerOkWrong : ChangeSpec := { name := "fnExactAskerOk", fn := fun _ => fun
  | [d] => { results := [.lit (.bool false)], args := [d] }
  | _ => none }
def FnExactAskerOkWrongFalsely : Prop := fnExactAskerOkRow.holds Try.pinned (OpenSpec.ofChange fnExactAskerOkWrong)

/-- 'laws.FnExactLineOk': WHATEVER THE INPUT: true; the input reads as it did. -/
def fnExactLineOkSpec : ChangeSpec := { name := "fnExactLineOk", fn := fun _ => fun
  | [d] => { results := [.lit (.bool true)], args := [d] }
  | _ => none }
def fnExactLineOkRow : OpenClaim := { program := "ytaigdioimldknaa", sum := "2c780830f044c47f73f58292ede7f87b0eac88e1ad95913f79182611d1784bad", func := "loop.example/g00482/laws.FnExactLineOk", spec := "fnExactLineOk", apart := false }
def FnExactLineOkSaid : Prop := fnExactLineOkRow.holds Try.pinned (OpenSpec.ofChange fnExactLineOkSpec)

/-- ITS FALSE NEIGHBOUR: 'it returns false'. Refute it at one input. -/
def fnExactLineOkWrong : ChangeSpec := { name := "fnExactLineOk", fn := fun _ => fun
  | [d] => { results := [.lit (.bool false)], args := [d] }
  | _ => none }
def FnExactLineOkWrongFalsely : Prop := fnExactLineOkRow.holds Try.pinned (OpenSpec.ofChange fnExactLineOkWrong)

/-- 'laws.FnExactAskerAt': WHATEVER THE INPUT: true; the input reads as it did. -/
def fnExactAskerAtSpec : ChangeSpec := { name := "fnExactAskerAt", fn := fun _ => fun
  | [d1, d2] => { results := [.lit (.bool true)], args := [d1, d2] }
  | _ => none }
def fnExactAskerAtRow : OpenClaim := { program := "ytaigdioimldknaa", sum := "2c780830f044c47f73f58292ede7f87b0eac88e1ad95913f79182611d1784bad", func := "loop.example/g00482/laws.FnExactAskerAt", spec := "fnExactAskerAt", apart := false }
def FnExactAskerAtSaid : Prop := fnExactAskerAtRow.holds Try.pinned (OpenSpec.ofChange fnExactAskerAtSpec)

/-- ITS FALSE NEIGHBOUR: 'it returns false'. Refute it at one input. -/
def fnExactAskerAtWrong : ChangeSpec := { name := "fnExactAskerAt", fn := fun _ => fun
  | [d1, d2] => { results := [.lit (.bool false)], args := [d1, d2] }
  | _ => none }
def FnExactAskerAtWrongFalsely : Prop := fnExactAskerAtRow.holds Try.pinned (OpenSpec.ofChange fnExactAskerAtWrong)

/-- 'laws.FnExactLineAt': WHATEVER THE INPUT: true; the input reads as it did. -/
def fnExactLineAtSpec : ChangeSpec := { name := "fnExactLineAt", fn := fun _ => fun
  | [d1, d2] => { results := [.lit (.bool true)], args := [d1, d2] }
  | _ => none }
def fnExactLineAtRow : OpenClaim := { program := "ytaigdioimldknaa", sum := "2c780830f044c47f73f58292ede7f87b0eac88e1ad95913f79182611d1784bad", func := "loop.example/g00482/laws.FnExactLineAt", spec := "fnExactLineAt", apart := false }
def FnExactLineAtSaid : Prop := fnExactLineAtRow.holds Try.pinned (OpenSpec.ofChange fnExactLineAtSpec)

/-- ITS FALSE NEIGHBOUR: 'it returns false'. Refute it at one input. -/
def fnExactLineAtWrong : ChangeSpec := { name := "fnExactLineAt", fn := fun _ => fun
  | [d1, d2] => { results := [.lit (.bool false)], args := [d1, d2] }
  | _ => none }
def FnExactLineAtWrongFalsely : Prop := fnExactLineAtRow.holds Try.pinned (OpenSpec.ofChange fnExactLineAtWrong)

/-- 'laws.FnExactPutItem': WHATEVER THE INPUT: true; the input reads as it did. -/
def fnExactPutItemSpec : ChangeSpec := { name := "fnExactPutItem", fn := fun _ => fun
  | [d] => { results := [.lit (.bool true)], args := [d] }
  | _ => none }
def fnExactPutItemRow : OpenClaim := { program := "ytaigdioimldknaa", sum := "2c780830f044c47f73f58292ede7f87b0eac88e1ad95913f79182611d1784bad", func := "loop.example/g00482/laws.FnExactPutItem", spec := "fnExactPutItem", apart := false }
def FnExactPutItemSaid : Prop := fnExactPutItemRow.holds Try.pinned (OpenSpec.ofChange fnExactPutItemSpec)

/-- ITS FALSE NEIGHBOUR: 'it returns false'. Refute it at one input. -/
def fnExactPutItemWrong : ChangeSpec := { name := "fnExactPutItem", fn := fun _ => fun
  | [d] => { results := [.lit (.bool false)], args := [d] }
  | _ => none }
def FnExactPutItemWrongFalsely : Prop := fnExactPutItemRow.holds Try.pinned (OpenSpec.ofChange fnExactPutItemWrong)

/-- 'laws.FnExactGetItem': WHATEVER THE INPUT: true; the input reads as it did. -/
def fnExactGetItemSpec : ChangeSpec := { name := "fnExactGetItem", fn := fun _ => fun
  | [d] => { results := [.lit (.bool true)], args := [d] }
  | _ => none }
def fnExactGetItemRow : OpenClaim := { program := "ytaigdioimldknaa", sum := "2c780830f044c47f73f58292ede7f87b0eac88e1ad95913f79182611d1784bad", func := "loop.example/g00482/laws.FnExactGetItem", spec := "fnExactGetItem", apart := false }
def FnExactGetItemSaid : Prop := fnExactGetItemRow.holds Try.pinned (OpenSpec.ofChange fnExactGetItemSpec)

/-- ITS FALSE NEIGHBOUR: 'it returns false'. Refute it at one input. -/
def fnExactGetItemWrong : ChangeSpec := { name := "fnExactGetItem", fn := fun _ => fun
  | [d] => { results := [.lit (.bool false)], args := [d] }
  | _ => none }
def FnExactGetItemWrongFalsely : Prop := fnExactGetItemRow.holds Try.pinned (OpenSpec.ofChange fnExactGetItemWrong)

/- THE SECOND FORM. 'bulk': how many values and letters a reading holds, each counted each time it is reached (what is shared counts as often as it is met; a slice's spare places count too). A statement '..UptoSaid' is the law's where the arguments, and the package variables that the reading takes, are together of bulk at most 1048576: NARROWER than '..Said'. Prove '..Said' where nothing that the law and all that it calls make is longer than what came in: it says more and counts as full. Else prove '..UptoSaid'. A law counts once. -/
mutual
def uptoBulk {H : Type} : DataW H → Nat
  | .lit (.string bytes) => bytes.length + 1
  | .lit _ => 1
  | .nil => 1
  | .ptr d => uptoBulk d + 1
  | .slice elems spare => uptoBulkAll elems + uptoBulkAll spare + 1
  | .agg parts => uptoBulkAll parts + 1
  | .iface _ d => uptoBulk d + 1
  | .map entries => uptoBulkEntries entries + 1
  | .held _ => 1
def uptoBulkAll {H : Type} : List (DataW H) → Nat
  | [] => 0
  | d :: r => uptoBulk d + uptoBulkAll r
def uptoBulkEntries {H : Type} : List (Lit × DataW H) → Nat
  | [] => 0
  | x :: r => uptoBulkEntry x + uptoBulkEntries r
def uptoBulkEntry {H : Type} : Lit × DataW H → Nat
  | (.string bytes, d) => bytes.length + uptoBulk d + 1
  | (_, d) => uptoBulk d + 1
 end
def uptoSmall : (H : Type) → List (DataW H) → Bool := fun _ ds => decide (uptoBulkAll ds ≤ 1048576)
def OpenSpec.upto (s : _root_.Go.ChangeSpec) : _root_.Go.OpenSpec := { _root_.Go.OpenSpec.ofChange s with cond := some uptoSmall }

/-- 'laws.FnSocks', WHERE WHAT IT READS IS OF BULK AT MOST 1048576: true; the input reads as it did. -/
def fnSocksUptoRow : OpenClaim := { program := "ytaigdioimldknaa", sum := "2c780830f044c47f73f58292ede7f87b0eac88e1ad95913f79182611d1784bad", func := "loop.example/g00482/laws.FnSocks", spec := "fnSocks", unfollowed := true, recurses := true, apart := false, narrowed := true }
def FnSocksUptoSaid : Prop := fnSocksUptoRow.holds Try.pinned (OpenSpec.upto fnSocksSpec)

/-- 'laws.FnFar', WHERE WHAT IT READS IS OF BULK AT MOST 1048576: true; the input reads as it did. -/
def fnFarUptoRow : OpenClaim := { program := "ytaigdioimldknaa", sum := "2c780830f044c47f73f58292ede7f87b0eac88e1ad95913f79182611d1784bad", func := "loop.example/g00482/laws.FnFar", spec := "fnFar", unfollowed := true, recurses := true, apart := false, narrowed := true }
def FnFarUptoSaid : Prop := fnFarUptoRow.holds Try.pinned (OpenSpec.upto fnFarSpec)

/-- 'laws.FnItems', WHERE WHAT IT READS IS OF BULK AT MOST 1048576: true; the input reads as it did. -/
def fnItemsUptoRow : OpenClaim := { program := "ytaigdioimldknaa", sum := "2c780830f044c47f73f58292ede7f87b0eac88e1ad95913f79182611d1784bad", func := "loop.example/g00482/laws.FnItems", spec := "fnItems", apart := false, narrowed := true }
def FnItemsUptoSaid : Prop := fnItemsUptoRow.holds Try.pinned (OpenSpec.upto fnItemsSpec)

/-- 'laws.FnExactAskerOk', WHERE WHAT IT READS IS OF BULK AT MOST 1048576: true; the input reads as it did. -/
def fnExactAskerOkUptoRow : OpenClaim := { program := "ytaigdioimldknaa", sum := "2c780830f044c47f73f58292ede7f87b0eac88e1ad95913f79182611d1784bad", func := "loop.example/g00482/laws.FnExactAskerOk", spec := "fnExactAskerOk", apart := false, narrowed := true }
def FnExactAskerOkUptoSaid : Prop := fnExactAskerOkUptoRow.holds Try.pinned (OpenSpec.upto fnExactAskerOkSpec)

/-- 'laws.FnExactLineOk', WHERE WHAT IT READS IS OF BULK AT MOST 1048576: true; the input reads as it did. -/
def fnExactLineOkUptoRow : OpenClaim := { program := "ytaigdioimldknaa", sum := "2c780830f044c47f73f58292ede7f87b0eac88e1ad95913f79182611d1784bad", func := "loop.example/g00482/laws.FnExactLineOk", spec := "fnExactLineOk", apart := false, narrowed := true }
def FnExactLineOkUptoSaid : Prop := fnExactLineOkUptoRow.holds Try.pinned (OpenSpec.upto fnExactLineOkSpec)

/-- 'laws.FnExactAskerAt', WHERE WHAT IT READS IS OF BULK AT MOST 1048576: true; the input reads as it did. -/
def fnExactAskerAtUptoRow : OpenClaim := { program := "ytaigdioimldknaa", sum := "2c780830f044c47f73f58292ede7f87b0eac88e1ad95913f79182611d1784bad", func := "loop.example/g00482/laws.FnExactAskerAt", spec := "fnExactAskerAt", apart := false, narrowed := true }
def FnExactAskerAtUptoSaid : Prop := fnExactAskerAtUptoRow.holds Try.pinned (OpenSpec.upto fnExactAskerAtSpec)

/-- 'laws.FnExactLineAt', WHERE WHAT IT READS IS OF BULK AT MOST 1048576: true; the input reads as it did. -/
def fnExactLineAtUptoRow : OpenClaim := { program := "ytaigdioimldknaa", sum := "2c780830f044c47f73f58292ede7f87b0eac88e1ad95913f79182611d1784bad", func := "loop.example/g00482/laws.FnExactLineAt", spec := "fnExactLineAt", apart := false, narrowed := true }
def FnExactLineAtUptoSaid : Prop := fnExactLineAtUptoRow.holds Try.pinned (OpenSpec.upto fnExactLineAtSpec)

/-- 'laws.FnExactPutItem', WHERE WHAT IT READS IS OF BULK AT MOST 1048576: true; the input reads as it did. -/
def fnExactPutItemUptoRow : OpenClaim := { program := "ytaigdioimldknaa", sum := "2c780830f044c47f73f58292ede7f87b0eac88e1ad95913f79182611d1784bad", func := "loop.example/g00482/laws.FnExactPutItem", spec := "fnExactPutItem", apart := false, narrowed := true }
def FnExactPutItemUptoSaid : Prop := fnExactPutItemUptoRow.holds Try.pinned (OpenSpec.upto fnExactPutItemSpec)

/-- 'laws.FnExactGetItem', WHERE WHAT IT READS IS OF BULK AT MOST 1048576: true; the input reads as it did. -/
def fnExactGetItemUptoRow : OpenClaim := { program := "ytaigdioimldknaa", sum := "2c780830f044c47f73f58292ede7f87b0eac88e1ad95913f79182611d1784bad", func := "loop.example/g00482/laws.FnExactGetItem", spec := "fnExactGetItem", apart := false, narrowed := true }
def FnExactGetItemUptoSaid : Prop := fnExactGetItemUptoRow.holds Try.pinned (OpenSpec.upto fnExactGetItemSpec)

end Rows
end Go.Proofs.Ytaigdioimldknaa
