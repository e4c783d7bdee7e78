/-
  No cell of these rows narrows 'for every input' (looked for: loops, veiled, ifaces, maps, wideKeys, modest, calm, conditions, laid).
  DERIVED. THE GIVEN ROWS OF THIS SEAT. 11 by the template 'for every input the law returns true; each argument reads behind the call as it read before'; 0 by the template 'total and deterministic' (their statements: YtcelkmphdeaaeaaTotals.lean).
  GIVEN WITH THE SEED: the statements are not yours to turn. If you find one false, say at which input.
  Laid BY PROGRAM, IN A SANDBOX (cutbox-rows.mjs): the forced cells as the released guide's own fill.sh prints them over the translation 7949b296046f26fc… (all of the seat's roots in one cut). By AI agents, Wed Nov 11 2026. No macro, syntax, notation, axiom, sorry.
-/
import Derived.Test.YtcelkmphdeaaeaaChecked
import GoSem.Claim
import GoSem.ClaimJoined
import GoSem.ClaimMapViews
import Derived.JoinedTies
import Derived.KernelRfl
namespace Go.Proofs.Ytcelkmphdeaaeaa
/- THE CELL 'sum', in the pinned program and in every row, IS THE sha256 OF THE DUMP (.gsa) THAT YtcelkmphdeaaeaaProg.lean LOADS. Nothing in Lean hashes anything: it is a label: what it is worth is what the hold of that sum in a sandbox is worth. -/
noncomputable def Try.pinned : Pinned := { name := "ytcelkmphdeaaeaa", sum := "7949b296046f26fc79db44daa15f641184f37821b8d714d849c4cda16e23d526", checked := Try.checked }
namespace Rows
def none {H : Type} : Left H := { results := [], args := [] }

/-- 'laws.FnSocks': WHATEVER THE INPUT: true; the input reads as it did. -/
def fnSocksSpec : ChangeSpec := { name := "fnSocks", fn := fun _ => fun
  | [d] => { results := [.lit (.bool true)], args := [d] }
  | _ => none }
def fnSocksRow : OpenClaim := { program := "ytcelkmphdeaaeaa", sum := "7949b296046f26fc79db44daa15f641184f37821b8d714d849c4cda16e23d526", func := "loop.example/g00482/laws.FnSocks", spec := "fnSocks", unfollowed := true, recurses := true, apart := false }
def FnSocksSaid : Prop := fnSocksRow.holds Try.pinned (OpenSpec.ofChange fnSocksSpec)

/-- ITS FALSE NEIGHBOUR: 'it returns false'. Refute it at one input. -/
def fnSocksWrong : ChangeSpec := { name := "fnSocks", fn := fun _ => fun
  | [d] => { results := [.lit (.bool false)], args := [d] }
  | _ => none }
def FnSocksWrongFalsely : Prop := fnSocksRow.holds Try.pinned (OpenSpec.ofChange fnSocksWrong)

/-- 'laws.FnFar': WHATEVER THE INPUT: true; the input reads as it did. -/
def fnFarSpec : ChangeSpec := { name := "fnFar", fn := fun _ => fun
  | [d] => { results := [.lit (.bool true)], args := [d] }
  | _ => none }
def fnFarRow : OpenClaim := { program := "ytcelkmphdeaaeaa", sum := "7949b296046f26fc79db44daa15f641184f37821b8d714d849c4cda16e23d526", func := "loop.example/g00482/laws.FnFar", spec := "fnFar", unfollowed := true, recurses := true, apart := false }
def FnFarSaid : Prop := fnFarRow.holds Try.pinned (OpenSpec.ofChange fnFarSpec)

/-- ITS FALSE NEIGHBOUR: 'it returns false'. Refute it at one input. -/
def fnFarWrong : ChangeSpec := { name := "fnFar", fn := fun _ => fun
  | [d] => { results := [.lit (.bool false)], args := [d] }
  | _ => none }
def FnFarWrongFalsely : Prop := fnFarRow.holds Try.pinned (OpenSpec.ofChange fnFarWrong)

/-- 'laws.FnExactSockOk': WHATEVER THE INPUT: true; the input reads as it did. -/
def fnExactSockOkSpec : ChangeSpec := { name := "fnExactSockOk", fn := fun _ => fun
  | [d] => { results := [.lit (.bool true)], args := [d] }
  | _ => none }
def fnExactSockOkRow : OpenClaim := { program := "ytcelkmphdeaaeaa", sum := "7949b296046f26fc79db44daa15f641184f37821b8d714d849c4cda16e23d526", func := "loop.example/g00482/laws.FnExactSockOk", spec := "fnExactSockOk", apart := false }
def FnExactSockOkSaid : Prop := fnExactSockOkRow.holds Try.pinned (OpenSpec.ofChange fnExactSockOkSpec)

/-- ITS FALSE NEIGHBOUR: 'it returns false'. Refute it at one input. -/
def fnExactSockOkWrong : ChangeSpec := { name := "fnExactSockOk", fn := fun _ => fun
  | [d] => { results := [.lit (.bool false)], args := [d] }
  | _ => none }
def FnExactSockOkWrongFalsely : Prop := fnExactSockOkRow.holds Try.pinned (OpenSpec.ofChange fnExactSockOkWrong)

/-- 'laws.FnExactSocksOk': WHATEVER THE INPUT: true; the input reads as it did. -/
def fnExactSocksOkSpec : ChangeSpec := { name := "fnExactSocksOk", fn := fun _ => fun
  | [d] => { results := [.lit (.bool true)], args := [d] }
  | _ => none }
def fnExactSocksOkRow : OpenClaim := { program := "ytcelkmphdeaaeaa", sum := "7949b296046f26fc79db44daa15f641184f37821b8d714d849c4cda16e23d526", func := "loop.example/g00482/laws.FnExactSocksOk", spec := "fnExactSocksOk", apart := false }
def FnExactSocksOkSaid : Prop := fnExactSocksOkRow.holds Try.pinned (OpenSpec.ofChange fnExactSocksOkSpec)

/-- ITS FALSE NEIGHBOUR: 'it returns false'. Refute it at one input. -/
def fnExactSocksOkWrong : ChangeSpec := { name := "fnExactSocksOk", fn := fun _ => fun
  | [d] => { results := [.lit (.bool false)], args := [d] }
  | _ => none }
def FnExactSocksOkWrongFalsely : Prop := fnExactSocksOkRow.holds Try.pinned (OpenSpec.ofChange fnExactSocksOkWrong)

/-- 'laws.FnExactSockAt': WHATEVER THE INPUT: true; the input reads as it did. -/
def fnExactSockAtSpec : ChangeSpec := { name := "fnExactSockAt", fn := fun _ => fun
  | [d1, d2] => { results := [.lit (.bool true)], args := [d1, d2] }
  | _ => none }
def fnExactSockAtRow : OpenClaim := { program := "ytcelkmphdeaaeaa", sum := "7949b296046f26fc79db44daa15f641184f37821b8d714d849c4cda16e23d526", func := "loop.example/g00482/laws.FnExactSockAt", spec := "fnExactSockAt", apart := false }
def FnExactSockAtSaid : Prop := fnExactSockAtRow.holds Try.pinned (OpenSpec.ofChange fnExactSockAtSpec)

/-- ITS FALSE NEIGHBOUR: 'it returns false'. Refute it at one input. -/
def fnExactSockAtWrong : ChangeSpec := { name := "fnExactSockAt", fn := fun _ => fun
  | [d1, d2] => { results := [.lit (.bool false)], args := [d1, d2] }
  | _ => none }
def FnExactSockAtWrongFalsely : Prop := fnExactSockAtRow.holds Try.pinned (OpenSpec.ofChange fnExactSockAtWrong)

/-- 'laws.FnExactHear': WHATEVER THE INPUT: true; the input reads as it did. -/
def fnExactHearSpec : ChangeSpec := { name := "fnExactHear", fn := fun _ => fun
  | [d1, d2] => { results := [.lit (.bool true)], args := [d1, d2] }
  | _ => none }
def fnExactHearRow : OpenClaim := { program := "ytcelkmphdeaaeaa", sum := "7949b296046f26fc79db44daa15f641184f37821b8d714d849c4cda16e23d526", func := "loop.example/g00482/laws.FnExactHear", spec := "fnExactHear", apart := false }
def FnExactHearSaid : Prop := fnExactHearRow.holds Try.pinned (OpenSpec.ofChange fnExactHearSpec)

/-- ITS FALSE NEIGHBOUR: 'it returns false'. Refute it at one input. -/
def fnExactHearWrong : ChangeSpec := { name := "fnExactHear", fn := fun _ => fun
  | [d1, d2] => { results := [.lit (.bool false)], args := [d1, d2] }
  | _ => none }
def FnExactHearWrongFalsely : Prop := fnExactHearRow.holds Try.pinned (OpenSpec.ofChange fnExactHearWrong)

/-- 'laws.FnExactPeek': WHATEVER THE INPUT: true; the input reads as it did. -/
def fnExactPeekSpec : ChangeSpec := { name := "fnExactPeek", fn := fun _ => fun
  | [d] => { results := [.lit (.bool true)], args := [d] }
  | _ => none }
def fnExactPeekRow : OpenClaim := { program := "ytcelkmphdeaaeaa", sum := "7949b296046f26fc79db44daa15f641184f37821b8d714d849c4cda16e23d526", func := "loop.example/g00482/laws.FnExactPeek", spec := "fnExactPeek", unfollowed := true, recurses := true, apart := false }
def FnExactPeekSaid : Prop := fnExactPeekRow.holds Try.pinned (OpenSpec.ofChange fnExactPeekSpec)

/-- ITS FALSE NEIGHBOUR: 'it returns false'. Refute it at one input. -/
def fnExactPeekWrong : ChangeSpec := { name := "fnExactPeek", fn := fun _ => fun
  | [d] => { results := [.lit (.bool false)], args := [d] }
  | _ => none }
def FnExactPeekWrongFalsely : Prop := fnExactPeekRow.holds Try.pinned (OpenSpec.ofChange fnExactPeekWrong)

/-- 'laws.FnExactEat': WHATEVER THE INPUT: true; the input reads as it did. -/
def fnExactEatSpec : ChangeSpec := { name := "fnExactEat", fn := fun _ => fun
  | [d] => { results := [.lit (.bool true)], args := [d] }
  | _ => none }
def fnExactEatRow : OpenClaim := { program := "ytcelkmphdeaaeaa", sum := "7949b296046f26fc79db44daa15f641184f37821b8d714d849c4cda16e23d526", func := "loop.example/g00482/laws.FnExactEat", spec := "fnExactEat", unfollowed := true, recurses := true, apart := false }
def FnExactEatSaid : Prop := fnExactEatRow.holds Try.pinned (OpenSpec.ofChange fnExactEatSpec)

/-- ITS FALSE NEIGHBOUR: 'it returns false'. Refute it at one input. -/
def fnExactEatWrong : ChangeSpec := { name := "fnExactEat", fn := fun _ => fun
  | [d] => { results := [.lit (.bool false)], args := [d] }
  | _ => none }
def FnExactEatWrongFalsely : Prop := fnExactEatRow.holds Try.pinned (OpenSpec.ofChange fnExactEatWrong)

/-- 'laws.FnExactTell': WHATEVER THE INPUT: true; the input reads as it did. -/
def fnExactTellSpec : ChangeSpec := { name := "fnExactTell", fn := fun _ => fun
  | [d1, d2] => { results := [.lit (.bool true)], args := [d1, d2] }
  | _ => none }
def fnExactTellRow : OpenClaim := { program := "ytcelkmphdeaaeaa", sum := "7949b296046f26fc79db44daa15f641184f37821b8d714d849c4cda16e23d526", func := "loop.example/g00482/laws.FnExactTell", spec := "fnExactTell", unfollowed := true, recurses := true, apart := false }
def FnExactTellSaid : Prop := fnExactTellRow.holds Try.pinned (OpenSpec.ofChange fnExactTellSpec)

/-- ITS FALSE NEIGHBOUR: 'it returns false'. Refute it at one input. -/
def fnExactTellWrong : ChangeSpec := { name := "fnExactTell", fn := fun _ => fun
  | [d1, d2] => { results := [.lit (.bool false)], args := [d1, d2] }
  | _ => none }
def FnExactTellWrongFalsely : Prop := fnExactTellRow.holds Try.pinned (OpenSpec.ofChange fnExactTellWrong)

/-- 'laws.FnExactFree': WHATEVER THE INPUT: true; the input reads as it did. -/
def fnExactFreeSpec : ChangeSpec := { name := "fnExactFree", fn := fun _ => fun
  | [d1, d2, d3] => { results := [.lit (.bool true)], args := [d1, d2, d3] }
  | _ => none }
def fnExactFreeRow : OpenClaim := { program := "ytcelkmphdeaaeaa", sum := "7949b296046f26fc79db44daa15f641184f37821b8d714d849c4cda16e23d526", func := "loop.example/g00482/laws.FnExactFree", spec := "fnExactFree", apart := false }
def FnExactFreeSaid : Prop := fnExactFreeRow.holds Try.pinned (OpenSpec.ofChange fnExactFreeSpec)

/-- ITS FALSE NEIGHBOUR: 'it returns false'. Refute it at one input. -/
def fnExactFreeWrong : ChangeSpec := { name := "fnExactFree", fn := fun _ => fun
  | [d1, d2, d3] => { results := [.lit (.bool false)], args := [d1, d2, d3] }
  | _ => none }
def FnExactFreeWrongFalsely : Prop := fnExactFreeRow.holds Try.pinned (OpenSpec.ofChange fnExactFreeWrong)

/-- 'laws.FnExactAnswer': WHATEVER THE INPUT: true; the input reads as it did. -/
def fnExactAnswerSpec : ChangeSpec := { name := "fnExactAnswer", fn := fun _ => fun
  | [d] => { results := [.lit (.bool true)], args := [d] }
  | _ => none }
def fnExactAnswerRow : OpenClaim := { program := "ytcelkmphdeaaeaa", sum := "7949b296046f26fc79db44daa15f641184f37821b8d714d849c4cda16e23d526", func := "loop.example/g00482/laws.FnExactAnswer", spec := "fnExactAnswer", unfollowed := true, recurses := true, apart := false }
def FnExactAnswerSaid : Prop := fnExactAnswerRow.holds Try.pinned (OpenSpec.ofChange fnExactAnswerSpec)

/-- ITS FALSE NEIGHBOUR: 'it returns false'. Refute it at one input. -/
def fnExactAnswerWrong : ChangeSpec := { name := "fnExactAnswer", fn := fun _ => fun
  | [d] => { results := [.lit (.bool false)], args := [d] }
  | _ => none }
def FnExactAnswerWrongFalsely : Prop := fnExactAnswerRow.holds Try.pinned (OpenSpec.ofChange fnExactAnswerWrong)

/- THE SECOND FORM. 'bulk': how many values and letters a reading holds, each counted each time it is reached (what is shared counts as often as it is met; a slice's spare places count too). A statement '..UptoSaid' is the law's where the arguments, and the package variables that the reading takes, are together of bulk at most 1048576: NARROWER than '..Said'. Prove '..Said' where nothing that the law and all that it calls make is longer than what came in: it says more and counts as full. Else prove '..UptoSaid'. A law counts once. -/
mutual
def uptoBulk {H : Type} : DataW H → Nat
  | .lit (.string bytes) => bytes.length + 1
  | .lit _ => 1
  | .nil => 1
  | .ptr d => uptoBulk d + 1
  | .slice elems spare => uptoBulkAll elems + uptoBulkAll spare + 1
  | .agg parts => uptoBulkAll parts + 1
  | .iface _ d => uptoBulk d + 1
  | .map entries => uptoBulkEntries entries + 1
  | .held _ => 1
def uptoBulkAll {H : Type} : List (DataW H) → Nat
  | [] => 0
  | d :: r => uptoBulk d + uptoBulkAll r
def uptoBulkEntries {H : Type} : List (Lit × DataW H) → Nat
  | [] => 0
  | x :: r => uptoBulkEntry x + uptoBulkEntries r
def uptoBulkEntry {H : Type} : Lit × DataW H → Nat
  | (.string bytes, d) => bytes.length + uptoBulk d + 1
  | (_, d) => uptoBulk d + 1
 end
def uptoSmall : (H : Type) → List (DataW H) → Bool := fun _ ds => decide (uptoBulkAll ds ≤ 1048576)
def OpenSpec.upto (s : _root_.Go.ChangeSpec) : _root_.Go.OpenSpec := { _root_.Go.OpenSpec.ofChange s with cond := some uptoSmall }

/-- 'laws.FnSocks', WHERE WHAT IT READS IS OF BULK AT MOST 1048576: true; the input reads as it did. -/
def fnSocksUptoRow : OpenClaim := { program := "ytcelkmphdeaaeaa", sum := "7949b296046f26fc79db44daa15f641184f37821b8d714d849c4cda16e23d526", func := "loop.example/g00482/laws.FnSocks", spec := "fnSocks", unfollowed := true, recurses := true, apart := false, narrowed := true }
def FnSocksUptoSaid : Prop := fnSocksUptoRow.holds Try.pinned (OpenSpec.upto fnSocksSpec)

/-- 'laws.FnFar', WHERE WHAT IT READS IS OF BULK AT MOST 1048576: true; the input reads as it did. -/
def fnFarUptoRow : OpenClaim := { program := "ytcelkmphdeaaeaa", sum := "7949b296046f26fc79db44daa15f641184f37821b8d714d849c4cda16e23d526", func := "loop.example/g00482/laws.FnFar", spec := "fnFar", unfollowed := true, recurses := true, apart := false, narrowed := true }
def FnFarUptoSaid : Prop := fnFarUptoRow.holds Try.pinned (OpenSpec.upto fnFarSpec)

/-- 'laws.FnExactSockOk', WHERE WHAT IT READS IS OF BULK AT MOST 1048576: true; the input reads as it did. -/
def fnExactSockOkUptoRow : OpenClaim := { program := "ytcelkmphdeaaeaa", sum := "7949b296046f26fc79db44daa15f641184f37821b8d714d849c4cda16e23d526", func := "loop.example/g00482/laws.FnExactSockOk", spec := "fnExactSockOk", apart := false, narrowed := true }
def FnExactSockOkUptoSaid : Prop := fnExactSockOkUptoRow.holds Try.pinned (OpenSpec.upto fnExactSockOkSpec)

/-- 'laws.FnExactSocksOk', WHERE WHAT IT READS IS OF BULK AT MOST 1048576: true; the input reads as it did. -/
def fnExactSocksOkUptoRow : OpenClaim := { program := "ytcelkmphdeaaeaa", sum := "7949b296046f26fc79db44daa15f641184f37821b8d714d849c4cda16e23d526", func := "loop.example/g00482/laws.FnExactSocksOk", spec := "fnExactSocksOk", apart := false, narrowed := true }
def FnExactSocksOkUptoSaid : Prop := fnExactSocksOkUptoRow.holds Try.pinned (OpenSpec.upto fnExactSocksOkSpec)

/-- 'laws.FnExactSockAt', WHERE WHAT IT READS IS OF BULK AT MOST 1048576: true; the input reads as it did. -/
def fnExactSockAtUptoRow : OpenClaim := { program := "ytcelkmphdeaaeaa", sum := "7949b296046f26fc79db44daa15f641184f37821b8d714d849c4cda16e23d526", func := "loop.example/g00482/laws.FnExactSockAt", spec := "fnExactSockAt", apart := false, narrowed := true }
def FnExactSockAtUptoSaid : Prop := fnExactSockAtUptoRow.holds Try.pinned (OpenSpec.upto fnExactSockAtSpec)

/-- 'laws.FnExactHear', WHERE WHAT IT READS IS OF BULK AT MOST 1048576: true; the input reads as it did. -/
def fnExactHearUptoRow : OpenClaim := { program := "ytcelkmphdeaaeaa", sum := "7949b296046f26fc79db44daa15f641184f37821b8d714d849c4cda16e23d526", func := "loop.example/g00482/laws.FnExactHear", spec := "fnExactHear", apart := false, narrowed := true }
def FnExactHearUptoSaid : Prop := fnExactHearUptoRow.holds Try.pinned (OpenSpec.upto fnExactHearSpec)

/-- 'laws.FnExactPeek', WHERE WHAT IT READS IS OF BULK AT MOST 1048576: true; the input reads as it did. -/
def fnExactPeekUptoRow : OpenClaim := { program := "ytcelkmphdeaaeaa", sum := "7949b296046f26fc79db44daa15f641184f37821b8d714d849c4cda16e23d526", func := "loop.example/g00482/laws.FnExactPeek", spec := "fnExactPeek", unfollowed := true, recurses := true, apart := false, narrowed := true }
def FnExactPeekUptoSaid : Prop := fnExactPeekUptoRow.holds Try.pinned (OpenSpec.upto fnExactPeekSpec)

/-- 'laws.FnExactEat', WHERE WHAT IT READS IS OF BULK AT MOST 1048576: true; the input reads as it did. -/
def fnExactEatUptoRow : OpenClaim := { program := "ytcelkmphdeaaeaa", sum := "7949b296046f26fc79db44daa15f641184f37821b8d714d849c4cda16e23d526", func := "loop.example/g00482/laws.FnExactEat", spec := "fnExactEat", unfollowed := true, recurses := true, apart := false, narrowed := true }
def FnExactEatUptoSaid : Prop := fnExactEatUptoRow.holds Try.pinned (OpenSpec.upto fnExactEatSpec)

/-- 'laws.FnExactTell', WHERE WHAT IT READS IS OF BULK AT MOST 1048576: true; the input reads as it did. -/
def fnExactTellUptoRow : OpenClaim := { program := "ytcelkmphdeaaeaa", sum := "7949b296046f26fc79db44daa15f641184f37821b8d714d849c4cda16e23d526", func := "loop.example/g00482/laws.FnExactTell", spec := "fnExactTell", unfollowed := true, recurses := true, apart := false, narrowed := true }
def FnExactTellUptoSaid : Prop := fnExactTellUptoRow.holds Try.pinned (OpenSpec.upto fnExactTellSpec)

/-- 'laws.FnExactFree', WHERE WHAT IT READS IS OF BULK AT MOST 1048576: true; the input reads as it did. -/
def fnExactFreeUptoRow : OpenClaim := { program := "ytcelkmphdeaaeaa", sum := "7949b296046f26fc79db44daa15f641184f37821b8d714d849c4cda16e23d526", func := "loop.example/g00482/laws.FnExactFree", spec := "fnExactFree", apart := false, narrowed := true }
def FnExactFreeUptoSaid : Prop := fnExactFreeUptoRow.holds Try.pinned (OpenSpec.upto fnExactFreeSpec)

/-- 'laws.FnExactAnswer', WHERE WHAT IT READS IS OF BULK AT MOST 1048576: true; the input reads as it did. -/
def fnExactAnswerUptoRow : OpenClaim := { program := "ytcelkmphdeaaeaa", sum := "7949b296046f26fc79db44daa15f641184f37821b8d714d849c4cda16e23d526", func := "loop.example/g00482/laws.FnExactAnswer", spec := "fnExactAnswer", unfollowed := true, recurses := true, apart := false, narrowed := true }
def FnExactAnswerUptoSaid : Prop := fnExactAnswerUptoRow.holds Try.pinned (OpenSpec.upto fnExactAnswerSpec)

end Rows
end Go.Proofs.Ytcelkmphdeaaeaa
