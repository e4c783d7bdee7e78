/-
  No cell of these rows narrows 'for every input' (looked for: loops, veiled, ifaces, maps, wideKeys, modest, calm, conditions, laid).
  DERIVED. THE GIVEN ROWS OF THIS SEAT. 5 by the template 'for every input the law returns true; each argument reads behind the call as it read before'; 0 by the template 'total and deterministic' (their statements: YtkpcjnamoejjjaaTotals.lean).
  GIVEN WITH THE SEED: the statements are not yours to turn. If you find one false, say at which input.
  Laid BY PROGRAM, IN A SANDBOX (cutbox-rows.mjs): the forced cells as the released guide's own fill.sh prints them over the translation abb19697d39a677f… (all of the seat's roots in one cut). By AI agents, Wed Nov 11 2026. No macro, syntax, notation, axiom, sorry.
-/
import Derived.Test.YtkpcjnamoejjjaaChecked
import GoSem.Claim
import GoSem.ClaimJoined
import GoSem.ClaimMapViews
import Derived.JoinedTies
import Derived.KernelRfl
namespace Go.Proofs.Ytkpcjnamoejjjaa
/- THE CELL 'sum', in the pinned program and in every row, IS THE sha256 OF THE DUMP (.gsa) THAT YtkpcjnamoejjjaaProg.lean LOADS. Nothing in Lean hashes anything: it is a label: what it is worth is what the hold of that sum in a sandbox is worth. -/
noncomputable def Try.pinned : Pinned := { name := "ytkpcjnamoejjjaa", sum := "abb19697d39a677f3eb903c34a33e10a1da01ed3c7538aa7bbb50bf1a638e012", checked := Try.checked }
namespace Rows
def none {H : Type} : Left H := { results := [], args := [] }

/-- 'laws.FnDisks': WHATEVER THE INPUT: true; the input reads as it did. -/
def fnDisksSpec : ChangeSpec := { name := "fnDisks", fn := fun _ => fun
  | [d] => { results := [.lit (.bool true)], args := [d] }
  | _ => none }
def fnDisksRow : OpenClaim := { program := "ytkpcjnamoejjjaa", sum := "abb19697d39a677f3eb903c34a33e10a1da01ed3c7538aa7bbb50bf1a638e012", func := "loop.example/g00482/laws.FnDisks", spec := "fnDisks", apart := false }
def FnDisksSaid : Prop := fnDisksRow.holds Try.pinned (OpenSpec.ofChange fnDisksSpec)

/-- ITS FALSE NEIGHBOUR: 'it returns false'. Refute it at one input. -/
def fnDisksWrong : ChangeSpec := { name := "fnDisks", fn := fun _ => fun
  | [d] => { results := [.lit (.bool false)], args := [d] }
  | _ => none }
def FnDisksWrongFalsely : Prop := fnDisksRow.holds Try.pinned (OpenSpec.ofChange fnDisksWrong)

/-- 'laws.FnFalls': WHATEVER THE INPUT: true; the input reads as it did. -/
def fnFallsSpec : ChangeSpec := { name := "fnFalls", fn := fun _ => fun
  | [d] => { results := [.lit (.bool true)], args := [d] }
  | _ => none }
def fnFallsRow : OpenClaim := { program := "ytkpcjnamoejjjaa", sum := "abb19697d39a677f3eb903c34a33e10a1da01ed3c7538aa7bbb50bf1a638e012", func := "loop.example/g00482/laws.FnFalls", spec := "fnFalls", apart := false }
def FnFallsSaid : Prop := fnFallsRow.holds Try.pinned (OpenSpec.ofChange fnFallsSpec)

/-- ITS FALSE NEIGHBOUR: 'it returns false'. Refute it at one input. -/
def fnFallsWrong : ChangeSpec := { name := "fnFalls", fn := fun _ => fun
  | [d] => { results := [.lit (.bool false)], args := [d] }
  | _ => none }
def FnFallsWrongFalsely : Prop := fnFallsRow.holds Try.pinned (OpenSpec.ofChange fnFallsWrong)

/-- 'laws.FnExactConfOk': WHATEVER THE INPUT: true; the input reads as it did. -/
def fnExactConfOkSpec : ChangeSpec := { name := "fnExactConfOk", fn := fun _ => fun
  | [d] => { results := [.lit (.bool true)], args := [d] }
  | _ => none }
def fnExactConfOkRow : OpenClaim := { program := "ytkpcjnamoejjjaa", sum := "abb19697d39a677f3eb903c34a33e10a1da01ed3c7538aa7bbb50bf1a638e012", func := "loop.example/g00482/laws.FnExactConfOk", spec := "fnExactConfOk", apart := false }
def FnExactConfOkSaid : Prop := fnExactConfOkRow.holds Try.pinned (OpenSpec.ofChange fnExactConfOkSpec)

/-- ITS FALSE NEIGHBOUR: 'it returns false'. Refute it at one input. -/
def fnExactConfOkWrong : ChangeSpec := { name := "fnExactConfOk", fn := fun _ => fun
  | [d] => { results := [.lit (.bool false)], args := [d] }
  | _ => none }
def FnExactConfOkWrongFalsely : Prop := fnExactConfOkRow.holds Try.pinned (OpenSpec.ofChange fnExactConfOkWrong)

/-- 'laws.FnExactDbAt': WHATEVER THE INPUT: true; the input reads as it did. -/
def fnExactDbAtSpec : ChangeSpec := { name := "fnExactDbAt", fn := fun _ => fun
  | [d1, d2] => { results := [.lit (.bool true)], args := [d1, d2] }
  | _ => none }
def fnExactDbAtRow : OpenClaim := { program := "ytkpcjnamoejjjaa", sum := "abb19697d39a677f3eb903c34a33e10a1da01ed3c7538aa7bbb50bf1a638e012", func := "loop.example/g00482/laws.FnExactDbAt", spec := "fnExactDbAt", apart := false }
def FnExactDbAtSaid : Prop := fnExactDbAtRow.holds Try.pinned (OpenSpec.ofChange fnExactDbAtSpec)

/-- ITS FALSE NEIGHBOUR: 'it returns false'. Refute it at one input. -/
def fnExactDbAtWrong : ChangeSpec := { name := "fnExactDbAt", fn := fun _ => fun
  | [d1, d2] => { results := [.lit (.bool false)], args := [d1, d2] }
  | _ => none }
def FnExactDbAtWrongFalsely : Prop := fnExactDbAtRow.holds Try.pinned (OpenSpec.ofChange fnExactDbAtWrong)

/-- 'laws.FnExactSameConf': WHATEVER THE INPUT: true; the input reads as it did. -/
def fnExactSameConfSpec : ChangeSpec := { name := "fnExactSameConf", fn := fun _ => fun
  | [d1, d2] => { results := [.lit (.bool true)], args := [d1, d2] }
  | _ => none }
def fnExactSameConfRow : OpenClaim := { program := "ytkpcjnamoejjjaa", sum := "abb19697d39a677f3eb903c34a33e10a1da01ed3c7538aa7bbb50bf1a638e012", func := "loop.example/g00482/laws.FnExactSameConf", spec := "fnExactSameConf", apart := false }
def FnExactSameConfSaid : Prop := fnExactSameConfRow.holds Try.pinned (OpenSpec.ofChange fnExactSameConfSpec)

/-- ITS FALSE NEIGHBOUR: 'it returns false'. Refute it at one input. -/
def fnExactSameConfWrong : ChangeSpec := { name := "fnExactSameConf", fn := fun _ => fun
  | [d1, d2] => { results := [.lit (.bool false)], args := [d1, d2] }
  | _ => none }
def FnExactSameConfWrongFalsely : Prop := fnExactSameConfRow.holds Try.pinned (OpenSpec.ofChange fnExactSameConfWrong)

/- THE SECOND FORM. 'bulk': how many values and letters a reading holds, each counted each time it is reached (what is shared counts as often as it is met; a slice's spare places count too). A statement '..UptoSaid' is the law's where the arguments, and the package variables that the reading takes, are together of bulk at most 1048576: NARROWER than '..Said'. Prove '..Said' where nothing that the law and all that it calls make is longer than what came in: it says more and counts as full. Else prove '..UptoSaid'. A law counts once. -/
mutual
def uptoBulk {H : Type} : DataW H → Nat
  | .lit (.string bytes) => bytes.length + 1
  | .lit _ => 1
  | .nil => 1
  | .ptr d => uptoBulk d + 1
  | .slice elems spare => uptoBulkAll elems + uptoBulkAll spare + 1
  | .agg parts => uptoBulkAll parts + 1
  | .iface _ d => uptoBulk d + 1
  | .map entries => uptoBulkEntries entries + 1
  | .held _ => 1
def uptoBulkAll {H : Type} : List (DataW H) → Nat
  | [] => 0
  | d :: r => uptoBulk d + uptoBulkAll r
def uptoBulkEntries {H : Type} : List (Lit × DataW H) → Nat
  | [] => 0
  | x :: r => uptoBulkEntry x + uptoBulkEntries r
def uptoBulkEntry {H : Type} : Lit × DataW H → Nat
  | (.string bytes, d) => bytes.length + uptoBulk d + 1
  | (_, d) => uptoBulk d + 1
 end
def uptoSmall : (H : Type) → List (DataW H) → Bool := fun _ ds => decide (uptoBulkAll ds ≤ 1048576)
def OpenSpec.upto (s : _root_.Go.ChangeSpec) : _root_.Go.OpenSpec := { _root_.Go.OpenSpec.ofChange s with cond := some uptoSmall }

/-- 'laws.FnDisks', WHERE WHAT IT READS IS OF BULK AT MOST 1048576: true; the input reads as it did. -/
def fnDisksUptoRow : OpenClaim := { program := "ytkpcjnamoejjjaa", sum := "abb19697d39a677f3eb903c34a33e10a1da01ed3c7538aa7bbb50bf1a638e012", func := "loop.example/g00482/laws.FnDisks", spec := "fnDisks", apart := false, narrowed := true }
def FnDisksUptoSaid : Prop := fnDisksUptoRow.holds Try.pinned (OpenSpec.upto fnDisksSpec)

/-- 'laws.FnFalls', WHERE WHAT IT READS IS OF BULK AT MOST 1048576: true; the input reads as it did. -/
def fnFallsUptoRow : OpenClaim := { program := "ytkpcjnamoejjjaa", sum := "abb19697d39a677f3eb903c34a33e10a1da01ed3c7538aa7bbb50bf1a638e012", func := "loop.example/g00482/laws.FnFalls", spec := "fnFalls", apart := false, narrowed := true }
def FnFallsUptoSaid : Prop := fnFallsUptoRow.holds Try.pinned (OpenSpec.upto fnFallsSpec)

/-- 'laws.FnExactConfOk', WHERE WHAT IT READS IS OF BULK AT MOST 1048576: true; the input reads as it did. -/
def fnExactConfOkUptoRow : OpenClaim := { program := "ytkpcjnamoejjjaa", sum := "abb19697d39a677f3eb903c34a33e10a1da01ed3c7538aa7bbb50bf1a638e012", func := "loop.example/g00482/laws.FnExactConfOk", spec := "fnExactConfOk", apart := false, narrowed := true }
def FnExactConfOkUptoSaid : Prop := fnExactConfOkUptoRow.holds Try.pinned (OpenSpec.upto fnExactConfOkSpec)

/-- 'laws.FnExactDbAt', WHERE WHAT IT READS IS OF BULK AT MOST 1048576: true; the input reads as it did. -/
def fnExactDbAtUptoRow : OpenClaim := { program := "ytkpcjnamoejjjaa", sum := "abb19697d39a677f3eb903c34a33e10a1da01ed3c7538aa7bbb50bf1a638e012", func := "loop.example/g00482/laws.FnExactDbAt", spec := "fnExactDbAt", apart := false, narrowed := true }
def FnExactDbAtUptoSaid : Prop := fnExactDbAtUptoRow.holds Try.pinned (OpenSpec.upto fnExactDbAtSpec)

/-- 'laws.FnExactSameConf', WHERE WHAT IT READS IS OF BULK AT MOST 1048576: true; the input reads as it did. -/
def fnExactSameConfUptoRow : OpenClaim := { program := "ytkpcjnamoejjjaa", sum := "abb19697d39a677f3eb903c34a33e10a1da01ed3c7538aa7bbb50bf1a638e012", func := "loop.example/g00482/laws.FnExactSameConf", spec := "fnExactSameConf", apart := false, narrowed := true }
def FnExactSameConfUptoSaid : Prop := fnExactSameConfUptoRow.holds Try.pinned (OpenSpec.upto fnExactSameConfSpec)

end Rows
end Go.Proofs.Ytkpcjnamoejjjaa
