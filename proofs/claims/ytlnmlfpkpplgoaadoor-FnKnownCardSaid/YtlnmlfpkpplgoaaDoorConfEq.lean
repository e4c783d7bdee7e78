/- Lists of databases: how great they are, their copies, equality of what is the same. -/
import Derived.Test.YtlnmlfpkpplgoaaDoorConf
import Derived.BigQuiet
import Derived.Deep.QuietTactic
namespace Go.Proofs.YtlnmlfpkpplgoaaDoor
open Go.RowKit
set_option maxRecDepth 100000
set_option linter.unusedVariables false

def dbZero : Db := ⟨⟨#[]⟩, 0, 0, 0, 0⟩
/-- Databases of the call's own. -/
def RetDbs (w : World) (xs : List Db) (e : Ending) (w' : World) : Prop := ∃ A c fp, e = .returned (.slice A xs.length c) ∧ dbsR.own w' w.heap.size [.slice A xs.length c] xs fp ∧ Below w.heap.size w w'

end Go.Proofs.YtlnmlfpkpplgoaaDoor
