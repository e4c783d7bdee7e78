/- The walk of the exact law of ParseConf. -/
import Derived.Test.YtlnmlfpkpplgoaaDoorParseConfI
import Derived.Test.YtlnmlfpkpplgoaaDoorParsePure
import Derived.Test.YtlnmlfpkpplgoaaDoorMarkDb
namespace Go.Proofs.YtlnmlfpkpplgoaaDoor
open Go.RowKit
set_option maxRecDepth 100000
set_option linter.unusedVariables false

/-- What errors.As compares with. -/
def ErrG (w : World) : Prop := w.cell? ⟨0, 0, none⟩ = some (.iface 106 (.agg #[.pointer (some ⟨4, 65, none⟩)]))
instance ErrG.keeps : Keeps ErrG := ⟨fun h x => (h.cell (World.block_lt_of_cell? _ _ x)).trans x⟩
/-- What the program reads of the library's own variables. -/
def Given (w : World) : Prop := Tab w ∧ ErrG w
instance Given.keeps : Keeps Given := ⟨fun h x => ⟨Keeps.keeps (F := Tab) h x.1, Keeps.keeps (F := ErrG) h x.2⟩⟩

/-- ParseConf of the program, said as of the model. -/
theorem parseConf_ok (s : ByteArray) (w : World) (hg : Given w) (hs : s.size ≤ 1048576) : Calls Tryd.prog 29 #[.string s] w (RetConf w (parseS s.data.toList)) := by
  rw [← parse_eq]
  exact parseConf_any s w hg.1 hg.2 hs
theorem own_row {w : World} {base c : Nat} {A : Option Addr} {xs : List Db} {fp : List Nat} (h : dbsR.own w base [.slice A xs.length c] xs fp) : ∃ cells, w.ownsRow base 79 5 (.slice A xs.length c) xs.length cells := by
  obtain ⟨v, hv, cells, fps, ho, _⟩ := h
  injection hv with hv
  subst hv
  exact ⟨cells, ho⟩
theorem parse_small {s : List UInt8} : (parseS s).1.length ≤ 3 := by
  unfold parseS
  split
  · simp
  · unfold okOf
    split
    · split
      · rename_i hc
        exact (conf_dbs hc).2
      · simp
    · simp

end Go.Proofs.YtlnmlfpkpplgoaaDoor
