/- Marks of a configuration of the call's own, and marks that are found again. -/
import Derived.Test.YtlnmlfpkpplgoaaDoorFlat
import Derived.Test.YtlnmlfpkpplgoaaDoorParseConfS
import Derived.Test.YtlnmlfpkpplgoaaDoorLex
namespace Go.Proofs.YtlnmlfpkpplgoaaDoor
open Go.RowKit
set_option maxRecDepth 100000
set_option linter.unusedVariables false

def dbMk (k0 j : Nat) : Value := if j % 5 = 0 then .string (mtxt (k0 + j)) else .int .i64 ((k0 + j : Nat) : Int)
theorem dbMk0 (k0 k : Nat) : dbMk k0 (k * 5) = .string (mtxt (k0 + k * 5)) := by unfold dbMk; rw [if_pos (by omega)]
theorem dbMkS (k0 k j : Nat) (h0 : 0 < j) (h5 : j < 5) : dbMk k0 (k * 5 + j) = .int .i64 ((k0 + k * 5 + j : Nat) : Int) := by unfold dbMk; rw [if_neg (by omega), Nat.add_assoc]

theorem flat_cells {w : World} {base c n : Nat} {e : TypeId} {A : Option Addr} {f : Nat → Value} (h : FlatTo w base e 5 n (.slice A n c) f (n * 5)) : 0 < n → ∃ b off, A = some ⟨b, off, none⟩ ∧ b < w.heap.size ∧ ∀ j, j < n * 5 → w.cell? ⟨b, off + j, none⟩ = some (f j) := by
  obtain ⟨A', c', he, hr⟩ := h.reads (by omega)
  injection he with he
  subst he
  exact hr

end Go.Proofs.YtlnmlfpkpplgoaaDoor
