/- Contracts of chapter 1: GetText. -/
import Derived.Test.YtlnmlfpkpplgoaaDoorPutText
import Derived.Test.YtlnmlfpkpplgoaaDoorShut
namespace Go.Proofs.YtlnmlfpkpplgoaaDoor
open Go.RowKit
set_option maxRecDepth 100000

/-- The text that is decoded at an offset, and the offset after it. -/
def gtO (l : List UInt8) (p : Int) : Option (List UInt8 × Int) :=
  if p < 0 ∨ (l.length : Int) ≤ p then none else
  if (l.length : Int) - (p + 1) < ((l.getD p.toNat 0).toNat : Int) then none else
  if okB ((l.drop (p.toNat + 1)).take (l.getD p.toNat 0).toNat) then some ((l.drop (p.toNat + 1)).take (l.getD p.toNat 0).toNat, p + 1 + ((l.getD p.toNat 0).toNat : Int)) else none
def gtS (l : List UInt8) (p : Int) : ByteArray := match gtO l p with | some x => ⟨x.1.toArray⟩ | none => ⟨#[]⟩
def gtN (l : List UInt8) (p : Int) : Int := match gtO l p with | some x => x.2 | none => 0
def gtB (l : List UInt8) (p : Int) : Bool := (gtO l p).isSome

theorem gt_none {l : List UInt8} {p : Int} (h : gtO l p = none) : gtS l p = ⟨#[]⟩ ∧ gtN l p = 0 ∧ gtB l p = false := by simp [gtS, gtN, gtB, h]
theorem gt_some {l : List UInt8} {p : Int} {x : List UInt8 × Int} (h : gtO l p = some x) : gtS l p = ⟨x.1.toArray⟩ ∧ gtN l p = x.2 ∧ gtB l p = true := by simp [gtS, gtN, gtB, h]
theorem gt_out {l : List UInt8} {p : Int} (h : p < 0 ∨ (l.length : Int) ≤ p) : gtO l p = none := by unfold gtO; rw [if_pos h]
theorem gt_in {l : List UInt8} {k : Nat} {u : UInt8} (hk : k < l.length) (hu : l[k]? = some u) :
    gtO l k = if (l.length : Int) - ((k : Int) + 1) < (u.toNat : Int) then none else if okB ((l.drop (k + 1)).take u.toNat) then some ((l.drop (k + 1)).take u.toNat, (k : Int) + 1 + u.toNat) else none := by
  unfold gtO
  rw [if_neg (by omega)]
  simp [hu]

theorem ret_sib {k' : IntKind} {a a' : ByteArray} {b b' : Int} {c c' : Bool} (h1 : a = a') (h2 : b = b') (h3 : c = c') : Ending.returned (.tuple #[.string a, .int k' b, .bool c]) = .returned (.tuple #[.string a', .int k' b', .bool c']) := by rw [h1, h2, h3]

end Go.Proofs.YtlnmlfpkpplgoaaDoor
