/- PutRec of the program. -/
import Derived.Test.YtlnmlfpkpplgoaaDoorRecOkI
import Derived.Test.YtlnmlfpkpplgoaaDoorTRec
import Derived.Test.YtlnmlfpkpplgoaaDoorPutText
import Derived.Test.YtlnmlfpkpplgoaaDoorSum
import Derived.Test.YtlnmlfpkpplgoaaDoorLex
namespace Go.Proofs.YtlnmlfpkpplgoaaDoor
open Go.RowKit
set_option maxRecDepth 100000
set_option linter.unusedVariables false

/-- Bytes of the call's own come back. -/
def RetOwn (w : World) (l : List UInt8) (e : Ending) (w' : World) : Prop := ∃ v, e = .returned v ∧ Owns w' w.heap.size 5 v l ∧ Below w.heap.size w w'

theorem putR_bad {g p : Int} {r : Rec} (h : recB r = false ∨ inI g 0 65535 = false ∨ inI p 0 65535 = false) : putR g p r = [] := by
  unfold putR
  refine if_neg fun hc => ?_
  rcases h with h | h | h
  · rw [hc.1] at h; cases h
  · exact absurd hc.2.1 (of_decide_eq_false h)
  · exact absurd hc.2.2 (of_decide_eq_false h)
theorem putR_ok {g p : Int} {r : Rec} (h0 : recB r = true) (h1 : inI g 0 65535 = true) (h2 : inI p 0 65535 = true) : putR g p r = withSum (recBody g p r) := if_pos ⟨h0, of_decide_eq_true h1, of_decide_eq_true h2⟩

theorem own_empty (w : World) (base : Nat) (hb : base ≤ w.heap.size) : Owns (w.alloc (.cells #[] 5)) base 5 (.slice (some ⟨w.heap.size, 0, none⟩) 0 0) [] :=
  World.ownsRow_lit w #[] 0 hb (by simp) rfl
theorem one_u8 (w : World) (n : Int) : Reads (w.alloc (.cells #[.int .u8 (n % 256)] 5)) (w.alloc (.cells #[.int .u8 (n % 256)] 5)).heap.size 1 (some ⟨w.heap.size, 0, none⟩) 1 (bys [u8 n]) := by
  have h := reads_new w #[.int .u8 (n % 256)] 1 5 rfl (by simp [maxLen])
  have e : bys [u8 n] = [.int .u8 (n % 256)] := by simp [bys, u8_cell]
  rw [e]
  exact h

theorem Reads.up {w : World} {size n : Nat} {A : Option Addr} {xs : List Value} (h : Reads w w.heap.size size A n xs) (o : Obj) : Reads (w.alloc o) (w.alloc o).heap.size size A n xs := (h.alloc (Nat.le_refl _) o).more (by simp)
def BOX (w : World) (r : Rec) (w' : World) : Prop := Below w.heap.size w w' ∧ Given w' ∧ Hid (w'.heap[w.heap.size]? = some (.cells (recC r).toArray 32 (0, 0)))
instance BOX.keeps (w : World) (r : Rec) : Keeps (BOX w r) := ⟨fun h x => ⟨Later.trans x.1 h, Keeps.keeps (F := Given) h x.2.1, Lib.hid (Keeps.keeps (F := fun w' => w'.heap[w.heap.size]? = some (.cells (recC r).toArray 32 (0, 0))) h x.2.2.out)⟩⟩

theorem box01 {w w' : World} {r : Rec} (s : All (BOX w r) w') : w'.cell? ⟨w.heap.size, 0, none⟩ = some (.int .i64 r.kind) ∧ w'.cell? ⟨w.heap.size, 1, none⟩ = some (.int .i64 r.n) := ⟨(rec_box s.out.2.2.out).1, (rec_box s.out.2.2.out).2.1⟩
theorem box23 {w w' : World} {r : Rec} (s : All (BOX w r) w') : w'.cell? ⟨w.heap.size, 2, none⟩ = some (.int .i64 r.owner) ∧ w'.cell? ⟨w.heap.size, 3, none⟩ = some (.string r.text) := ⟨(rec_box s.out.2.2.out).2.2.1, (rec_box s.out.2.2.out).2.2.2⟩
theorem own_len {l l' : List UInt8} {n : Nat} (h : l.length = n) (x : UInt8) : (l ++ [x]).length = n + 1 := by simp [h]

end Go.Proofs.YtlnmlfpkpplgoaaDoor
