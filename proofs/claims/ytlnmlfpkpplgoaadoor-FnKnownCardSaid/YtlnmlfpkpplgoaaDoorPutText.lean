/- Contracts of chapter 1: PutText, GetText. -/
import Derived.Test.YtlnmlfpkpplgoaaDoorText
import Derived.Laws.IdiomStrings
import Derived.Laws.BytesArg
import Derived.Lib.AppendStr
import Derived.Outline
namespace Go.Proofs.YtlnmlfpkpplgoaaDoor
open Go.RowKit
set_option maxRecDepth 100000

/-- The encoding of a text behind other bytes. -/
def ptB (l : List UInt8) (s : List UInt8) : List UInt8 := if okB s then l ++ (u8 s.length :: s) else l

theorem okB_len {l : List UInt8} (h : okB l = true) : l.length ≤ 100 := by
  unfold okB at h
  rw [Bool.and_eq_true] at h
  exact of_decide_eq_true h.1
theorem ptB_len (l s : List UInt8) : (ptB l s).length ≤ l.length + 101 := by
  unfold ptB
  by_cases h : okB s = true
  · have := okB_len h
    rw [if_pos h]; simp; omega
  · rw [if_neg h]; omega

theorem one_byte (n : Nat) (h : n < 256) : [Value.int .u8 (n : Int)] = bys [u8 n] := by
  simp only [bys, List.map_cons, List.map_nil, u8_cell]
  rw [Int.emod_eq_of_lt (by omega) (by omega)]

/-- What '[]byte(s)' lays reads as the bytes of s. -/
theorem reads_str (w : World) (s : ByteArray) (e : TypeId) (cap : Nat) (f : Nat × Nat) :
    Reads (w.drew.alloc (.cells (bytesRow s cap) e f)) (w.drew.alloc (.cells (bytesRow s cap) e f)).heap.size 1 (some ⟨w.heap.size, 0, none⟩) s.data.toList.length (bys s.data.toList) := by
  refine ⟨by simp [bys], fun _ => ⟨_, rfl, by simp, fun j u hu => ?_⟩⟩
  have hadd : (⟨w.heap.size, 0, none⟩ : Addr).add j = ⟨w.heap.size, j, none⟩ := by unfold Addr.add; split <;> simp_all
  rw [hadd, cell_of_row _ w.heap.size j (bytesRow s cap) e f (heap_alloc_new w.drew _)]
  have hj : j < s.data.size := by
    rcases Nat.lt_or_ge j s.data.size with h | h
    · exact h
    · rw [List.getElem?_eq_none (by simpa [bys] using h)] at hu; cases hu
  simp only [bytesRow]
  simp only [bys, List.getElem?_map] at hu
  rw [← hu]
  have hjs : j < s.size := hj
  simp [Array.getElem?_append, hjs]

theorem strCells_bys (s : ByteArray) : Lib.strCells s = bys s.data.toList := rfl

end Go.Proofs.YtlnmlfpkpplgoaaDoor
