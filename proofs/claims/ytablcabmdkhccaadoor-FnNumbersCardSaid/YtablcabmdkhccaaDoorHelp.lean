/- Contracts of the helpers that every exact law calls: a copy of a byte slice, equality of two byte slices that hold the same bytes, marks written and found again. -/
import Derived.Test.YtablcabmdkhccaaDoorProg
import Derived.Test.YtablcabmdkhccaaDoorMem
import Derived.BigQuiet
import Derived.Deep.QuietTactic
import Derived.Lib.Hide
import Derived.KernelRfl
import Derived.Outline
namespace Go.Proofs.YtablcabmdkhccaaDoor
open Go.RowKit

theorem Tryd.info8 : (Tryd.prog.info? 5).map (fun i => (i.zero, i.size, i.bytes)) = some (some (.int .u8 0), 1, 1) := by kernel_rfl

theorem take_snoc_get {l : List UInt8} {k : Nat} {u : UInt8} (h : l[k]? = some u) : l.take (k + 1) = l.take k ++ [u] := by
  rw [List.take_add_one, h]; rfl

/-- What the row holds when the first k bytes have been copied. -/
def half (l : List UInt8) (k : Nat) : List UInt8 := l.take k ++ List.replicate (l.length - k) 0

theorem half_length {l : List UInt8} {k : Nat} (h : k ≤ l.length) : (half l k).length = l.length := by
  simp [half]; omega
theorem half_zero (l : List UInt8) : half l 0 = List.replicate l.length 0 := by simp [half]
theorem half_all (l : List UInt8) : half l l.length = l := by simp [half]
theorem half_get {l : List UInt8} {k : Nat} (h : k < l.length) : (half l k)[k]? = some 0 := by
  unfold half
  rw [List.getElem?_append_right (by simp; omega)]
  simp [List.getElem?_replicate]
  omega
theorem half_set {l : List UInt8} {k : Nat} {u : UInt8} (h : l[k]? = some u) : (bys (half l k)).set k (.int .u8 (u.toNat : Int)) = bys (half l (k + 1)) := by
  have hk : k < l.length := by
    rcases Nat.lt_or_ge k l.length with h' | h'
    · exact h'
    · rw [List.getElem?_eq_none h'] at h; cases h
  have e : l.length - k = (l.length - (k + 1)) + 1 := by omega
  unfold half bys
  rw [take_snoc_get h, e, List.replicate_succ]
  simp only [List.map_append, List.map_cons, List.append_assoc, List.cons_append, List.nil_append]
  rw [List.set_append_right _ _ (by simp; omega)]
  have : k - (List.map (fun b : UInt8 => Value.int .u8 (b.toNat : Int)) (l.take k)).length = 0 := by simp; omega
  rw [this]
  rfl

theorem bys_zeros (n : Nat) : bys (List.replicate n 0) = (madeCells (Value.int .u8 0).cells (n * 1)).toList := by
  rw [Nat.mul_one]
  have : (Value.int .u8 0).cells = #[Value.int .u8 0] := rfl
  rw [this, toList_madeCells_one]
  simp [bys]

/-- The marks k, k+1, .. -/
def marks (k n : Nat) : List UInt8 := (List.range n).map fun j => UInt8.ofNat (k + j)
theorem marks_length (k n : Nat) : (marks k n).length = n := by simp [marks]
theorem marks_succ (k n : Nat) : marks k (n + 1) = marks k n ++ [UInt8.ofNat (k + n)] := by simp [marks, List.range_succ]
theorem marks_get {k n j : Nat} (h : j < n) : (marks k n)[j]? = some (UInt8.ofNat (k + j)) := by simp [marks, h]

def marked (k : Nat) (l : List UInt8) (j : Nat) : List UInt8 := marks k j ++ l.drop j
theorem mark_cell (k j : Nat) : (((UInt8.ofNat (k + j)).toNat : Nat) : Int) = ((k : Int) + (j : Int)) % 256 := by
  simp
theorem drop_cons {l : List UInt8} {j : Nat} (h : j < l.length) : l.drop j = l[j] :: l.drop (j + 1) := List.drop_eq_getElem_cons h
theorem marked_get {k j : Nat} {l : List UInt8} (h : j < l.length) : (bys (marked k l j))[j]? = some (.int .u8 ((l[j]).toNat : Int)) := by
  apply bys_get
  unfold marked
  rw [List.getElem?_append_right (by rw [marks_length]; omega), marks_length]
  simp [h]
theorem marked_set {k j : Nat} {l : List UInt8} (h : j < l.length) : (bys (marked k l j)).set j (Value.int .u8 (((k : Int) + (j : Int)) % 256)) = bys (marked k l (j + 1)) := by
  unfold marked
  rw [drop_cons h, marks_succ, ← mark_cell]
  unfold bys
  simp only [List.map_append, List.map_cons, List.append_assoc, List.cons_append, List.nil_append]
  rw [List.set_append_right _ _ (by simp [marks_length])]
  have : j - (List.map (fun b : UInt8 => Value.int .u8 (b.toNat : Int)) (marks k j)).length = 0 := by simp [marks_length]
  rw [this]
  rfl
theorem marked_zero (k : Nat) (l : List UInt8) : marked k l 0 = l := by simp [marked, marks]
theorem marked_all (k : Nat) (l : List UInt8) : marked k l l.length = marks k l.length := by simp [marked]

end Go.Proofs.YtablcabmdkhccaaDoor
