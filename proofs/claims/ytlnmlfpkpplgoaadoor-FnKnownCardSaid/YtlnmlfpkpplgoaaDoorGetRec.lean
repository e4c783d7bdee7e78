/- GetRec of the model and of the program. GetRec of the program. -/
import Derived.Test.YtlnmlfpkpplgoaaDoorPutRecS
import Derived.Test.YtlnmlfpkpplgoaaDoorGetText
import Derived.Test.YtlnmlfpkpplgoaaDoorShelf
namespace Go.Proofs.YtlnmlfpkpplgoaaDoor
open Go.RowKit
set_option maxRecDepth 100000
set_option linter.unusedVariables false

noncomputable def getP (b : List UInt8) : (Int × Int × Rec) × Bool := if getOk b = true then ((gwVal b 0, gwVal b 2, recAt b), true) else ((0, 0, zeroRec), false)
def RetGet (w : World) (p : (Int × Int × Rec) × Bool) (e : Ending) (w' : World) : Prop := e = .returned (.tuple #[.int .i64 p.1.1, .int .i64 p.1.2.1, .agg (recC p.1.2.2).toArray, .bool p.2]) ∧ Below w.heap.size w w'

theorem getP_no {b : List UInt8} (h : getOk b = false) : getP b = ((0, 0, zeroRec), false) := if_neg (by rw [h]; decide)
theorem getP_yes {b : List UInt8} (h : getOk b = true) : getP b = ((gwVal b 0, gwVal b 2, recAt b), true) := if_pos h
theorem getOk_short {b : List UInt8} (h : b.length < 11) : getOk b = false := by
  unfold getOk
  rw [decide_eq_false (by omega)]
  rfl
theorem getOk_long {b : List UInt8} (h : 11 ≤ b.length) : getOk b = (putR (gwVal b 0) (gwVal b 2) (recAt b) == b) := by
  unfold getOk
  rw [decide_eq_true h]
  rfl
theorem gtS_size (b : List UInt8) (p : Int) : (gtS b p).size ≤ 100 := by
  have := okB_len (gtS_ok b p)
  simpa using this
theorem gwNext_in {b : List UInt8} {p : Nat} (h : p + 2 ≤ b.length) : gwNext b (p : Int) = (p : Int) + 2 := by
  unfold gwNext
  rw [if_pos]
  unfold gwOk
  simp
  omega
theorem getD_of {b : List UInt8} {k : Nat} {u : UInt8} (h : b[k]? = some u) : b.getD k 0 = u := by simp [List.getD, h]

theorem getOk_no_text {b : List UInt8} (h : gtB b 8 = false) : getOk b = false := by
  cases hg : getOk b with
  | false => rfl
  | true => have h2 := getOk_text hg; rw [h] at h2; cases h2
theorem getOk_no_rec {b : List UInt8} {r : Rec} (hr : recAt b = r) (h : recB r = false) : getOk b = false := by
  cases hg : getOk b with
  | false => rfl
  | true => have h2 := getOk_rec hg; rw [hr, h] at h2; cases h2
theorem getOk_cmp {b : List UInt8} {gen pl : Int} {r : Rec} {y : Bool} (hl : 11 ≤ b.length) (h1 : gwVal b 0 = gen) (h2 : gwVal b 2 = pl) (h3 : recAt b = r) (hy : (putR gen pl r == b) = y) : getOk b = y := by
  rw [getOk_long hl, h1, h2, h3]
  exact hy

/-- Two bytes of a slice. -/
theorem Reads.two {w : World} {B n i j : Nat} {A : Option Addr} {l : List UInt8} (h : Reads w B 1 A n (bys l)) (hi : i < n) (hj : j < n) :
    ∃ b off u v, A = some ⟨b, off, none⟩ ∧ l[i]? = some u ∧ l[j]? = some v ∧ w.cell? ⟨b, off + i, none⟩ = some (.int .u8 (u.toNat : Int)) ∧ w.cell? ⟨b, off + j, none⟩ = some (.int .u8 (v.toNat : Int)) := by
  obtain ⟨b, off, u, hA, _, hu, hc⟩ := h.byte hi
  obtain ⟨b', off', v, hA', _, hv, hc'⟩ := h.byte hj
  rw [hA] at hA'
  injection hA' with hA'
  injection hA' with h1 h2
  subst h1 h2
  exact ⟨b, off, u, v, hA, hu, hv, hc, hc'⟩

theorem kset {w : World} {g b i j : Nat} {u v : Value} (h : w.cell? ⟨b, j, none⟩ = some v) (hne : g ≠ b) : (w.setCell ⟨g, i, none⟩ u).cell? ⟨b, j, none⟩ = some v :=
  (World.cell?_setCell_other w ⟨g, i, none⟩ ⟨b, j, none⟩ u (fun e => by cases e; exact hne rfl)).trans h
def GB (w : World) (A : Option Addr) (l : List UInt8) (w' : World) : Prop := Below w.heap.size w w' ∧ Given w' ∧ Hid (w'.heap[w.heap.size]? = some (.cells (recC zeroRec).toArray 32 (0, 0))) ∧ Reads w' w'.heap.size 1 A l.length (bys l) ∧ w.heap.size < w'.heap.size
instance GB.keeps (w : World) (A : Option Addr) (l : List UInt8) : Keeps (GB w A l) := ⟨fun h x => ⟨Later.trans x.1 h, Keeps.keeps (F := Given) h x.2.1, Lib.hid (Keeps.keeps (F := fun w' => w'.heap[w.heap.size]? = some (.cells (recC zeroRec).toArray 32 (0, 0))) h x.2.2.1.out), Keeps.keeps (F := fun w' => Reads w' w'.heap.size 1 A l.length (bys l)) h x.2.2.2.1, Nat.lt_of_lt_of_le x.2.2.2.2 h.size⟩⟩

end Go.Proofs.YtlnmlfpkpplgoaaDoor

namespace Go.Proofs.YtlnmlfpkpplgoaaDoor
open Go.RowKit
set_option linter.unusedVariables false

/-- The result's box is as it was made, r lies in the next. -/
structure GI (w : World) (r : Rec) (w' : World) : Prop where
  below : Below w.heap.size w w'
  zero : w'.heap[w.heap.size]? = some (.cells (recC zeroRec).toArray 32 (0, 0))
  var : w'.heap[w.heap.size + 1]? = some (.cells (recC r).toArray 32 (0, 0))
instance GI.keeps (w : World) (r : Rec) : Keeps (GI w r) := ⟨fun h x => ⟨Later.trans x.below h, (h.block _ (Array.getElem?_eq_some_iff.1 x.zero).1).trans x.zero, (h.block _ (Array.getElem?_eq_some_iff.1 x.var).1).trans x.var⟩⟩
theorem GI.set {w w' : World} {r : Rec} (h : GI w r w') (i : Nat) (u : Value) (r' : Rec) (hr : (recC r).toArray.setIfInBounds i u = (recC r').toArray) : GI w r' (w'.setCell ⟨w.heap.size + 1, i, none⟩ u) :=
  ⟨h.below.setCell (p := ⟨w.heap.size + 1, i, none⟩) (Nat.le_succ _) _, (heap_setCell_other _ _ _ _ (by simp)).trans h.zero, by rw [← hr]; exact var_set h.var i u⟩

end Go.Proofs.YtlnmlfpkpplgoaaDoor
