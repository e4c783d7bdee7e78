/- Contract of the program's NumText, over the library's table, and what becomes of the table. -/
import Derived.Test.YtlnmlfpkpplgoaaDoorNum
import Derived.Test.YtlnmlfpkpplgoaaDoorShelf
import Derived.WalkSmall
namespace Go.Proofs.YtlnmlfpkpplgoaaDoor
open Go.RowKit
set_option maxRecDepth 100000

/-- The table of the powers of ten lies where the program laid it. -/
def Tab (w : World) : Prop := Lib.TabIs Tryd.prog w "internal/strconv.uint64pow10" .u64 Lib.pow10Tab

theorem gTab : Tryd.prog.globalNamed "internal/strconv.uint64pow10" = some 1 := by kernel_rfl

theorem Tab.lt {w : World} (h : Tab w) : 1 < w.heap.size := by
  have := h.cell gTab 0 (by rw [Lib.pow10Tab_length]; omega)
  exact World.block_lt_of_cell? w _ this
theorem Tab.below {w w' : World} (h : Tab w) (hb : Below w.heap.size w w') : Tab w' := var?_below hb gTab h.lt h
theorem Tab.drewN {w : World} (h : Tab w) (n : Nat) : Tab (w.drewN n) := h.below (below_drewN (Below.refl _ _) n)

theorem below_grow (w : World) (os : Array Obj) : Below w.heap.size w (Sort.grow w os) :=
  ⟨rfl, rfl, rfl, by simp [Sort.grow], fun k hk => by
    show (w.heap ++ os)[k]? = w.heap[k]?
    rw [Array.getElem?_append, if_pos hk]⟩

theorem numText_any (n : Int) (h0 : -9223372036854775808 ≤ n) (h1 : n ≤ 9223372036854775807) (w : World) (ht : Tab w) :
    Calls Tryd.prog 61 #[.int .i64 n] w fun e w' => e = .returned (.string ⟨(Lib.itoa n).toArray⟩) ∧ Below w.heap.size w w' := by
  have HT := Lib.hid ht
  clear ht
  go_enter Tryd.func61, Tryd.ntmps61
  go_wp2_with fail
  refine (Tryd.strconv_Itoa n h0 h1 w HT.out).mono ?_
  rintro e w' ⟨rfl, k, os, hw⟩
  have hb : Below w.heap.size w w' := by
    rw [hw]
    exact (below_drewN (Below.refl _ _) k).trans ((below_grow (w.drewN k) os).mono (Nat.le_refl _))
  clear hw
  go_wp2_with fail
  go_ret
  exact ⟨rfl, hb⟩

end Go.Proofs.YtlnmlfpkpplgoaaDoor
