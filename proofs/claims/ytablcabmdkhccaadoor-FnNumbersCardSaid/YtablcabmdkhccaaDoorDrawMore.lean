/- More contracts of the draws: a yes or no, an element of a list, a text. -/
import Derived.Test.YtablcabmdkhccaaDoorDraw
import Derived.Test.YtablcabmdkhccaaDoorSlice
namespace Go.Proofs.YtablcabmdkhccaaDoor
open Go.RowKit

set_option maxHeartbeats 400000 in
theorem l1Once_any (lo g : Nat) (A : Option Addr) (n c : Nat) (code : List UInt8) (m : Nat) (w : World) (h : Cur w lo g A n c code) (hn : n ≤ 140737488351232) (hm : m ≤ 1000000000) (hm0 : 0 < m) :
    Calls Tryd.prog 23 #[.pointer (some ⟨g, 0, none⟩), .int .i64 m] w fun e w' => ∃ b : Bool, e = .returned (.bool b) ∧ Cur w' lo g A n c code ∧ w.grownBy w' (some g) := by
  go_enter Tryd.func23, Tryd.ntmps23
  go_wp2_with fail
  refine (l1Below_any lo g A n c code m w h hn hm hm0).mono ?_
  rintro e w1 ⟨x, hx, rfl, hc, hg⟩
  go_wp2_with fail
  go_ret
  exact ⟨_, rfl, hc, hg⟩

set_option maxHeartbeats 400000 in
/-- An element of a list of ints, which lies in block L. -/
theorem l1Int_any (lo g L : Nat) (A : Option Addr) (n c : Nat) (code : List UInt8) (zs : List Int) (w : World) (h : Cur w lo g A n c code) (hn : n ≤ 140737488351232) (hz0 : 0 < zs.length) (hz : zs.length ≤ 1000)
    (hL : w.heap[L]? = some (.cells (zs.map (Value.int .i64)).toArray 3 (0, 0))) (hne : L ≠ g) :
    Calls Tryd.prog 28 #[.pointer (some ⟨g, 0, none⟩), .slice (some ⟨L, 0, none⟩) zs.length zs.length] w fun e w' => ∃ z : Int, z ∈ zs ∧ e = .returned (.int .i64 z) ∧ Cur w' lo g A n c code ∧ w.grownBy w' (some g) := by
  have hLlt : L < w.heap.size := (Array.getElem?_eq_some_iff.1 hL).1
  have HL := Lib.hid hL
  clear hL
  go_enter Tryd.func28, Tryd.ntmps28
  go_wp2_with fail
  refine (l1Below_any lo g A n c code zs.length w h hn (by omega) hz0).mono ?_
  rintro e w1 ⟨x, hx, rfl, hc, hg⟩
  have hblk : w1.heap[L]? = some (.cells (zs.map (Value.int .i64)).toArray 3 (0, 0)) := (hg.block L hLlt (by simpa using hne)).trans HL.out
  have hcell : w1.cell? ⟨L, x, none⟩ = some (.int .i64 zs[x]) := by
    rw [blk_cell hblk x]
    simp [hx]
  have hmem : zs[x] ∈ zs := List.getElem_mem hx
  generalize zs[x] = z at hcell hmem
  have i1 : (0 : Int) ≤ (x : Int) := by omega
  have i2 : (x : Int) < (zs.length : Int) := by omega
  have HM := Lib.hid hmem
  clear hmem hblk
  go_wp2_with fail
  go_ret
  exact ⟨z, HM.out, rfl, hc, hg⟩

set_option maxHeartbeats 400000 in
/-- An element of a list of strings. -/
theorem l1Str_any (lo g L : Nat) (A : Option Addr) (n c : Nat) (code : List UInt8) (ss : List ByteArray) (w : World) (h : Cur w lo g A n c code) (hn : n ≤ 140737488351232) (hz0 : 0 < ss.length) (hz : ss.length ≤ 1000)
    (hL : w.heap[L]? = some (.cells (ss.map Value.string).toArray 9 (0, 0))) (hne : L ≠ g) :
    Calls Tryd.prog 29 #[.pointer (some ⟨g, 0, none⟩), .slice (some ⟨L, 0, none⟩) ss.length ss.length] w fun e w' => ∃ s : ByteArray, s ∈ ss ∧ e = .returned (.string s) ∧ Cur w' lo g A n c code ∧ w.grownBy w' (some g) := by
  have hLlt : L < w.heap.size := (Array.getElem?_eq_some_iff.1 hL).1
  have HL := Lib.hid hL
  clear hL
  go_enter Tryd.func29, Tryd.ntmps29
  go_wp2_with fail
  refine (l1Below_any lo g A n c code ss.length w h hn (by omega) hz0).mono ?_
  rintro e w1 ⟨x, hx, rfl, hc, hg⟩
  have hblk : w1.heap[L]? = some (.cells (ss.map Value.string).toArray 9 (0, 0)) := (hg.block L hLlt (by simpa using hne)).trans HL.out
  have hcell : w1.cell? ⟨L, x, none⟩ = some (.string ss[x]) := by
    rw [blk_cell hblk x]
    simp [hx]
  have hmem : ss[x] ∈ ss := List.getElem_mem hx
  generalize ss[x] = z at hcell hmem
  have i1 : (0 : Int) ≤ (x : Int) := by omega
  have i2 : (x : Int) < (ss.length : Int) := by omega
  have HM := Lib.hid hmem
  clear hmem hblk
  go_wp2_with fail
  go_ret
  exact ⟨z, HM.out, rfl, hc, hg⟩

/-- A cursor over a new block that lies beside it. -/
theorem Cur.alloc {w : World} {lo g : Nat} {A : Option Addr} {n c : Nat} {code : List UInt8} (h : Cur w lo g A n c code) (o : Obj) : Cur (w.alloc o) lo g A n c code :=
  h.keep (World.grownBy_alloc w o none) (by simp) (fun k hk => by cases hk)

set_option maxHeartbeats 400000 in
/-- Any int. -/
theorem l1Odd_any (lo g : Nat) (A : Option Addr) (n c : Nat) (code : List UInt8) (w : World) (h : Cur w lo g A n c code) (hn : n ≤ 140737488351232) :
    Calls Tryd.prog 24 #[.pointer (some ⟨g, 0, none⟩)] w fun e w' => ∃ z : Int, -9223372036854775808 ≤ z ∧ z ≤ 9223372036854775807 ∧ e = .returned (.int .i64 z) ∧ Cur w' lo g A n c code ∧ w.grownBy w' (some g) := by
  go_enter Tryd.func24, Tryd.ntmps24
  go_wp2_with fail
  refine (l1Int_any lo g w.heap.size A n c code [-1, 0, 1, 2, 255, 256, 65535, 2147483647, 2147483648, 4294967295, 4294967296, -2147483648, 9223372036854775807, -9223372036854775808] _ (h.alloc _) hn (by decide) (by decide) (heap_alloc_new w _) (by have := h.lt; omega)).mono ?_
  rintro e w1 ⟨z, hz, rfl, hc, hg⟩
  have hzb : -9223372036854775808 ≤ z ∧ z ≤ 9223372036854775807 := by
    simp only [List.mem_cons, List.not_mem_nil, or_false] at hz
    omega
  obtain ⟨hz1, hz2⟩ := hzb
  have H1 := Lib.hid hz1
  have H2 := Lib.hid hz2
  clear hz hz1 hz2
  go_wp2_with fail
  go_ret
  exact ⟨z, H1.out, H2.out, rfl, hc, (World.grownBy_alloc w _ _).trans hg⟩

end Go.Proofs.YtablcabmdkhccaaDoor
