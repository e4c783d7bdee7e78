/- Contracts of the draws: a cursor over the bytes of the code. What is drawn is left open; how great it is, and what the memory is, is said. More contracts of the draws: a yes or no, an element of a list, a text. -/
import Derived.Test.YtlenidiijiinjaaProg
import Derived.Test.YtlenidiijiinjaaShut
import Derived.Test.YtlenidiijiinjaaBits
import Derived.BigQuiet
import Derived.Deep.QuietTactic
import Derived.Lib.Hide
import Derived.KernelRfl
import Derived.WalkSmall
import Derived.Outline
namespace Go.Proofs.Ytlenidiijiinjaa
open Go.RowKit

/-- The block g is a cursor over the slice '.slice A n c', at place i. -/
structure Cur (w : World) (lo g : Nat) (A : Option Addr) (n c : Nat) (code : List UInt8) : Prop where
  from_ : lo ≤ g
  rd : Reads w lo 1 A n (bys code)
  blk : ∃ (i : Nat) (h : Int), i ≤ n ∧ -9223372036854775808 ≤ h ∧ h ≤ 9223372036854775807 ∧ w.heap[g]? = some (.cells #[.slice A n c, .int .i64 i, .int .i64 h] 61 (0, 0))

theorem blk_cell {w : World} {g t : Nat} {cs : Array Value} (h : w.heap[g]? = some (.cells cs t (0, 0))) (i : Nat) : w.cell? ⟨g, i, none⟩ = cs[i]? := cell_of_row w g i cs t (0, 0) h
theorem blk_frozen {w : World} {g t : Nat} {cs : Array Value} (h : w.heap[g]? = some (.cells cs t (0, 0))) (i : Nat) : w.frozen? ⟨g, i, none⟩ = false := by simp [World.frozen?, h]
theorem blk_set {w : World} {g t : Nat} {cs : Array Value} (h : w.heap[g]? = some (.cells cs t (0, 0))) (i : Nat) (u : Value) : (w.setCell ⟨g, i, none⟩ u).heap[g]? = some (.cells (cs.setIfInBounds i u) t (0, 0)) := by
  simp [World.setCell, Array.getElem?_modify, h]
theorem grown_set (w : World) (g i : Nat) (u : Value) : w.grownBy (w.setCell ⟨g, i, none⟩ u) (some g) :=
  ⟨rfl, rfl, rfl, by simp, fun k _ hk => heap_setCell_other w ⟨g, i, none⟩ k u (fun e => hk (by simp [e]))⟩
theorem grown_drewN (w : World) (n : Nat) (row : Option Nat) : w.grownBy (w.drewN n) row := ⟨rfl, rfl, rfl, Nat.le_refl _, fun _ _ _ => rfl⟩
theorem Cur.keep {w w' : World} {lo g : Nat} {A : Option Addr} {n c : Nat} {code : List UInt8} (h : Cur w lo g A n c code) {row : Option Nat} (hg : w.grownBy w' row) (hne : some g ≠ row) (hr : ∀ k, row = some k → lo ≤ k) : Cur w' lo g A n c code := by
  obtain ⟨hlo, hrd, i, hh, hi, h1, h2, hb⟩ := h
  have hlt : g < w.heap.size := World.block_lt_of_cell? w ⟨g, 0, none⟩ (blk_cell hb 0)
  exact ⟨hlo, hrd.grown hg (by omega) hr, i, hh, hi, h1, h2, by rw [hg.block g hlt hne]; exact hb⟩
theorem Cur.lt {w : World} {lo g : Nat} {A : Option Addr} {n c : Nat} {code : List UInt8} (h : Cur w lo g A n c code) : g < w.heap.size := by
  obtain ⟨_, _, i, hh, _, _, _, hb⟩ := h
  exact World.block_lt_of_cell? w ⟨g, 0, none⟩ (blk_cell hb 0)
theorem grown_then {w wr w2 : World} {g : Nat} {row : Option Nat} (h : w.grownBy wr (some g)) (h2 : wr.grownBy w2 row) (hr : ∀ k, row = some k → w.heap.size ≤ k) : w.grownBy w2 (some g) :=
  ⟨h2.os.trans h.os, h2.tape.trans h.tape, h2.output.trans h.output, Nat.le_trans h.size h2.size, fun k hk hne =>
    (h2.block k (Nat.lt_of_lt_of_le hk h.size) (fun e => by have := hr k e.symm; omega)).trans (h.block k hk hne)⟩
theorem wrap64_bd (x : Int) : -9223372036854775808 ≤ wrap64 x ∧ wrap64 x ≤ 9223372036854775807 := by unfold wrap64; omega

set_option maxHeartbeats 1000000 in
theorem l1Byte_any (lo g : Nat) (A : Option Addr) (n c : Nat) (code : List UInt8) (w : World) (h : Cur w lo g A n c code) (hn : n ≤ 140737488351232) :
    Calls Try.prog 43 #[.pointer (some ⟨g, 0, none⟩)] w fun e w' => ∃ x : Int, 0 ≤ x ∧ x ≤ 255 ∧ e = .returned (.int .i64 x) ∧ Cur w' lo g A n c code ∧ w.grownBy w' (some g) := by
  obtain ⟨hlo, hrd, i, hh, hi, hb1, hb2, hblk⟩ := h
  have hc0 : w.cell? ⟨g, 0, none⟩ = some (.slice A n c) := blk_cell hblk 0
  have hc1 : w.cell? ⟨g, 1, none⟩ = some (.int .i64 i) := blk_cell hblk 1
  have hc2 : w.cell? ⟨g, 2, none⟩ = some (.int .i64 hh) := blk_cell hblk 2
  have hf0 := blk_frozen hblk 1
  have hf2 := blk_frozen hblk 2
  have hlt0 : g < w.heap.size := World.block_lt_of_cell? w ⟨g, 0, none⟩ hc0
  have HB := Lib.hid hblk
  clear hblk
  go_enter Try.func43, Try.ntmps43
  go_wp2
  generalize hH : wrap64 (wrap64 (hh * 6364136223846793005) + 1442695040888963407) = H
  have hH1 : -9223372036854775808 ≤ H ∧ H ≤ 9223372036854775807 := by rw [← hH]; exact wrap64_bd _
  obtain ⟨hH2, hH3⟩ := hH1
  clear hH
  have hset := blk_set HB.out 2 (.int .i64 H)
  have hgr := grown_set w g 2 (.int .i64 H)
  generalize hW : w.setCell ⟨g, 2, none⟩ (.int .i64 H) = W1
  rw [hW] at hset hgr
  clear hW
  have hset' : W1.heap[g]? = some (.cells #[.slice A n c, .int .i64 i, .int .i64 H] 61 (0, 0)) := hset
  have hrd1 := hrd.grown hgr (by omega) (fun k hk => by injection hk with hk; omega)
  clear hc0 hc1 hc2 hf0 hf2 hrd hset HB
  have hc0 : W1.cell? ⟨g, 0, none⟩ = some (.slice A n c) := blk_cell hset' 0
  have hc1 : W1.cell? ⟨g, 1, none⟩ = some (.int .i64 i) := blk_cell hset' 1
  have hc2 : W1.cell? ⟨g, 2, none⟩ = some (.int .i64 H) := blk_cell hset' 2
  have hf1 := blk_frozen hset' 1
  have HB := Lib.hid hset'
  have HG := Lib.hid hgr
  have hand := i64_and255
  clear hset' hgr
  by_cases hlt : i < n
  · obtain ⟨b, off, u, rfl, _, _, hcell⟩ := hrd1.byte hlt
    have hu := u.toNat_lt
    have hu' : u.toNat < 256 := hu
    clear hu
    have i1 : (0 : Int) ≤ (i : Int) := by omega
    have i2 : (i : Int) < (n : Int) := by omega
    go_quiet (fail)
    generalize hx : bits BinOp.xor IntKind.i64 (H / 8589934592) (H / 140737488355328) % 256 = x0
    have hx1 : 0 ≤ x0 ∧ x0 < 256 := by rw [← hx]; omega
    obtain ⟨hx2, hx3⟩ := hx1
    clear hx
    go_wp2
    go_quiet (fail)
    go_wp2
    go_quiet (fail)
    go_wp2
    go_ret
    refine ⟨(x0 + u.toNat) % 256, by omega, by omega, rfl, ⟨hlo, (hrd1.drewN _).setCell hlo _, i + 1, H, by omega, hH2, hH3, ?_⟩, HG.out.trans ((grown_drewN _ _ _).trans (grown_set _ _ _ _))⟩
    exact blk_set (w := W1.drewN _) HB.out 1 _
  · go_quiet (fail)
    generalize hx : bits BinOp.xor IntKind.i64 (H / 8589934592) (H / 140737488355328) % 256 = x0
    have hx1 : 0 ≤ x0 ∧ x0 < 256 := by rw [← hx]; omega
    obtain ⟨hx2, hx3⟩ := hx1
    clear hx
    go_wp2
    go_quiet (fail)
    go_wp2
    go_ret
    exact ⟨x0, by omega, by omega, rfl, ⟨hlo, hrd1, i, H, by omega, hH2, hH3, HB.out⟩, HG.out.trans ((grown_drewN _ _ _).trans (grown_drewN _ _ _))⟩

set_option maxHeartbeats 1000000 in
/-- A number below m (0 where m is none). -/
theorem l1Below_any (lo g : Nat) (A : Option Addr) (n c : Nat) (code : List UInt8) (m : Nat) (w : World) (h : Cur w lo g A n c code) (hn : n ≤ 140737488351232) (hm : m ≤ 1000000000) (hm0 : 0 < m) :
    Calls Try.prog 31 #[.pointer (some ⟨g, 0, none⟩), .int .i64 m] w fun e w' => ∃ x : Nat, x < m ∧ e = .returned (.int .i64 x) ∧ Cur w' lo g A n c code ∧ w.grownBy w' (some g) := by
  by_cases h256 : m ≤ 256
  · go_enter Try.func31, Try.ntmps31
    go_wp2_with fail
    refine (l1Byte_any lo g A n c code w h hn).mono ?_
    rintro e w1 ⟨x, hx0, hx1, rfl, hc, hg⟩
    go_wp2_with fail
    go_ret
    obtain ⟨xn, rfl⟩ := Int.eq_ofNat_of_zero_le hx0
    exact ⟨xn % m, Nat.mod_lt _ hm0, rfl, hc, hg⟩
  · go_enter Try.func31, Try.ntmps31
    go_wp2_with fail
    refine (l1Byte_any lo g A n c code w h hn).mono ?_
    rintro e w1 ⟨x, hx0, hx1, rfl, hc, hg⟩
    go_wp2_with fail
    refine (l1Byte_any lo g A n c code w1 hc hn).mono ?_
    rintro e w2 ⟨y, hy0, hy1, rfl, hc2, hg2⟩
    go_wp2_with fail
    refine (l1Byte_any lo g A n c code w2 hc2 hn).mono ?_
    rintro e w3 ⟨z, hz0, hz1, rfl, hc3, hg3⟩
    obtain ⟨xn, rfl⟩ := Int.eq_ofNat_of_zero_le hx0
    obtain ⟨yn, rfl⟩ := Int.eq_ofNat_of_zero_le hy0
    obtain ⟨zn, rfl⟩ := Int.eq_ofNat_of_zero_le hz0
    go_wp2_with fail
    go_ret
    exact ⟨(xn * 65536 + yn * 256 + zn) % m, Nat.mod_lt _ hm0, rfl, hc3, hg.trans (hg2.trans hg3)⟩

theorem Try.info8d : (Try.prog.info? 5).map (fun i => (i.zero, i.size, i.bytes)) = some (some (.int .u8 0), 1, 1) := by kernel_rfl
theorem byte_back {x : Int} (h0 : 0 ≤ x) (h1 : x ≤ 255) : Value.int .u8 x = .int .u8 (((UInt8.ofNat x.toNat).toNat : Nat) : Int) := by
  congr 1
  simp
  omega

set_option maxRecDepth 100000 in
set_option maxHeartbeats 1000000 in
/-- A new cursor at the code's beginning. -/
theorem l1New_any (A : Option Addr) (c : Nat) (code : List UInt8) (w : World) (h : Reads w w.heap.size 1 A code.length (bys code)) (hn : code.length ≤ 1048576) :
    Calls Try.prog 29 #[.slice A code.length c] w fun e w' => ∃ g, e = .returned (.pointer (some ⟨g, 0, none⟩)) ∧ Cur w' w.heap.size g A code.length c code ∧ Below w.heap.size w w' := by
  go_enter Try.func29, Try.ntmps29
  go_wp2
  go_loop [3, 4] (fun h i => ∃ (k : Nat) (q : Int), k ≤ code.length ∧ i = .int .i64 k ∧ h = .int .i64 q ∧ 0 ≤ q ∧ q < 1073741824) (fun _ i => code.length - (intOf i).toNat)
  case atStart => exact ⟨0, 128871 + (code.length : Int), by omega, rfl, rfl, by omega, by omega⟩
  case round =>
    obtain ⟨k, q, hk, rfl, rfl, hq0, hq1⟩ := hrel
    by_cases hlt : k < code.length
    · by_cases h4 : (k : Int) < 4000
      · obtain ⟨b, off, u, rfl, _, _, hcell⟩ := h.byte hlt
        have hu : u.toNat < 256 := u.toNat_lt
        have hmask := i64_and30
        go_wp2
        go_round
        case rel => exact ⟨k + 1, _, by omega, by go_num, rfl, by omega, by omega⟩
        case measure => simp [intOf]; omega
      · go_wp2
        go_ret
        exact ⟨w.heap.size, rfl, ⟨Nat.le_refl _, h.alloc (Nat.le_refl _) _, 0, q, by omega, by omega, by omega, heap_alloc_new w _⟩, (Below.refl _ _).alloc (Nat.le_refl _) _⟩
    · go_wp2
      go_ret
      exact ⟨w.heap.size, rfl, ⟨Nat.le_refl _, h.alloc (Nat.le_refl _) _, 0, q, by omega, by omega, by omega, heap_alloc_new w _⟩, (Below.refl _ _).alloc (Nat.le_refl _) _⟩

end Go.Proofs.Ytlenidiijiinjaa

namespace Go.Proofs.Ytlenidiijiinjaa
open Go.RowKit

set_option maxHeartbeats 400000 in
theorem l1Once_any (lo g : Nat) (A : Option Addr) (n c : Nat) (code : List UInt8) (m : Nat) (w : World) (h : Cur w lo g A n c code) (hn : n ≤ 140737488351232) (hm : m ≤ 1000000000) (hm0 : 0 < m) :
    Calls Try.prog 34 #[.pointer (some ⟨g, 0, none⟩), .int .i64 m] w fun e w' => ∃ b : Bool, e = .returned (.bool b) ∧ Cur w' lo g A n c code ∧ w.grownBy w' (some g) := by
  go_enter Try.func34, Try.ntmps34
  go_wp2_with fail
  refine (l1Below_any lo g A n c code m w h hn hm hm0).mono ?_
  rintro e w1 ⟨x, hx, rfl, hc, hg⟩
  go_wp2_with fail
  go_ret
  exact ⟨_, rfl, hc, hg⟩

set_option maxHeartbeats 400000 in
/-- An element of a list of ints, which lies in block L. -/
theorem l1Int_any (lo g L : Nat) (A : Option Addr) (n c : Nat) (code : List UInt8) (zs : List Int) (w : World) (h : Cur w lo g A n c code) (hn : n ≤ 140737488351232) (hz0 : 0 < zs.length) (hz : zs.length ≤ 1000)
    (hL : w.heap[L]? = some (.cells (zs.map (Value.int .i64)).toArray 3 (0, 0))) (hne : L ≠ g) :
    Calls Try.prog 30 #[.pointer (some ⟨g, 0, none⟩), .slice (some ⟨L, 0, none⟩) zs.length zs.length] w fun e w' => ∃ z : Int, z ∈ zs ∧ e = .returned (.int .i64 z) ∧ Cur w' lo g A n c code ∧ w.grownBy w' (some g) := by
  have hLlt : L < w.heap.size := (Array.getElem?_eq_some_iff.1 hL).1
  have HL := Lib.hid hL
  clear hL
  go_enter Try.func30, Try.ntmps30
  go_wp2_with fail
  refine (l1Below_any lo g A n c code zs.length w h hn (by omega) hz0).mono ?_
  rintro e w1 ⟨x, hx, rfl, hc, hg⟩
  have hblk : w1.heap[L]? = some (.cells (zs.map (Value.int .i64)).toArray 3 (0, 0)) := (hg.block L hLlt (by simpa using hne)).trans HL.out
  have hcell : w1.cell? ⟨L, x, none⟩ = some (.int .i64 zs[x]) := by
    rw [blk_cell hblk x]
    simp [hx]
  have hmem : zs[x] ∈ zs := List.getElem_mem hx
  generalize zs[x] = z at hcell hmem
  have i1 : (0 : Int) ≤ (x : Int) := by omega
  have i2 : (x : Int) < (zs.length : Int) := by omega
  have HM := Lib.hid hmem
  clear hmem hblk
  go_wp2_with fail
  go_ret
  exact ⟨z, HM.out, rfl, hc, hg⟩

set_option maxHeartbeats 400000 in
/-- An element of a list of strings. -/
theorem l1Str_any (lo g L : Nat) (A : Option Addr) (n c : Nat) (code : List UInt8) (ss : List ByteArray) (w : World) (h : Cur w lo g A n c code) (hn : n ≤ 140737488351232) (hz0 : 0 < ss.length) (hz : ss.length ≤ 1000)
    (hL : w.heap[L]? = some (.cells (ss.map Value.string).toArray 9 (0, 0))) (hne : L ≠ g) :
    Calls Try.prog 44 #[.pointer (some ⟨g, 0, none⟩), .slice (some ⟨L, 0, none⟩) ss.length ss.length] w fun e w' => ∃ s : ByteArray, s ∈ ss ∧ e = .returned (.string s) ∧ Cur w' lo g A n c code ∧ w.grownBy w' (some g) := by
  have hLlt : L < w.heap.size := (Array.getElem?_eq_some_iff.1 hL).1
  have HL := Lib.hid hL
  clear hL
  go_enter Try.func44, Try.ntmps44
  go_wp2_with fail
  refine (l1Below_any lo g A n c code ss.length w h hn (by omega) hz0).mono ?_
  rintro e w1 ⟨x, hx, rfl, hc, hg⟩
  have hblk : w1.heap[L]? = some (.cells (ss.map Value.string).toArray 9 (0, 0)) := (hg.block L hLlt (by simpa using hne)).trans HL.out
  have hcell : w1.cell? ⟨L, x, none⟩ = some (.string ss[x]) := by
    rw [blk_cell hblk x]
    simp [hx]
  have hmem : ss[x] ∈ ss := List.getElem_mem hx
  generalize ss[x] = z at hcell hmem
  have i1 : (0 : Int) ≤ (x : Int) := by omega
  have i2 : (x : Int) < (ss.length : Int) := by omega
  have HM := Lib.hid hmem
  clear hmem hblk
  go_wp2_with fail
  go_ret
  exact ⟨z, HM.out, rfl, hc, hg⟩

/-- A cursor over a new block that lies beside it. -/
theorem Cur.alloc {w : World} {lo g : Nat} {A : Option Addr} {n c : Nat} {code : List UInt8} (h : Cur w lo g A n c code) (o : Obj) : Cur (w.alloc o) lo g A n c code :=
  h.keep (World.grownBy_alloc w o none) (by simp) (fun k hk => by cases hk)

end Go.Proofs.Ytlenidiijiinjaa
