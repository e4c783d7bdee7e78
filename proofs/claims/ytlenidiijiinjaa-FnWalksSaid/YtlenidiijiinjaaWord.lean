/- Contracts of chapter 1: PutWord. -/
import Derived.Test.YtlenidiijiinjaaShut
import Derived.Test.YtlenidiijiinjaaBits
import Derived.Outline
namespace Go.Proofs.Ytlenidiijiinjaa
open Go.RowKit

/-- The byte that an integer is cut to. -/
def u8 (n : Int) : UInt8 := UInt8.ofNat (n % 256).toNat
theorem u8_cell (n : Int) : (((u8 n).toNat : Nat) : Int) = n % 256 := by
  unfold u8
  simp
  omega

/-- The two bytes of a word. -/
def wordBytes (n : Int) : List UInt8 := [u8 (n / 256), u8 n]

theorem wordBytes_cells (n : Int) : bys (wordBytes n) = [.int .u8 (n / 256 % 256), .int .u8 (n % 256)] := by
  simp [bys, wordBytes, u8_cell]

theorem reads_new (w : World) (cs : Array Value) (n : Nat) (e : TypeId) (hs : cs.size = n) (hm : n ≤ maxLen) : Reads (w.alloc (.cells cs e)) (w.alloc (.cells cs e)).heap.size 1 (some ⟨w.heap.size, 0, none⟩) n cs.toList :=
  Reads.of_own (World.ownsRow_lit (base := 0) (e := e) (size := 1) w cs n (Nat.zero_le _) hm (by omega))

end Go.Proofs.Ytlenidiijiinjaa
