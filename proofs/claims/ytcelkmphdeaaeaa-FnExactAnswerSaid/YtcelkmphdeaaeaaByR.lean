/- A slice of bytes as data: what comes in, its size. -/
import Derived.Test.YtcelkmphdeaaeaaRepMore
import Derived.Test.YtcelkmphdeaaeaaOpen
namespace Go.Proofs.Ytcelkmphdeaaeaa
open Go.RowKit
set_option linter.unusedVariables false

def byR : Rep (List UInt8) := Rep.bytes 5

theorem byt_opens : Rep.Opens Try.prog 22 byR (fun _ => True) := Rep.Opens.bytes Try.underlying22 Try.underlying5 (by kernel_rfl)

set_option maxHeartbeats 1000000 in
theorem szByteS_room (A : Option Addr) (c n : Nat) (left : Nat) (w : World) (hn : n ≤ 9223372036854775807) (hl : left ≤ 1048576) :
    Calls Try.prog 91 #[.slice A n c, .int .i64 left] w (Room (n ≤ 1048576) left w) := by
  by_cases h : n ≤ left
  · have h' : ¬ ((left : Int) - (n : Int) < 0) := by omega
    go_enter Try.func91, Try.ntmps91
    go_wp2
    go_ret
    exact ⟨.inl ⟨left - n, by omega, by omega, by rw [Int.ofNat_sub h]; rfl⟩, rfl⟩
  · go_enter Try.func91, Try.ntmps91
    go_wp2
    go_ret
    exact ⟨.inr rfl, rfl⟩

end Go.Proofs.Ytcelkmphdeaaeaa
