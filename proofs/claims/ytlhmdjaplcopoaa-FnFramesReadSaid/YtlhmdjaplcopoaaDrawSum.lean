/- Contracts of what FnSums draws, and of a byte that is turned. -/
import Derived.Test.YtlhmdjaplcopoaaDrawMore
import Derived.Test.YtlhmdjaplcopoaaShut
import Derived.Test.YtlhmdjaplcopoaaSum
namespace Go.Proofs.Ytlhmdjaplcopoaa
open Go.RowKit

set_option maxHeartbeats 400000 in
/-- A byte of the code, or a number that follows from its place. -/
theorem at_any (A : Option Addr) (c : Nat) (i : Nat) (code : List UInt8) (w : World) (h : Reads w w.heap.size 1 A code.length (bys code)) (hn : code.length ≤ 1048576) (hi : i ≤ 1000) :
    Calls Try.prog 19 #[.slice A code.length c, .int .i64 i] w fun e w' => ∃ x : Nat, x < 256 ∧ e = .returned (.int .i64 x) ∧ w = w' := by
  by_cases hlt : (i : Int) < code.length
  · obtain ⟨b, off, u, rfl, _, _, hcell⟩ := h.byte (k := i) (by omega)
    have hu : u.toNat < 256 := u.toNat_lt
    go_enter Try.func19, Try.ntmps19
    go_wp2
    go_ret
    exact ⟨u.toNat, hu, rfl, rfl⟩
  · go_enter Try.func19, Try.ntmps19
    go_wp2
    go_ret
    exact ⟨(i * 31 + code.length * 7) % 256, by omega, by go_num, rfl⟩

end Go.Proofs.Ytlhmdjaplcopoaa
