/- Contracts of what FnSums draws, and of a byte that is turned. -/
import Derived.Test.YtlenidiijiinjaaDrawMore
import Derived.Test.YtlenidiijiinjaaShut
import Derived.Test.YtlenidiijiinjaaSum
namespace Go.Proofs.Ytlenidiijiinjaa
open Go.RowKit

theorem l1Size_any (A : Option Addr) (n c most : Nat) (w : World) (hn : n ≤ 1048576) (hm : 3 ≤ most) (hm1 : most ≤ 1000000) :
    Calls Try.prog 32 #[.slice A n c, .int .i64 most] w fun e w' => ∃ x : Nat, 3 ≤ x ∧ x ≤ most ∧ e = .returned (.int .i64 x) ∧ w = w' := by
  by_cases h : (most : Int) < 3 + (n : Int) / 12
  · go_enter Try.func32, Try.ntmps32
    go_wp2
    go_ret
    exact ⟨most, hm, by omega, rfl, rfl⟩
  · go_enter Try.func32, Try.ntmps32
    go_wp2
    go_ret
    exact ⟨3 + n / 12, by omega, by omega, rfl, rfl⟩

set_option maxHeartbeats 400000 in
/-- A byte of the code, or a number that follows from its place. -/
theorem at_any (A : Option Addr) (c : Nat) (i : Nat) (code : List UInt8) (w : World) (h : Reads w w.heap.size 1 A code.length (bys code)) (hn : code.length ≤ 1048576) (hi : i ≤ 1000) :
    Calls Try.prog 10 #[.slice A code.length c, .int .i64 i] w fun e w' => ∃ x : Nat, x < 256 ∧ e = .returned (.int .i64 x) ∧ w = w' := by
  by_cases hlt : (i : Int) < code.length
  · obtain ⟨b, off, u, rfl, _, _, hcell⟩ := h.byte (k := i) (by omega)
    have hu : u.toNat < 256 := u.toNat_lt
    go_enter Try.func10, Try.ntmps10
    go_wp2
    go_ret
    exact ⟨u.toNat, hu, rfl, rfl⟩
  · go_enter Try.func10, Try.ntmps10
    go_wp2
    go_ret
    exact ⟨(i * 31 + code.length * 7) % 256, by omega, by go_num, rfl⟩

end Go.Proofs.Ytlenidiijiinjaa
