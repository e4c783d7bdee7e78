/- What the laws of chapter 2 compare and draw numbers with. -/
import Derived.Test.YtkpcjnamoejjjaaShut
import Derived.Test.YtkpcjnamoejjjaaExact
namespace Go.Proofs.Ytkpcjnamoejjjaa
open Go.RowKit
set_option linter.unusedVariables false

set_option maxHeartbeats 1000000 in
/-- laws.same. -/
theorem same_any (A B : Option Addr) (c c' M M' : Nat) (a b : List UInt8) (w : World) (h : Reads w M 1 A a.length (bys a)) (h' : Reads w M' 1 B b.length (bys b)) :
    Calls Try.prog 15 #[.slice A a.length c, .slice B b.length c'] w fun e w' => e = .returned (.bool (a == b)) ∧ w' = w := by
  have h1 := string_run (P := Try.prog) (c := c) Try.underlying22 Try.underlying5 Try.underlying9 h
  have h2 := string_run (P := Try.prog) (c := c') Try.underlying22 Try.underlying5 Try.underlying9 h'
  go_enter Try.func15, Try.ntmps15
  go_wp2
  go_ret
  simp

set_option maxHeartbeats 1000000 in
/-- laws.at. -/
theorem at_any (A : Option Addr) (c M : Nat) (a : List UInt8) (i : Nat) (w : World) (h : Reads w M 1 A a.length (bys a)) (hi : i ≤ 1000) (ha : a.length ≤ 1048576) :
    Calls Try.prog 20 #[.slice A a.length c, .int .i64 i] w fun e w' => (∃ k : Nat, e = .returned (.int .i64 k) ∧ k < 256) ∧ w' = w := by
  by_cases hlt : i < a.length
  · obtain ⟨b, off, u, rfl, hbl, hu, hcell⟩ := h.byte hlt
    have i1 : (0 : Int) ≤ (i : Int) := by omega
    have i2 : (i : Int) < (a.length : Int) := by omega
    have hul := u.toNat_lt
    go_enter Try.func20, Try.ntmps20
    go_wp2
    go_ret
    exact ⟨⟨u.toNat, rfl, by omega⟩, rfl⟩
  · go_enter Try.func20, Try.ntmps20
    go_wp2
    go_ret
    refine ⟨⟨(i * 31 + a.length * 7) % 256, ?_, by omega⟩, rfl⟩
    congr 2

end Go.Proofs.Ytkpcjnamoejjjaa
