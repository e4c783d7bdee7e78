/- The walk of the exact law of WordOf. -/
import Derived.Test.YtlenidiijiinjaaTog
import Derived.Test.YtlenidiijiinjaaShut
namespace Go.Proofs.Ytlenidiijiinjaa
open Go.RowKit

set_option maxHeartbeats 400000 in
theorem walk_FnExactWordOf (s : ByteArray) (_hs : s.size ≤ maxLen) (w : World) :
    Calls Try.prog 4 #[.string s] w fun e w' => e = .returned (.bool true) ∧ Grown w w' := by
  unfold maxLen at _hs
  by_cases hbig : 1048576 < s.size
  · go_enter Try.func4, Try.ntmps4
    go_wp2_with fail
    go_ret
    exact ⟨rfl, Grown.refl _⟩
  · obtain ⟨v, hv⟩ : ∃ v, wordQ s = v := ⟨_, rfl⟩
    have HV := Lib.hid hv
    clear hv
    have hbn : (v != v) = false := by simp
    go_enter Try.func4, Try.ntmps4
    go_wp2_with fail
    refine (wordOfS_any s w).mono ?_
    rw [HV.out]
    rintro e w1 ⟨rfl, rfl⟩
    go_wp2_with fail
    refine (wordOf_any s w).mono ?_
    rw [HV.out]
    rintro e w1 ⟨rfl, rfl⟩
    go_wp2_with fail
    go_ret
    exact ⟨rfl, Grown.refl _⟩

end Go.Proofs.Ytlenidiijiinjaa
