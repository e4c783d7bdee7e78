/- The walk of the exact law of NextSt. -/
import Derived.Test.YtlenidiijiinjaaTog
import Derived.Test.YtlenidiijiinjaaShut
namespace Go.Proofs.Ytlenidiijiinjaa
open Go.RowKit

set_option maxHeartbeats 400000 in
theorem walk_FnExactNextSt (a b : Int) (_ha : (Lit.int .i64 a).wf = true) (_hb : (Lit.int .i64 b).wf = true) (w : World) :
    Calls Try.prog 5 #[.int .i64 a, .int .i64 b] w fun e w' => e = .returned (.bool true) ∧ Grown w w' := by
  clear _ha _hb
  obtain ⟨v, hv⟩ : ∃ v, nextS a b = v := ⟨_, rfl⟩
  have HV := Lib.hid hv
  clear hv
  have hbn : (v != v) = false := by simp
  go_enter Try.func5, Try.ntmps5
  go_wp2_with fail
  refine (nextStS_any a b w).mono ?_
  rw [HV.out]
  rintro e w1 ⟨rfl, rfl⟩
  go_wp2_with fail
  refine (nextSt_any a b w).mono ?_
  rw [HV.out]
  rintro e w1 ⟨rfl, rfl⟩
  go_wp2_with fail
  go_ret
  exact ⟨rfl, Grown.refl _⟩

end Go.Proofs.Ytlenidiijiinjaa
