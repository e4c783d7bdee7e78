/- The walk of the exact law of TextOk. -/
import Derived.Test.YtocnenkfefidnaaText
import Derived.Test.YtocnenkfefidnaaShut
namespace Go.Proofs.Ytocnenkfefidnaa
open Go.RowKit

set_option maxHeartbeats 400000 in
theorem walk_FnExactTextOk (s : ByteArray) (_hs : s.size ≤ maxLen) (w : World) :
    Calls Try.prog 6 #[.string s] w fun e w' => e = .returned (.bool true) ∧ Grown w w' := by
  by_cases hbig : 1048576 < s.size
  · go_enter Try.func6, Try.ntmps6
    go_wp2_with fail
    go_ret
    exact ⟨rfl, Grown.refl _⟩
  · have hbn : (okB s.data.toList != okB s.data.toList) = false := by simp
    go_enter Try.func6, Try.ntmps6
    go_wp2_with fail
    refine (textOkS_any s w (by omega)).mono ?_
    rintro e w1 ⟨rfl, rfl⟩
    go_wp2_with fail
    refine (textOk_any s w (by omega)).mono ?_
    rintro e w1 ⟨rfl, rfl⟩
    go_wp2_with fail
    go_ret
    exact ⟨rfl, Grown.refl _⟩

end Go.Proofs.Ytocnenkfefidnaa
