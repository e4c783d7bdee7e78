/- The walk of the exact law of ParseNum. -/
import Derived.Test.YtocnenkfefidnaaDoorParseNum
namespace Go.Proofs.YtocnenkfefidnaaDoor
open Go.RowKit

set_option maxHeartbeats 400000 in
theorem walk_FnExactParseNum (s : ByteArray) (most : Int) (_hs : s.size ≤ maxLen) (_wf : (Lit.int .i64 most).wf = true) (w : World) (ht : Tab w) :
    Calls Tryd.prog 4 #[.string s, .int .i64 most] w fun e w' => e = .returned (.bool true) ∧ Below w.heap.size w w' := by
  have HT := Lib.hid ht
  clear ht
  by_cases hbig : 1048576 < s.size
  · go_enter Tryd.func4, Tryd.ntmps4
    go_wp2_with fail
    go_ret
    exact ⟨rfl, Below.refl _ _⟩
  · obtain ⟨x, hx⟩ : ∃ x, pnVal s.data.toList most = x := ⟨_, rfl⟩
    obtain ⟨b, hb⟩ : ∃ b, pnOk s.data.toList most = b := ⟨_, rfl⟩
    have HX := Lib.hid hx
    have HB := Lib.hid hb
    clear hx hb
    have nx : (x != x) = false := by simp
    have nb : (b != b) = false := by simp
    go_enter Tryd.func4, Tryd.ntmps4
    go_wp2_with fail
    refine (parseNumS_any s most w (by omega)).mono ?_
    rw [HX.out, HB.out]
    rintro e w1 ⟨rfl, rfl⟩
    go_wp2_with fail
    refine (parseNum_any s most w HT.out (by omega)).mono ?_
    rw [HX.out, HB.out]
    rintro e w1 ⟨rfl, hb1⟩
    go_wp2_with fail
    go_ret
    exact ⟨rfl, hb1⟩

end Go.Proofs.YtocnenkfefidnaaDoor
