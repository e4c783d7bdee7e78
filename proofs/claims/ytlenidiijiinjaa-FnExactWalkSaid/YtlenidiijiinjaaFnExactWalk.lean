/- The walk of the exact law of Walk. -/
import Derived.Test.YtlenidiijiinjaaTogW
import Derived.Test.YtlenidiijiinjaaShut
namespace Go.Proofs.Ytlenidiijiinjaa
open Go.RowKit
set_option linter.unusedVariables false

set_option maxRecDepth 100000 in
set_option maxHeartbeats 8000000 in
theorem walk_FnExactWalk (w : World) (st : Int) (_w0 : (Lit.int .i64 st).wf = true) (cs1 : List Value) (l : List ByteArray) (w1 : strsR.at_ w w.heap.size cs1 l) (k1 : OkStrs l) :
    Calls Try.prog 7 #[.int .i64 st, cs1.headD undef] w fun e w' => e = .returned (.bool true) ∧ Below w.heap.size w w' := by
  clear _w0
  obtain ⟨A, c, rfl, hc, h⟩ := strs_at w1
  have hlen : l.length ≤ maxLen := Nat.le_trans hc.1 hc.2
  clear w1
  obtain ⟨v, hv0⟩ : ∃ v, walkA st l = v := ⟨_, rfl⟩
  have HV := Lib.hid hv0
  have vv : (v != v) = false := by simp
  have HK := Lib.hid k1
  have HLn := Lib.hid hlen
  clear hv0 k1 hc hlen
  have S : All (fun w' => Below w.heap.size w w' ∧ StrAt w' A l) w := ⟨Below.refl _ _, h⟩
  clear h
  show Calls Try.prog 7 #[.int .i64 st, .slice A l.length c] w _
  go_enter Try.func7, Try.ntmps7
  go_wp2_with fail
  refine (szStrs_room A c l 1048576 w S.out.2 HK.out HLn.out (by omega)).mono ?_
  rintro e w1 ⟨⟨z, hz, hn, rfl⟩ | rfl, rfl⟩
  rotate_left
  · go_wp2_with fail
    go_ret
    exact ⟨rfl, Below.refl _ _⟩
  · have hz0 : ¬ ((z : Int) < 0) := by omega
    go_wp2_with fail
    refine (toStrs_any A c l w S.out.2 hn).mono ?_
    rintro e W1 ⟨A1, c1, rfl, o1, hb⟩
    replace S := S.later hb
    clear hb
    have h1 := strs_own_at o1
    clear o1
    go_wp2_with fail
    refine (walkS_any st A1 c1 l W1 h1 HLn.out).mono ?_
    rw [HV.out]
    rintro e w2 ⟨rfl, rfl⟩
    clear h1
    go_wp2_with fail
    refine (toStrs_any A c l W1 S.out.2 hn).mono ?_
    rintro e W2 ⟨A2, c2, rfl, o2, hb⟩
    have T : All (fun w' => (Below w.heap.size w w' ∧ StrAt w' A l) ∧ StrAt w' A2 l) W2 := ⟨(S.later hb).out, strs_own_at o2⟩
    clear hb o2 S
    go_wp2_with fail
    refine (walk_any st A2 c2 l W2 T.out.2 HLn.out).mono ?_
    rw [HV.out]
    rintro e w2 ⟨rfl, rfl⟩
    go_wp2_with fail
    refine (toStrs_any A c l W2 T.out.1.2 hn).mono ?_
    rintro e W3 ⟨A3, c3, rfl, o3, hb⟩
    replace T := T.later hb
    clear hb
    go_wp2_with fail
    refine (eqStrs_same A2 A3 c2 c3 l W3 T.out.2 (strs_own_at o3) hn).mono ?_
    rintro e W4 ⟨rfl, hb⟩
    replace T := T.later hb
    clear hb o3
    go_wp2_with fail
    go_ret
    exact ⟨rfl, T.out.1.1⟩

end Go.Proofs.Ytlenidiijiinjaa
