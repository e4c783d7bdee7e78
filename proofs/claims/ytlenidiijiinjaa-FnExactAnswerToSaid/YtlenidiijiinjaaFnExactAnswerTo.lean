/- The walk of the exact law of AnswerTo. -/
import Derived.Test.YtlenidiijiinjaaTogA
import Derived.Test.YtlenidiijiinjaaShut
namespace Go.Proofs.Ytlenidiijiinjaa
open Go.RowKit
set_option linter.unusedVariables false

set_option maxRecDepth 100000 in
set_option maxHeartbeats 8000000 in
theorem walk_FnExactAnswerTo (w : World) (st : Int) (_w0 : (Lit.int .i64 st).wf = true) (q : ByteArray) (w1 : q.size ≤ maxLen) :
    Calls Try.prog 6 #[.int .i64 st, .string q] w fun e w' => e = .returned (.bool true) ∧ Below w.heap.size w w' := by
  clear _w0
  unfold maxLen at w1
  by_cases hbig : 1048576 < q.size
  · go_enter Try.func6, Try.ntmps6
    go_wp2_with fail
    go_ret
    exact ⟨rfl, Below.refl _ _⟩
  · have hn : q.size ≤ 1048576 := by omega
    obtain ⟨L, hL0⟩ : ∃ L, answerA st q = L := ⟨_, rfl⟩
    have hL : L.length ≤ 2 := by rw [← hL0]; exact answerA_len st q
    have HL := Lib.hid hL0
    clear hL0
    go_enter Try.func6, Try.ntmps6
    go_wp2_with fail
    refine (answerToS_any st q w hn).mono ?_
    rw [HL.out]
    rintro e W2 ⟨A2, c2, rfl, o2, hb⟩
    have S2 : All (fun w' => Below w.heap.size w w' ∧ FrAt w' A2 L) W2 := ⟨hb, frS_own_at o2⟩
    clear hb o2
    go_wp2_with fail
    refine (answerTo_any st q W2 hn).mono ?_
    rw [HL.out]
    rintro e W4 ⟨A4, c4, rfl, o4, hb⟩
    have HB := Lib.hid hb
    clear hb
    go_wp2_with fail
    refine (eqFrS_same A4 A2 c4 c2 L W4 (frS_own_at o4) (S2.later HB.out).out.2 (by omega)).mono ?_
    rintro e W5 ⟨rfl, hb⟩
    replace o4 := ownsRow_below o4 hb (Nat.le_refl _)
    replace HB := Lib.hid (HB.out.trans (hb.mono HB.out.size))
    clear hb
    go_wp2_with fail
    refine (markFrS_any _ 1 L.length _ W5 W2.heap.size o4 (by omega) (by omega) HB.out.size).mono ?_
    rintro e W10 ⟨rfl, f10, hb⟩
    replace HB := Lib.hid (HB.out.trans hb)
    clear hb o4
    go_wp2_with fail
    refine (heldFrS_any A4 c4 1 L.length W10 (frS_flat f10) (by omega) (by omega)).mono ?_
    rintro e W11 ⟨rfl, hb⟩
    have S := S2.later (HB.out.trans (hb.mono HB.out.size))
    replace f10 := f10.later hb
    clear hb HB S2
    have q0 : (((1 + L.length * 3 : Nat) : Int) != ((1 + L.length * 3 : Nat) : Int)) = false := by simp
    have q1 : ¬ (((1 + L.length * 3 : Nat) : Int) < 0) := by omega
    go_wp2_with fail
    refine (answerTo_any st q W11 hn).mono ?_
    rw [HL.out]
    rintro e W13 ⟨A13, c13, rfl, o13, hb⟩
    replace S := S.later hb
    replace f10 := f10.later hb
    clear hb
    go_wp2_with fail
    refine (eqFrS_same A13 A2 c13 c2 L W13 (frS_own_at o13) S.out.2 (by omega)).mono ?_
    rintro e W14 ⟨rfl, hb⟩
    replace S := S.later hb
    replace f10 := f10.later hb
    clear hb o13
    go_wp2_with fail
    refine (heldFrS_any A4 c4 1 L.length W14 (frS_flat f10) (by omega) (by omega)).mono ?_
    rintro e W15 ⟨rfl, hb⟩
    replace S := S.later hb
    clear hb f10
    have hfin := S.out.1
    go_wp2_with fail
    go_ret
    exact ⟨rfl, hfin⟩

end Go.Proofs.Ytlenidiijiinjaa
