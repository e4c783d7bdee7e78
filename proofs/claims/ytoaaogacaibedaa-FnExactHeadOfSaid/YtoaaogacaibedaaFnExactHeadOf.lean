/- The walk of the exact law of HeadOf. -/
import Derived.Test.YtoaaogacaibedaaHeadI
import Derived.Test.YtoaaogacaibedaaBent
namespace Go.Proofs.Ytoaaogacaibedaa
open Go.RowKit
set_option linter.unusedVariables false

set_option maxHeartbeats 4000000 in
theorem walk_FnExactHeadOf (w : World) (a0 : Int) (_w0 : (Lit.int .i64 a0).wf = true) (a1 : Int) (_w1 : (Lit.int .i64 a1).wf = true) :
    Calls Try.prog 4 #[.int .i64 a0, .int .i64 a1] w fun e w' => e = .returned (.bool true) ∧ Below w.heap.size w w' := by
  obtain ⟨L, hL, hLn⟩ : ∃ L, headL a0 a1 = L ∧ L.length ≤ 6 := ⟨_, rfl, headL_len _ _⟩
  have HL := Lib.hid hL
  clear hL
  go_enter Try.func4, Try.ntmps4
  go_wp2_with fail
  refine (headOfS_any a0 a1 w).mono ?_
  rw [HL.out]
  rintro e w2 ⟨v2, rfl, hown2, hW2⟩
  obtain ⟨A2, c2, rfl, _, _, _, _⟩ := hown2.shape
  go_wp2_with fail
  refine (headOf_any a0 a1 w2).mono ?_
  rw [HL.out]
  rintro e w4 ⟨v4, rfl, hown4, hb4⟩
  have hW4 : Below w.heap.size w w4 := hW2.trans (hb4.mono hW2.size)
  obtain ⟨A4, c4, rfl, _, _, _, _⟩ := hown4.shape
  have Hap4 := Lib.hid (own_apart hown2 hown4 (Nat.le_refl _))
  have Hfr4 := Lib.hid (own_from hown4 hW2.size)
  replace hown2 := hown2.keep hb4
  clear hb4 hW2
  go_wp2_with fail
  refine (eqByteS_same A4 A2 c4 c2 L w4 hown4.reads hown2.reads (by omega)).mono ?_
  rintro e w5 ⟨rfl, n5, rfl⟩
  replace hown2 := hown2.drewN n5
  replace hown4 := hown4.drewN n5
  replace hW4 := belowD hW4 n5
  go_wp2_with fail
  refine (markByteS_any _ 1 L _ _ hown4 (by omega) (by omega)).mono ?_
  rintro e w10 ⟨rfl, hown10, hg10⟩
  have hW10 : Below w.heap.size w w10 := hW4.grown hg10 hW4.size Hfr4.out
  replace hown2 := hown2.apart hown4 hg10 Hap4.out
  clear hg10 hown4 hW4
  go_wp2_with fail
  refine (heldByteS_any A4 c4 1 L.length w10 (marks_read hown10) (by omega) (by omega)).mono ?_
  rintro e w11 ⟨rfl, rfl⟩
  go_wp2_with fail
  refine (headOf_any a0 a1 w10).mono ?_
  rw [HL.out]
  rintro e w13 ⟨v13, rfl, hown13, hb13⟩
  have hW13 : Below w.heap.size w w13 := hW10.trans (hb13.mono hW10.size)
  obtain ⟨A13, c13, rfl, _, _, hr13, _⟩ := hown13.shape
  replace hown2 := hown2.keep hb13
  replace hown10 := hown10.keep hb13
  clear hown13 hb13 hW10
  go_wp2_with fail
  refine (eqByteS_same A13 A2 c13 c2 L w13 hr13 hown2.reads (by omega)).mono ?_
  rintro e w14 ⟨rfl, n14, rfl⟩
  replace hown10 := hown10.drewN n14
  replace hW13 := belowD hW13 n14
  clear hr13 hown2
  go_wp2_with fail
  refine (heldByteS_any A4 c4 1 L.length _ (marks_read hown10) (by omega) (by omega)).mono ?_
  rintro e w15 ⟨rfl, rfl⟩
  go_wp2_with fail
  go_ret
  exact ⟨rfl, hW13⟩

end Go.Proofs.Ytoaaogacaibedaa
