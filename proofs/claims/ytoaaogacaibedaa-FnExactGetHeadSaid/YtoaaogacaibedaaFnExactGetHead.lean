/- The walk of the exact law of GetHead. -/
import Derived.Test.YtoaaogacaibedaaHeadI
import Derived.Test.YtoaaogacaibedaaBent
namespace Go.Proofs.Ytoaaogacaibedaa
open Go.RowKit
set_option linter.unusedVariables false

set_option maxHeartbeats 4000000 in
theorem walk_FnExactGetHead (a0 : Option Addr) (len0 cap0 : Nat) (z0 : List Int) (w : World) (w0 : IsRow .u8 w a0 len0 cap0 z0) :
    Calls Try.prog 5 #[.slice a0 len0 cap0] w fun e w' => e = .returned (.bool true) ∧ Below w.heap.size w w' := by
  obtain ⟨l, rfl, _, hr⟩ := w0.reads
  clear w0
  by_cases hbig : 1048576 < l.length
  · go_enter Try.func5, Try.ntmps5
    go_wp2_with fail
    go_ret
    exact ⟨rfl, Below.refl _ _⟩
  · have hn : l.length ≤ 1048576 := by omega
    obtain ⟨⟨⟨x, y⟩, b⟩, hp⟩ : ∃ p, getHeadP l = p := ⟨_, rfl⟩
    have HP := Lib.hid hp
    clear hp
    have nx : (x != x) = false := by simp
    have ny : (y != y) = false := by simp
    have nb : (b != b) = false := by simp
    go_enter Try.func5, Try.ntmps5
    go_wp2_with fail
    refine (toByteS_any a0 cap0 l w hr (by omega)).mono ?_
    rintro e w1 ⟨v1, rfl, hown1, hb1⟩
    obtain ⟨A1, c1, rfl, _, _, hr1, _⟩ := hown1.shape
    clear hown1
    go_wp2_with fail
    refine (getHeadS_any A1 c1 l w1 hr1 (by omega)).mono ?_
    rw [HP.out]
    rintro e w2 ⟨rfl, hb⟩
    replace hb1 : Below w.heap.size w w2 := Later.trans hb1 hb
    clear hr1 hb
    go_wp2_with fail
    refine (toByteS_any a0 cap0 l _ ((hr.below hb1).more hb1.size) (by omega)).mono ?_
    rintro e w3 ⟨v3, rfl, hown3, hb3⟩
    have hW3 : Below w.heap.size w w3 := hb1.trans (hb3.mono hb1.size)
    obtain ⟨A3, c3, rfl, _, hc3, hr3, _⟩ := hown3.shape
    clear hb3 hb1
    go_wp2_with fail
    refine (getHead_any A3 c3 l w3 hr3 (by omega)).mono ?_
    rw [HP.out]
    rintro e w4 ⟨rfl, hb⟩
    replace hW3 : Below w.heap.size w w4 := Later.trans hW3 hb
    replace hr3 := (hr3.below hb).more hb.size
    clear hb hown3
    go_wp2_with fail
    refine (toByteS_any a0 cap0 l _ ((hr.below hW3).more hW3.size) (by omega)).mono ?_
    rintro e w5 ⟨v5, rfl, hown5, hb5⟩
    have hW5 : Below w.heap.size w w5 := hW3.trans (hb5.mono hW3.size)
    obtain ⟨A5, c5, rfl, _, _, hr5, _⟩ := hown5.shape
    replace hr3 := (hr3.below hb5).more hb5.size
    clear hb5 hW3 hown5
    go_wp2_with fail
    refine (eqByteS_same A3 A5 c3 c5 l w5 hr3 hr5 (by omega)).mono ?_
    rintro e w6 ⟨rfl, n6, rfl⟩
    replace hW5 := belowD hW5 n6
    go_wp2_with fail
    go_ret
    exact ⟨rfl, hW5⟩

end Go.Proofs.Ytoaaogacaibedaa
