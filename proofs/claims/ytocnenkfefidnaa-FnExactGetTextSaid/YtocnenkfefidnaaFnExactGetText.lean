/- The walk of the exact law of GetText. -/
import Derived.Test.YtocnenkfefidnaaGetText
import Derived.Test.YtocnenkfefidnaaShut
namespace Go.Proofs.Ytocnenkfefidnaa
open Go.RowKit

set_option maxHeartbeats 1000000 in
theorem walk_FnExactGetText (a0 : Option Addr) (len0 cap0 : Nat) (z0 : List Int) (a1 : Int) (w : World) (w0 : IsRow .u8 w a0 len0 cap0 z0) (_w1 : (Lit.int .i64 a1).wf = true) :
    Calls Try.prog 8 #[.slice a0 len0 cap0, .int .i64 a1] w fun e w' => e = .returned (.bool true) ∧ Below w.heap.size w w' := by
  obtain ⟨l, rfl, _, hr⟩ := w0.reads
  clear w0
  by_cases hbig : 1048576 < l.length
  · go_enter Try.func8, Try.ntmps8
    go_wp2_with fail
    go_ret
    exact ⟨rfl, Below.refl _ _⟩
  · have hn : l.length ≤ 1048576 := by omega
    obtain ⟨x, hx⟩ : ∃ x, gtS l a1 = x := ⟨_, rfl⟩
    obtain ⟨y, hy⟩ : ∃ y, gtN l a1 = y := ⟨_, rfl⟩
    obtain ⟨b, hb⟩ : ∃ b, gtB l a1 = b := ⟨_, rfl⟩
    have HX := Lib.hid hx
    have HY := Lib.hid hy
    have HB := Lib.hid hb
    clear hx hy hb
    have ny : (y != y) = false := by simp
    have nb : (b != b) = false := by simp
    go_enter Try.func8, Try.ntmps8
    go_wp2_with fail
    refine (toByteS_any a0 cap0 l w hr (by omega)).mono ?_
    rintro e w1 ⟨v1, rfl, hown1, hb1⟩
    obtain ⟨A1, c1, rfl, hc1, _, hr1, _⟩ := hown1.shape
    clear hown1
    go_wp2_with fail
    refine (getTextS_any A1 c1 a1 l w1 hr1 (by omega) hc1).mono ?_
    rintro e w2 ⟨rfl, rfl⟩
    rw [HX.out, HY.out, HB.out]
    clear hr1
    go_wp2_with fail
    refine (toByteS_any a0 cap0 l _ ((hr.below hb1).more hb1.size) (by omega)).mono ?_
    rintro e w3 ⟨v3, rfl, hown3, hb3⟩
    have hW3 : Below w.heap.size w w3 := hb1.trans (hb3.mono hb1.size)
    obtain ⟨A3, c3, rfl, hc3, _, hr3, _⟩ := hown3.shape
    clear hb3 hb1 hown3
    go_wp2_with fail
    refine (getText_any A3 c3 a1 l w3 hr3 (by omega) hc3).mono ?_
    rintro e w4 ⟨rfl, rfl⟩
    rw [HX.out, HY.out, HB.out]
    go_wp2_with fail
    refine (toByteS_any a0 cap0 l _ ((hr.below hW3).more hW3.size) (by omega)).mono ?_
    rintro e w5 ⟨v5, rfl, hown5, hb5⟩
    have hW5 : Below w.heap.size w w5 := hW3.trans (hb5.mono hW3.size)
    obtain ⟨A5, c5, rfl, _, _, hr5, _⟩ := hown5.shape
    replace hr3 := (hr3.below hb5).more hb5.size
    clear hb5 hW3 hown5
    go_wp2_with fail
    refine (eqByteS_same A3 A5 c3 c5 l w5 hr3 hr5 (by omega)).mono ?_
    rintro e w6 ⟨rfl, n6, rfl⟩
    replace hW5 := belowD hW5 n6
    go_wp2_with fail
    go_ret
    exact ⟨rfl, hW5⟩

end Go.Proofs.Ytocnenkfefidnaa
