/- The walk of the exact law of PutText. -/
import Derived.Test.YtocnenkfefidnaaPutText
import Derived.Test.YtocnenkfefidnaaShut
namespace Go.Proofs.Ytocnenkfefidnaa
open Go.RowKit

set_option maxHeartbeats 1000000 in
theorem walk_FnExactPutText (a0 : Option Addr) (len0 cap0 : Nat) (z0 : List Int) (a1 : ByteArray) (w : World) (w0 : IsRow .u8 w a0 len0 cap0 z0) (_w1 : a1.size ≤ maxLen) :
    Calls Try.prog 7 #[.slice a0 len0 cap0, .string a1] w fun e w' => e = .returned (.bool true) ∧ Below w.heap.size w w' := by
  obtain ⟨l, rfl, _, hr⟩ := w0.reads
  clear w0
  by_cases hbig : 1048576 < l.length
  · go_enter Try.func7, Try.ntmps7
    go_wp2_with fail
    go_ret
    exact ⟨rfl, Below.refl _ _⟩
  · have hn : l.length ≤ 1048576 := by omega
    by_cases hbs : 1048576 < a1.size
    · go_enter Try.func7, Try.ntmps7
      go_wp2_with fail
      go_ret
      exact ⟨rfl, Below.refl _ _⟩
    obtain ⟨L, hL, hLn⟩ : ∃ L, ptB l a1.data.toList = L ∧ L.length ≤ 1048677 := ⟨_, rfl, by have := ptB_len l a1.data.toList; omega⟩
    have HL := Lib.hid hL
    clear hL
    go_enter Try.func7, Try.ntmps7
    go_wp2_with fail
    refine (toByteS_any a0 cap0 l w hr (by omega)).mono ?_
    rintro e w1 ⟨v1, rfl, hown1, hb1⟩
    obtain ⟨A1, c1, rfl, _, _, hr1, _⟩ := hown1.shape
    clear hown1
    go_wp2_with fail
    refine (putTextS_any A1 c1 a1 l w1 hr1 (by omega) (by omega)).mono ?_
    rintro e w2 ⟨v2, rfl, hown2, hb2⟩
    rw [HL.out] at hown2
    have hW2 : Below w.heap.size w w2 := hb1.trans (hb2.mono hb1.size)
    obtain ⟨A2, c2, rfl, _, _, _, _⟩ := hown2.shape
    clear hr1 hb1 hb2
    -- x0
    go_wp2_with fail
    refine (toByteS_any a0 cap0 l w2 ((hr.below hW2).more hW2.size) (by omega)).mono ?_
    rintro e w3 ⟨v3, rfl, hown3, hb3⟩
    have hW3 : Below w.heap.size w w3 := hW2.trans (hb3.mono hW2.size)
    obtain ⟨A3, c3, rfl, _, _, hr3, _⟩ := hown3.shape
    have Hap2 := Lib.hid (own_apart hown2 hown3 (Nat.le_refl _))
    have Hfr := Lib.hid (own_from hown3 hW2.size)
    replace hown2 := hown2.keep hb3
    clear hb3 hW2
    -- g0
    go_wp2_with fail
    refine (putText_any A3 c3 a1 l w3 hr3 (by omega) (by omega)).mono ?_
    rintro e w4 ⟨v4, rfl, hown4, hb4⟩
    rw [HL.out] at hown4
    have hW4 : Below w.heap.size w w4 := hW3.trans (hb4.mono hW3.size)
    obtain ⟨A4, c4, rfl, _, _, _, _⟩ := hown4.shape
    have Hap := Lib.hid (own_apart' hown3 hown4 (Nat.le_refl _))
    have Hap4 := Lib.hid (own_apart hown2 hown4 (Nat.le_refl _))
    have Hfr4 := Lib.hid (own_from hown4 hW3.size)
    replace hown2 := hown2.keep hb4
    replace hown3 := hown3.keep hb4
    clear hb4 hW3 hr3
    -- eq g0 w0
    go_wp2_with fail
    refine (eqByteS_same A4 A2 c4 c2 L w4 hown4.reads hown2.reads (by omega)).mono ?_
    rintro e w5 ⟨rfl, n5, rfl⟩
    replace hown2 := hown2.drewN n5
    replace hown3 := hown3.drewN n5
    replace hown4 := hown4.drewN n5
    replace hW4 := belowD hW4 n5
    -- eq x0 (toByteS aB)
    go_wp2_with fail
    refine (toByteS_any a0 cap0 l _ ((hr.below hW4).more hW4.size) (by omega)).mono ?_
    rintro e w6 ⟨v6, rfl, hown6, hb6⟩
    have hW6 : Below w.heap.size w w6 := hW4.trans (hb6.mono hW4.size)
    obtain ⟨A6, c6, rfl, _, _, hr6, _⟩ := hown6.shape
    replace hown2 := hown2.keep hb6
    replace hown3 := hown3.keep hb6
    replace hown4 := hown4.keep hb6
    clear hown6 hb6 hW4
    go_wp2_with fail
    refine (eqByteS_same A3 A6 c3 c6 l w6 hown3.reads hr6 (by omega)).mono ?_
    rintro e w7 ⟨rfl, n7, rfl⟩
    replace hown2 := hown2.drewN n7
    replace hown3 := hown3.drewN n7
    replace hown4 := hown4.drewN n7
    replace hW6 := belowD hW6 n7
    clear hr6
    go_wp2_with fail
    refine (markByteS_any _ 1 l _ _ hown3 (by omega) (by omega)).mono ?_
    rintro e w8 ⟨rfl, hown8, hg8⟩
    have hW8 : Below w.heap.size w w8 := hW6.grown hg8 hW6.size Hfr.out
    replace hown2 := hown2.apart hown3 hg8 Hap2.out
    replace hown4 := hown4.apart hown3 hg8 Hap.out
    clear hg8 hown3 hW6
    clear hown8
    go_wp2_with fail
    refine (eqByteS_same A4 A2 c4 c2 L w8 hown4.reads hown2.reads (by omega)).mono ?_
    rintro e w9 ⟨rfl, n9, rfl⟩
    replace hown2 := hown2.drewN n9
    replace hown4 := hown4.drewN n9
    replace hW8 := belowD hW8 n9
    -- marks in g0
    go_wp2_with fail
    refine (markByteS_any _ 1 L _ _ hown4 (by omega) (by omega)).mono ?_
    rintro e w10 ⟨rfl, hown10, hg10⟩
    have hW10 : Below w.heap.size w w10 := hW8.grown hg10 hW8.size Hfr4.out
    replace hown2 := hown2.apart hown4 hg10 Hap4.out
    clear hg10 hown4 hW8
    go_wp2_with fail
    refine (heldByteS_any A4 c4 1 L.length w10 (marks_read hown10) (by omega) (by omega)).mono ?_
    rintro e w11 ⟨rfl, rfl⟩
    -- once more
    go_wp2_with fail
    refine (toByteS_any a0 cap0 l _ ((hr.below hW10).more hW10.size) (by omega)).mono ?_
    rintro e w12 ⟨v12, rfl, hown12, hb12⟩
    have hW12 : Below w.heap.size w w12 := hW10.trans (hb12.mono hW10.size)
    obtain ⟨A12, c12, rfl, _, _, hr12, _⟩ := hown12.shape
    replace hown2 := hown2.keep hb12
    replace hown10 := hown10.keep hb12
    clear hown12 hb12 hW10
    go_wp2_with fail
    refine (putText_any A12 c12 a1 l w12 hr12 (by omega) (by omega)).mono ?_
    rintro e w13 ⟨v13, rfl, hown13, hb13⟩
    rw [HL.out] at hown13
    have hW13 : Below w.heap.size w w13 := hW12.trans (hb13.mono hW12.size)
    obtain ⟨A13, c13, rfl, _, _, hr13, _⟩ := hown13.shape
    replace hown2 := hown2.keep hb13
    replace hown10 := hown10.keep hb13
    clear hown13 hb13 hW12 hr12
    go_wp2_with fail
    refine (eqByteS_same A13 A2 c13 c2 L w13 hr13 hown2.reads (by omega)).mono ?_
    rintro e w14 ⟨rfl, n14, rfl⟩
    replace hown10 := hown10.drewN n14
    replace hW13 := belowD hW13 n14
    clear hr13 hown2
    go_wp2_with fail
    refine (heldByteS_any A4 c4 1 L.length _ (marks_read hown10) (by omega) (by omega)).mono ?_
    rintro e w15 ⟨rfl, rfl⟩
    go_wp2_with fail
    go_ret
    exact ⟨rfl, hW13⟩

end Go.Proofs.Ytocnenkfefidnaa
