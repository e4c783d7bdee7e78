/- The walk of the exact law of PutFrame. -/
import Derived.Test.YtlhmdjaplcopoaaPutFrame
import Derived.Test.YtlhmdjaplcopoaaBent
namespace Go.Proofs.Ytlhmdjaplcopoaa
open Go.RowKit
set_option linter.unusedVariables false

/-- The law's copy of the record, behind it only what is new. -/
structure PBF (w : World) (r : Fr) (w' : World) : Prop where
  big : w.heap.size < w'.heap.size
  below : Below (w.heap.size + 1) (w.alloc (.cells (frC r).toArray 39)) w'
theorem PBF.all {w w' : World} {r : Fr} (h : PBF w r w') : Below w.heap.size w w' := by
  have h2 := Later.alloc w (.cells (frC r).toArray 39)
  have h3 := h.below
  have e : (w.alloc (.cells (frC r).toArray 39)).heap.size = w.heap.size + 1 := by simp
  rw [← e] at h3
  exact Later.trans h2 h3
theorem PBF.box {w w' : World} {r : Fr} (h : PBF w r w') : w'.heap[w.heap.size]? = some (.cells (frC r).toArray 39 (0, 0)) := (h.below.block _ (Nat.lt_succ_self _)).trans (heap_alloc_new w _)
theorem PBF.later {w w1 w2 : World} {r : Fr} (h : PBF w r w1) (hb : Below w1.heap.size w1 w2) : PBF w r w2 := ⟨Nat.lt_of_lt_of_le h.big hb.size, h.below.trans (hb.mono h.big)⟩
theorem PBF.grown {w w1 w2 : World} {r : Fr} {row : Option Nat} (h : PBF w r w1) (hg : w1.grownBy w2 row) (hr : ∀ k, row = some k → w.heap.size + 1 ≤ k) : PBF w r w2 := ⟨Nat.lt_of_lt_of_le h.big hg.size, h.below.grown hg h.big hr⟩
theorem PBF.drewN {w w1 : World} {r : Fr} (h : PBF w r w1) (n : Nat) : PBF w r (w1.drewN n) := ⟨h.big, belowD h.below n⟩

set_option maxRecDepth 100000 in
set_option maxHeartbeats 4000000 in
theorem walk_FnExactPutFrame (w : World) (cs2 : List Value) (x2 : Fr) (w2 : frR.at_ w w.heap.size cs2 x2) (k2 : OkFr x2) :
    Calls Try.prog 6 #[.agg cs2.toArray] w fun e w' => e = .returned (.bool true) ∧ Below w.heap.size w w' := by
  obtain rfl := fr_cells w2
  have hk : x2.s.size ≤ maxLen := k2.2.1
  have S : PBF w x2 (w.alloc (.cells (frC x2).toArray 39)) := ⟨by simp, Below.refl _ _⟩
  obtain ⟨L, hL, hLn⟩ : ∃ L, putF x2 = L ∧ L.length ≤ 102 := ⟨_, rfl, putF_len _⟩
  have HL := Lib.hid hL
  clear hL w2 k2
  show Calls Try.prog 6 #[.agg #[.int .i64 x2.k, .string x2.s, .int .i64 x2.st]] w _
  go_enter Try.func6, Try.ntmps6
  go_wp2_with fail
  replace S : PBF w x2 (w.alloc (.cells #[.int .i64 x2.k, .string x2.s, .int .i64 x2.st] 39)) := S
  generalize w.alloc (.cells #[.int .i64 x2.k, .string x2.s, .int .i64 x2.st] 39) = W0 at S ⊢
  refine (szFr_room x2 1048576 W0 hk (by omega)).mono ?_
  rintro e W1 ⟨⟨z, hz, hfit, rfl⟩ | rfl, hb⟩
  rotate_left
  · replace S := S.later hb
    clear hb
    go_wp2_with fail
    go_ret
    exact ⟨rfl, S.all⟩
  · replace S := S.later hb
    clear hb
    obtain ⟨c0, c1, c2⟩ := fr_box S.box
    go_wp2_with fail
    refine (toFr_any x2 W1).mono ?_
    rintro e W2 ⟨rfl, hb⟩
    replace S := S.later hb
    clear hb c0 c1 c2
    go_wp2_with fail
    refine (putFrameS_any x2 W2 hfit).mono ?_
    rw [HL.out]
    rintro e W3 ⟨v3, rfl, o3, hb⟩
    replace S := S.later hb
    obtain ⟨A3, k3, rfl, _, _, _, _⟩ := o3.shape
    clear hb
    obtain ⟨c0, c1, c2⟩ := fr_box S.box
    go_wp2_with fail
    refine (toFr_any x2 W3).mono ?_
    rintro e W4 ⟨rfl, hb⟩
    replace S := S.later hb
    replace o3 := o3.keep hb
    clear hb c0 c1 c2
    go_wp2_with fail
    have H4 := Lib.hid (Nat.le_trans (Nat.succ_le_of_lt S.big) (Nat.le_refl _))
    refine (putFrame_any x2 W4 hfit).mono ?_
    rw [HL.out]
    rintro e W5 ⟨v5, rfl, o5, hb⟩
    replace S := S.later hb
    obtain ⟨A5, k5, rfl, _, _, _, _⟩ := o5.shape
    have Hap := Lib.hid (own_apart o3 o5 (Nat.le_refl _))
    have Hfr := Lib.hid (fun k hk => Nat.le_trans H4.out ((o5.lt k hk).1))
    replace o3 := o3.keep hb
    clear hb
    go_wp2_with fail
    refine (eqByteS_same A5 A3 k5 k3 L W5 o5.reads o3.reads (by omega)).mono ?_
    rintro e W6 ⟨rfl, n6, rfl⟩
    replace S := S.drewN n6
    replace o3 := o3.drewN n6
    replace o5 := o5.drewN n6
    go_wp2_with fail
    refine (markByteS_any _ 1 L _ _ o5 (by omega) (by omega)).mono ?_
    rintro e W7 ⟨rfl, o7, hg7⟩
    replace S := S.grown hg7 Hfr.out
    replace o3 := o3.apart o5 hg7 Hap.out
    clear hg7 o5
    go_wp2_with fail
    refine (heldByteS_any A5 k5 1 L.length W7 (marks_read o7) (by omega) (by omega)).mono ?_
    rintro e W8 ⟨rfl, rfl⟩
    obtain ⟨c0, c1, c2⟩ := fr_box S.box
    go_wp2_with fail
    refine (toFr_any x2 W7).mono ?_
    rintro e W9 ⟨rfl, hb⟩
    replace S := S.later hb
    replace o3 := o3.keep hb
    replace o7 := o7.keep hb
    clear hb c0 c1 c2
    go_wp2_with fail
    refine (putFrame_any x2 W9 hfit).mono ?_
    rw [HL.out]
    rintro e W10 ⟨v10, rfl, o10, hb⟩
    replace S := S.later hb
    obtain ⟨A10, k10, rfl, _, _, _, _⟩ := o10.shape
    replace o3 := o3.keep hb
    replace o7 := o7.keep hb
    clear hb
    go_wp2_with fail
    refine (eqByteS_same A10 A3 k10 k3 L W10 o10.reads o3.reads (by omega)).mono ?_
    rintro e W11 ⟨rfl, n11, rfl⟩
    replace S := S.drewN n11
    replace o7 := o7.drewN n11
    clear o10 o3
    go_wp2_with fail
    refine (heldByteS_any A5 k5 1 L.length _ (marks_read o7) (by omega) (by omega)).mono ?_
    rintro e W12 ⟨rfl, rfl⟩
    have hall := S.all
    clear S o7
    go_wp2_with fail
    go_ret
    exact ⟨rfl, hall⟩

end Go.Proofs.Ytlhmdjaplcopoaa
