/- The walk of the exact law of Frames. -/
import Derived.Test.YtlhmdjaplcopoaaFrames
import Derived.Test.YtlhmdjaplcopoaaBent
namespace Go.Proofs.Ytlhmdjaplcopoaa
open Go.RowKit
set_option linter.unusedVariables false

theorem frs_len (l : List UInt8) : (frs l).1.length ≤ l.length := by
  have : ∀ (k : Nat) (l : List UInt8), l.length ≤ k → (frs l).1.length ≤ l.length := by
    intro k
    induction k with
    | zero => intro l h; rw [frs_nil (by omega)]; simp
    | succ k ih =>
      intro l h
      by_cases h0 : l.length = 0
      · rw [frs_nil h0]; simp
      · by_cases hc : (getF l).2.2 = 0
        · obtain ⟨n, hn, hn1, hn2, _⟩ := getF_good hc
          rw [frs_step h0 hc hn]
          have hd : (l.drop n).length = l.length - n := List.length_drop
          have := ih (l.drop n) (by omega)
          show ((frs (l.drop n)).1.length + 1 ≤ l.length)
          omega
        · rw [frs_stop h0 hc]; simp
  exact this l.length l (Nat.le_refl _)

set_option maxRecDepth 100000 in
set_option maxHeartbeats 8000000 in
theorem walk_FnExactFrames (a0 : Option Addr) (len0 cap0 : Nat) (z0 : List Int) (w : World) (w0 : IsRow .u8 w a0 len0 cap0 z0) :
    Calls Try.prog 8 #[.slice a0 len0 cap0] w fun e w' => e = .returned (.bool true) ∧ Below w.heap.size w w' := by
  obtain ⟨l, rfl, _, hr⟩ := w0.reads
  clear w0
  by_cases hbig : 1048576 < l.length
  · go_enter Try.func8, Try.ntmps8
    go_wp2_with fail
    go_ret
    exact ⟨rfl, Below.refl _ _⟩
  · have hn : l.length ≤ 1048576 := by omega
    obtain ⟨⟨L, code⟩, hp⟩ : ∃ p, frs l = p := ⟨_, rfl⟩
    have hL : L.length ≤ 1048576 := by have := frs_len l; rw [hp] at this; exact Nat.le_trans this hn
    have HP := Lib.hid hp
    clear hp
    have ny : (code != code) = false := by simp
    have HR := Lib.hid hr
    clear hr
    go_enter Try.func8, Try.ntmps8
    go_wp2_with fail
    refine (toByteS_any a0 cap0 l w HR.out (by omega)).mono ?_
    rintro e W1 ⟨v1, rfl, o1, hb⟩
    obtain ⟨A1, c1, rfl, hc1, _, r1, _⟩ := o1.shape
    have S : All (fun w' => Below w.heap.size w w') W1 := ⟨hb⟩
    clear o1 hb
    go_wp2_with fail
    refine (framesS_any A1 c1 l W1 r1 (by omega) hc1).mono ?_
    rw [HP.out]
    rintro e W2 ⟨A2, c2, h9, o2, hb⟩
    replace h9 : e = .returned (.tuple #[.slice A2 L.length c2, .int .i64 code]) := h9
    subst h9
    have S2 : All (fun w' => Below w.heap.size w w' ∧ FrAt w' A2 L) W2 := ⟨(S.later hb).out, frS_own_at o2⟩
    clear r1 hb o2 S
    go_wp2_with fail
    refine (toByteS_any a0 cap0 l W2 ((HR.out.below S2.out.1).more S2.out.1.size) (by omega)).mono ?_
    rintro e W3 ⟨v3, rfl, o3, hb⟩
    obtain ⟨A3, c3, rfl, hc3, _, r3, _⟩ := o3.shape
    have HB3 := Lib.hid hb
    clear hb
    go_wp2_with fail
    refine (frames_any A3 c3 l W3 r3 (by omega) hc3).mono ?_
    rw [HP.out]
    rintro e W4 ⟨A4, c4, h9, o4, hb⟩
    replace h9 : e = .returned (.tuple #[.slice A4 L.length c4, .int .i64 code]) := h9
    subst h9
    replace o4 : W4.ownsRow W3.heap.size 25 3 (.slice A4 L.length c4) L.length (flatFr L) := o4
    have Hap : Hid (∀ k k', (Value.slice A4 L.length c4).ownBlock = some k → (Value.slice A3 l.length c3).ownBlock = some k' → k ≠ k') := Lib.hid (fun k k' hk hk' => by have h1 := (o3.lt k' hk').2; have h2 := (o4.lt k hk).1; omega)
    have H23 := Lib.hid HB3.out.size
    replace o3 := o3.keep hb
    have HB := Lib.hid (HB3.out.trans (hb.mono HB3.out.size))
    have H34 := Lib.hid hb.size
    clear hb r3 HB3
    go_wp2_with fail
    refine (eqFrS_same A4 A2 c4 c2 L W4 (frS_own_at o4) (S2.later HB.out).out.2 (by omega)).mono ?_
    rintro e W5 ⟨rfl, hb⟩
    replace o4 := ownsRow_below o4 hb (Nat.le_refl _)
    replace o3 := o3.keep hb
    replace H34 := Lib.hid (Nat.le_trans H34.out hb.size)
    replace HB := Lib.hid (HB.out.trans (hb.mono HB.out.size))
    clear hb
    go_wp2_with fail
    refine (toByteS_any a0 cap0 l W5 ((HR.out.below (S2.later HB.out).out.1).more (S2.later HB.out).out.1.size) (by omega)).mono ?_
    rintro e W6 ⟨v6, rfl, o6, hb⟩
    obtain ⟨A6, c6, rfl, _, _, r6, _⟩ := o6.shape
    replace o4 := ownsRow_below o4 hb (Nat.le_refl _)
    replace o3 := o3.keep hb
    replace H34 := Lib.hid (Nat.le_trans H34.out hb.size)
    replace HB := Lib.hid (HB.out.trans (hb.mono HB.out.size))
    clear hb o6
    go_wp2_with fail
    refine (eqByteS_same A3 A6 c3 c6 l W6 o3.reads r6 (by omega)).mono ?_
    rintro e W7 ⟨rfl, n7, rfl⟩
    replace o3 := o3.drewN n7
    replace o4 : (W6.drewN n7).ownsRow W3.heap.size 25 3 (.slice A4 L.length c4) L.length (flatFr L) := o4
    replace HB := Lib.hid (belowD HB.out n7)
    replace H34 : Hid (W3.heap.size ≤ (W6.drewN n7).heap.size) := H34
    clear r6
    generalize W6.drewN n7 = W7 at o3 o4 HB H34 ⊢
    go_wp2_with fail
    refine (markByteS_any _ 1 l W7 _ o3 (by omega) (by omega)).mono ?_
    rintro e W8 ⟨rfl, o8, hg8⟩
    replace o4 : W8.ownsRow W3.heap.size 25 3 (.slice A4 L.length c4) L.length (flatFr L) := by
      refine World.ownsRow.kept o4 hg8 ?_
      rcases hv : (Value.slice A4 L.length c4).ownBlock with _ | k
      · exact .inl rfl
      · rcases hv' : (Value.slice A3 l.length c3).ownBlock with _ | k'
        · exact .inr (by simp)
        · exact .inr (by simpa using Hap.out k k' hv hv')
    replace HB := Lib.hid (HB.out.grown hg8 HB.out.size (fun k hk => (o3.lt k hk).1))
    replace H34 := Lib.hid (Nat.le_trans H34.out hg8.size)
    clear o3 o8 hg8 Hap
    have t8 : ¬ (((1 + l.length : Nat) : Int) < 0) := by omega
    go_wp2_with fail
    refine (eqFrS_same A4 A2 c4 c2 L W8 (frS_own_at o4) (S2.later HB.out).out.2 (by omega)).mono ?_
    rintro e W9 ⟨rfl, hb⟩
    replace o4 := ownsRow_below o4 hb (Nat.le_refl _)
    replace H34 := Lib.hid (Nat.le_trans H34.out hb.size)
    replace HB := Lib.hid (HB.out.trans (hb.mono HB.out.size))
    clear hb t8
    go_wp2_with fail
    refine (markFrS_any _ 1 L.length _ W9 W3.heap.size o4 (by omega) (by omega) H34.out).mono ?_
    rintro e W10 ⟨rfl, f10, hb⟩
    replace HB := Lib.hid (HB.out.trans (hb.mono H23.out))
    clear hb o4 H34
    go_wp2_with fail
    refine (heldFrS_any A4 c4 1 L.length W10 (frS_flat f10) (by omega) (by omega)).mono ?_
    rintro e W11 ⟨rfl, hb⟩
    have S := S2.later (HB.out.trans (hb.mono HB.out.size))
    replace f10 := f10.later hb
    clear hb HB S2 H23
    have q0 : (((1 + L.length * 3 : Nat) : Int) != ((1 + L.length * 3 : Nat) : Int)) = false := by simp
    go_wp2_with fail
    refine (toByteS_any a0 cap0 l W11 ((HR.out.below S.out.1).more S.out.1.size) (by omega)).mono ?_
    rintro e W12 ⟨v12, rfl, o12, hb⟩
    obtain ⟨A12, c12, rfl, hc12, _, r12, _⟩ := o12.shape
    replace S := S.later hb
    replace f10 := f10.later hb
    clear hb o12
    go_wp2_with fail
    refine (frames_any A12 c12 l W12 r12 (by omega) hc12).mono ?_
    rw [HP.out]
    rintro e W13 ⟨A13, c13, h9, o13, hb⟩
    replace h9 : e = .returned (.tuple #[.slice A13 L.length c13, .int .i64 code]) := h9
    subst h9
    replace S := S.later hb
    replace f10 := f10.later hb
    clear hb r12
    go_wp2_with fail
    refine (eqFrS_same A13 A2 c13 c2 L W13 (frS_own_at o13) S.out.2 (by omega)).mono ?_
    rintro e W14 ⟨rfl, hb⟩
    replace S := S.later hb
    replace f10 := f10.later hb
    clear hb o13
    go_wp2_with fail
    refine (heldFrS_any A4 c4 1 L.length W14 (frS_flat f10) (by omega) (by omega)).mono ?_
    rintro e W15 ⟨rfl, hb⟩
    replace S := S.later hb
    clear hb f10
    have hfin := S.out.1
    go_wp2_with fail
    go_ret
    exact ⟨rfl, hfin⟩

end Go.Proofs.Ytlhmdjaplcopoaa
