/- Contracts of chapter 1: GetText. -/
import Derived.Test.YtgdhhhibkhfdlaaPutText
import Derived.Test.YtgdhhhibkhfdlaaShut
namespace Go.Proofs.Ytgdhhhibkhfdlaa
open Go.RowKit

/-- The text that is decoded at an offset, and the offset after it. -/
def gtO (l : List UInt8) (p : Int) : Option (List UInt8 × Int) :=
  if p < 0 ∨ (l.length : Int) ≤ p then none else
  if (l.length : Int) - (p + 1) < ((l.getD p.toNat 0).toNat : Int) then none else
  if okB ((l.drop (p.toNat + 1)).take (l.getD p.toNat 0).toNat) then some ((l.drop (p.toNat + 1)).take (l.getD p.toNat 0).toNat, p + 1 + ((l.getD p.toNat 0).toNat : Int)) else none
def gtS (l : List UInt8) (p : Int) : ByteArray := match gtO l p with | some x => ⟨x.1.toArray⟩ | none => ⟨#[]⟩
def gtN (l : List UInt8) (p : Int) : Int := match gtO l p with | some x => x.2 | none => 0
def gtB (l : List UInt8) (p : Int) : Bool := (gtO l p).isSome

theorem gt_none {l : List UInt8} {p : Int} (h : gtO l p = none) : gtS l p = ⟨#[]⟩ ∧ gtN l p = 0 ∧ gtB l p = false := by simp [gtS, gtN, gtB, h]
theorem gt_some {l : List UInt8} {p : Int} {x : List UInt8 × Int} (h : gtO l p = some x) : gtS l p = ⟨x.1.toArray⟩ ∧ gtN l p = x.2 ∧ gtB l p = true := by simp [gtS, gtN, gtB, h]
theorem gt_out {l : List UInt8} {p : Int} (h : p < 0 ∨ (l.length : Int) ≤ p) : gtO l p = none := by unfold gtO; rw [if_pos h]
theorem gt_in {l : List UInt8} {k : Nat} {u : UInt8} (hk : k < l.length) (hu : l[k]? = some u) :
    gtO l k = if (l.length : Int) - ((k : Int) + 1) < (u.toNat : Int) then none else if okB ((l.drop (k + 1)).take u.toNat) then some ((l.drop (k + 1)).take u.toNat, (k : Int) + 1 + u.toNat) else none := by
  unfold gtO
  rw [if_neg (by omega)]
  simp [hu]

theorem ret_sib {k' : IntKind} {a a' : ByteArray} {b b' : Int} {c c' : Bool} (h1 : a = a') (h2 : b = b') (h3 : c = c') : Ending.returned (.tuple #[.string a, .int k' b, .bool c]) = .returned (.tuple #[.string a', .int k' b', .bool c']) := by rw [h1, h2, h3]

set_option maxHeartbeats 1000000 in
theorem getText_any (A : Option Addr) (c : Nat) (p : Int) (l : List UInt8) (w : World) (h : Reads w w.heap.size 1 A l.length (bys l)) (hn : l.length ≤ 100000000) (hc : l.length ≤ c) :
    Calls Try.prog 193 #[.slice A l.length c, .int .i64 p] w fun e w' => e = .returned (.tuple #[.string (gtS l p), .int .i64 (gtN l p), .bool (gtB l p)]) ∧ w = w' := by
  obtain ⟨i0, hi0, hz0, hz1, hz2⟩ := info_parts Try.info8
  by_cases h0 : p < 0
  · obtain ⟨e1, e2, e3⟩ := gt_none (gt_out (l := l) (.inl h0))
    have E1 := Lib.hid e1
    have E2 := Lib.hid e2
    have E3 := Lib.hid e3
    clear e1 e2 e3
    go_enter Try.func193, Try.ntmps193
    go_wp2
    go_ret3
    exact ⟨ret_sib E1.out.symm E2.out.symm E3.out.symm, rfl⟩
  · obtain ⟨k, rfl⟩ := Int.eq_ofNat_of_zero_le (by omega : 0 ≤ p)
    by_cases h1 : (l.length : Int) ≤ (k : Int)
    · obtain ⟨e1, e2, e3⟩ := gt_none (gt_out (l := l) (.inr h1))
      have E1 := Lib.hid e1
      have E2 := Lib.hid e2
      have E3 := Lib.hid e3
      clear e1 e2 e3
      go_enter Try.func193, Try.ntmps193
      go_wp2
      go_ret3
      exact ⟨ret_sib E1.out.symm E2.out.symm E3.out.symm, rfl⟩
    · obtain ⟨b, off, x, rfl, _, hx, hcx⟩ := h.byte (k := k) (by omega)
      have hxl := byte_lt x
      have HG := Lib.hid (gt_in (by omega) hx)
      clear hx
      have i1 : (0 : Int) ≤ (k : Int) := by omega
      have i2 : (k : Int) < (l.length : Int) := by omega
      by_cases h2 : (l.length : Int) - ((k : Int) + 1) < (x.toNat : Int)
      · obtain ⟨e1, e2, e3⟩ := gt_none (by rw [HG.out, if_pos h2] : gtO l k = none)
        have E1 := Lib.hid e1
        have E2 := Lib.hid e2
        have E3 := Lib.hid e3
        clear e1 e2 e3
        go_enter Try.func193, Try.ntmps193
        go_wp2
        go_ret3
        exact ⟨ret_sib E1.out.symm E2.out.symm E3.out.symm, rfl⟩
      · obtain ⟨A', hrun, hrd⟩ := slice_reads Try.underlying22 hi0 hz1 (A := some ⟨b, off, none⟩) (n := l.length) (c := c) (lo := k + 1) (hi' := k + 1 + x.toNat) .i64 .i64 (by omega) (by omega) hc
        have hrd' := hrd h
        rw [show k + 1 + x.toNat - (k + 1) = x.toNat by omega] at hrd' hrun
        have hsl : ∀ w, (Instr.slice 22 (.slice (some ⟨b, off, none⟩) l.length c) (some (.int .i64 ((k : Int) + 1))) (some (.int .i64 ((k : Int) + 1 + (x.toNat : Int)))) none).run Try.prog w = .ok (.slice A' x.toNat (c - (k + 1))) w := by
          intro w
          have := hrun w
          rwa [show (((k + 1 : Nat) : Int)) = (k : Int) + 1 by omega, show (((k + 1 + x.toNat : Nat) : Int)) = (k : Int) + 1 + (x.toNat : Int) by omega] at this
        clear hrun hrd
        obtain ⟨s, hs⟩ : ∃ s, (l.drop (k + 1)).take x.toNat = s := ⟨_, rfl⟩
        have HS := Lib.hid hs
        rw [hs] at hrd'
        clear hs
        have hsl0 := hrd'.len
        have hss : (⟨s.toArray⟩ : ByteArray).size ≤ 1000 := by
          show s.toArray.size ≤ 1000
          rw [List.size_toArray, hsl0]; omega
        have hcv := string_run (P := Try.prog) (src := 22) (dst := 9) Try.underlying22 Try.underlying5 Try.underlying9 (c := c - (k + 1)) hrd'
        clear hsl0 hrd'
        by_cases hok : okB s = true
        · obtain ⟨e1, e2, e3⟩ := gt_some (by rw [HG.out, if_neg h2, HS.out, if_pos hok] : gtO l k = some (s, (k : Int) + 1 + x.toNat))
          have E1 := Lib.hid e1
          have E2 := Lib.hid e2
          have E3 := Lib.hid e3
          clear e1 e2 e3
          go_enter Try.func193, Try.ntmps193
          go_wp2_with fail
          refine (textOk_any ⟨s.toArray⟩ w (by omega)).mono ?_
          rintro e w3 ⟨rfl, rfl⟩
          go_wp2_with fail
          go_ret3
          exact ⟨ret_sib E1.out.symm E2.out.symm E3.out.symm, rfl⟩
        · obtain ⟨e1, e2, e3⟩ := gt_none (by rw [HG.out, if_neg h2, HS.out, if_neg hok] : gtO l k = none)
          have E1 := Lib.hid e1
          have E2 := Lib.hid e2
          have E3 := Lib.hid e3
          have hokf : okB s = false := by simpa using hok
          clear e1 e2 e3 hok
          go_enter Try.func193, Try.ntmps193
          go_wp2_with fail
          refine (textOk_any ⟨s.toArray⟩ w (by omega)).mono ?_
          rintro e w3 ⟨rfl, rfl⟩
          go_wp2_with fail
          go_ret3
          exact ⟨ret_sib E1.out.symm E2.out.symm E3.out.symm, rfl⟩

set_option maxHeartbeats 1000000 in
theorem getTextS_any (A : Option Addr) (c : Nat) (p : Int) (l : List UInt8) (w : World) (h : Reads w w.heap.size 1 A l.length (bys l)) (hn : l.length ≤ 100000000) (hc : l.length ≤ c) :
    Calls Try.prog 169 #[.slice A l.length c, .int .i64 p] w fun e w' => e = .returned (.tuple #[.string (gtS l p), .int .i64 (gtN l p), .bool (gtB l p)]) ∧ w = w' := by
  obtain ⟨i0, hi0, hz0, hz1, hz2⟩ := info_parts Try.info8
  by_cases h0 : p < 0
  · obtain ⟨e1, e2, e3⟩ := gt_none (gt_out (l := l) (.inl h0))
    have E1 := Lib.hid e1
    have E2 := Lib.hid e2
    have E3 := Lib.hid e3
    clear e1 e2 e3
    go_enter Try.func169, Try.ntmps169
    go_wp2
    go_ret3
    exact ⟨ret_sib E1.out.symm E2.out.symm E3.out.symm, rfl⟩
  · obtain ⟨k, rfl⟩ := Int.eq_ofNat_of_zero_le (by omega : 0 ≤ p)
    by_cases h1 : (l.length : Int) ≤ (k : Int)
    · obtain ⟨e1, e2, e3⟩ := gt_none (gt_out (l := l) (.inr h1))
      have E1 := Lib.hid e1
      have E2 := Lib.hid e2
      have E3 := Lib.hid e3
      clear e1 e2 e3
      go_enter Try.func169, Try.ntmps169
      go_wp2
      go_ret3
      exact ⟨ret_sib E1.out.symm E2.out.symm E3.out.symm, rfl⟩
    · obtain ⟨b, off, x, rfl, _, hx, hcx⟩ := h.byte (k := k) (by omega)
      have hxl := byte_lt x
      have HG := Lib.hid (gt_in (by omega) hx)
      clear hx
      have i1 : (0 : Int) ≤ (k : Int) := by omega
      have i2 : (k : Int) < (l.length : Int) := by omega
      by_cases h2 : (l.length : Int) - ((k : Int) + 1) < (x.toNat : Int)
      · have h2' : (l.length : Int) - (k : Int) - 1 < (x.toNat : Int) := by omega
        obtain ⟨e1, e2, e3⟩ := gt_none (by rw [HG.out, if_pos h2] : gtO l k = none)
        have E1 := Lib.hid e1
        have E2 := Lib.hid e2
        have E3 := Lib.hid e3
        clear e1 e2 e3
        go_enter Try.func169, Try.ntmps169
        go_wp2
        go_ret3
        exact ⟨ret_sib E1.out.symm E2.out.symm E3.out.symm, rfl⟩
      · have h2' : ¬ (l.length : Int) - (k : Int) - 1 < (x.toNat : Int) := by omega
        obtain ⟨A', hrun, hrd⟩ := slice_reads Try.underlying22 hi0 hz1 (A := some ⟨b, off, none⟩) (n := l.length) (c := c) (lo := k + 1) (hi' := k + 1 + x.toNat) .i64 .i64 (by omega) (by omega) hc
        have hrd' := hrd h
        rw [show k + 1 + x.toNat - (k + 1) = x.toNat by omega] at hrd' hrun
        have hsl : ∀ w, (Instr.slice 22 (.slice (some ⟨b, off, none⟩) l.length c) (some (.int .i64 ((k : Int) + 1))) (some (.int .i64 ((k : Int) + 1 + (x.toNat : Int)))) none).run Try.prog w = .ok (.slice A' x.toNat (c - (k + 1))) w := by
          intro w
          have := hrun w
          rwa [show (((k + 1 : Nat) : Int)) = (k : Int) + 1 by omega, show (((k + 1 + x.toNat : Nat) : Int)) = (k : Int) + 1 + (x.toNat : Int) by omega] at this
        clear hrun hrd
        obtain ⟨s, hs⟩ : ∃ s, (l.drop (k + 1)).take x.toNat = s := ⟨_, rfl⟩
        have HS := Lib.hid hs
        rw [hs] at hrd'
        clear hs
        have hsl0 := hrd'.len
        have hss : (⟨s.toArray⟩ : ByteArray).size ≤ 1000 := by
          show s.toArray.size ≤ 1000
          rw [List.size_toArray, hsl0]; omega
        have hcv := string_run (P := Try.prog) (src := 22) (dst := 9) Try.underlying22 Try.underlying5 Try.underlying9 (c := c - (k + 1)) hrd'
        clear hsl0 hrd'
        by_cases hok : okB s = true
        · obtain ⟨e1, e2, e3⟩ := gt_some (by rw [HG.out, if_neg h2, HS.out, if_pos hok] : gtO l k = some (s, (k : Int) + 1 + x.toNat))
          have E1 := Lib.hid e1
          have E2 := Lib.hid e2
          have E3 := Lib.hid e3
          clear e1 e2 e3
          go_enter Try.func169, Try.ntmps169
          go_wp2_with fail
          refine (textOkS_any ⟨s.toArray⟩ w (by omega)).mono ?_
          rintro e w3 ⟨rfl, rfl⟩
          go_wp2_with fail
          go_ret3
          exact ⟨ret_sib E1.out.symm E2.out.symm E3.out.symm, rfl⟩
        · obtain ⟨e1, e2, e3⟩ := gt_none (by rw [HG.out, if_neg h2, HS.out, if_neg hok] : gtO l k = none)
          have E1 := Lib.hid e1
          have E2 := Lib.hid e2
          have E3 := Lib.hid e3
          have hokf : okB s = false := by simpa using hok
          clear e1 e2 e3 hok
          go_enter Try.func169, Try.ntmps169
          go_wp2_with fail
          refine (textOkS_any ⟨s.toArray⟩ w (by omega)).mono ?_
          rintro e w3 ⟨rfl, rfl⟩
          go_wp2_with fail
          go_ret3
          exact ⟨ret_sib E1.out.symm E2.out.symm E3.out.symm, rfl⟩

end Go.Proofs.Ytgdhhhibkhfdlaa
