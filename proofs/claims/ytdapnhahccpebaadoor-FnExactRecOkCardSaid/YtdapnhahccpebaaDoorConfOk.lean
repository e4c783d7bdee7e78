/- ConfOk of the program. -/
import Derived.Test.YtdapnhahccpebaaDoorConfAt
import Derived.Test.YtdapnhahccpebaaDoorLex
import Derived.Laws.RangeAny
namespace Go.Proofs.YtdapnhahccpebaaDoor
open Go.RowKit
set_option maxRecDepth 100000
set_option linter.unusedVariables false

theorem Rep.RowsAt.take {α : Type} {R : Rep α} {w : World} {B n k : Nat} {A : Option Addr} {xs : List α} (h : Rep.RowsAt R w B A n xs) (hk : k ≤ n) : Rep.RowsAt R w B A (xs.take k).length (xs.take k) := by
  obtain ⟨hl, cells, hr, he⟩ := h
  have hkl : (xs.take k).length = k := by rw [List.length_take]; omega
  have hlen := hr.1
  have h1 : k * R.size ≤ n * R.size := Nat.mul_le_mul_right _ hk
  refine ⟨rfl, cells.take (k * R.size), ⟨?_, ?_⟩, ?_⟩
  · rw [hkl, List.length_take]
    omega
  · intro hn
    rw [hkl] at hn
    obtain ⟨ad, hA, hb, hc⟩ := hr.2 (by omega)
    refine ⟨ad, hA, hb, fun j u hu => hc j u ?_⟩
    rw [List.getElem?_take] at hu
    split at hu
    · exact hu
    · cases hu
  · intro i x hx
    have hi : i < k := by have := (List.getElem?_eq_some_iff.1 hx).1; omega
    rw [List.getElem?_take, if_pos hi] at hx
    have h2 := he i x hx
    have h3 : (i + 1) * R.size ≤ k * R.size := Nat.mul_le_mul_right _ hi
    rw [Nat.add_mul, Nat.one_mul] at h3
    have : Rep.seg R.size i (cells.take (k * R.size)) = Rep.seg R.size i cells := by
      apply List.ext_getElem?
      intro j
      by_cases hj : j < R.size
      · rw [Rep.seg_get hj, Rep.seg_get hj, List.getElem?_take, if_pos (by omega)]
      · rw [List.getElem?_eq_none (by unfold Rep.seg; rw [List.length_take]; omega), List.getElem?_eq_none (by unfold Rep.seg; rw [List.length_take]; omega)]
    rw [this]
    exact h2

set_option maxHeartbeats 1000000 in
theorem within_b {x lo hi : Int} {b : Bool} (h : inI x lo hi = b) (w : World) : Calls Tryd.prog 60 #[.int .i64 x, .int .i64 lo, .int .i64 hi] w fun e w' => e = .returned (.bool b) ∧ w = w' := by
  unfold inI at h
  by_cases h1 : lo ≤ x
  · by_cases h2 : x ≤ hi
    · obtain rfl : b = true := by rw [← h]; simp; omega
      clear h
      go_enter Tryd.func60, Tryd.ntmps60
      go_wp2
      go_ret
      exact ⟨rfl, rfl⟩
    · obtain rfl : b = false := by rw [← h]; simp; omega
      clear h
      go_enter Tryd.func60, Tryd.ntmps60
      go_wp2
      go_ret
      exact ⟨rfl, rfl⟩
  · obtain rfl : b = false := by rw [← h]; simp; omega
    clear h
    go_enter Tryd.func60, Tryd.ntmps60
    go_wp2
    go_ret
    exact ⟨rfl, rfl⟩

set_option maxHeartbeats 2000000 in
theorem nameOk_b {s : ByteArray} {b : Bool} (hb : nameB s.data.toList = b) (w : World) (hs : s.size ≤ 1048576) : Calls Tryd.prog 103 #[.string s] w (RetBool w b) := by
  have HB := Lib.hid hb
  clear hb
  unfold RetBool
  by_cases hl : 1 ≤ s.size ∧ s.size ≤ 8
  · have hin : inI (s.size : Int) 1 8 = true := decide_eq_true (by omega)
    obtain ⟨l1, l2⟩ := hl
    go_enter Tryd.func103, Tryd.ntmps103
    go_wp2_with (go_at_call 60; refine (within_b hin _).mono ?_; rintro e w' ⟨rfl, rfl⟩)
    clear hin
    go_loopw [] (fun wr => ∃ k : Nat, k ≤ s.size ∧ wr = w.iter s k ∧ Hid (lowTo s k)) (fun wr => s.size - wr.iterPos w.heap.size)
    case atStart => exact ⟨0, by omega, rfl, Lib.hid (lowTo_zero s)⟩
    case round =>
      obtain ⟨k, hk, rfl, hto⟩ := hrel
      by_cases hlt : k < s.size
      · by_cases ha : s[k].toNat < 128
        · have hnx := fun ty => run_next_ascii (P := Tryd.prog) w s k ty hlt ha
          by_cases h1 : (s[k].toNat : Int) < 97
          · obtain rfl : b = false := by rw [← HB.out, nameB_bad hlt (by omega)]
            go_wp2
            go_ret
            exact ⟨rfl, (Below.refl _ _).alloc (Nat.le_refl _) _⟩
          · by_cases h2 : (122 : Int) < s[k].toNat
            · obtain rfl : b = false := by rw [← HB.out, nameB_bad hlt (by omega)]
              go_wp2
              go_ret
              exact ⟨rfl, (Below.refl _ _).alloc (Nat.le_refl _) _⟩
            · have HN := Lib.hid (lowTo_succ hlt hto.out (by omega))
              go_wp2
              go_roundw
              case rel => exact ⟨k + 1, by omega, rfl, HN⟩
              case measure => simp; omega
        · have hnx := fun ty => run_next_any (P := Tryd.prog) w s k ty hlt
          have hhi := (decode_high s k hlt (by omega)).1
          have hle := decode_le s k
          obtain rfl : b = false := by rw [← HB.out, nameB_bad hlt (by omega)]
          obtain ⟨r, hr⟩ : ∃ r, (Utf8.decode s k).1 = r := ⟨_, rfl⟩
          rw [hr] at hhi hle hnx
          clear hr
          have c1 : ¬ (r : Int) < 97 := by omega
          have c2 : (122 : Int) < (r : Int) := by omega
          go_wp2
          go_ret
          exact ⟨rfl, (Below.refl _ _).alloc (Nat.le_refl _) _⟩
      · have he : k = s.size := by omega
        subst he
        have hnx := fun ty => run_next_end (P := Tryd.prog) w s s.size ty (by omega)
        obtain rfl : b = true := by
          rw [← HB.out, nameB_low hto.out]
          exact decide_eq_true (by omega)
        go_wp2
        go_ret
        exact ⟨rfl, (Below.refl _ _).alloc (Nat.le_refl _) _⟩
  · have hin : inI (s.size : Int) 1 8 = false := decide_eq_false (by omega)
    obtain rfl : b = false := by rw [← HB.out, nameB_len hl]
    clear hl
    go_enter Tryd.func103, Tryd.ntmps103
    go_wp2_with (go_at_call 60; refine (within_b hin _).mono ?_; rintro e w' ⟨rfl, rfl⟩)
    go_ret
    exact ⟨rfl, Below.refl _ _⟩

set_option maxHeartbeats 2000000 in
theorem dbOk_b (d : Db) (w : World) (hd : d.name.size ≤ 1048576) : Calls Tryd.prog 61 #[.agg (dbC d).toArray] w (RetBool w (dbB d)) := by
  obtain ⟨b0, h0⟩ : ∃ b, nameB d.name.data.toList = b := ⟨_, rfl⟩
  obtain ⟨b1, h1⟩ : ∃ b, inI d.size 1 3 = b := ⟨_, rfl⟩
  obtain ⟨b2, h2⟩ : ∃ b, inI d.queue 0 4 = b := ⟨_, rfl⟩
  obtain ⟨b3, h3⟩ : ∃ b, inI d.wait 1 20 = b := ⟨_, rfl⟩
  obtain ⟨b4, h4⟩ : ∃ b, inI d.idle 1 20 = b := ⟨_, rfl⟩
  have HC := Lib.hid (show dbB d = (b0 && b1 && b2 && b3 && b4) by unfold dbB; rw [h0, h1, h2, h3, h4])
  unfold dbC RetBool
  cases b0
  rotate_left
  cases b1
  rotate_left
  cases b2
  rotate_left
  cases b3
  rotate_left
  cases b4
  all_goals
    go_enter Tryd.func61, Tryd.ntmps61
    go_wp2_with fail
    refine (nameOk_b h0 _ hd).mono ?_
    rintro e w2 ⟨rfl, hb2⟩
    obtain ⟨hc, hf⟩ := bcell hb2
    have hz : w.heap.size < w2.heap.size := by have := hb2.size; simp at this; omega
    go_wp2_with (first
      | (go_at_call 60; refine (within_b (by assumption) _).mono ?_; rintro e w' ⟨rfl, rfl⟩))
    go_ret
    exact ⟨by rw [HC.out]; simp, ((Below.refl _ _).alloc (Nat.le_refl _) _).trans (hb2.mono (by simp))⟩

end Go.Proofs.YtdapnhahccpebaaDoor
