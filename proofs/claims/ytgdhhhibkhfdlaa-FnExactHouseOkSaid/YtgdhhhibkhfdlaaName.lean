/- When a name is right: the model's and the program's. -/
import Derived.Test.YtgdhhhibkhfdlaaRet
import Derived.Laws.RangeAny
import Derived.Maps.RangeWalk
import Derived.WalkSpells
namespace Go.Proofs.Ytgdhhhibkhfdlaa
open Go.RowKit
set_option linter.unusedVariables false

def lowB (b : UInt8) : Bool := decide (97 ≤ b.toNat ∧ b.toNat ≤ 122)

def nameB (l : List UInt8) : Bool := decide (1 ≤ l.length ∧ l.length ≤ 8) && l.all lowB

theorem strc_get (s : ByteArray) (k : Nat) (hk : k < s.size) : s.data.toList[k]? = some s[k] := by
  have h' : k < s.data.toList.length := by simpa using hk
  rw [List.getElem?_eq_getElem h']
  simp
  rfl

theorem nameB_bad {s : ByteArray} {k : Nat} (hk : k < s.size) (h : ¬ (97 ≤ s[k].toNat ∧ s[k].toNat ≤ 122)) : nameB s.data.toList = false := by
  unfold nameB
  rw [Bool.and_eq_false_iff]
  refine .inr ?_
  rw [List.all_eq_false]
  exact ⟨s[k], List.mem_of_getElem? (strc_get s k hk), by simp [lowB]; omega⟩

theorem nameB_len {s : ByteArray} (h : ¬ (1 ≤ s.size ∧ s.size ≤ 8)) : nameB s.data.toList = false := by
  unfold nameB
  rw [Bool.and_eq_false_iff]
  refine .inl (decide_eq_false ?_)
  simpa using h

def lowTo (s : ByteArray) (k : Nat) : Prop := ∀ b, b ∈ s.data.toList.take k → lowB b = true

theorem lowTo_zero (s : ByteArray) : lowTo s 0 := by intro b hb; simp at hb

theorem lowTo_succ {s : ByteArray} {k : Nat} (hk : k < s.size) (h : lowTo s k) (hb : 97 ≤ s[k].toNat ∧ s[k].toNat ≤ 122) : lowTo s (k + 1) := by
  intro b hm
  rw [Rep.take_get (strc_get s k hk), List.mem_append] at hm
  rcases hm with hm | hm
  · exact h b hm
  · simp at hm
    subst hm
    simp [lowB]
    omega

theorem nameB_low {s : ByteArray} (h : lowTo s s.size) : nameB s.data.toList = inI (s.size : Int) 1 8 := by
  unfold nameB inI
  have h2 : s.data.toList.all lowB = true := List.all_eq_true.2 fun b hb => h b (by rw [List.take_of_length_le (by simp)]; exact hb)
  rw [h2, Bool.and_true]
  have : s.data.toList.length = s.size := by simp
  rw [this]
  apply decide_eq_decide.2
  omega

set_option maxHeartbeats 1000000 in
theorem l1Name_b {s : ByteArray} {b : Bool} (hb : nameB s.data.toList = b) (w : World) (hs : s.size ≤ 1048576) : Calls Try.prog 110 #[.string s] w fun e w' => e = .returned (.bool b) ∧ w = w' := by
  have HB := Lib.hid hb
  clear hb
  go_enter Try.func110, Try.ntmps110
  go_wp2
  go_loop [3] (fun i => ∃ k : Nat, k ≤ s.size ∧ i = .int .i64 k ∧ Hid (lowTo s k)) (fun i => s.size - (intOf i).toNat)
  case atStart => exact ⟨0, by omega, rfl, Lib.hid (lowTo_zero s)⟩
  case round =>
    obtain ⟨k, hk, rfl, hl⟩ := hrel
    by_cases hlt : k < s.size
    · by_cases h1 : (s[k].toNat : Int) < 97
      · obtain rfl : b = false := by rw [← HB.out, nameB_bad hlt (by omega)]
        go_wp2
        go_ret
        exact ⟨rfl, rfl⟩
      · by_cases h2 : (122 : Int) < s[k].toNat
        · obtain rfl : b = false := by rw [← HB.out, nameB_bad hlt (by omega)]
          go_wp2
          go_ret
          exact ⟨rfl, rfl⟩
        · have HN := Lib.hid (lowTo_succ hlt hl.out (by omega))
          go_wp2
          go_round
          case rel => exact ⟨k + 1, by omega, by go_num, HN⟩
          case measure => simp [intOf]; omega
    · have he : k = s.size := by omega
      subst he
      have HE := Lib.hid (nameB_low hl.out)
      go_wp2_with (go_at_call 86; refine (l1In_b (b := b) (by rw [← HE.out, HB.out]) _).mono ?_; rintro e w' ⟨rfl, rfl⟩)
      go_ret
      exact ⟨rfl, rfl⟩

set_option maxHeartbeats 2000000 in
theorem nameOk_b {s : ByteArray} {b : Bool} (hb : nameB s.data.toList = b) (w : World) (hs : s.size ≤ 1048576) : Calls Try.prog 107 #[.string s] w (RetBool w b) := by
  have HB := Lib.hid hb
  clear hb
  unfold RetBool
  by_cases hl : 1 ≤ s.size ∧ s.size ≤ 8
  · have hin : inI (s.size : Int) 1 8 = true := decide_eq_true (by omega)
    obtain ⟨l1, l2⟩ := hl
    go_enter Try.func107, Try.ntmps107
    go_wp2_with (go_at_call 85; refine (within_b hin _).mono ?_; rintro e w' ⟨rfl, rfl⟩)
    clear hin
    go_loopw [] (fun wr => ∃ k : Nat, k ≤ s.size ∧ wr = w.iter s k ∧ Hid (lowTo s k)) (fun wr => s.size - wr.iterPos w.heap.size)
    case atStart => exact ⟨0, by omega, rfl, Lib.hid (lowTo_zero s)⟩
    case round =>
      obtain ⟨k, hk, rfl, hto⟩ := hrel
      by_cases hlt : k < s.size
      · by_cases ha : s[k].toNat < 128
        · have hnx := fun ty => run_next_ascii (P := Try.prog) w s k ty hlt ha
          by_cases h1 : (s[k].toNat : Int) < 97
          · obtain rfl : b = false := by rw [← HB.out, nameB_bad hlt (by omega)]
            go_wp2
            go_ret
            exact ⟨rfl, (Below.refl _ _).alloc (Nat.le_refl _) _⟩
          · by_cases h2 : (122 : Int) < s[k].toNat
            · obtain rfl : b = false := by rw [← HB.out, nameB_bad hlt (by omega)]
              go_wp2
              go_ret
              exact ⟨rfl, (Below.refl _ _).alloc (Nat.le_refl _) _⟩
            · have HN := Lib.hid (lowTo_succ hlt hto.out (by omega))
              go_wp2
              go_roundw
              case rel => exact ⟨k + 1, by omega, rfl, HN⟩
              case measure => simp; omega
        · have hnx := fun ty => run_next_any (P := Try.prog) w s k ty hlt
          have hhi := (decode_high s k hlt (by omega)).1
          have hle := decode_le s k
          obtain rfl : b = false := by rw [← HB.out, nameB_bad hlt (by omega)]
          obtain ⟨r, hr⟩ : ∃ r, (Utf8.decode s k).1 = r := ⟨_, rfl⟩
          rw [hr] at hhi hle hnx
          clear hr
          have c1 : ¬ (r : Int) < 97 := by omega
          have c2 : (122 : Int) < (r : Int) := by omega
          go_wp2
          go_ret
          exact ⟨rfl, (Below.refl _ _).alloc (Nat.le_refl _) _⟩
      · have he : k = s.size := by omega
        subst he
        have hnx := fun ty => run_next_end (P := Try.prog) w s s.size ty (by omega)
        obtain rfl : b = true := by
          rw [← HB.out, nameB_low hto.out]
          exact decide_eq_true (by omega)
        go_wp2
        go_ret
        exact ⟨rfl, (Below.refl _ _).alloc (Nat.le_refl _) _⟩
  · have hin : inI (s.size : Int) 1 8 = false := decide_eq_false (by omega)
    obtain rfl : b = false := by rw [← HB.out, nameB_len hl]
    clear hl
    go_enter Try.func107, Try.ntmps107
    go_wp2_with (go_at_call 85; refine (within_b hin _).mono ?_; rintro e w' ⟨rfl, rfl⟩)
    go_ret
    exact ⟨rfl, Below.refl _ _⟩

end Go.Proofs.Ytgdhhhibkhfdlaa
