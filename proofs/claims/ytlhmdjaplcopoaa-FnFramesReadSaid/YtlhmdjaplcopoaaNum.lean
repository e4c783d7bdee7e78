/- Contracts of chapter 1: NumText. -/
import Derived.Test.YtlhmdjaplcopoaaProg
import Derived.Test.YtlhmdjaplcopoaaShut
import Derived.Lib.ItoaNum
import Derived.Lib.ItoaMem
import Derived.Lib.Hide
import Derived.KernelRfl
namespace Go.Proofs.Ytlhmdjaplcopoaa
open Go.RowKit

def dgt (m : Nat) : UInt8 := UInt8.ofNat (48 + m % 10)

/-- What is still to be written, and what stands: together the digits. -/
def NumInv (M m : Nat) (acc : List UInt8) : Prop := if m = 0 then acc = Lib.decDigits M else Lib.decDigits m ++ acc = Lib.decDigits M

theorem numInv_start {M : Nat} (h : M ≠ 0) : NumInv M M [] := by unfold NumInv; rw [if_neg h]; simp
theorem numInv_step {M m : Nat} {acc : List UInt8} (hm : m ≠ 0) (h : NumInv M m acc) : NumInv M (m / 10) (dgt m :: acc) := by
  unfold NumInv at *
  rw [if_neg hm] at h
  by_cases h10 : m < 10
  · rw [if_pos (by omega), ← h, Lib.decDigits_one h10, show dgt m = UInt8.ofNat (48 + m) by unfold dgt; rw [show m % 10 = m by omega]]
    rfl
  · rw [if_neg (by omega), ← h]
    conv => rhs; rw [Lib.decDigits]
    rw [dif_neg h10]
    simp [dgt]
theorem numInv_len {M m : Nat} {acc : List UInt8} (h : NumInv M m acc) : acc.length ≤ (Lib.decDigits M).length := by
  unfold NumInv at h
  split at h
  · rw [h]; exact Nat.le_refl _
  · rw [← h]; simp
theorem numInv_end {M : Nat} {acc : List UInt8} (h : NumInv M 0 acc) : acc = Lib.decDigits M := by unfold NumInv at h; simpa using h

theorem nDigits_le : ∀ (k u : Nat), 1 ≤ k → u < 10 ^ k → Lib.nDigits u ≤ k := by
  intro k
  induction k with
  | zero => intro u h; omega
  | succ k ih =>
    intro u _ hu
    rw [Lib.nDigits]
    split
    · omega
    · rename_i h10
      have hk : 1 ≤ k := by
        rcases Nat.eq_zero_or_pos k with h0 | h0
        · subst h0; omega
        · exact h0
      have := ih (u / 10) hk (by rw [Nat.pow_succ] at hu; omega)
      omega
theorem decDigits_le (M : Nat) (h : M ≤ 9223372036854775808) : (Lib.decDigits M).length ≤ 20 := by
  rw [Lib.decDigits_length]
  exact nDigits_le 20 M (by omega) (by omega)
theorem str_cons (b : UInt8) (l : List UInt8) : Value.string ((⟨#[b]⟩ : ByteArray) ++ (⟨l.toArray⟩ : ByteArray)) = .string ⟨(b :: l).toArray⟩ := by
  rfl
theorem ret_str {a b : Value} (h : a = b) : Ending.returned a = .returned b := by rw [h]
theorem dig_cell (m : Nat) : (((dgt m).toNat : Nat) : Int) = 48 + (m : Int) % 10 := by
  unfold dgt
  simp
  omega
theorem reads_dig (w : World) (m : Nat) (e : TypeId) : Reads (w.alloc (.cells #[.int .u8 (48 + (m : Int) % 10)] e)) (w.alloc (.cells #[.int .u8 (48 + (m : Int) % 10)] e)).heap.size 1 (some ⟨w.heap.size, 0, none⟩) 1 (bys [dgt m]) := by
  have := Reads.of_own (World.ownsRow_lit (base := 0) (e := e) (size := 1) w #[.int .u8 (48 + (m : Int) % 10)] 1 (Nat.zero_le _) (by simp [maxLen]) rfl)
  rw [show bys [dgt m] = [.int .u8 (48 + (m : Int) % 10)] by simp only [bys, List.map_cons, List.map_nil, dig_cell]]
  exact this

set_option maxRecDepth 100000 in
set_option maxHeartbeats 1000000 in
theorem numTextS_pos (M : Nat) (hM : M ≠ 0) (hM1 : M ≤ 9223372036854775807) (w : World) :
    Calls Try.prog 45 #[.int .i64 M] w fun e w' => e = .returned (.string ⟨(Lib.decDigits M).toArray⟩) ∧ Below w.heap.size w w' := by
  have h0 : ((M : Int) == 0) = false := by simp; omega
  go_enter Try.func45, Try.ntmps45
  go_wp2
  go_loopw [3, 4] (fun s x wr => ∃ (m : Nat) (acc : List UInt8), m ≤ 9223372036854775807 ∧ x = .int .i64 m ∧ s = .string ⟨acc.toArray⟩ ∧ NumInv M m acc ∧ Below w.heap.size w wr) (fun _ x _ => (intOf x).toNat)
  case atStart => exact ⟨M, [], hM1, rfl, rfl, numInv_start hM, Below.refl _ _⟩
  case round =>
    obtain ⟨m, acc, hm1, rfl, rfl, hinv, hb⟩ := hrel
    have HI := Lib.hid hinv
    clear hinv
    by_cases hm : m = 0
    · subst hm
      have HE := Lib.hid (numInv_end HI.out)
      have hz : ((0 : Int) != 0) = false := by simp
      go_wp2
      go_ret
      exact ⟨ret_str (by show Value.string ⟨acc.toArray⟩ = _; rw [HE.out]), hb⟩
    · have hne : ((m : Int) != 0) = true := by simp; omega
      have i1 : 0 ≤ (m : Int) % 10 := by omega
      have i2 : (m : Int) % 10 < 10 := by omega
      have hcv := string_run (P := Try.prog) (src := 22) (dst := 9) Try.underlying22 Try.underlying5 Try.underlying9 (c := 1) (reads_dig wr m 5)
      have hlen := numInv_len HI.out
      have hdl : (Lib.decDigits M).length ≤ 20 := decDigits_le M (by omega)
      have hal : acc.length ≤ 20 := by omega
      clear hlen hdl
      have HN := Lib.hid (numInv_step hm HI.out)
      clear HI
      go_wp2
      go_roundw
      case rel => exact ⟨m / 10, dgt m :: acc, by omega, by go_num, str_cons _ _, HN.out, hb.alloc hb.size _⟩
      case measure => simp [intOf]; omega

set_option maxRecDepth 100000 in
set_option maxHeartbeats 1000000 in
theorem numTextS_neg (M : Nat) (hM : M ≠ 0) (hM1 : M ≤ 9223372036854775808) (w : World) :
    Calls Try.prog 45 #[.int .i64 (-(M : Int))] w fun e w' => e = .returned (.string ⟨(45 :: Lib.decDigits M).toArray⟩) ∧ Below w.heap.size w w' := by
  have h0 : ((-(M : Int)) == 0) = false := by simp; omega
  have hneg : -(M : Int) < 0 := by omega
  go_enter Try.func45, Try.ntmps45
  go_wp2
  go_loopw [3, 4] (fun s x wr => ∃ (m : Nat) (acc : List UInt8), m ≤ 9223372036854775808 ∧ x = .int .i64 (-(m : Int)) ∧ s = .string ⟨acc.toArray⟩ ∧ NumInv M m acc ∧ Below w.heap.size w wr) (fun _ x _ => (intOf x).natAbs)
  case atStart => exact ⟨M, [], hM1, rfl, rfl, numInv_start hM, Below.refl _ _⟩
  case round =>
    obtain ⟨m, acc, hm1, rfl, rfl, hinv, hb⟩ := hrel
    have HI := Lib.hid hinv
    clear hinv
    have hlen := numInv_len HI.out
    have hdl : (Lib.decDigits M).length ≤ 20 := decDigits_le M (by omega)
    have hal : acc.length ≤ 20 := by omega
    clear hlen hdl
    by_cases hm : m = 0
    · subst hm
      have HE := Lib.hid (numInv_end HI.out)
      have hz : ((0 : Int) != 0) = false := by simp
      go_wp2
      go_ret
      exact ⟨by rw [← HE.out]; exact ret_str (str_cons _ _), hb⟩
    · have hne : ((-(m : Int)) != 0) = true := by simp; omega
      have i1 : 0 ≤ (m : Int) % 10 := by omega
      have i2 : (m : Int) % 10 < 10 := by omega
      have hcv := string_run (P := Try.prog) (src := 22) (dst := 9) Try.underlying22 Try.underlying5 Try.underlying9 (c := 1) (reads_dig wr m 5)
      have HN := Lib.hid (numInv_step hm HI.out)
      have hmod : (-(m : Int)).tmod 10 = -((m : Int) % 10) := by rw [Int.neg_tmod, Int.tmod_eq_emod_of_nonneg (by omega)]
      have hdiv : (-(m : Int)).tdiv 10 = -((m : Int) / 10) := by rw [Int.neg_tdiv, Int.tdiv_eq_ediv_of_nonneg (by omega)]
      clear HI
      by_cases hd0 : (m : Int) % 10 = 0
      · rw [hd0, Int.add_zero] at hcv
        go_wp2
        go_roundw
        case rel => exact ⟨m / 10, dgt m :: acc, by omega, by go_num, str_cons _ _, HN.out, hb.alloc hb.size _⟩
        case measure => simp [intOf]; omega
      · have hx : (-((m : Int) % 10)) < 0 := by omega
        go_wp2
        go_roundw
        case rel => exact ⟨m / 10, dgt m :: acc, by omega, by go_num, str_cons _ _, HN.out, hb.alloc hb.size _⟩
        case measure => simp [intOf]; omega

theorem numTextS_zero (w : World) :
    Calls Try.prog 45 #[.int .i64 0] w fun e w' => e = .returned (.string ⟨(Lib.decDigits 0).toArray⟩) ∧ Below w.heap.size w w' := by
  have h0 : ((0 : Int) == 0) = true := by simp
  have HE := Lib.hid (show Lib.decDigits 0 = [48] by rw [Lib.decDigits_one (by omega)]; rfl)
  go_enter Try.func45, Try.ntmps45
  go_wp2
  go_ret
  exact ⟨ret_str (by rw [HE.out]; rfl), Below.refl _ _⟩

/-- The numeral of every int. -/
theorem numTextS_any (n : Int) (h0 : -9223372036854775808 ≤ n) (h1 : n ≤ 9223372036854775807) (w : World) :
    Calls Try.prog 45 #[.int .i64 n] w fun e w' => e = .returned (.string ⟨(Lib.itoa n).toArray⟩) ∧ Below w.heap.size w w' := by
  rcases Int.lt_trichotomy n 0 with h | h | h
  · obtain ⟨M, rfl⟩ : ∃ M : Nat, n = -(M : Int) := ⟨n.natAbs, by omega⟩
    rw [Lib.itoa_neg M (by omega)]
    exact numTextS_neg M (by omega) (by omega) w
  · subst h
    rw [show Lib.itoa 0 = Lib.decDigits 0 from Lib.itoa_nonneg 0]
    exact numTextS_zero w
  · obtain ⟨M, rfl⟩ : ∃ M : Nat, n = (M : Int) := ⟨n.toNat, by omega⟩
    rw [Lib.itoa_nonneg]
    exact numTextS_pos M (by omega) (by omega) w

end Go.Proofs.Ytlhmdjaplcopoaa
