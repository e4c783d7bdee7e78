/- Contracts of chapter 1: NumText. -/
import Derived.Test.YtgdhhhibkhfdlaaProg
import Derived.Test.YtgdhhhibkhfdlaaShut
import Derived.Lib.ItoaNum
import Derived.Lib.ItoaMem
import Derived.Lib.Hide
import Derived.KernelRfl
namespace Go.Proofs.Ytgdhhhibkhfdlaa
open Go.RowKit

def dgt (m : Nat) : UInt8 := UInt8.ofNat (48 + m % 10)

/-- What is still to be written, and what stands: together the digits. -/
def NumInv (M m : Nat) (acc : List UInt8) : Prop := if m = 0 then acc = Lib.decDigits M else Lib.decDigits m ++ acc = Lib.decDigits M

theorem numInv_start {M : Nat} (h : M ≠ 0) : NumInv M M [] := by unfold NumInv; rw [if_neg h]; simp
theorem numInv_step {M m : Nat} {acc : List UInt8} (hm : m ≠ 0) (h : NumInv M m acc) : NumInv M (m / 10) (dgt m :: acc) := by
  unfold NumInv at *
  rw [if_neg hm] at h
  by_cases h10 : m < 10
  · rw [if_pos (by omega), ← h, Lib.decDigits_one h10, show dgt m = UInt8.ofNat (48 + m) by unfold dgt; rw [show m % 10 = m by omega]]
    rfl
  · rw [if_neg (by omega), ← h]
    conv => rhs; rw [Lib.decDigits]
    rw [dif_neg h10]
    simp [dgt]
theorem numInv_len {M m : Nat} {acc : List UInt8} (h : NumInv M m acc) : acc.length ≤ (Lib.decDigits M).length := by
  unfold NumInv at h
  split at h
  · rw [h]; exact Nat.le_refl _
  · rw [← h]; simp
theorem numInv_end {M : Nat} {acc : List UInt8} (h : NumInv M 0 acc) : acc = Lib.decDigits M := by unfold NumInv at h; simpa using h

theorem nDigits_le : ∀ (k u : Nat), 1 ≤ k → u < 10 ^ k → Lib.nDigits u ≤ k := by
  intro k
  induction k with
  | zero => intro u h; omega
  | succ k ih =>
    intro u _ hu
    rw [Lib.nDigits]
    split
    · omega
    · rename_i h10
      have hk : 1 ≤ k := by
        rcases Nat.eq_zero_or_pos k with h0 | h0
        · subst h0; omega
        · exact h0
      have := ih (u / 10) hk (by rw [Nat.pow_succ] at hu; omega)
      omega
theorem decDigits_le (M : Nat) (h : M ≤ 9223372036854775808) : (Lib.decDigits M).length ≤ 20 := by
  rw [Lib.decDigits_length]
  exact nDigits_le 20 M (by omega) (by omega)
theorem str_cons (b : UInt8) (l : List UInt8) : Value.string ((⟨#[b]⟩ : ByteArray) ++ (⟨l.toArray⟩ : ByteArray)) = .string ⟨(b :: l).toArray⟩ := by
  rfl
theorem ret_str {a b : Value} (h : a = b) : Ending.returned a = .returned b := by rw [h]
theorem dig_cell (m : Nat) : (((dgt m).toNat : Nat) : Int) = 48 + (m : Int) % 10 := by
  unfold dgt
  simp
  omega
theorem reads_dig (w : World) (m : Nat) (e : TypeId) : Reads (w.alloc (.cells #[.int .u8 (48 + (m : Int) % 10)] e)) (w.alloc (.cells #[.int .u8 (48 + (m : Int) % 10)] e)).heap.size 1 (some ⟨w.heap.size, 0, none⟩) 1 (bys [dgt m]) := by
  have := Reads.of_own (World.ownsRow_lit (base := 0) (e := e) (size := 1) w #[.int .u8 (48 + (m : Int) % 10)] 1 (Nat.zero_le _) (by simp [maxLen]) rfl)
  rw [show bys [dgt m] = [.int .u8 (48 + (m : Int) % 10)] by simp only [bys, List.map_cons, List.map_nil, dig_cell]]
  exact this

end Go.Proofs.Ytgdhhhibkhfdlaa
