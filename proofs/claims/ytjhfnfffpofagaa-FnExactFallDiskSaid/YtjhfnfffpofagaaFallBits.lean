/- A bit of keep, as the walk spells it. -/
import Derived.Test.YtjhfnfffpofagaaFall0
namespace Go.Proofs.Ytjhfnfffpofagaa
open Go.Lib

theorem i64_and1 (n : Int) : bits .and .i64 n 1 = n % 2 := by
  have hm : (BitVec.ofInt 64 1).toNat = 2 ^ 1 - 1 := by decide
  have key : (BitVec.ofInt 64 n &&& BitVec.ofInt 64 1).toNat = (n % ((2 ^ 64 : Nat) : Int)).toNat % 2 ^ 1 := by
    rw [BitVec.toNat_and, BitVec.toNat_ofInt, hm, Nat.and_two_pow_sub_one_eq_mod]
  show IntKind.i64.wrap ((BitVec.ofInt 64 n &&& BitVec.ofInt 64 1).toNat : Nat) = n % 2
  rw [key, IntKind.wrap_i64]
  omega

theorem bit_nat (a k : Nat) : (((a : Int) / 2 ^ k) % 2 == 1) = a.testBit k := by
  rw [Nat.testBit_eq_decide_div_mod_eq, show ((2 : Int) ^ k) = ((2 ^ k : Nat) : Int) by simp, ← Int.natCast_ediv]
  generalize a / 2 ^ k = b
  by_cases h : b % 2 = 1
  · rw [decide_eq_true h]; simp; omega
  · rw [decide_eq_false h]; simp; omega

theorem bit_walk {kb : Int} {k : Nat} (h0 : 0 ≤ kb) (_ : kb ≤ 1073741823) (_ : k < 30) : (bits .and .i64 (kb / 2 ^ k) 1 == 1) = bitOf kb k := by
  obtain ⟨a, rfl⟩ := Int.eq_ofNat_of_zero_le h0
  rw [i64_and1, bit_nat]
  rfl

end Go.Proofs.Ytjhfnfffpofagaa
