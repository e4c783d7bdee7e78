/- FallDisk: what it does. A bit of keep, as the walk spells it. -/
import Derived.Test.YtoaaogacaibedaaFlush
namespace Go.Proofs.Ytoaaogacaibedaa
open Go.RowKit Go.Maps
set_option linter.unusedVariables false

def keepOf (k : Int) : Int := if 0 ≤ k ∧ k ≤ 1073741823 then k else 0
theorem keepOf_yes {k : Int} (h : 0 ≤ k ∧ k ≤ 1073741823) : keepOf k = k := if_pos h
theorem keepOf_no {k : Int} (h : ¬ (0 ≤ k ∧ k ≤ 1073741823)) : keepOf k = 0 := if_neg h
def bitOf (kb : Int) (k : Nat) : Bool := kb.toNat.testBit k
def keyB (cache : List Wr) (kb : Int) (k : Nat) (i : Int) : Bool := bitOf kb k && key cache k i
theorem idx_okB (d : Disk) (kb : Int) (k : Nat) (hk : k ≤ d.cache.length) : IdxOk d (idxC (keyB d.cache kb) k) := by
  intro i j h
  obtain ⟨h1, h2⟩ := idxC_lt h
  obtain ⟨x, hx⟩ := Rep.getElem?_of_lt (xs := d.cache) rfl (show j < d.cache.length by omega)
  unfold keyB at h2
  rw [key_eq hx] at h2
  exact ⟨x, hx, by simp at h2; exact h2.2⟩
noncomputable def fallDisk (d : Disk) (keep : Int) : Disk :=
  @ite _ (DiskGood d) (Classical.propDecidable _) ⟨flushSecs d (idxC (keyB d.cache (keepOf keep)) d.cache.length), [], -1, false⟩ d
theorem fallDisk_no {d : Disk} (keep : Int) (h : ¬ DiskGood d) : fallDisk d keep = d := by unfold fallDisk; exact @if_neg _ (Classical.propDecidable _) h _ _ _
theorem fallDisk_go {d : Disk} (keep : Int) (h : DiskGood d) : fallDisk d keep = ⟨flushSecs d (idxC (keyB d.cache (keepOf keep)) d.cache.length), [], -1, false⟩ := by
  unfold fallDisk
  exact @if_pos _ (Classical.propDecidable _) h _ _ _
theorem fits_fallDisk {d : Disk} (h : Fits d) (keep : Int) : Fits (fallDisk d keep) := by
  by_cases hg : DiskGood d
  · rw [fallDisk_go keep hg]
    exact ⟨by rw [show (Disk.mk (flushSecs d (idxC (keyB d.cache (keepOf keep)) d.cache.length)) [] (-1) false).secs = flushSecs d (idxC (keyB d.cache (keepOf keep)) d.cache.length) from rfl, flushSecs_length]; exact h.1, flush_small h (idx_okB d _ _ (Nat.le_refl _)), Nat.zero_le _, fun x hx => by cases hx⟩
  · rw [fallDisk_no keep hg]; exact h

end Go.Proofs.Ytoaaogacaibedaa

namespace Go.Proofs.Ytoaaogacaibedaa
open Go.Lib

theorem i64_and1 (n : Int) : bits .and .i64 n 1 = n % 2 := by
  have hm : (BitVec.ofInt 64 1).toNat = 2 ^ 1 - 1 := by decide
  have key : (BitVec.ofInt 64 n &&& BitVec.ofInt 64 1).toNat = (n % ((2 ^ 64 : Nat) : Int)).toNat % 2 ^ 1 := by
    rw [BitVec.toNat_and, BitVec.toNat_ofInt, hm, Nat.and_two_pow_sub_one_eq_mod]
  show IntKind.i64.wrap ((BitVec.ofInt 64 n &&& BitVec.ofInt 64 1).toNat : Nat) = n % 2
  rw [key, IntKind.wrap_i64]
  omega

theorem bit_nat (a k : Nat) : (((a : Int) / 2 ^ k) % 2 == 1) = a.testBit k := by
  rw [Nat.testBit_eq_decide_div_mod_eq, show ((2 : Int) ^ k) = ((2 ^ k : Nat) : Int) by simp, ← Int.natCast_ediv]
  generalize a / 2 ^ k = b
  by_cases h : b % 2 = 1
  · rw [decide_eq_true h]; simp; omega
  · rw [decide_eq_false h]; simp; omega

theorem bit_walk {kb : Int} {k : Nat} (h0 : 0 ≤ kb) (_ : kb ≤ 1073741823) (_ : k < 30) : (bits .and .i64 (kb / 2 ^ k) 1 == 1) = bitOf kb k := by
  obtain ⟨a, rfl⟩ := Int.eq_ofNat_of_zero_le h0
  rw [i64_and1, bit_nat]
  rfl

end Go.Proofs.Ytoaaogacaibedaa
