/- A turned byte turns the checksum. Over no program. -/
import Derived.Test.YtoaaogacaibedaaCrc
namespace Go.Proofs.Ytoaaogacaibedaa

theorem xor_cancel_right {a b c : Nat} (h : a ^^^ c = b ^^^ c) : a = b := by
  have h2 : (a ^^^ c) ^^^ c = (b ^^^ c) ^^^ c := by rw [h]
  rwa [Nat.xor_assoc, Nat.xor_assoc, Nat.xor_self, Nat.xor_zero, Nat.xor_zero] at h2
theorem xor_cancel_left {a b c : Nat} (h : c ^^^ a = c ^^^ b) : a = b := by
  rw [Nat.xor_comm c a, Nat.xor_comm c b] at h
  exact xor_cancel_right h

theorem xor_odd (s : Nat) : ((s * 2) ^^^ 69665) % 2 = 1 := by
  rw [Nat.xor_mod_two_eq_one]
  omega

theorem crcBit_inj {s t : Nat} (h : crcBit s = crcBit t) : s = t := by
  unfold crcBit at h
  by_cases hs : 65535 < s * 2 <;> by_cases ht : 65535 < t * 2
  · rw [if_pos hs, if_pos ht] at h
    have := xor_cancel_right h
    omega
  · rw [if_pos hs, if_neg ht] at h
    have := xor_odd s
    omega
  · rw [if_neg hs, if_pos ht] at h
    have := xor_odd t
    omega
  · rw [if_neg hs, if_neg ht] at h
    omega
theorem crcBits_inj {s t : Nat} : ∀ j, crcBits j s = crcBits j t → s = t
  | 0, h => h
  | j + 1, h => crcBits_inj j (crcBit_inj h)
theorem crcByte_inj_state {s t : Nat} {b : UInt8} (h : crcByte s b = crcByte t b) : s = t := xor_cancel_right (crcBits_inj 8 h)
theorem crcByte_inj_byte {s : Nat} {b b' : UInt8} (h : crcByte s b = crcByte s b') : b = b' := by
  have h1 : b.toNat * 256 = b'.toNat * 256 := xor_cancel_left (crcBits_inj 8 h)
  exact UInt8.toNat_inj.1 (by omega)
theorem crc_foldl_inj (l : List UInt8) : ∀ (s t : Nat), l.foldl crcByte s = l.foldl crcByte t → s = t := by
  induction l with
  | nil => intro s t h; rw [List.foldl_nil, List.foldl_nil] at h; exact h
  | cons b l ih => intro s t h; rw [List.foldl_cons, List.foldl_cons] at h; exact crcByte_inj_state (ih _ _ h)
theorem crc_set {l : List UInt8} {i : Nat} {b b' : UInt8} (hb : l[i]? = some b) (hne : b' ≠ b) : crc (l.set i b') ≠ crc l := by
  intro h
  have hi : i < l.length := by
    rcases Nat.lt_or_ge i l.length with h' | h'
    · exact h'
    · rw [List.getElem?_eq_none h'] at hb; cases hb
  have e1 : l = l.take i ++ b :: l.drop (i + 1) := by
    have hg : l[i] = b := by rw [List.getElem?_eq_getElem hi] at hb; injection hb
    rw [← hg, ← List.drop_eq_getElem_cons hi, List.take_append_drop]
  have e2 : l.set i b' = l.take i ++ b' :: l.drop (i + 1) := by rw [List.set_eq_take_append_cons_drop, if_pos hi]
  unfold crc at h
  rw [e2] at h
  conv at h => rhs; rw [e1]
  rw [List.foldl_append, List.foldl_append, List.foldl_cons, List.foldl_cons] at h
  exact hne (crcByte_inj_byte (crc_foldl_inj _ _ _ h))

end Go.Proofs.Ytoaaogacaibedaa
