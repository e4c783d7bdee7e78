/- The checksum in plain numbers. Over no program. -/
import Derived.Test.YtgdhhhibkhfdlaaBits
namespace Go.Proofs.Ytgdhhhibkhfdlaa

/-- One bit. -/
def crcBit (s : Nat) : Nat := if 65535 < s * 2 then (s * 2) ^^^ 69665 else s * 2
def crcBits : Nat → Nat → Nat
  | 0, s => s
  | j + 1, s => crcBit (crcBits j s)
/-- One byte. -/
def crcByte (s : Nat) (b : UInt8) : Nat := crcBits 8 (s ^^^ (b.toNat * 256))
def crc (l : List UInt8) : Nat := l.foldl crcByte 65535
/-- Over the first k bytes. -/
def crcTo (l : List UInt8) (k : Nat) : Nat := crc (l.take k)

theorem crcBit_lt {s : Nat} (h : s < 65536) : crcBit s < 65536 := by
  unfold crcBit
  split
  · rename_i hb
    have e : (s * 2) ^^^ 69665 = ((s * 2) % 2 ^ 16) ^^^ (69665 % 2 ^ 16) := by
      have h1 : ((s * 2) ^^^ 69665) < 2 ^ 16 := by
        have hlt : (s * 2) ^^^ 69665 < 2 ^ 17 := Nat.xor_lt_two_pow (by omega) (by omega)
        rcases Nat.lt_or_ge ((s * 2) ^^^ 69665) (2 ^ 16) with h | h
        · exact h
        · exfalso
          have hb16 : ((s * 2) ^^^ 69665).testBit 16 = true := by
            rw [Nat.testBit_eq_decide_div_mod_eq]
            simp
            omega
          rw [Nat.testBit_xor] at hb16
          have e1 : (s * 2).testBit 16 = true := by
            rw [Nat.testBit_eq_decide_div_mod_eq]
            simp
            omega
          have e2 : (69665).testBit 16 = true := by decide
          rw [e1, e2] at hb16
          cases hb16
      rw [← Nat.xor_mod_two_pow, Nat.mod_eq_of_lt h1]
    rw [e]
    have h2 : ((s * 2) % 2 ^ 16) ^^^ (69665 % 2 ^ 16) < 2 ^ 16 := Nat.xor_lt_two_pow (Nat.mod_lt _ (by decide)) (Nat.mod_lt _ (by decide))
    exact h2
  · omega
theorem crcBits_lt {s : Nat} (h : s < 65536) : ∀ j, crcBits j s < 65536
  | 0 => h
  | j + 1 => crcBit_lt (crcBits_lt h j)
theorem crcByte_lt {s : Nat} (h : s < 65536) (b : UInt8) : crcByte s b < 65536 := by
  have hb : b.toNat < 256 := b.toNat_lt
  have h' : s ^^^ (b.toNat * 256) < 2 ^ 16 := Nat.xor_lt_two_pow (by omega) (by omega)
  exact crcBits_lt (by omega) 8
theorem crc_foldl_lt (l : List UInt8) : ∀ (s : Nat), s < 65536 → l.foldl crcByte s < 65536 := by
  induction l with
  | nil => intro s h; rw [List.foldl_nil]; exact h
  | cons b l ih => intro s h; rw [List.foldl_cons]; exact ih _ (crcByte_lt h b)
theorem crc_lt (l : List UInt8) : crc l < 65536 := crc_foldl_lt l _ (by omega)
theorem crcTo_lt (l : List UInt8) (k : Nat) : crcTo l k < 65536 := crc_lt _
theorem crcTo_succ {l : List UInt8} {k : Nat} {b : UInt8} (h : l[k]? = some b) : crcTo l (k + 1) = crcByte (crcTo l k) b := by
  unfold crcTo crc
  rw [List.take_add_one, h, List.foldl_append]
  simp only [Option.toList, List.foldl_cons, List.foldl_nil]
theorem crcTo_zero (l : List UInt8) : crcTo l 0 = 65535 := by unfold crcTo crc; rw [List.take_zero, List.foldl_nil]
theorem crcTo_all (l : List UInt8) : crcTo l l.length = crc l := by unfold crcTo; rw [List.take_length]

theorem crc_xor {s : Nat} {b : UInt8} (h : s < 65536) : bits .xor .i64 (s : Int) (256 * (b.toNat : Int)) = ((s ^^^ (b.toNat * 256) : Nat) : Int) := by
  have hb : b.toNat < 256 := b.toNat_lt
  rw [show (256 * (b.toNat : Int)) = ((b.toNat * 256 : Nat) : Int) by omega]
  exact i64_xor _ _ (by omega) (by omega)
theorem crc_xor' {s : Nat} {b : UInt8} (h : s < 65536) : bits .xor .i64 (s : Int) ((b.toNat : Int) * 256) = ((s ^^^ (b.toNat * 256) : Nat) : Int) := by
  rw [Int.mul_comm]; exact crc_xor h
theorem crc_xor_lt {s : Nat} {b : UInt8} (h : s < 65536) : s ^^^ (b.toNat * 256) < 65536 := by
  have hb : b.toNat < 256 := b.toNat_lt
  have h' : s ^^^ (b.toNat * 256) < 2 ^ 16 := Nat.xor_lt_two_pow (by omega) (by omega)
  omega
theorem crc_top {s : Nat} (h : s < 65536) (ht : 65535 < (s : Int) * 2) : bits .xor .i64 ((s : Int) * 2) 69665 = ((crcBit s : Nat) : Int) := by
  have e : ((s : Int) * 2) = ((s * 2 : Nat) : Int) := by omega
  have e2 : (69665 : Int) = ((69665 : Nat) : Int) := by omega
  rw [e, e2, i64_xor _ _ (by omega) (by omega)]
  unfold crcBit
  rw [if_pos (by omega)]
theorem crc_low {s : Nat} (ht : ¬ 65535 < (s : Int) * 2) : (s : Int) * 2 = ((crcBit s : Nat) : Int) := by
  unfold crcBit
  rw [if_neg (by omega)]
  omega
theorem crc_mask (l : List UInt8) : ((crc l : Nat) : Int) % 65536 = (crc l : Nat) := by
  have := crc_lt l
  omega

end Go.Proofs.Ytgdhhhibkhfdlaa
