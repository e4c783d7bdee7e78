/- Contract of the byte that FnSums turns; a turned byte turns the checksum. -/
import Derived.Test.YtlenidiijiinjaaDrawSum
import Derived.Test.YtlenidiijiinjaaShut
import Derived.Deep.RegionWith
import Derived.Laws.BitsAllLaws
namespace Go.Proofs.Ytlenidiijiinjaa
open Go.RowKit

/-- One byte of l is another one in l'. -/
def Turned (l l' : List UInt8) : Prop := ∃ (i : Nat) (b b' : UInt8), l[i]? = some b ∧ b' ≠ b ∧ l' = l.set i b'

theorem xor_ne {a b : Nat} (hb : b ≠ 0) : a ^^^ b ≠ a := by
  intro h
  have h2 : a ^^^ (a ^^^ b) = a ^^^ a := by rw [h]
  rw [← Nat.xor_assoc, Nat.xor_self, Nat.zero_xor] at h2
  exact hb h2

/-- The byte b with some bit of it turned. -/
def turnB (b : UInt8) (z : Nat) : UInt8 := UInt8.ofNat (b.toNat ^^^ (1 + z % 255))
theorem turn_lt (b : UInt8) (z : Nat) : b.toNat ^^^ (1 + z % 255) < 256 := by
  have hb : b.toNat < 256 := b.toNat_lt
  have : b.toNat ^^^ (1 + z % 255) < 2 ^ 8 := Nat.xor_lt_two_pow (by omega) (by omega)
  omega
theorem turn_toNat (b : UInt8) (z : Nat) : (turnB b z).toNat = b.toNat ^^^ (1 + z % 255) := by
  have := turn_lt b z
  unfold turnB
  rw [UInt8.toNat_ofNat', Nat.mod_eq_of_lt this]
theorem turn_ne (b : UInt8) (z : Nat) : turnB b z ≠ b := by
  intro e
  have h := congrArg UInt8.toNat e
  rw [turn_toNat] at h
  exact xor_ne (by omega) h
theorem turn_val (b : UInt8) (z : Nat) : bits .xor .u8 (b.toNat : Int) (IntKind.u8.wrap (IntKind.i64.wrap (1 + (z : Int).tmod 255))) = (((turnB b z).toNat : Nat) : Int) := by
  have hb : b.toNat < 256 := b.toNat_lt
  have e1 : (1 + (z : Int).tmod 255) = ((1 + z % 255 : Nat) : Int) := by rw [Int.tmod_eq_emod_of_nonneg (by omega)]; omega
  have e2 : IntKind.i64.wrap ((1 + z % 255 : Nat) : Int) = ((1 + z % 255 : Nat) : Int) := Lib.wrap_i64_small _ (by omega)
  have e3 : IntKind.u8.wrap ((1 + z % 255 : Nat) : Int) = ((1 + z % 255 : Nat) : Int) := by rw [IntKind.wrap_u8']; omega
  rw [e1, e2, e3, u8_xor_nat _ _ hb (by omega), turn_toNat]
theorem turn_set {l : List UInt8} {p : Nat} {b b' : UInt8} (_h : l[p]? = some b) : (bys l).set p (.int .u8 ((b'.toNat : Nat) : Int)) = bys (l.set p b') := by simp [bys, List.map_set]

end Go.Proofs.Ytlenidiijiinjaa
