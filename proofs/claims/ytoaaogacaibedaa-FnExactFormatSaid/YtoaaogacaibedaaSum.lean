/- Contracts of chapter 1: Sum. -/
import Derived.Test.YtoaaogacaibedaaShut
import Derived.Test.YtoaaogacaibedaaCrc
import Derived.Test.YtoaaogacaibedaaText
namespace Go.Proofs.Ytoaaogacaibedaa
open Go.RowKit

set_option maxHeartbeats 1000000 in
theorem sum_any (A : Option Addr) (c : Nat) (l : List UInt8) (w : World) (h : Reads w w.heap.size 1 A l.length (bys l)) (hn : l.length ≤ 140737488351232) :
    Calls Try.prog 29 #[.slice A l.length c] w fun e w' => e = .returned (.int .i64 (crc l)) ∧ w = w' := by
  go_enter Try.func29, Try.ntmps29
  go_wp2
  go_loop [3, 8] (fun s i => ∃ k : Nat, k ≤ l.length ∧ i = .int .i64 k ∧ s = .int .i64 (crcTo l k : Nat)) (fun _ i => l.length - (intOf i).toNat)
  case atStart => exact ⟨0, by omega, rfl, rfl⟩
  case round =>
    obtain ⟨k, hk, rfl, rfl⟩ := hrel
    by_cases hlt : k < l.length
    · obtain ⟨b, off, u, rfl, hbl, hu, hcell⟩ := h.byte hlt
      have HU := Lib.hid (crcTo_succ hu)
      have hS := crcTo_lt l k
      have hx := crc_xor (b := u) hS
      have hs0 := crc_xor_lt (b := u) hS
      obtain ⟨s0, e0⟩ : ∃ s0, crcTo l k ^^^ (u.toNat * 256) = s0 := ⟨_, rfl⟩
      rw [e0] at hx hs0
      have E0 := Lib.hid e0
      have hu256 := byte_lt u
      clear hu e0
      go_wp2
      go_loop [3, 17] (fun s i => ∃ j : Nat, j ≤ 8 ∧ i = .int .i64 j ∧ s = .int .i64 (crcBits j s0 : Nat)) (fun _ i => 8 - (intOf i).toNat)
      case atStart => exact ⟨0, by omega, rfl, rfl⟩
      case round =>
        obtain ⟨j, hj, rfl, rfl⟩ := hrel
        by_cases hj8 : j < 8
        · have hT := crcBits_lt hs0 j
          have HB := Lib.hid (show crcBits (j + 1) s0 = crcBit (crcBits j s0) from rfl)
          obtain ⟨t, et⟩ : ∃ t, crcBits j s0 = t := ⟨_, rfl⟩
          rw [et] at hT HB
          rw [et]
          clear et
          by_cases hb : 65535 < (t : Int) * 2
          · have hx2 := crc_top hT hb
            go_wp2
            go_round
            case rel => exact ⟨j + 1, by omega, by go_num, by rw [HB.out]⟩
            case measure => simp [intOf]; omega
          · have HX2 := Lib.hid (crc_low hb)
            go_wp2
            go_round
            case rel => exact ⟨j + 1, by omega, by go_num, by rw [HB.out, ← HX2.out]⟩
            case measure => simp [intOf]; omega
        · have he : j = 8 := by omega
          subst he
          have HE := Lib.hid (show crcTo l (k + 1) = crcBits 8 s0 by rw [HU.out, ← E0.out]; rfl)
          go_wp2
          go_round
          case rel => exact ⟨k + 1, by omega, by go_num, by rw [HE.out]⟩
          case measure => simp [intOf]; omega
    · have he : k = l.length := by omega
      subst he
      rw [crcTo_all]
      have hm := i64_and65535 (crc l : Nat)
      rw [crc_mask] at hm
      go_wp2
      go_ret
      exact ⟨rfl, rfl⟩

set_option maxHeartbeats 1000000 in
theorem sumS_any (A : Option Addr) (c : Nat) (l : List UInt8) (w : World) (h : Reads w w.heap.size 1 A l.length (bys l)) (hn : l.length ≤ 140737488351232) :
    Calls Try.prog 33 #[.slice A l.length c] w fun e w' => e = .returned (.int .i64 (crc l)) ∧ w = w' := by
  go_enter Try.func33, Try.ntmps33
  go_wp2
  go_loop [3, 4] (fun s i => ∃ k : Nat, k ≤ l.length ∧ i = .int .i64 k ∧ s = .int .i64 (crcTo l k : Nat)) (fun _ i => l.length - (intOf i).toNat)
  case atStart => exact ⟨0, by omega, rfl, rfl⟩
  case round =>
    obtain ⟨k, hk, rfl, rfl⟩ := hrel
    by_cases hlt : k < l.length
    · obtain ⟨b, off, u, rfl, hbl, hu, hcell⟩ := h.byte hlt
      have HU := Lib.hid (crcTo_succ hu)
      have hS := crcTo_lt l k
      have hx := crc_xor' (b := u) hS
      have hs0 := crc_xor_lt (b := u) hS
      obtain ⟨s0, e0⟩ : ∃ s0, crcTo l k ^^^ (u.toNat * 256) = s0 := ⟨_, rfl⟩
      rw [e0] at hx hs0
      have E0 := Lib.hid e0
      have hu256 := byte_lt u
      clear hu e0
      go_wp2
      go_loop [3, 5] (fun s i => ∃ j : Nat, j ≤ 8 ∧ i = .int .i64 j ∧ s = .int .i64 (crcBits j s0 : Nat)) (fun _ i => 8 - (intOf i).toNat)
      case atStart => exact ⟨0, by omega, rfl, rfl⟩
      case round =>
        obtain ⟨j, hj, rfl, rfl⟩ := hrel
        by_cases hj8 : j < 8
        · have hT := crcBits_lt hs0 j
          have HB := Lib.hid (show crcBits (j + 1) s0 = crcBit (crcBits j s0) from rfl)
          obtain ⟨t, et⟩ : ∃ t, crcBits j s0 = t := ⟨_, rfl⟩
          rw [et] at hT HB
          rw [et]
          clear et
          by_cases hb : 65535 < (t : Int) * 2
          · have hx2 := crc_top hT hb
            go_wp2
            go_round
            case rel => exact ⟨j + 1, by omega, by go_num, by rw [HB.out]⟩
            case measure => simp [intOf]; omega
          · have HX2 := Lib.hid (crc_low hb)
            go_wp2
            go_round
            case rel => exact ⟨j + 1, by omega, by go_num, by rw [HB.out, ← HX2.out]⟩
            case measure => simp [intOf]; omega
        · have he : j = 8 := by omega
          subst he
          have HE := Lib.hid (show crcTo l (k + 1) = crcBits 8 s0 by rw [HU.out, ← E0.out]; rfl)
          go_wp2
          go_round
          case rel => exact ⟨k + 1, by omega, by go_num, by rw [HE.out]⟩
          case measure => simp [intOf]; omega
    · have he : k = l.length := by omega
      subst he
      rw [crcTo_all]
      have hm := i64_and65535 (crc l : Nat)
      rw [crc_mask] at hm
      go_wp2
      go_ret
      exact ⟨rfl, rfl⟩

end Go.Proofs.Ytoaaogacaibedaa
