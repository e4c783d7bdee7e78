/- What the theorem needs, out of many texts. -/
import Derived.Test.YtoaaogacaibedaaGreatDoorShc2
import Derived.Deep.Slices
import Derived.ChangeArms
import Derived.ChangeOld
import Derived.WideShapes
import Derived.Lib.ItoaNum
namespace Go.Proofs.YtoaaogacaibedaaGreatDoor
set_option maxRecDepth 100000
def crcBit (s : Nat) : Nat := if 65535 < s * 2 then (s * 2) ^^^ 69665 else s * 2
def crcBits : Nat → Nat → Nat
 | 0, s => s
 | j + 1, s => crcBit (crcBits j s)
def crcByte (s : Nat) (b : UInt8) : Nat := crcBits 8 (s ^^^ (b.toNat * 256))
def crc (l : List UInt8) : Nat := l.foldl crcByte 65535
def crcTo (l : List UInt8) (k : Nat) : Nat := crc (l.take k)
theorem crcBit_lt {s : Nat} (h : s < 65536) : crcBit s < 65536 := by
 unfold crcBit
 split
 ·rename_i hb
  have e : (s * 2) ^^^ 69665 = ((s * 2) % 2 ^ 16) ^^^ (69665 % 2 ^ 16) := by
   have h1 : ((s * 2) ^^^ 69665) < 2 ^ 16 := by
    have hlt : (s * 2) ^^^ 69665 < 2 ^ 17 := Nat.xor_lt_two_pow (by omega) (by omega)
    rcases Nat.lt_or_ge ((s * 2) ^^^ 69665) (2 ^ 16) with h | h
    ·exact h
    ·exfalso
     have hb16 : ((s * 2) ^^^ 69665).testBit 16 = true := by
      rw [Nat.testBit_eq_decide_div_mod_eq]
      simp
      omega
     rw [Nat.testBit_xor] at hb16
     have e1 : (s * 2).testBit 16 = true := by
      rw [Nat.testBit_eq_decide_div_mod_eq]
      simp
      omega
     have e2 : (69665).testBit 16 = true := by decide
     rw [e1, e2] at hb16
     cases hb16
   rw [← Nat.xor_mod_two_pow, Nat.mod_eq_of_lt h1]
  rw [e]
  have h2 : ((s * 2) % 2 ^ 16) ^^^ (69665 % 2 ^ 16) < 2 ^ 16 := Nat.xor_lt_two_pow (Nat.mod_lt _ (by decide)) (Nat.mod_lt _ (by decide))
  exact h2
 ·omega
theorem crcBits_lt {s : Nat} (h : s < 65536) : ∀ j, crcBits j s < 65536
 | 0 => h
 | j + 1 => crcBit_lt (crcBits_lt h j)
theorem crcByte_lt {s : Nat} (h : s < 65536) (b : UInt8) : crcByte s b < 65536 := by
 have hb : b.toNat < 256 := b.toNat_lt
 have h' : s ^^^ (b.toNat * 256) < 2 ^ 16 := Nat.xor_lt_two_pow (by omega) (by omega)
 exact crcBits_lt (by omega) 8
theorem crc_foldl_lt (l : List UInt8) : ∀ (s : Nat), s < 65536 → l.foldl crcByte s < 65536 := by
 induction l with
 | nil => intro s h; rw [List.foldl_nil]; exact h
 | cons b l ih => intro s h; rw [List.foldl_cons]; exact ih _ (crcByte_lt h b)
theorem crc_lt (l : List UInt8) : crc l < 65536 := crc_foldl_lt l _ (by omega)
theorem crcTo_lt (l : List UInt8) (k : Nat) : crcTo l k < 65536 := crc_lt _
theorem crcTo_succ {l : List UInt8} {k : Nat} {b : UInt8} (h : l[k]? = some b) : crcTo l (k + 1) = crcByte (crcTo l k) b := by
 unfold crcTo crc
 rw [List.take_add_one, h, List.foldl_append]
 simp only [Option.toList, List.foldl_cons, List.foldl_nil]
theorem crcTo_all (l : List UInt8) : crcTo l l.length = crc l := by unfold crcTo; rw [List.take_length]
theorem crc_xor {s : Nat} {b : UInt8} (h : s < 65536) : bits .xor .i64 (s : Int) (256 * (b.toNat : Int)) = ((s ^^^ (b.toNat * 256) : Nat) : Int) := by
 have hb : b.toNat < 256 := b.toNat_lt
 rw [show (256 * (b.toNat : Int)) = ((b.toNat * 256 : Nat) : Int) by omega]
 exact i64_xor _ _ (by omega) (by omega)
theorem crc_xor' {s : Nat} {b : UInt8} (h : s < 65536) : bits .xor .i64 (s : Int) ((b.toNat : Int) * 256) = ((s ^^^ (b.toNat * 256) : Nat) : Int) := by
 rw [Int.mul_comm]; exact crc_xor h
theorem crc_xor_lt {s : Nat} {b : UInt8} (h : s < 65536) : s ^^^ (b.toNat * 256) < 65536 := by
 have hb : b.toNat < 256 := b.toNat_lt
 have h' : s ^^^ (b.toNat * 256) < 2 ^ 16 := Nat.xor_lt_two_pow (by omega) (by omega)
 omega
theorem crc_top {s : Nat} (h : s < 65536) (ht : 65535 < (s : Int) * 2) : bits .xor .i64 ((s : Int) * 2) 69665 = ((crcBit s : Nat) : Int) := by
 have e : ((s : Int) * 2) = ((s * 2 : Nat) : Int) := by omega
 have e2 : (69665 : Int) = ((69665 : Nat) : Int) := by omega
 rw [e, e2, i64_xor _ _ (by omega) (by omega)]
 unfold crcBit
 rw [if_pos (by omega)]
theorem crc_low {s : Nat} (ht : ¬ 65535 < (s : Int) * 2) : (s : Int) * 2 = ((crcBit s : Nat) : Int) := by
 unfold crcBit
 rw [if_neg (by omega)]
 omega
theorem crc_mask (l : List UInt8) : ((crc l : Nat) : Int) % 65536 = (crc l : Nat) := by
 have := crc_lt l
 omega
end Go.Proofs.YtoaaogacaibedaaGreatDoor
namespace Go.Proofs.YtoaaogacaibedaaGreatDoor
open Go.RowKit
set_option maxRecDepth 100000
set_option linter.unusedVariables false
def inI (x lo hi : Int) : Bool := decide (lo ≤ x ∧ x ≤ hi)
def withSum (b : List UInt8) : List UInt8 := b ++ wordBytes (crc b)
theorem l1In_b {x lo hi : Int} {b : Bool} (h : inI x lo hi = b) (w : World) : Calls Tryz.prog 67 #[.int .i64 x, .int .i64 lo, .int .i64 hi] w fun e w' => e = .returned (.bool b) ∧ w = w' := by
 unfold inI at h
 cases b
 ·exact l1In_no w (of_decide_eq_false h)
 ·have := of_decide_eq_true h
  exact l1In_yes w this.1 this.2
set_option maxHeartbeats 1000000 in
theorem within_b {x lo hi : Int} {b : Bool} (h : inI x lo hi = b) (w : World) : Calls Tryz.prog 71 #[.int .i64 x, .int .i64 lo, .int .i64 hi] w fun e w' => e = .returned (.bool b) ∧ w = w' := by
 unfold inI at h
 by_cases h1 : lo ≤ x
 ·by_cases h2 : x ≤ hi
  ·obtain rfl : b = true := by rw [← h]; simp; omega
   clear h
   go_enter Tryz.func71, Tryz.ntmps71
   go_wp2
   go_ret
   exact ⟨rfl, rfl⟩
  ·obtain rfl : b = false := by rw [← h]; simp; omega
   clear h
   go_enter Tryz.func71, Tryz.ntmps71
   go_wp2
   go_ret
   exact ⟨rfl, rfl⟩
 ·obtain rfl : b = false := by rw [← h]; simp; omega
  clear h
  go_enter Tryz.func71, Tryz.ntmps71
  go_wp2
  go_ret
  exact ⟨rfl, rfl⟩
def RetOwn (w : World) (l : List UInt8) (e : Ending) (w' : World) : Prop := ∃ v, e = .returned v ∧ Owns w' w.heap.size 5 v l ∧ Below w.heap.size w w'
theorem own_empty (w : World) (base : Nat) (hb : base ≤ w.heap.size) : Owns (w.alloc (.cells #[] 5)) base 5 (.slice (some ⟨w.heap.size, 0, none⟩) 0 0) [] :=
 World.ownsRow_lit w #[] 0 hb (by simp) rfl
theorem one_u8 (w : World) (n : Int) : Reads (w.alloc (.cells #[.int .u8 (n % 256)] 5)) (w.alloc (.cells #[.int .u8 (n % 256)] 5)).heap.size 1 (some ⟨w.heap.size, 0, none⟩) 1 (bys [u8 n]) := by
 have h := reads_new w #[.int .u8 (n % 256)] 1 5 rfl (by simp [maxLen])
 have e : bys [u8 n] = [.int .u8 (n % 256)] := by simp [bys, u8_cell]
 rw [e]
 exact h
theorem l1Same_any (A B : Option Addr) (c c' M M' : Nat) (a b : List UInt8) (w : World) (h : Reads w M 1 A a.length (bys a)) (h' : Reads w M' 1 B b.length (bys b)) :
  Calls Tryz.prog 102 #[.slice A a.length c, .slice B b.length c'] w fun e w' => e = .returned (.bool (a == b)) ∧ w = w' := by
 have h1 := string_run (P := Tryz.prog) (c := c) Tryz.underlying22 Tryz.underlying5 Tryz.underlying9 h
 have h2 := string_run (P := Tryz.prog) (c := c') Tryz.underlying22 Tryz.underlying5 Tryz.underlying9 h'
 go_enter Tryz.func102, Tryz.ntmps102
 go_wp2
 go_ret
 simp
def gwOk (l : List UInt8) (p : Int) : Bool := decide (0 ≤ p) && decide (p + 2 ≤ l.length)
def gwVal (l : List UInt8) (p : Int) : Int := if gwOk l p then ((l.getD p.toNat 0).toNat : Int) * 256 + ((l.getD (p.toNat + 1) 0).toNat : Int) else 0
def gwNext (l : List UInt8) (p : Int) : Int := if gwOk l p then p + 2 else 0
theorem gw_no {l : List UInt8} {p : Int} (h : p < 0 ∨ (l.length : Int) - 2 < p) : gwOk l p = false ∧ gwVal l p = 0 ∧ gwNext l p = 0 := by
 have e : gwOk l p = false := by
  unfold gwOk
  rcases h with h | h
  ·rw [decide_eq_false (by omega)]; rfl
  ·rw [decide_eq_false (p := p + 2 ≤ l.length) (by omega), Bool.and_false]
 exact ⟨e, by simp [gwVal, e], by simp [gwNext, e]⟩
theorem gw_yes {l : List UInt8} {k : Nat} {x y : UInt8} (h : k + 2 ≤ l.length) (hx : l[k]? = some x) (hy : l[k + 1]? = some y) :
  gwOk l k = true ∧ gwVal l k = (x.toNat : Int) * 256 + y.toNat ∧ gwNext l k = (k : Int) + 2 := by
 have e : gwOk l k = true := by
  unfold gwOk
  rw [decide_eq_true (by omega), decide_eq_true (by omega)]; rfl
 refine ⟨e, ?_, by simp [gwNext, e]⟩
 unfold gwVal
 rw [if_pos e]
 simp [hx, hy]
theorem ret_iib {k k' : IntKind} {a a' b b' : Int} {c c' : Bool} (h1 : a = a') (h2 : b = b') (h3 : c = c') : Ending.returned (.tuple #[.int k a, .int k' b, .bool c]) = .returned (.tuple #[.int k a', .int k' b', .bool c']) := by rw [h1, h2, h3]
theorem ret_bool {c c' : Bool} (h : c = c') : Ending.returned (.bool c) = .returned (.bool c') := by rw [h]
theorem byte_lt (u : UInt8) : u.toNat < 256 := u.toNat_lt
set_option maxHeartbeats 400000 in
theorem getWord_any (A : Option Addr) (c : Nat) (p : Int) (l : List UInt8) (w : World) (h : Reads w w.heap.size 1 A l.length (bys l)) (hn : l.length ≤ 100000000) :
  Calls Tryz.prog 134 #[.slice A l.length c, .int .i64 p] w fun e w' => e = .returned (.tuple #[.int .i64 (gwVal l p), .int .i64 (gwNext l p), .bool (gwOk l p)]) ∧ ∃ n, w' = w.drewN n := by
 by_cases h0 : p < 0
 ·obtain ⟨e1, e2, e3⟩ := gw_no (l := l) (.inl h0)
  have E1 := Lib.hid e1
  have E2 := Lib.hid e2
  have E3 := Lib.hid e3
  clear e1 e2 e3
  go_enter Tryz.func134, Tryz.ntmps134
  go_wp2
  go_ret3
  exact ⟨ret_iib E2.out.symm E3.out.symm E1.out.symm, 0, rfl⟩
 ·obtain ⟨k, rfl⟩ := Int.eq_ofNat_of_zero_le (by omega : 0 ≤ p)
  by_cases h1 : (l.length : Int) - 2 < (k : Int)
  ·obtain ⟨e1, e2, e3⟩ := gw_no (l := l) (.inr h1)
   have E1 := Lib.hid e1
   have E2 := Lib.hid e2
   have E3 := Lib.hid e3
   clear e1 e2 e3
   go_enter Tryz.func134, Tryz.ntmps134
   go_wp2
   go_ret3
   exact ⟨ret_iib E2.out.symm E3.out.symm E1.out.symm, 0, rfl⟩
  ·obtain ⟨b, off, x, rfl, _, hx, hcx⟩ := h.byte (k := k) (by omega)
   obtain ⟨b', off', y, hA', _, hy, hcy⟩ := h.byte (k := k + 1) (by omega)
   injection hA' with hA'
   injection hA' with hA1 hA2
   subst hA1
   subst hA2
   obtain ⟨e1, e2, e3⟩ := gw_yes (by omega) hx hy
   have E1 := Lib.hid e1
   have E2 := Lib.hid e2
   have E3 := Lib.hid e3
   have hxl := byte_lt x
   have hyl := byte_lt y
   clear e1 e2 e3 hx hy h
   have i1 : (0 : Int) ≤ (k : Int) := by omega
   have i2 : (k : Int) < (l.length : Int) := by omega
   have i3 : (k : Int) + 1 < (l.length : Int) := by omega
   have hj := i64_or_join x.toNat y.toNat hxl hyl
   go_enter Tryz.func134, Tryz.ntmps134
   go_wp2
   go_quiet (fail)
   go_wp2
   go_ret3
   exact ⟨ret_iib E2.out.symm E3.out.symm E1.out.symm, _, rfl⟩
set_option maxHeartbeats 400000 in
theorem getWordS_any (A : Option Addr) (c : Nat) (p : Int) (l : List UInt8) (w : World) (h : Reads w w.heap.size 1 A l.length (bys l)) (hn : l.length ≤ 100000000) :
  Calls Tryz.prog 101 #[.slice A l.length c, .int .i64 p] w fun e w' => e = .returned (.tuple #[.int .i64 (gwVal l p), .int .i64 (gwNext l p), .bool (gwOk l p)]) ∧ ∃ n, w' = w.drewN n := by
 by_cases h0 : p < 0
 ·obtain ⟨e1, e2, e3⟩ := gw_no (l := l) (.inl h0)
  have E1 := Lib.hid e1
  have E2 := Lib.hid e2
  have E3 := Lib.hid e3
  clear e1 e2 e3
  go_enter Tryz.func101, Tryz.ntmps101
  go_wp2
  go_ret3
  exact ⟨ret_iib E2.out.symm E3.out.symm E1.out.symm, 0, rfl⟩
 ·obtain ⟨k, rfl⟩ := Int.eq_ofNat_of_zero_le (by omega : 0 ≤ p)
  by_cases h1 : (l.length : Int) - 2 < (k : Int)
  ·obtain ⟨e1, e2, e3⟩ := gw_no (l := l) (.inr h1)
   have E1 := Lib.hid e1
   have E2 := Lib.hid e2
   have E3 := Lib.hid e3
   clear e1 e2 e3
   go_enter Tryz.func101, Tryz.ntmps101
   go_wp2
   go_ret3
   exact ⟨ret_iib E2.out.symm E3.out.symm E1.out.symm, 0, rfl⟩
  ·obtain ⟨b, off, x, rfl, _, hx, hcx⟩ := h.byte (k := k) (by omega)
   obtain ⟨b', off', y, hA', _, hy, hcy⟩ := h.byte (k := k + 1) (by omega)
   injection hA' with hA'
   injection hA' with hA1 hA2
   subst hA1
   subst hA2
   obtain ⟨e1, e2, e3⟩ := gw_yes (by omega) hx hy
   have E1 := Lib.hid e1
   have E2 := Lib.hid e2
   have E3 := Lib.hid e3
   have hxl := byte_lt x
   have hyl := byte_lt y
   clear e1 e2 e3 hx hy h
   have i1 : (0 : Int) ≤ (k : Int) := by omega
   have i2 : (k : Int) < (l.length : Int) := by omega
   have i3 : (k : Int) + 1 < (l.length : Int) := by omega
   go_enter Tryz.func101, Tryz.ntmps101
   go_wp2
   go_quiet (fail)
   go_wp2
   go_ret3
   exact ⟨ret_iib E2.out.symm E3.out.symm E1.out.symm, _, rfl⟩
def inB (b : UInt8) : Bool := decide (32 ≤ b.toNat) && decide (b.toNat ≤ 126)
def okB (l : List UInt8) : Bool := decide (l.length ≤ 100) && l.all inB
def okTo (l : List UInt8) (k : Nat) : Prop := (l.take k).all inB = true
theorem okTo_zero (l : List UInt8) : okTo l 0 := by simp [okTo]
theorem okTo_succ {l : List UInt8} {k : Nat} {b : UInt8} (h : okTo l k) (hb : l[k]? = some b) (hi : inB b = true) : okTo l (k + 1) := by
 unfold okTo at *
 rw [take_snoc_get hb, List.all_append, h]
 simp [hi]
theorem inB_yes {b : UInt8} (h1 : ¬ (b.toNat : Int) < 32) (h2 : ¬ 126 < (b.toNat : Int)) : inB b = true := by
 unfold inB; rw [decide_eq_true (by omega), decide_eq_true (by omega)]; rfl
theorem inB_no {b : UInt8} (h : (b.toNat : Int) < 32 ∨ 126 < (b.toNat : Int)) : inB b = false := by
 unfold inB
 rcases h with h | h
 ·rw [decide_eq_false (by omega)]; rfl
 ·rw [decide_eq_false (p := b.toNat ≤ 126) (by omega), Bool.and_false]
theorem okB_bad {l : List UInt8} {k : Nat} {b : UInt8} (hb : l[k]? = some b) (hi : inB b = false) : okB l = false := by
 have hm : b ∈ l := List.mem_of_getElem? hb
 unfold okB
 have : l.all inB = false := by
  rw [List.all_eq_false]
  exact ⟨b, hm, by simp [hi]⟩
 rw [this, Bool.and_false]
theorem okB_long {l : List UInt8} (h : 100 < l.length) : okB l = false := by
 unfold okB; rw [decide_eq_false (by omega)]; rfl
theorem okB_all {l : List UInt8} (h : okTo l l.length) (h1 : l.length ≤ 100) : okB l = true := by
 unfold okTo at h
 rw [List.take_length] at h
 unfold okB
 rw [decide_eq_true h1, h]; rfl
theorem str_get (s : ByteArray) (k : Nat) (hk : k < s.size) : s.data.toList[k]? = some s[k] := by
 have h' : k < s.data.toList.length := by simpa using hk
 rw [List.getElem?_eq_getElem h']
 simp
 rfl
set_option maxHeartbeats 400000 in
theorem textOk_any (s : ByteArray) (w : World) (hs : s.size ≤ 140737488351232) :
  Calls Tryz.prog 152 #[.string s] w fun e w' => e = .returned (.bool (okB s.data.toList)) ∧ w = w' := by
 by_cases hb : 100 < s.size
 ·have E := Lib.hid (okB_long (l := s.data.toList) (by simpa using hb))
  go_enter Tryz.func152, Tryz.ntmps152
  go_wp2
  go_ret
  exact ⟨ret_bool E.out.symm, rfl⟩
 ·go_enter Tryz.func152, Tryz.ntmps152
  go_wp2
  go_loop [9] (fun i => ∃ k : Nat, k ≤ s.size ∧ i = .int .i64 k ∧ okTo s.data.toList k) (fun i => s.size - (intOf i).toNat)
  case atStart => exact ⟨0, by omega, rfl, okTo_zero _⟩
  case round =>
   obtain ⟨k, hk, rfl, hok⟩ := hrel
   by_cases hlt : k < s.size
   ·have HG := Lib.hid (str_get s k hlt)
    have H := Lib.hid hok
    clear hok
    by_cases h1 : (s[k].toNat : Int) < 32
    ·have E := Lib.hid (okB_bad HG.out (inB_no (.inl h1)))
     go_wp2
     go_ret
     exact ⟨ret_bool E.out.symm, rfl⟩
    ·by_cases h2 : 126 < (s[k].toNat : Int)
     ·have E := Lib.hid (okB_bad HG.out (inB_no (.inr h2)))
      go_wp2
      go_ret
      exact ⟨ret_bool E.out.symm, rfl⟩
     ·have E := Lib.hid (okTo_succ H.out HG.out (inB_yes h1 h2))
      go_wp2
      go_round
      case rel => exact ⟨k + 1, by omega, by go_num, E.out⟩
      case measure => simp [intOf]; omega
   ·have he : k = s.size := by omega
    subst he
    have E := Lib.hid (okB_all (l := s.data.toList) (by simpa using hok) (by simp; omega))
    clear hok
    go_wp2
    go_ret
    exact ⟨ret_bool E.out.symm, rfl⟩
set_option maxHeartbeats 400000 in
theorem textOkS_any (s : ByteArray) (w : World) (hs : s.size ≤ 140737488351232) :
  Calls Tryz.prog 133 #[.string s] w fun e w' => e = .returned (.bool (okB s.data.toList)) ∧ w = w' := by
 go_enter Tryz.func133, Tryz.ntmps133
 go_wp2
 go_loop [3] (fun i => ∃ k : Nat, k ≤ s.size ∧ k ≤ 101 ∧ i = .int .i64 k ∧ okTo s.data.toList k) (fun i => s.size - (intOf i).toNat)
 case atStart => exact ⟨0, by omega, by omega, rfl, okTo_zero _⟩
 case round =>
  obtain ⟨k, hk, hk1, rfl, hok⟩ := hrel
  by_cases hlt : k < s.size
  ·by_cases hle : k ≤ 100
   ·have HG := Lib.hid (str_get s k hlt)
    have H := Lib.hid hok
    clear hok
    by_cases h1 : (s[k].toNat : Int) < 32
    ·have E := Lib.hid (okB_bad HG.out (inB_no (.inl h1)))
     go_wp2
     go_ret
     exact ⟨ret_bool E.out.symm, rfl⟩
    ·by_cases h2 : 126 < (s[k].toNat : Int)
     ·have E := Lib.hid (okB_bad HG.out (inB_no (.inr h2)))
      go_wp2
      go_ret
      exact ⟨ret_bool E.out.symm, rfl⟩
     ·have E := Lib.hid (okTo_succ H.out HG.out (inB_yes h1 h2))
      go_wp2
      go_round
      case rel => exact ⟨k + 1, by omega, by omega, by go_num, E.out⟩
      case measure => simp [intOf]; omega
   ·have hsz : 100 < s.size := by omega
    have E := Lib.hid (okB_long (l := s.data.toList) (by simpa using hsz))
    clear hok
    go_wp2
    go_ret
    exact ⟨ret_bool (by rw [E.out]; simp; omega), rfl⟩
  ·have he : k = s.size := by omega
   subst he
   by_cases hle : s.size ≤ 100
   ·have E := Lib.hid (okB_all (l := s.data.toList) (by simpa using hok) (by simpa using hle))
    clear hok
    go_wp2
    go_ret
    exact ⟨ret_bool (by rw [E.out]; simp; omega), rfl⟩
   ·have E := Lib.hid (okB_long (l := s.data.toList) (by simp; omega))
    clear hok
    go_wp2
    go_ret
    exact ⟨ret_bool (by rw [E.out]; simp; omega), rfl⟩
set_option maxHeartbeats 1000000 in
theorem sum_any (A : Option Addr) (c : Nat) (l : List UInt8) (w : World) (h : Reads w w.heap.size 1 A l.length (bys l)) (hn : l.length ≤ 140737488351232) :
  Calls Tryz.prog 106 #[.slice A l.length c] w fun e w' => e = .returned (.int .i64 (crc l)) ∧ w = w' := by
 go_enter Tryz.func106, Tryz.ntmps106
 go_wp2
 go_loop [3, 8] (fun s i => ∃ k : Nat, k ≤ l.length ∧ i = .int .i64 k ∧ s = .int .i64 (crcTo l k : Nat)) (fun _ i => l.length - (intOf i).toNat)
 case atStart => exact ⟨0, by omega, rfl, rfl⟩
 case round =>
  obtain ⟨k, hk, rfl, rfl⟩ := hrel
  by_cases hlt : k < l.length
  ·obtain ⟨b, off, u, rfl, hbl, hu, hcell⟩ := h.byte hlt
   have HU := Lib.hid (crcTo_succ hu)
   have hS := crcTo_lt l k
   have hx := crc_xor (b := u) hS
   have hs0 := crc_xor_lt (b := u) hS
   obtain ⟨s0, e0⟩ : ∃ s0, crcTo l k ^^^ (u.toNat * 256) = s0 := ⟨_, rfl⟩
   rw [e0] at hx hs0
   have E0 := Lib.hid e0
   have hu256 := byte_lt u
   clear hu e0
   go_wp2
   go_loop [3, 17] (fun s i => ∃ j : Nat, j ≤ 8 ∧ i = .int .i64 j ∧ s = .int .i64 (crcBits j s0 : Nat)) (fun _ i => 8 - (intOf i).toNat)
   case atStart => exact ⟨0, by omega, rfl, rfl⟩
   case round =>
    obtain ⟨j, hj, rfl, rfl⟩ := hrel
    by_cases hj8 : j < 8
    ·have hT := crcBits_lt hs0 j
     have HB := Lib.hid (show crcBits (j + 1) s0 = crcBit (crcBits j s0) from rfl)
     obtain ⟨t, et⟩ : ∃ t, crcBits j s0 = t := ⟨_, rfl⟩
     rw [et] at hT HB
     rw [et]
     clear et
     by_cases hb : 65535 < (t : Int) * 2
     ·have hx2 := crc_top hT hb
      go_wp2
      go_round
      case rel => exact ⟨j + 1, by omega, by go_num, by rw [HB.out]⟩
      case measure => simp [intOf]; omega
     ·have HX2 := Lib.hid (crc_low hb)
      go_wp2
      go_round
      case rel => exact ⟨j + 1, by omega, by go_num, by rw [HB.out, ← HX2.out]⟩
      case measure => simp [intOf]; omega
    ·have he : j = 8 := by omega
     subst he
     have HE := Lib.hid (show crcTo l (k + 1) = crcBits 8 s0 by rw [HU.out, ← E0.out]; rfl)
     go_wp2
     go_round
     case rel => exact ⟨k + 1, by omega, by go_num, by rw [HE.out]⟩
     case measure => simp [intOf]; omega
  ·have he : k = l.length := by omega
   subst he
   rw [crcTo_all]
   have hm := i64_and65535 (crc l : Nat)
   rw [crc_mask] at hm
   go_wp2
   go_ret
   exact ⟨rfl, rfl⟩
set_option maxHeartbeats 1000000 in
theorem sumS_any (A : Option Addr) (c : Nat) (l : List UInt8) (w : World) (h : Reads w w.heap.size 1 A l.length (bys l)) (hn : l.length ≤ 140737488351232) :
  Calls Tryz.prog 97 #[.slice A l.length c] w fun e w' => e = .returned (.int .i64 (crc l)) ∧ w = w' := by
 go_enter Tryz.func97, Tryz.ntmps97
 go_wp2
 go_loop [3, 4] (fun s i => ∃ k : Nat, k ≤ l.length ∧ i = .int .i64 k ∧ s = .int .i64 (crcTo l k : Nat)) (fun _ i => l.length - (intOf i).toNat)
 case atStart => exact ⟨0, by omega, rfl, rfl⟩
 case round =>
  obtain ⟨k, hk, rfl, rfl⟩ := hrel
  by_cases hlt : k < l.length
  ·obtain ⟨b, off, u, rfl, hbl, hu, hcell⟩ := h.byte hlt
   have HU := Lib.hid (crcTo_succ hu)
   have hS := crcTo_lt l k
   have hx := crc_xor' (b := u) hS
   have hs0 := crc_xor_lt (b := u) hS
   obtain ⟨s0, e0⟩ : ∃ s0, crcTo l k ^^^ (u.toNat * 256) = s0 := ⟨_, rfl⟩
   rw [e0] at hx hs0
   have E0 := Lib.hid e0
   have hu256 := byte_lt u
   clear hu e0
   go_wp2
   go_loop [3, 5] (fun s i => ∃ j : Nat, j ≤ 8 ∧ i = .int .i64 j ∧ s = .int .i64 (crcBits j s0 : Nat)) (fun _ i => 8 - (intOf i).toNat)
   case atStart => exact ⟨0, by omega, rfl, rfl⟩
   case round =>
    obtain ⟨j, hj, rfl, rfl⟩ := hrel
    by_cases hj8 : j < 8
    ·have hT := crcBits_lt hs0 j
     have HB := Lib.hid (show crcBits (j + 1) s0 = crcBit (crcBits j s0) from rfl)
     obtain ⟨t, et⟩ : ∃ t, crcBits j s0 = t := ⟨_, rfl⟩
     rw [et] at hT HB
     rw [et]
     clear et
     by_cases hb : 65535 < (t : Int) * 2
     ·have hx2 := crc_top hT hb
      go_wp2
      go_round
      case rel => exact ⟨j + 1, by omega, by go_num, by rw [HB.out]⟩
      case measure => simp [intOf]; omega
     ·have HX2 := Lib.hid (crc_low hb)
      go_wp2
      go_round
      case rel => exact ⟨j + 1, by omega, by go_num, by rw [HB.out, ← HX2.out]⟩
      case measure => simp [intOf]; omega
    ·have he : j = 8 := by omega
     subst he
     have HE := Lib.hid (show crcTo l (k + 1) = crcBits 8 s0 by rw [HU.out, ← E0.out]; rfl)
     go_wp2
     go_round
     case rel => exact ⟨k + 1, by omega, by go_num, by rw [HE.out]⟩
     case measure => simp [intOf]; omega
  ·have he : k = l.length := by omega
   subst he
   rw [crcTo_all]
   have hm := i64_and65535 (crc l : Nat)
   rw [crc_mask] at hm
   go_wp2
   go_ret
   exact ⟨rfl, rfl⟩
def headBody (g n : Int) : List UInt8 := [] ++ wordBytes g ++ wordBytes n
def headL (g n : Int) : List UInt8 := if inI g 1 60000 = true ∧ inI n 0 18 = true then withSum (headBody g n) else []
theorem headL_len (g n : Int) : (headL g n).length ≤ 6 := by
 unfold headL
 split
 ·simp [withSum, headBody, wordBytes]
 ·simp
theorem headL_no {g n : Int} (h : inI g 1 60000 = false ∨ inI n 0 18 = false) : headL g n = [] := by
 unfold headL
 rw [if_neg]
 rintro ⟨h1, h2⟩
 rcases h with h | h
 ·rw [h] at h1; cases h1
 ·rw [h] at h2; cases h2
theorem headL_yes {g n : Int} (h : inI g 1 60000 = true) (h2 : inI n 0 18 = true) : headL g n = withSum (headBody g n) := if_pos ⟨h, h2⟩
def getHeadP (l : List UInt8) : (Int × Int) × Bool := if l.length = 6 ∧ headL (gwVal l 0) (gwVal l 2) = l then ((gwVal l 0, gwVal l 2), true) else ((0, 0), false)
def RetHead (w : World) (p : (Int × Int) × Bool) (e : Ending) (w' : World) : Prop := e = .returned (.tuple #[.int .i64 p.1.1, .int .i64 p.1.2, .bool p.2]) ∧ Below w.heap.size w w'
theorem getHeadP_no {l : List UInt8} (h : ¬ (l.length = 6 ∧ headL (gwVal l 0) (gwVal l 2) = l)) : getHeadP l = ((0, 0), false) := if_neg h
theorem getHeadP_yes {l : List UInt8} (h : l.length = 6) (h2 : headL (gwVal l 0) (gwVal l 2) = l) : getHeadP l = ((gwVal l 0, gwVal l 2), true) := if_pos ⟨h, h2⟩
set_option maxHeartbeats 1000000 in
theorem headOfS_any (g n : Int) (w : World) : Calls Tryz.prog 80 #[.int .i64 g, .int .i64 n] w (RetOwn w (headL g n)) := by
 obtain ⟨b1, h1⟩ : ∃ b, inI g 1 60000 = b := ⟨_, rfl⟩
 obtain ⟨b2, h2⟩ : ∃ b, inI n 0 18 = b := ⟨_, rfl⟩
 unfold RetOwn
 cases b1
 ·rw [headL_no (.inl h1)]
  go_enter Tryz.func80, Tryz.ntmps80
  go_wp2_with (go_at_call 67; refine (l1In_b (by assumption) _).mono ?_; rintro e w' ⟨rfl, rfl⟩)
  go_ret
  exact ⟨_, rfl, own_empty w _ (Nat.le_refl _), Later.alloc w _⟩
 ·cases b2
  ·rw [headL_no (.inr h2)]
   go_enter Tryz.func80, Tryz.ntmps80
   go_wp2_with (go_at_call 67; refine (l1In_b (by assumption) _).mono ?_; rintro e w' ⟨rfl, rfl⟩)
   go_ret
   exact ⟨_, rfl, own_empty w _ (Nat.le_refl _), Later.alloc w _⟩
  ·rw [headL_yes h1 h2]
   go_enter Tryz.func80, Tryz.ntmps80
   go_wp2_with (go_at_call 67; refine (l1In_b (by assumption) _).mono ?_; rintro e w' ⟨rfl, rfl⟩)
   clear h1 h2
   have S : All (fun w' => Below w.heap.size w w') (w.alloc (.cells #[] 5)) := ⟨Later.alloc w _⟩
   have o0 := own_empty w w.heap.size (Nat.le_refl _)
   generalize w.alloc (.cells #[] 5) = W1 at S o0 ⊢
   refine (putWordS_any (some ⟨w.heap.size, 0, none⟩) 0 g [] W1 (Owns.reads o0) (by simp)).mono ?_
   rintro e W2 ⟨v2, rfl, o2, hb⟩
   replace S := S.later hb
   obtain ⟨A2, c2, rfl, _, _, r2, _⟩ := o2.shape
   clear hb o2 o0
   go_wp2_with fail
   refine (putWordS_any A2 c2 n _ W2 r2 (by simp [wordBytes])).mono ?_
   rintro e W3 ⟨v3, rfl, o3, hb⟩
   replace S := S.later hb
   obtain ⟨A3, c3, rfl, _, _, r3, _⟩ := o3.shape
   have L3 := Lib.hid (show ([] ++ wordBytes g ++ wordBytes n).length = 4 by simp [wordBytes])
   obtain ⟨l3, hl3⟩ : ∃ l3, [] ++ wordBytes g ++ wordBytes n = l3 := ⟨_, rfl⟩
   rw [hl3] at r3 L3 ⊢
   have HL3 := Lib.hid hl3
   clear hl3
   clear hb o3 r2
   go_wp2_with fail
   refine (sumS_any A3 c3 l3 W3 r3 (by have := L3.out; omega)).mono ?_
   rintro e W4 ⟨rfl, rfl⟩
   go_wp2_with fail
   refine (putWordS_any A3 c3 (crc l3) l3 W3 r3 (by have := L3.out; omega)).mono ?_
   rintro e W5 ⟨v5, rfl, o5, hb⟩
   go_wp2_with fail
   go_ret
   exact ⟨_, rfl, by unfold withSum headBody; rw [HL3.out]; exact ownsRow_mono o5 S.out.size, Later.trans S.out hb⟩
set_option maxHeartbeats 1000000 in
theorem getHeadS_any (A : Option Addr) (c : Nat) (l : List UInt8) (w : World) (h : Reads w w.heap.size 1 A l.length (bys l)) (hn : l.length ≤ 100000000) : Calls Tryz.prog 48 #[.slice A l.length c] w (RetHead w (getHeadP l)) := by
 obtain ⟨p, hp⟩ : ∃ p, getHeadP l = p := ⟨_, rfl⟩
 rw [hp]
 have HP := Lib.hid hp
 clear hp
 unfold RetHead
 go_enter Tryz.func48, Tryz.ntmps48
 go_wp2_with fail
 refine (getWordS_any A c 0 l w h hn).mono ?_
 rintro e W1 ⟨rfl, n1, rfl⟩
 go_wp2_with fail
 refine (getWordS_any A c 2 l _ (h.drewN n1) hn).mono ?_
 rintro e W2 ⟨rfl, n2, rfl⟩
 have R2 := (h.drewN n1).drewN n2
 have B2 := belowD (belowD (Below.refl w.heap.size w) n1) n2
 generalize (w.drewN n1).drewN n2 = W2 at R2 B2 ⊢
 by_cases hl : l.length = 6
 ·have hok : gwOk l 2 = true := by unfold gwOk; rw [hl]; rfl
  have h6 : ((l.length : Int) != 6) = false := by rw [hl]; rfl
  have HL6 := Lib.hid hl
  rw [hok]
  clear hl hok
  go_wp2_with fail
  refine (headOfS_any (gwVal l 0) (gwVal l 2) W2).mono ?_
  rintro e W3 ⟨v3, rfl, o3, hb⟩
  obtain ⟨A3, c3, rfl, _, _, r3, _⟩ := o3.shape
  replace R2 := (R2.below (hb.mono (Nat.le_refl _) |>.mono B2.size)).more (Nat.le_trans B2.size hb.size)
  replace B2 := Later.trans B2 hb
  have HE := Lib.hid (show (headL (gwVal l 0) (gwVal l 2) == l) = true ↔ headL (gwVal l 0) (gwVal l 2) = l by simp)
  clear hb o3
  go_wp2_with fail
  refine (l1Same_any A3 A c3 c _ _ _ l W3 r3 R2).mono ?_
  obtain ⟨y, hy⟩ : ∃ y, (headL (gwVal l 0) (gwVal l 2) == l) = y := ⟨_, rfl⟩
  rw [hy]
  have HY := Lib.hid hy
  clear hy
  rintro e W4 ⟨rfl, rfl⟩
  cases y
  ·have hq := getHeadP_no (l := l) (fun h9 => by have h8 := HE.out.2 h9.2; rw [HY.out] at h8; cases h8)
   rw [HP.out] at hq
   subst hq
   go_wp2_with fail
   go_ret3
   exact ⟨rfl, B2⟩
  ·have hq := getHeadP_yes HL6.out (HE.out.1 HY.out)
   rw [HP.out] at hq
   subst hq
   go_wp2_with fail
   go_ret3
   exact ⟨rfl, B2⟩
 ·have hq := getHeadP_no (l := l) (fun h9 => hl h9.1)
  rw [HP.out] at hq
  subst hq
  have h6 : ((l.length : Int) != 6) = true := by simp; omega
  clear hl
  obtain ⟨ok, hok⟩ : ∃ ok, gwOk l 2 = ok := ⟨_, rfl⟩
  rw [hok]
  cases ok
  ·go_wp2_with fail
   go_ret3
   exact ⟨rfl, B2⟩
  ·go_wp2_with fail
   go_ret3
   exact ⟨rfl, B2⟩
theorem withSum_len (b : List UInt8) : (withSum b).length = b.length + 2 := by simp [withSum, wordBytes]
structure Db where
 name : ByteArray
 size : Int
 queue : Int
 wait : Int
 idle : Int
def strR (m : Nat → ByteArray) : Rep ByteArray := Rep.leaf (fun s => .string s) (fun k _ => m k)
def digF : Nat → Nat → List UInt8
 | 0, _ => []
 | f + 1, k => if k = 0 then [] else digF f (k / 10) ++ [UInt8.ofNat (48 + k % 10)]
def markText (k : Nat) : ByteArray := ⟨(109 :: (if k = 0 then [48] else digF k k)).toArray⟩
def dbR : Rep Db := ((strR markText).pair (Rep.int.pair (Rep.int.pair (Rep.int.pair Rep.int)))).iso (fun d => (d.name, d.size, d.queue, d.wait, d.idle)) (fun p => ⟨p.1, p.2.1, p.2.2.1, p.2.2.2.1, p.2.2.2.2⟩)
def dbC (d : Db) : List Value := [.string d.name, .int .i64 d.size, .int .i64 d.queue, .int .i64 d.wait, .int .i64 d.idle]
def dbsR : Rep (List Db) := Rep.rows 159 dbR
theorem dbs_rows {w : World} {B : Nat} {A : Option Addr} {c : Nat} {xs : List Db} (h : dbsR.at_ w B [.slice A xs.length c] xs) : (xs.length ≤ c ∧ c ≤ maxLen) ∧ Rep.RowsAt dbR w B A xs.length xs := by
 obtain ⟨A', c', he, hc, hr⟩ := h
 injection he with he _
 injection he with he _ he2
 subst he he2
 exact ⟨hc, hr⟩
theorem db_cells {w : World} {B : Nat} {cs : List Value} {d : Db} (h : dbR.at_ w B cs d) : cs = dbC d := by
 have hl : cs.length = 5 := Rep.len dbR h
 obtain ⟨h0, h1, h2, h3, h4⟩ := h
 match cs, hl with
 | [a, b, c, e, f], _ =>
  replace h0 : [a] = [.string d.name] := h0
  replace h1 : [b] = [.int .i64 d.size] := h1
  replace h2 : [c] = [.int .i64 d.queue] := h2
  replace h3 : [e] = [.int .i64 d.wait] := h3
  replace h4 : [f] = [.int .i64 d.idle] := h4
  injection h0 with h0
  injection h1 with h1
  injection h2 with h2
  injection h3 with h3
  injection h4 with h4
  subst h0 h1 h2 h3 h4
  rfl
theorem db_own (w : World) (base : Nat) (d : Db) : dbR.own w base (dbC d) d [] :=
 ⟨[], [], ⟨rfl, rfl⟩, ⟨[], [], ⟨rfl, rfl⟩, ⟨[], [], ⟨rfl, rfl⟩, ⟨[], [], ⟨rfl, rfl⟩, ⟨rfl, rfl⟩, rfl, by simp⟩, rfl, by simp⟩, rfl, by simp⟩, rfl, by simp⟩
theorem db_elem {w : World} {B n k : Nat} {A : Option Addr} {xs : List Db} (h : Rep.RowsAt dbR w B A n xs) (hk : k < n) :
  ∃ b off x, A = some ⟨b, off, none⟩ ∧ b < B ∧ xs[k]? = some x ∧ w.cell? ⟨b, off + k * 5, none⟩ = some (.string x.name) ∧ w.cell? ⟨b, off + k * 5 + 1, none⟩ = some (.int .i64 x.size) ∧ w.cell? ⟨b, off + k * 5 + 2, none⟩ = some (.int .i64 x.queue) ∧ w.cell? ⟨b, off + k * 5 + 3, none⟩ = some (.int .i64 x.wait) ∧ w.cell? ⟨b, off + k * 5 + 4, none⟩ = some (.int .i64 x.idle) := by
 obtain ⟨b, off, c, x, hA, hb, hx, h2, hcell⟩ := h.elem hk (show 0 < 5 by omega)
 obtain rfl := db_cells h2
 have e : dbR.size = 5 := rfl
 rw [e] at hcell
 refine ⟨b, off, x, hA, hb, hx, by simpa using hcell 0 _ rfl, ?_, ?_, ?_, ?_⟩
 ·have := hcell 1 _ rfl; rwa [← Nat.add_assoc] at this
 ·have := hcell 2 _ rfl; rwa [← Nat.add_assoc] at this
 ·have := hcell 3 _ rfl; rwa [← Nat.add_assoc] at this
 ·have := hcell 4 _ rfl; rwa [← Nat.add_assoc] at this
def FitsDbs (xs : List Db) : Prop := xs.length ≤ 1048576 ∧ ∀ x, x ∈ xs → x.name.size ≤ 1048576
theorem Tryz.infoDb : (Tryz.prog.info? 159).map (fun i => (i.zero, i.size, i.bytes)) = some (some (.agg #[.string ⟨#[]⟩, .int .i64 0, .int .i64 0, .int .i64 0, .int .i64 0]), 5, 48) := by kernel_rfl
structure Rec where
 kind : Int
 n : Int
 owner : Int
 text : ByteArray
def recC (r : Rec) : List Value := [.int .i64 r.kind, .int .i64 r.n, .int .i64 r.owner, .string r.text]
theorem rec_box {w : World} {g t : Nat} {r : Rec} (h : w.heap[g]? = some (.cells (recC r).toArray t (0, 0))) : w.cell? ⟨g, 0, none⟩ = some (.int .i64 r.kind) ∧ w.cell? ⟨g, 1, none⟩ = some (.int .i64 r.n) ∧ w.cell? ⟨g, 2, none⟩ = some (.int .i64 r.owner) ∧ w.cell? ⟨g, 3, none⟩ = some (.string r.text) := ⟨var_cell h 0, var_cell h 1, var_cell h 2, var_cell h 3⟩
def OkRec (r : Rec) : Prop := (Lit.int .i64 r.kind).wf = true ∧ (Lit.int .i64 r.n).wf = true ∧ (Lit.int .i64 r.owner).wf = true ∧ r.text.size ≤ maxLen
structure Known where
 gen : Int
 text : ByteArray
 pGen : Int
 pText : ByteArray
 epoch : Int
 owner : Int
def knownC (r : Known) : List Value := [.int .i64 r.gen, .string r.text, .int .i64 r.pGen, .string r.pText, .int .i64 r.epoch, .int .i64 r.owner]
theorem known_box {w : World} {g t : Nat} {r : Known} (h : w.heap[g]? = some (.cells (knownC r).toArray t (0, 0))) : w.cell? ⟨g, 0, none⟩ = some (.int .i64 r.gen) ∧ w.cell? ⟨g, 1, none⟩ = some (.string r.text) ∧ w.cell? ⟨g, 2, none⟩ = some (.int .i64 r.pGen) ∧ w.cell? ⟨g, 3, none⟩ = some (.string r.pText) ∧ w.cell? ⟨g, 4, none⟩ = some (.int .i64 r.epoch) ∧ w.cell? ⟨g, 5, none⟩ = some (.int .i64 r.owner) := ⟨var_cell h 0, var_cell h 1, var_cell h 2, var_cell h 3, var_cell h 4, var_cell h 5⟩
def knownZero : Known := ⟨0, ⟨#[]⟩, 0, ⟨#[]⟩, 0, 0⟩
def dbZero : Db := ⟨⟨#[]⟩, 0, 0, 0, 0⟩
def lowB (b : UInt8) : Bool := decide (97 ≤ b.toNat ∧ b.toNat ≤ 122)
def nameB (l : List UInt8) : Bool := decide (1 ≤ l.length ∧ l.length ≤ 8) && l.all lowB
def dbB (d : Db) : Bool := nameB d.name.data.toList && inI d.size 1 3 && inI d.queue 0 4 && inI d.wait 1 20 && inI d.idle 1 20
def ConfTo (xs : List Db) (k : Nat) : Prop :=
 (∀ i x, i < k → xs[i]? = some x → dbB x = true) ∧ (∀ i j x y, j < i → i < k → xs[i]? = some x → xs[j]? = some y → y.name ≠ x.name)
def ConfGood (xs : List Db) : Prop := (1 ≤ xs.length ∧ xs.length ≤ 3) ∧ ConfTo xs xs.length
noncomputable def confB (xs : List Db) : Bool := @decide (ConfGood xs) (Classical.propDecidable _)
theorem confB_yes {xs : List Db} (h : ConfGood xs) : confB xs = true := by unfold confB; exact @decide_eq_true _ (Classical.propDecidable _) h
theorem confB_no {xs : List Db} (h : ¬ ConfGood xs) : confB xs = false := by unfold confB; exact @decide_eq_false _ (Classical.propDecidable _) h
theorem confB_good {xs : List Db} (h : confB xs = true) : ConfGood xs := by unfold confB at h; exact @of_decide_eq_true _ (Classical.propDecidable _) h
theorem ConfTo.zero (xs : List Db) : ConfTo xs 0 := ⟨fun i x h => absurd h (by omega), fun i j x y _ h => absurd h (by omega)⟩
theorem ConfTo.succ {xs : List Db} {k : Nat} {x : Db} (h : ConfTo xs k) (hx : xs[k]? = some x) (hd : dbB x = true) (hn : ∀ j y, j < k → xs[j]? = some y → y.name ≠ x.name) : ConfTo xs (k + 1) := by
 refine ⟨fun i y hi hy => ?_, fun i j y z hj hi hy hz => ?_⟩
 ·by_cases hk : i < k
  ·exact h.1 i y hk hy
  ·obtain rfl : i = k := by omega
   rw [hx] at hy
   injection hy with hy
   subst hy
   exact hd
 ·by_cases hk : i < k
  ·exact h.2 i j y z hj hk hy hz
  ·obtain rfl : i = k := by omega
   rw [hx] at hy
   injection hy with hy
   subst hy
   exact hn j z hj hz
theorem conf_bad_db {xs : List Db} {k : Nat} {x : Db} (hx : xs[k]? = some x) (hd : dbB x = false) : confB xs = false := confB_no fun h => by
 have := h.2.1 k x (List.getElem?_eq_some_iff.1 hx).1 hx
 rw [hd] at this
 cases this
theorem conf_bad_twice {xs : List Db} {k j : Nat} {x y : Db} (hx : xs[k]? = some x) (hy : xs[j]? = some y) (hj : j < k) (hn : y.name = x.name) : confB xs = false := confB_no fun h => h.2.2 k j x y hj (List.getElem?_eq_some_iff.1 hx).1 hx hy hn
theorem conf_bad_len {xs : List Db} (h : ¬ (1 ≤ xs.length ∧ xs.length ≤ 3)) : confB xs = false := confB_no fun h' => h h'.1
theorem strc_get (s : ByteArray) (k : Nat) (hk : k < s.size) : s.data.toList[k]? = some s[k] := by
 have h' : k < s.data.toList.length := by simpa using hk
 rw [List.getElem?_eq_getElem h']
 simp
 rfl
theorem nameB_bad {s : ByteArray} {k : Nat} (hk : k < s.size) (h : ¬ (97 ≤ s[k].toNat ∧ s[k].toNat ≤ 122)) : nameB s.data.toList = false := by
 unfold nameB
 rw [Bool.and_eq_false_iff]
 refine .inr ?_
 rw [List.all_eq_false]
 exact ⟨s[k], List.mem_of_getElem? (strc_get s k hk), by simp [lowB]; omega⟩
theorem nameB_len {s : ByteArray} (h : ¬ (1 ≤ s.size ∧ s.size ≤ 8)) : nameB s.data.toList = false := by
 unfold nameB
 rw [Bool.and_eq_false_iff]
 refine .inl (decide_eq_false ?_)
 simpa using h
def lowTo (s : ByteArray) (k : Nat) : Prop := ∀ b, b ∈ s.data.toList.take k → lowB b = true
theorem lowTo_zero (s : ByteArray) : lowTo s 0 := by intro b hb; simp at hb
theorem lowTo_succ {s : ByteArray} {k : Nat} (hk : k < s.size) (h : lowTo s k) (hb : 97 ≤ s[k].toNat ∧ s[k].toNat ≤ 122) : lowTo s (k + 1) := by
 intro b hm
 rw [Rep.take_get (strc_get s k hk), List.mem_append] at hm
 rcases hm with hm | hm
 ·exact h b hm
 ·simp at hm
  subst hm
  simp [lowB]
  omega
theorem nameB_low {s : ByteArray} (h : lowTo s s.size) : nameB s.data.toList = inI (s.size : Int) 1 8 := by
 unfold nameB inI
 have h2 : s.data.toList.all lowB = true := List.all_eq_true.2 fun b hb => h b (by rw [List.take_of_length_le (by simp)]; exact hb)
 rw [h2, Bool.and_true]
 have : s.data.toList.length = s.size := by simp
 rw [this]
 apply decide_eq_decide.2
 omega
set_option maxHeartbeats 1000000 in
theorem l1Name_b {s : ByteArray} {b : Bool} (hb : nameB s.data.toList = b) (w : World) (hs : s.size ≤ 1048576) : Calls Tryz.prog 155 #[.string s] w fun e w' => e = .returned (.bool b) ∧ w = w' := by
 have HB := Lib.hid hb
 clear hb
 go_enter Tryz.func155, Tryz.ntmps155
 go_wp2
 go_loop [3] (fun i => ∃ k : Nat, k ≤ s.size ∧ i = .int .i64 k ∧ Hid (lowTo s k)) (fun i => s.size - (intOf i).toNat)
 case atStart => exact ⟨0, by omega, rfl, Lib.hid (lowTo_zero s)⟩
 case round =>
  obtain ⟨k, hk, rfl, hl⟩ := hrel
  by_cases hlt : k < s.size
  ·by_cases h1 : (s[k].toNat : Int) < 97
   ·obtain rfl : b = false := by rw [← HB.out, nameB_bad hlt (by omega)]
    go_wp2
    go_ret
    exact ⟨rfl, rfl⟩
   ·by_cases h2 : (122 : Int) < s[k].toNat
    ·obtain rfl : b = false := by rw [← HB.out, nameB_bad hlt (by omega)]
     go_wp2
     go_ret
     exact ⟨rfl, rfl⟩
    ·have HN := Lib.hid (lowTo_succ hlt hl.out (by omega))
     go_wp2
     go_round
     case rel => exact ⟨k + 1, by omega, by go_num, HN⟩
     case measure => simp [intOf]; omega
  ·have he : k = s.size := by omega
   subst he
   have HE := Lib.hid (nameB_low hl.out)
   go_wp2_with (go_at_call 67; refine (l1In_b (b := b) (by rw [← HE.out, HB.out]) _).mono ?_; rintro e w' ⟨rfl, rfl⟩)
   go_ret
   exact ⟨rfl, rfl⟩
set_option maxHeartbeats 2000000 in
theorem l3Db_b (d : Db) (w : World) (hd : d.name.size ≤ 1048576) : Calls Tryz.prog 148 #[.agg (dbC d).toArray] w (RetBool w (dbB d)) := by
 obtain ⟨b0, h0⟩ : ∃ b, nameB d.name.data.toList = b := ⟨_, rfl⟩
 obtain ⟨b1, h1⟩ : ∃ b, inI d.size 1 3 = b := ⟨_, rfl⟩
 obtain ⟨b2, h2⟩ : ∃ b, inI d.queue 0 4 = b := ⟨_, rfl⟩
 obtain ⟨b3, h3⟩ : ∃ b, inI d.wait 1 20 = b := ⟨_, rfl⟩
 obtain ⟨b4, h4⟩ : ∃ b, inI d.idle 1 20 = b := ⟨_, rfl⟩
 have HC := Lib.hid (show dbB d = (b0 && b1 && b2 && b3 && b4) by unfold dbB; rw [h0, h1, h2, h3, h4])
 unfold dbC RetBool
 cases b0
 rotate_left
 cases b1
 rotate_left
 cases b2
 rotate_left
 cases b3
 rotate_left
 cases b4
 all_goals
  go_enter Tryz.func148, Tryz.ntmps148
  go_wp2_with (first
   | (go_at_call 155; refine (l1Name_b h0 _ hd).mono ?_; rintro e w' ⟨rfl, rfl⟩)
   | (go_at_call 67; refine (l1In_b (by assumption) _).mono ?_; rintro e w' ⟨rfl, rfl⟩))
  go_ret
  exact ⟨by rw [HC.out]; simp, (Below.refl _ _).alloc (Nat.le_refl _) _⟩
theorem str_ne {a b : ByteArray} (h : (a.toList == b.toList) = false) : a ≠ b := by
 intro e
 subst e
 simp at h
theorem str_eq {a b : ByteArray} (h : (a.toList == b.toList) = true) : a = b := by
 have h1 : a.toList = b.toList := by simpa using h
 obtain ⟨⟨l⟩⟩ := a
 obtain ⟨⟨m⟩⟩ := b
 rw [ByteArray.toList_mk, ByteArray.toList_mk] at h1
 rw [h1]
set_option maxRecDepth 100000 in
set_option maxHeartbeats 4000000 in
theorem confOkS_any (A : Option Addr) (c : Nat) (xs : List Db) (w : World) (h : Rep.RowsAt dbR w w.heap.size A xs.length xs) (hf : FitsDbs xs) :
  Calls Tryz.prog 140 #[.slice A xs.length c] w (RetBool w (confB xs)) := by
 have hn := hf.1
 have HF := Lib.hid hf.2
 clear hf
 unfold RetBool
 go_enter Tryz.func140, Tryz.ntmps140
 go_wp2
 go_loopw [3] (fun i wr => ∃ k : Nat, k ≤ xs.length ∧ i = .int .i64 k ∧ Hid (ConfTo xs k) ∧ Below w.heap.size w wr) (fun i _ => xs.length - (intOf i).toNat)
 case atStart => exact ⟨0, by omega, rfl, Lib.hid (ConfTo.zero xs), Below.refl _ _⟩
 case round =>
  obtain ⟨k, hk, rfl, hto, hb⟩ := hrel
  by_cases hlt : k < xs.length
  ·obtain ⟨b, off, x, rfl, hbl, hx, c0, c1, c2, c3, c4⟩ := db_elem (h.keep fun p hp => hb.cell hp) hlt
   have HX := Lib.hid hx
   have hxs := HF.out x (List.mem_of_getElem? hx)
   clear hx
   have i1 : (0 : Int) ≤ (k : Int) := by omega
   have i2 : (k : Int) < (xs.length : Int) := by omega
   obtain ⟨y, hy⟩ : ∃ y, dbB x = y := ⟨_, rfl⟩
   have HY := Lib.hid hy
   clear hy
   go_wp2_with fail
   refine (l3Db_b x wr hxs).mono ?_
   rintro e w2 ⟨rfl, hb2⟩
   rw [HY.out]
   have hb3 := hb.trans (hb2.mono hb.size)
   clear hb2 c0 c1 c2 c3 c4
   cases y
   ·have HE := Lib.hid (conf_bad_db HX.out HY.out)
    go_wp2_with fail
    go_ret
    exact ⟨by rw [HE.out]; rfl, hb3⟩
   ·obtain ⟨wo, hwo⟩ : ∃ wo : World, wo = wr := ⟨_, rfl⟩
    clear hb hwo
    go_wp2_with fail
    go_loopw [4] (fun i wr => ∃ j : Nat, j ≤ k ∧ i = .int .i64 j ∧ Hid (∀ i y, i < j → xs[i]? = some y → y.name ≠ x.name) ∧ Below w.heap.size w wr) (fun i _ => k - (intOf i).toNat)
    case atStart => exact ⟨0, by omega, rfl, Lib.hid (fun i y h => absurd h (by omega)), hb3⟩
    case round =>
     clear hb3
     obtain ⟨j, hj, rfl, hnot, hb⟩ := hrel
     by_cases hjk : j < k
     ·have hrows := h.keep fun p hp => hb.cell hp
      obtain ⟨b1, off1, x1, hA, hbl1, hx1, c0, c1, c2, c3, c4⟩ := db_elem hrows hlt
      obtain ⟨b2, off2, y, hA2, hbl2, hy, d0, d1, d2, d3, d4⟩ := db_elem hrows (show j < xs.length by omega)
      injection hA with hA
      injection hA with e1 e2 _
      injection hA2 with hA2
      injection hA2 with e3 e4 _
      subst e1 e2 e3 e4
      obtain rfl : x = x1 := by have := HX.out; rw [hx1] at this; injection this with this; exact this.symm
      have HYJ := Lib.hid hy
      clear hx1 hy
      have i3 : (0 : Int) ≤ (j : Int) := by omega
      have i4 : (j : Int) < (xs.length : Int) := by omega
      have i5 : (j : Int) < (k : Int) := by omega
      obtain ⟨q, hq⟩ : ∃ q, (y.name.toList == x.name.toList) = q := ⟨_, rfl⟩
      cases q
      ·have HN := Lib.hid (show ∀ i z, i < j + 1 → xs[i]? = some z → z.name ≠ x.name from fun i z hi hz => by
        by_cases h2 : i < j
        ·exact hnot.out i z h2 hz
        ·obtain rfl : i = j := by omega
         have := HYJ.out
         rw [hz] at this
         injection this with this
         subst this
         exact str_ne hq)
       go_wp2
       go_quiet (fail)
       go_wp2
       go_roundw
       case rel => exact ⟨j + 1, by omega, by go_num, HN, belowD hb _⟩
       case measure => simp [intOf]; omega
      ·have HE := Lib.hid (conf_bad_twice HX.out HYJ.out hjk (str_eq hq))
       go_wp2
       go_quiet (fail)
       go_wp2
       go_ret
       exact ⟨by rw [HE.out]; rfl, belowD hb _⟩
     ·obtain rfl : j = k := by omega
      have HN := Lib.hid (hto.out.succ HX.out HY.out (fun i y hi hy => hnot.out i y hi hy))
      go_wp2
      go_roundw
      case rel => exact ⟨j + 1, by omega, by go_num, HN, hb⟩
      case measure => simp [intOf]; omega
  ·have he : k = xs.length := by omega
   subst he
   obtain ⟨y, hy⟩ : ∃ y, inI (xs.length : Int) 1 3 = y := ⟨_, rfl⟩
   have HE := Lib.hid (show confB xs = y by
    unfold inI at hy
    cases y
    ·exact conf_bad_len fun h => of_decide_eq_false hy (by omega)
    ·have := of_decide_eq_true hy
     exact confB_yes ⟨by omega, hto.out⟩)
   go_wp2_with (go_at_call 67; refine (l1In_b hy _).mono ?_; rintro e w' ⟨rfl, rfl⟩)
   go_ret
   exact ⟨by rw [HE.out]; rfl, hb⟩
end Go.Proofs.YtoaaogacaibedaaGreatDoor
namespace Go.Proofs.YtoaaogacaibedaaGreatDoor
set_option maxRecDepth 100000
def isDg (b : UInt8) : Bool := decide (48 ≤ b.toNat) && decide (b.toNat ≤ 57)
def dgVal (b : UInt8) : Nat := b.toNat - 48
def pnAcc (l : List UInt8) : Nat := l.foldl (fun a b => a * 10 + dgVal b) 0
def pnTo (l : List UInt8) (k : Nat) : Nat := pnAcc (l.take k)
def dgTo (l : List UInt8) (k : Nat) : Prop := (l.take k).all isDg = true
theorem isDg_bd {b : UInt8} (h : isDg b = true) : 48 ≤ b.toNat ∧ b.toNat ≤ 57 := by
 unfold isDg at h
 rw [Bool.and_eq_true] at h
 exact ⟨of_decide_eq_true h.1, of_decide_eq_true h.2⟩
theorem isDg_yes {b : UInt8} (h1 : 48 ≤ b.toNat) (h2 : b.toNat ≤ 57) : isDg b = true := by
 unfold isDg; rw [decide_eq_true h1, decide_eq_true h2]; rfl
theorem isDg_no {b : UInt8} (h : b.toNat < 48 ∨ 57 < b.toNat) : isDg b = false := by
 unfold isDg
 rcases h with h | h
 ·rw [decide_eq_false (by omega)]; rfl
 ·rw [decide_eq_false (p := b.toNat ≤ 57) (by omega), Bool.and_false]
theorem dgVal_lt {b : UInt8} (h : isDg b = true) : dgVal b < 10 := by have := isDg_bd h; unfold dgVal; omega
theorem dg_back {b : UInt8} (h : isDg b = true) : UInt8.ofNat (48 + dgVal b) = b := by
 have := isDg_bd h
 unfold dgVal
 rw [show 48 + (b.toNat - 48) = b.toNat by omega]
 simp
theorem pnAcc_snoc (l : List UInt8) (b : UInt8) : pnAcc (l ++ [b]) = pnAcc l * 10 + dgVal b := by simp [pnAcc, List.foldl_append]
theorem pnTo_succ {l : List UInt8} {k : Nat} {b : UInt8} (h : l[k]? = some b) : pnTo l (k + 1) = pnTo l k * 10 + dgVal b := by
 unfold pnTo
 rw [List.take_add_one, h]
 exact pnAcc_snoc _ _
theorem pnTo_all (l : List UInt8) : pnTo l l.length = pnAcc l := by unfold pnTo; rw [List.take_length]
theorem dgTo_zero (l : List UInt8) : dgTo l 0 := by simp [dgTo]
theorem dgTo_succ {l : List UInt8} {k : Nat} {b : UInt8} (h : dgTo l k) (hb : l[k]? = some b) (hd : isDg b = true) : dgTo l (k + 1) := by
 unfold dgTo at *
 rw [List.take_add_one, hb, List.all_append, h]
 simp [hd]
theorem dgTo_all {l : List UInt8} (h : dgTo l l.length) : l.all isDg = true := by unfold dgTo at h; rwa [List.take_length] at h
theorem dg_bad {l : List UInt8} {k : Nat} {b : UInt8} (hb : l[k]? = some b) (hd : isDg b = false) : l.all isDg = false := by
 rw [List.all_eq_false]
 exact ⟨b, List.mem_of_getElem? hb, by simp [hd]⟩
theorem pnTo_lt (l : List UInt8) (h : l.all isDg = true) : pnAcc l < 10 ^ l.length := by
 induction hl : l.length generalizing l with
 | zero =>
  have : l = [] := List.eq_nil_of_length_eq_zero hl
  subst this
  decide
 | succ n ih =>
  obtain ⟨l', b, rfl⟩ : ∃ l' b, l = l' ++ [b] := by
   rcases List.eq_nil_or_concat l with h0 | ⟨l', b, h0⟩
   ·subst h0; simp at hl
   ·exact ⟨l', b, by simpa using h0⟩
  rw [List.all_append, Bool.and_eq_true] at h
  have hb : isDg b = true := by simpa using h.2
  have h1 := ih l' h.1 (by simpa using hl)
  have h2 := dgVal_lt hb
  rw [pnAcc_snoc, Nat.pow_succ]
  omega
theorem dgTo_lt {l : List UInt8} {k : Nat} (h : dgTo l k) (hk : k ≤ l.length) : pnTo l k < 10 ^ k := by
 have := pnTo_lt (l.take k) h
 rwa [List.length_take, Nat.min_eq_left hk] at this
theorem dec_back (l : List UInt8) (h : l.all isDg = true) (hne : l ≠ []) (hz : l.length = 1 ∨ l[0]? ≠ some 48) : Lib.decDigits (pnAcc l) = l ∧ (l[0]? ≠ some 48 → 1 ≤ pnAcc l) := by
 induction hl : l.length generalizing l with
 | zero => exact absurd (List.eq_nil_of_length_eq_zero hl) hne
 | succ n ih =>
  obtain ⟨l', b, rfl⟩ : ∃ l' b, l = l' ++ [b] := by
   rcases List.eq_nil_or_concat l with h0 | ⟨l', b, h0⟩
   ·exact absurd h0 hne
   ·exact ⟨l', b, by simpa using h0⟩
  rw [List.all_append, Bool.and_eq_true] at h
  have hb : isDg b = true := by simpa using h.2
  have hbd := isDg_bd hb
  have hv := dgVal_lt hb
  rcases l' with _ | ⟨x, t⟩
  ·refine ⟨?_, ?_⟩
   ·rw [pnAcc_snoc, show pnAcc [] = 0 from rfl, Nat.zero_mul, Nat.zero_add]
    rw [Lib.decDigits, dif_pos hv, dg_back hb]
    rfl
   ·intro h0
    rw [pnAcc_snoc, show pnAcc [] = 0 from rfl]
    have hb48 : b ≠ 48 := by simpa using h0
    have : b.toNat ≠ 48 := fun e => hb48 (by rw [← UInt8.toNat_inj, e]; rfl)
    unfold dgVal
    omega
  ·have hz' : (x :: t)[0]? ≠ some 48 := by
    rcases hz with h1 | h1
    ·simp at h1
    ·simpa using h1
   have hn : (x :: t).length = n := by simpa using hl
   obtain ⟨h1, h2⟩ := ih (x :: t) h.1 (by simp) (.inr hz') hn
   have h3 := h2 hz'
   refine ⟨?_, fun _ => by rw [pnAcc_snoc]; omega⟩
   rw [pnAcc_snoc, Lib.decDigits, dif_neg (by omega)]
   rw [show (pnAcc (x :: t) * 10 + dgVal b) / 10 = pnAcc (x :: t) by omega, show (pnAcc (x :: t) * 10 + dgVal b) % 10 = dgVal b by omega, h1, dg_back hb]
theorem dec_ne_nil (u : Nat) : Lib.decDigits u ≠ [] := by
 intro h
 have := Lib.decDigits_length u
 rw [h] at this
 have hp := Lib.nDigits_pos u
 simp at this
 omega
theorem dec_head (u : Nat) (h : 1 ≤ u) : (Lib.decDigits u)[0]? ≠ some 48 := by
 induction u using Nat.strongRecOn with
 | ind u ih =>
  rw [Lib.decDigits]
  by_cases h10 : u < 10
  ·rw [dif_pos h10]
   intro e
   have e' : UInt8.ofNat (48 + u) = 48 := by simpa using e
   have := congrArg UInt8.toNat e'
   simp at this
   omega
  ·rw [dif_neg h10]
   have h1 := ih (u / 10) (by omega) (by omega)
   have hne := dec_ne_nil (u / 10)
   rw [List.getElem?_append_left (List.length_pos_iff.2 hne)]
   exact h1
theorem dec_no {l : List UInt8} (h1 : 1 < l.length) (h0 : l[0]? = some 48) (n : Nat) : Lib.decDigits n ≠ l := by
 intro e
 rcases Nat.eq_zero_or_pos n with hn | hn
 ·subst hn
  rw [Lib.decDigits_one (by omega)] at e
  rw [← e] at h1
  simp at h1
 ·have := dec_head n hn
  rw [e] at this
  exact this h0
def pnOk (l : List UInt8) (most : Int) : Bool := decide (1 ≤ l.length ∧ l.length ≤ 5 ∧ most ≤ 65535 ∧ (l.length = 1 ∨ l[0]? ≠ some 48) ∧ l.all isDg = true ∧ (pnAcc l : Int) ≤ most)
def pnVal (l : List UInt8) (most : Int) : Int := if pnOk l most then (pnAcc l : Nat) else 0
theorem pn_no {l : List UInt8} {most : Int} (h : ¬ (1 ≤ l.length ∧ l.length ≤ 5 ∧ most ≤ 65535 ∧ (l.length = 1 ∨ l[0]? ≠ some 48) ∧ l.all isDg = true ∧ (pnAcc l : Int) ≤ most)) : pnOk l most = false ∧ pnVal l most = 0 := by
 have e : pnOk l most = false := decide_eq_false h
 exact ⟨e, by unfold pnVal; rw [e]; rfl⟩
theorem pn_lead {l : List UInt8} {most : Int} (h1 : 1 < l.length) (h0 : l[0]? = some 48) : pnOk l most = false ∧ pnVal l most = 0 :=
 pn_no fun h => by
  rcases h.2.2.2.1 with h2 | h2
  ·omega
  ·exact h2 h0
theorem pn_digit {l : List UInt8} {most : Int} {k : Nat} {b : UInt8} (hb : l[k]? = some b) (hd : isDg b = false) : pnOk l most = false ∧ pnVal l most = 0 :=
 pn_no fun h => by
  rw [dg_bad hb hd] at h
  exact absurd h.2.2.2.2.1 (by simp)
theorem pn_yes {l : List UInt8} {most : Int} (h : 1 ≤ l.length ∧ l.length ≤ 5 ∧ most ≤ 65535 ∧ (l.length = 1 ∨ l[0]? ≠ some 48) ∧ l.all isDg = true ∧ (pnAcc l : Int) ≤ most) : pnOk l most = true ∧ pnVal l most = (pnAcc l : Nat) := by
 have e : pnOk l most = true := decide_eq_true h
 exact ⟨e, by unfold pnVal; rw [e]; rfl⟩
end Go.Proofs.YtoaaogacaibedaaGreatDoor
