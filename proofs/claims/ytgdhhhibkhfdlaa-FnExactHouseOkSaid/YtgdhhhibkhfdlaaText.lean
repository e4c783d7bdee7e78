/- Contracts of chapter 1: GetWord, TextOk. -/
import Derived.Test.YtgdhhhibkhfdlaaWord
import Derived.Outline
namespace Go.Proofs.Ytgdhhhibkhfdlaa
open Go.RowKit

/-- What GetWord gives. -/
def gwOk (l : List UInt8) (p : Int) : Bool := decide (0 ≤ p) && decide (p + 2 ≤ l.length)
def gwVal (l : List UInt8) (p : Int) : Int := if gwOk l p then ((l.getD p.toNat 0).toNat : Int) * 256 + ((l.getD (p.toNat + 1) 0).toNat : Int) else 0
def gwNext (l : List UInt8) (p : Int) : Int := if gwOk l p then p + 2 else 0

theorem gw_no {l : List UInt8} {p : Int} (h : p < 0 ∨ (l.length : Int) - 2 < p) : gwOk l p = false ∧ gwVal l p = 0 ∧ gwNext l p = 0 := by
  have e : gwOk l p = false := by
    unfold gwOk
    rcases h with h | h
    · rw [decide_eq_false (by omega)]; rfl
    · rw [decide_eq_false (p := p + 2 ≤ l.length) (by omega), Bool.and_false]
  exact ⟨e, by simp [gwVal, e], by simp [gwNext, e]⟩
theorem gw_yes {l : List UInt8} {k : Nat} {x y : UInt8} (h : k + 2 ≤ l.length) (hx : l[k]? = some x) (hy : l[k + 1]? = some y) :
    gwOk l k = true ∧ gwVal l k = (x.toNat : Int) * 256 + y.toNat ∧ gwNext l k = (k : Int) + 2 := by
  have e : gwOk l k = true := by
    unfold gwOk
    rw [decide_eq_true (by omega), decide_eq_true (by omega)]; rfl
  refine ⟨e, ?_, by simp [gwNext, e]⟩
  unfold gwVal
  rw [if_pos e]
  simp [hx, hy]

theorem ret_iib {k k' : IntKind} {a a' b b' : Int} {c c' : Bool} (h1 : a = a') (h2 : b = b') (h3 : c = c') : Ending.returned (.tuple #[.int k a, .int k' b, .bool c]) = .returned (.tuple #[.int k a', .int k' b', .bool c']) := by rw [h1, h2, h3]
theorem ret_bool {c c' : Bool} (h : c = c') : Ending.returned (.bool c) = .returned (.bool c') := by rw [h]
theorem ret_int {k : IntKind} {c c' : Int} (h : c = c') : Ending.returned (.int k c) = .returned (.int k c') := by rw [h]

theorem byte_lt (u : UInt8) : u.toNat < 256 := u.toNat_lt

set_option maxHeartbeats 400000 in
theorem getWord_any (A : Option Addr) (c : Nat) (p : Int) (l : List UInt8) (w : World) (h : Reads w w.heap.size 1 A l.length (bys l)) (hn : l.length ≤ 100000000) :
    Calls Try.prog 192 #[.slice A l.length c, .int .i64 p] w fun e w' => e = .returned (.tuple #[.int .i64 (gwVal l p), .int .i64 (gwNext l p), .bool (gwOk l p)]) ∧ ∃ n, w' = w.drewN n := by
  by_cases h0 : p < 0
  · obtain ⟨e1, e2, e3⟩ := gw_no (l := l) (.inl h0)
    have E1 := Lib.hid e1
    have E2 := Lib.hid e2
    have E3 := Lib.hid e3
    clear e1 e2 e3
    go_enter Try.func192, Try.ntmps192
    go_wp2
    go_ret3
    exact ⟨ret_iib E2.out.symm E3.out.symm E1.out.symm, 0, rfl⟩
  · obtain ⟨k, rfl⟩ := Int.eq_ofNat_of_zero_le (by omega : 0 ≤ p)
    by_cases h1 : (l.length : Int) - 2 < (k : Int)
    · obtain ⟨e1, e2, e3⟩ := gw_no (l := l) (.inr h1)
      have E1 := Lib.hid e1
      have E2 := Lib.hid e2
      have E3 := Lib.hid e3
      clear e1 e2 e3
      go_enter Try.func192, Try.ntmps192
      go_wp2
      go_ret3
      exact ⟨ret_iib E2.out.symm E3.out.symm E1.out.symm, 0, rfl⟩
    · obtain ⟨b, off, x, rfl, _, hx, hcx⟩ := h.byte (k := k) (by omega)
      obtain ⟨b', off', y, hA', _, hy, hcy⟩ := h.byte (k := k + 1) (by omega)
      injection hA' with hA'
      injection hA' with hA1 hA2
      subst hA1
      subst hA2
      obtain ⟨e1, e2, e3⟩ := gw_yes (by omega) hx hy
      have E1 := Lib.hid e1
      have E2 := Lib.hid e2
      have E3 := Lib.hid e3
      have hxl := byte_lt x
      have hyl := byte_lt y
      clear e1 e2 e3 hx hy h
      have i1 : (0 : Int) ≤ (k : Int) := by omega
      have i2 : (k : Int) < (l.length : Int) := by omega
      have i3 : (k : Int) + 1 < (l.length : Int) := by omega
      have hj := i64_or_join x.toNat y.toNat hxl hyl
      go_enter Try.func192, Try.ntmps192
      go_wp2
      go_quiet (fail)
      go_wp2
      go_ret3
      exact ⟨ret_iib E2.out.symm E3.out.symm E1.out.symm, _, rfl⟩

set_option maxHeartbeats 400000 in
theorem getWordS_any (A : Option Addr) (c : Nat) (p : Int) (l : List UInt8) (w : World) (h : Reads w w.heap.size 1 A l.length (bys l)) (hn : l.length ≤ 100000000) :
    Calls Try.prog 168 #[.slice A l.length c, .int .i64 p] w fun e w' => e = .returned (.tuple #[.int .i64 (gwVal l p), .int .i64 (gwNext l p), .bool (gwOk l p)]) ∧ ∃ n, w' = w.drewN n := by
  by_cases h0 : p < 0
  · obtain ⟨e1, e2, e3⟩ := gw_no (l := l) (.inl h0)
    have E1 := Lib.hid e1
    have E2 := Lib.hid e2
    have E3 := Lib.hid e3
    clear e1 e2 e3
    go_enter Try.func168, Try.ntmps168
    go_wp2
    go_ret3
    exact ⟨ret_iib E2.out.symm E3.out.symm E1.out.symm, 0, rfl⟩
  · obtain ⟨k, rfl⟩ := Int.eq_ofNat_of_zero_le (by omega : 0 ≤ p)
    by_cases h1 : (l.length : Int) - 2 < (k : Int)
    · obtain ⟨e1, e2, e3⟩ := gw_no (l := l) (.inr h1)
      have E1 := Lib.hid e1
      have E2 := Lib.hid e2
      have E3 := Lib.hid e3
      clear e1 e2 e3
      go_enter Try.func168, Try.ntmps168
      go_wp2
      go_ret3
      exact ⟨ret_iib E2.out.symm E3.out.symm E1.out.symm, 0, rfl⟩
    · obtain ⟨b, off, x, rfl, _, hx, hcx⟩ := h.byte (k := k) (by omega)
      obtain ⟨b', off', y, hA', _, hy, hcy⟩ := h.byte (k := k + 1) (by omega)
      injection hA' with hA'
      injection hA' with hA1 hA2
      subst hA1
      subst hA2
      obtain ⟨e1, e2, e3⟩ := gw_yes (by omega) hx hy
      have E1 := Lib.hid e1
      have E2 := Lib.hid e2
      have E3 := Lib.hid e3
      have hxl := byte_lt x
      have hyl := byte_lt y
      clear e1 e2 e3 hx hy h
      have i1 : (0 : Int) ≤ (k : Int) := by omega
      have i2 : (k : Int) < (l.length : Int) := by omega
      have i3 : (k : Int) + 1 < (l.length : Int) := by omega
      go_enter Try.func168, Try.ntmps168
      go_wp2
      go_quiet (fail)
      go_wp2
      go_ret3
      exact ⟨ret_iib E2.out.symm E3.out.symm E1.out.symm, _, rfl⟩

/-- Is the byte one that a text may hold? -/
def inB (b : UInt8) : Bool := decide (32 ≤ b.toNat) && decide (b.toNat ≤ 126)
/-- May the bytes stand in a text? -/
def okB (l : List UInt8) : Bool := decide (l.length ≤ 100) && l.all inB
/-- The first k bytes may. -/
def okTo (l : List UInt8) (k : Nat) : Prop := (l.take k).all inB = true

theorem okTo_zero (l : List UInt8) : okTo l 0 := by simp [okTo]
theorem okTo_succ {l : List UInt8} {k : Nat} {b : UInt8} (h : okTo l k) (hb : l[k]? = some b) (hi : inB b = true) : okTo l (k + 1) := by
  unfold okTo at *
  rw [take_snoc_get hb, List.all_append, h]
  simp [hi]
theorem inB_yes {b : UInt8} (h1 : ¬ (b.toNat : Int) < 32) (h2 : ¬ 126 < (b.toNat : Int)) : inB b = true := by
  unfold inB; rw [decide_eq_true (by omega), decide_eq_true (by omega)]; rfl
theorem inB_no {b : UInt8} (h : (b.toNat : Int) < 32 ∨ 126 < (b.toNat : Int)) : inB b = false := by
  unfold inB
  rcases h with h | h
  · rw [decide_eq_false (by omega)]; rfl
  · rw [decide_eq_false (p := b.toNat ≤ 126) (by omega), Bool.and_false]
theorem okB_bad {l : List UInt8} {k : Nat} {b : UInt8} (hb : l[k]? = some b) (hi : inB b = false) : okB l = false := by
  have hm : b ∈ l := List.mem_of_getElem? hb
  unfold okB
  have : l.all inB = false := by
    rw [List.all_eq_false]
    exact ⟨b, hm, by simp [hi]⟩
  rw [this, Bool.and_false]
theorem okB_long {l : List UInt8} (h : 100 < l.length) : okB l = false := by
  unfold okB; rw [decide_eq_false (by omega)]; rfl
theorem okB_all {l : List UInt8} (h : okTo l l.length) (h1 : l.length ≤ 100) : okB l = true := by
  unfold okTo at h
  rw [List.take_length] at h
  unfold okB
  rw [decide_eq_true h1, h]; rfl
theorem str_get (s : ByteArray) (k : Nat) (hk : k < s.size) : s.data.toList[k]? = some s[k] := by
  have h' : k < s.data.toList.length := by simpa using hk
  rw [List.getElem?_eq_getElem h']
  simp
  rfl

set_option maxHeartbeats 400000 in
theorem textOk_any (s : ByteArray) (w : World) (hs : s.size ≤ 140737488351232) :
    Calls Try.prog 109 #[.string s] w fun e w' => e = .returned (.bool (okB s.data.toList)) ∧ w = w' := by
  by_cases hb : 100 < s.size
  · have E := Lib.hid (okB_long (l := s.data.toList) (by simpa using hb))
    go_enter Try.func109, Try.ntmps109
    go_wp2
    go_ret
    exact ⟨ret_bool E.out.symm, rfl⟩
  · go_enter Try.func109, Try.ntmps109
    go_wp2
    go_loop [9] (fun i => ∃ k : Nat, k ≤ s.size ∧ i = .int .i64 k ∧ okTo s.data.toList k) (fun i => s.size - (intOf i).toNat)
    case atStart => exact ⟨0, by omega, rfl, okTo_zero _⟩
    case round =>
      obtain ⟨k, hk, rfl, hok⟩ := hrel
      by_cases hlt : k < s.size
      · have HG := Lib.hid (str_get s k hlt)
        have H := Lib.hid hok
        clear hok
        by_cases h1 : (s[k].toNat : Int) < 32
        · have E := Lib.hid (okB_bad HG.out (inB_no (.inl h1)))
          go_wp2
          go_ret
          exact ⟨ret_bool E.out.symm, rfl⟩
        · by_cases h2 : 126 < (s[k].toNat : Int)
          · have E := Lib.hid (okB_bad HG.out (inB_no (.inr h2)))
            go_wp2
            go_ret
            exact ⟨ret_bool E.out.symm, rfl⟩
          · have E := Lib.hid (okTo_succ H.out HG.out (inB_yes h1 h2))
            go_wp2
            go_round
            case rel => exact ⟨k + 1, by omega, by go_num, E.out⟩
            case measure => simp [intOf]; omega
      · have he : k = s.size := by omega
        subst he
        have E := Lib.hid (okB_all (l := s.data.toList) (by simpa using hok) (by simp; omega))
        clear hok
        go_wp2
        go_ret
        exact ⟨ret_bool E.out.symm, rfl⟩

set_option maxHeartbeats 400000 in
theorem textOkS_any (s : ByteArray) (w : World) (hs : s.size ≤ 140737488351232) :
    Calls Try.prog 112 #[.string s] w fun e w' => e = .returned (.bool (okB s.data.toList)) ∧ w = w' := by
  go_enter Try.func112, Try.ntmps112
  go_wp2
  go_loop [3] (fun i => ∃ k : Nat, k ≤ s.size ∧ k ≤ 101 ∧ i = .int .i64 k ∧ okTo s.data.toList k) (fun i => s.size - (intOf i).toNat)
  case atStart => exact ⟨0, by omega, by omega, rfl, okTo_zero _⟩
  case round =>
    obtain ⟨k, hk, hk1, rfl, hok⟩ := hrel
    by_cases hlt : k < s.size
    · by_cases hle : k ≤ 100
      · have HG := Lib.hid (str_get s k hlt)
        have H := Lib.hid hok
        clear hok
        by_cases h1 : (s[k].toNat : Int) < 32
        · have E := Lib.hid (okB_bad HG.out (inB_no (.inl h1)))
          go_wp2
          go_ret
          exact ⟨ret_bool E.out.symm, rfl⟩
        · by_cases h2 : 126 < (s[k].toNat : Int)
          · have E := Lib.hid (okB_bad HG.out (inB_no (.inr h2)))
            go_wp2
            go_ret
            exact ⟨ret_bool E.out.symm, rfl⟩
          · have E := Lib.hid (okTo_succ H.out HG.out (inB_yes h1 h2))
            go_wp2
            go_round
            case rel => exact ⟨k + 1, by omega, by omega, by go_num, E.out⟩
            case measure => simp [intOf]; omega
      · have hsz : 100 < s.size := by omega
        have E := Lib.hid (okB_long (l := s.data.toList) (by simpa using hsz))
        clear hok
        go_wp2
        go_ret
        exact ⟨ret_bool (by rw [E.out]; simp; omega), rfl⟩
    · have he : k = s.size := by omega
      subst he
      by_cases hle : s.size ≤ 100
      · have E := Lib.hid (okB_all (l := s.data.toList) (by simpa using hok) (by simpa using hle))
        clear hok
        go_wp2
        go_ret
        exact ⟨ret_bool (by rw [E.out]; simp; omega), rfl⟩
      · have E := Lib.hid (okB_long (l := s.data.toList) (by simp; omega))
        clear hok
        go_wp2
        go_ret
        exact ⟨ret_bool (by rw [E.out]; simp; omega), rfl⟩

end Go.Proofs.Ytgdhhhibkhfdlaa
