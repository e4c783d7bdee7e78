/- What the theorem needs, out of many texts. -/
import Derived.Test.YtoaaogacaibedaaGreatDoorShx1
import Derived.Test.YtoaaogacaibedaaGreatDoorShx4
import Derived.Test.YtoaaogacaibedaaGreatDoorShx6
import Derived.WalkSmall
import Derived.Test.YtoaaogacaibedaaGreatDoorShelf
import Derived.Lib.ItoaNum
import Derived.Lib.ItoaMem
import Derived.Lib.Hide
import Derived.KernelRfl
import Derived.Test.YtoaaogacaibedaaGreatDoorProg
import Derived.Maps.RangeWalk
import Derived.WalkSpells
import Derived.Deep.DeepMust
import Derived.Lib.Join
import Derived.Laws.RangeAny
namespace Go.Proofs.YtoaaogacaibedaaGreatDoor
open Go.RowKit
set_option maxRecDepth 100000
def Tab (w : World) : Prop := Lib.TabIs Tryz.prog w "internal/strconv.uint64pow10" .u64 Lib.pow10Tab
theorem gTab : Tryz.prog.globalNamed "internal/strconv.uint64pow10" = some 1 := by kernel_rfl
theorem Tab.lt {w : World} (h : Tab w) : 1 < w.heap.size := by
 have := h.cell gTab 0 (by rw [Lib.pow10Tab_length]; omega)
 exact World.block_lt_of_cell? w _ this
theorem Tab.below {w w' : World} (h : Tab w) (hb : Below w.heap.size w w') : Tab w' := var?_below hb gTab h.lt h
theorem Tab.drewN {w : World} (h : Tab w) (n : Nat) : Tab (w.drewN n) := h.below (below_drewN (Below.refl _ _) n)
theorem below_grow (w : World) (os : Array Obj) : Below w.heap.size w (Sort.grow w os) :=
 ⟨rfl, rfl, rfl, by simp [Sort.grow], fun k hk => by
  show (w.heap ++ os)[k]? = w.heap[k]?
  rw [Array.getElem?_append, if_pos hk]⟩
theorem numText_any (n : Int) (h0 : -9223372036854775808 ≤ n) (h1 : n ≤ 9223372036854775807) (w : World) (ht : Tab w) :
  Calls Tryz.prog 169 #[.int .i64 n] w fun e w' => e = .returned (.string ⟨(Lib.itoa n).toArray⟩) ∧ Below w.heap.size w w' := by
 have HT := Lib.hid ht
 clear ht
 go_enter Tryz.func169, Tryz.ntmps169
 go_wp2_with fail
 refine (Tryz.strconv_Itoa n h0 h1 w HT.out).mono ?_
 rintro e w' ⟨rfl, k, os, hw⟩
 have hb : Below w.heap.size w w' := by
  rw [hw]
  exact (below_drewN (Below.refl _ _) k).trans ((below_grow (w.drewN k) os).mono (Nat.le_refl _))
 clear hw
 go_wp2_with fail
 go_ret
 exact ⟨rfl, hb⟩
end Go.Proofs.YtoaaogacaibedaaGreatDoor
namespace Go.Proofs.YtoaaogacaibedaaGreatDoor
open Go.RowKit
set_option maxRecDepth 100000
set_option linter.unusedVariables false
instance Tab.keeps : Keeps Tab := ⟨fun h x => x.below h⟩
def dbL (d : Db) : List UInt8 := d.name.data.toList ++ [58] ++ Lib.itoa d.size ++ [47] ++ Lib.itoa d.queue ++ [47] ++ Lib.itoa d.wait ++ [47] ++ Lib.itoa d.idle
def SmallDb (d : Db) : Prop := d.name.size ≤ 8 ∧ (0 ≤ d.size ∧ d.size ≤ 20) ∧ (0 ≤ d.queue ∧ d.queue ≤ 20) ∧ (0 ≤ d.wait ∧ d.wait ≤ 20) ∧ (0 ≤ d.idle ∧ d.idle ≤ 20)
theorem small_of {d : Db} (h : dbB d = true) : SmallDb d := by
 unfold dbB at h
 simp only [Bool.and_eq_true] at h
 obtain ⟨⟨⟨⟨h0, h1⟩, h2⟩, h3⟩, h4⟩ := h
 unfold nameB at h0
 simp only [Bool.and_eq_true] at h0
 have g0 := of_decide_eq_true h0.1
 have g1 := of_decide_eq_true h1
 have g2 := of_decide_eq_true h2
 have g3 := of_decide_eq_true h3
 have g4 := of_decide_eq_true h4
 have e : d.name.data.toList.length = d.name.size := by simp
 exact ⟨by omega, by omega, by omega, by omega, by omega⟩
theorem Tryz.infoStr : (Tryz.prog.info? 9).map (fun i => (i.zero, i.size, i.bytes)) = some (some (.string ⟨#[]⟩), 1, 16) := by kernel_rfl
def stR : Rep ByteArray := strR markText
theorem str_cells {w : World} {B b off n : Nat} {ts : List ByteArray} (h : Rep.RowsAt stR w B (some ⟨b, off, none⟩) n ts) : ∀ (j : Nat) (x : ByteArray), ts[j]? = some x → w.cell? ⟨b, off + j, none⟩ = some (.string x) ∧ b < B := by
 intro j x hx
 have hl := h.1
 have hj : j < n := by have := (List.getElem?_eq_some_iff.1 hx).1; omega
 obtain ⟨b', off', cs, y, hA, hb, hy, hat, hcell⟩ := h.elem hj (show 0 < 1 by omega)
 injection hA with hA
 injection hA with e1 e2 _
 subst e1 e2
 rw [hx] at hy
 injection hy with hy
 subst hy
 have hat' : cs = [.string x] := hat
 subst hat'
 have h2 := hcell 0 _ rfl
 have e : stR.size = 1 := rfl
 rw [e, Nat.mul_one, Nat.add_zero] at h2
 exact ⟨h2, hb⟩
theorem ret_ib {k' : IntKind} {b b' : Int} {c c' : Bool} (h2 : b = b') (h3 : c = c') : Ending.returned (.tuple #[.int k' b, .bool c]) = .returned (.tuple #[.int k' b', .bool c']) := by rw [h2, h3]
theorem ba_list (s : ByteArray) : s.toList = s.data.toList := by
 obtain ⟨⟨l⟩⟩ := s
 exact ByteArray.toList_mk l
theorem str_at (s : ByteArray) (k : Nat) (hk : k < s.size) : s.data.toList[k]? = some s[k] := by
 have h' : k < s.data.toList.length := by simpa using hk
 rw [List.getElem?_eq_getElem h']
 simp
 rfl
set_option maxHeartbeats 1000000 in
theorem parseNum_any (s : ByteArray) (most : Int) (w : World) (ht : Tab w) (hs : s.size ≤ 100000000) :
  Calls Tryz.prog 164 #[.string s, .int .i64 most] w fun e w' => e = .returned (.tuple #[.int .i64 (pnVal s.data.toList most), .bool (pnOk s.data.toList most)]) ∧ Below w.heap.size w w' := by
 have HT := Lib.hid ht
 clear ht
 by_cases hm : 65535 < most
 ·obtain ⟨e1, e2⟩ := pn_no (l := s.data.toList) (most := most) (fun h => by omega)
  have E1 := Lib.hid e1
  have E2 := Lib.hid e2
  clear e1 e2
  go_enter Tryz.func164, Tryz.ntmps164
  go_wp2
  go_ret2
  exact ⟨ret_ib E2.out.symm E1.out.symm, Below.refl _ _⟩
 ·by_cases h5 : 5 < s.size
  ·obtain ⟨e1, e2⟩ := pn_no (l := s.data.toList) (most := most) (fun h => by have := h.2.1; simp at this; omega)
   have E1 := Lib.hid e1
   have E2 := Lib.hid e2
   clear e1 e2
   go_enter Tryz.func164, Tryz.ntmps164
   go_wp2
   go_ret2
   exact ⟨ret_ib E2.out.symm E1.out.symm, Below.refl _ _⟩
  ·go_enter Tryz.func164, Tryz.ntmps164
   go_wp2
   go_loopw [6] (fun v wr => ∃ k : Nat, k ≤ s.size ∧ wr = w.iter s k ∧ v = .int .i64 (pnTo s.data.toList k : Nat) ∧ dgTo s.data.toList k) (fun _ wr => s.size - wr.iterPos w.heap.size)
   case atStart => exact ⟨0, by omega, rfl, rfl, dgTo_zero _⟩
   case round =>
    obtain ⟨k, hk, rfl, rfl, hdg⟩ := hrel
    have HD := Lib.hid hdg
    have hlt5 := dgTo_lt hdg (by simpa using hk)
    have hp5 : 10 ^ k ≤ 10 ^ 5 := Nat.pow_le_pow_right (by omega) (by omega)
    have hv5 : pnTo s.data.toList k < 100000 := by omega
    clear hdg hlt5 hp5
    by_cases hlt : k < s.size
    ·have HG := Lib.hid (str_at s k hlt)
     by_cases ha : s[k].toNat < 128
     ·have hnx := fun ty => run_next_ascii (P := Tryz.prog) w s k ty hlt ha
      by_cases hd : isDg s[k] = true
      ·have HS := Lib.hid (pnTo_succ HG.out)
       have HN := Lib.hid (dgTo_succ HD.out HG.out hd)
       have HV := Lib.hid (show dgVal s[k] = s[k].toNat - 48 from rfl)
       obtain ⟨b1, b2⟩ := isDg_bd hd
       have c1 : ¬ (s[k].toNat : Int) < 48 := by omega
       have c2 : ¬ 57 < (s[k].toNat : Int) := by omega
       clear hd HD
       go_wp2
       go_roundw
       case rel => exact ⟨k + 1, by omega, rfl, by rw [HS.out, HV.out]; go_num, HN.out⟩
       case measure => simp; omega
      ·have hdf : isDg s[k] = false := by simpa using hd
       obtain ⟨e1, e2⟩ := pn_no (l := s.data.toList) (most := most) (fun h => by rw [dg_bad HG.out hdf] at h; exact absurd h.2.2.2.2.1 (by simp))
       have E1 := Lib.hid e1
       have E2 := Lib.hid e2
       have hor : (s[k].toNat : Int) < 48 ∨ 57 < (s[k].toNat : Int) := by
        rcases Nat.lt_or_ge s[k].toNat 48 with h | h
        ·exact .inl (by omega)
        ·rcases Nat.lt_or_ge 57 s[k].toNat with h' | h'
         ·exact .inr (by omega)
         ·exact absurd (isDg_yes h h') hd
       clear e1 e2 hd hdf HD
       rcases hor with c1 | c1
       ·go_wp2
        go_ret2
        exact ⟨ret_ib E2.out.symm E1.out.symm, (Below.refl _ _).alloc (Nat.le_refl _) _⟩
       ·have c2 : ¬ (s[k].toNat : Int) < 48 := by omega
        go_wp2
        go_ret2
        exact ⟨ret_ib E2.out.symm E1.out.symm, (Below.refl _ _).alloc (Nat.le_refl _) _⟩
     ·have hnx := fun ty => run_next_any (P := Tryz.prog) w s k ty hlt
      have hhi := (decode_high s k hlt (by omega)).1
      obtain ⟨e1, e2⟩ := pn_no (l := s.data.toList) (most := most) (fun h => by rw [dg_bad HG.out (isDg_no (.inr (by omega)))] at h; exact absurd h.2.2.2.2.1 (by simp))
      have E1 := Lib.hid e1
      have E2 := Lib.hid e2
      have hle := decode_le s k
      obtain ⟨r, hr⟩ : ∃ r, (Utf8.decode s k).1 = r := ⟨_, rfl⟩
      rw [hr] at hhi hle hnx
      clear e1 e2 hr HD
      have c1 : ¬ (r : Int) < 48 := by omega
      have c2 : 57 < (r : Int) := by omega
      go_wp2
      go_ret2
      exact ⟨ret_ib E2.out.symm E1.out.symm, (Below.refl _ _).alloc (Nat.le_refl _) _⟩
    ·have he : k = s.size := by omega
     subst he
     have hnx := fun ty => run_next_end (P := Tryz.prog) w s s.size ty (by omega)
     have hl : s.data.toList.length = s.size := by simp
     have HA := Lib.hid (dgTo_all (l := s.data.toList) (by rw [hl]; exact HD.out))
     obtain ⟨n, hn⟩ : ∃ n, pnTo s.data.toList s.size = n := ⟨_, rfl⟩
     have HP := Lib.hid (show pnAcc s.data.toList = n by rw [← hn, ← pnTo_all, hl])
     rw [hn] at hv5
     rw [hn]
     clear hn HD hl
     have hW : Below w.heap.size w (w.iter s s.size) := (Below.refl _ _).alloc (Nat.le_refl _) _
     have HT2 := Lib.hid (HT.out.below hW)
     by_cases hmn : most < (n : Int)
     ·obtain ⟨e1, e2⟩ := pn_no (l := s.data.toList) (most := most) (fun h => by have := h.2.2.2.2.2; rw [HP.out] at this; omega)
      have E1 := Lib.hid e1
      have E2 := Lib.hid e2
      clear e1 e2
      go_wp2
      go_ret2
      exact ⟨ret_ib E2.out.symm E1.out.symm, hW⟩
     ·by_cases hz : s.data.toList ≠ [] ∧ (s.data.toList.length = 1 ∨ s.data.toList[0]? ≠ some 48)
      ·obtain ⟨z1, z2⟩ := hz
       have hdec := (dec_back _ HA.out z1 z2).1
       have hlen : 1 ≤ s.data.toList.length := List.length_pos_iff.2 z1
       obtain ⟨e1, e2⟩ := pn_yes (l := s.data.toList) (most := most) ⟨hlen, by simp; omega, by omega, z2, HA.out, by rw [HP.out]; omega⟩
       rw [HP.out] at hdec e2
       have E1 := Lib.hid e1
       have E2 := Lib.hid e2
       have HS := Lib.hid (show (⟨(Lib.itoa (n : Int)).toArray⟩ : ByteArray) = s by rw [Lib.itoa_nonneg, hdec])
       clear e1 e2 hdec z1 z2 hlen
       go_wp2_with fail
       refine (numText_any n (by omega) (by omega) _ HT2.out).mono ?_
       rw [HS.out]
       rintro e w1 ⟨rfl, hb⟩
       have hb' : Below w.heap.size w w1 := hW.trans (hb.mono hW.size)
       go_wp2_with fail
       go_ret2
       exact ⟨ret_ib E2.out.symm E1.out.symm, hb'⟩
      ·have hne : Lib.decDigits n ≠ s.data.toList := by
        intro e
        by_cases z1 : s.data.toList = []
        ·rw [z1] at e; exact dec_ne_nil n e
        ·refine hz ⟨z1, ?_⟩
         by_cases z2 : s.data.toList.length = 1
         ·exact .inl z2
         ·refine .inr fun z3 => dec_no ?_ z3 n e
          have := List.length_pos_iff.2 z1
          omega
       obtain ⟨e1, e2⟩ := pn_no (l := s.data.toList) (most := most) (fun h => hz ⟨fun z => by rw [z] at h; simp at h, h.2.2.2.1⟩)
       have E1 := Lib.hid e1
       have E2 := Lib.hid e2
       obtain ⟨t, et⟩ : ∃ t : ByteArray, (⟨(Lib.itoa (n : Int)).toArray⟩ : ByteArray) = t := ⟨_, rfl⟩
       have HX := Lib.hid et
       have hts : (t.toList == s.toList) = false := by
        rw [beq_eq_false_iff_ne]
        intro e
        rw [ba_list, ba_list, ← et, Lib.itoa_nonneg] at e
        exact hne e
       clear e1 e2 hz hne et
       go_wp2_with fail
       refine (numText_any n (by omega) (by omega) _ HT2.out).mono ?_
       rw [HX.out]
       rintro e w1 ⟨rfl, hb⟩
       have hb' : Below w.heap.size w w1 := hW.trans (hb.mono hW.size)
       go_wp2_with fail
       go_ret2
       exact ⟨ret_ib E2.out.symm E1.out.symm, hb'⟩
set_option maxHeartbeats 1000000 in
theorem parseNumS_any (s : ByteArray) (most : Int) (w : World) (hs : s.size ≤ 100000000) :
  Calls Tryz.prog 154 #[.string s, .int .i64 most] w fun e w' => e = .returned (.tuple #[.int .i64 (pnVal s.data.toList most), .bool (pnOk s.data.toList most)]) ∧ w = w' := by
 have hl : s.data.toList.length = s.size := by simp
 have HL := Lib.hid hl
 clear hl
 by_cases hz : s.size = 0
 ·have hzb : ((s.size : Int) == 0) = true := by rw [hz]; rfl
  obtain ⟨e1, e2⟩ := pn_no (l := s.data.toList) (most := most) (fun h => by have := h.1; rw [HL.out] at this; omega)
  have E1 := Lib.hid e1
  have E2 := Lib.hid e2
  clear e1 e2
  clear hz
  go_enter Tryz.func154, Tryz.ntmps154
  go_wp2
  go_ret2
  exact ⟨ret_ib E2.out.symm E1.out.symm, rfl⟩
 ·have hzb : ((s.size : Int) == 0) = false := by rw [beq_eq_false_iff_ne]; omega
  by_cases h5 : 5 < s.size
  ·obtain ⟨e1, e2⟩ := pn_no (l := s.data.toList) (most := most) (fun h => by have := h.2.1; rw [HL.out] at this; omega)
   have E1 := Lib.hid e1
   have E2 := Lib.hid e2
   clear e1 e2
   go_enter Tryz.func154, Tryz.ntmps154
   go_wp2
   go_ret2
   exact ⟨ret_ib E2.out.symm E1.out.symm, rfl⟩
  ·have h0s : 0 < s.size := by omega
   have HG0 := Lib.hid (str_at s 0 h0s)
   by_cases hlead : 1 < s.size ∧ s[0] = 48
   ·obtain ⟨g1, g2⟩ := hlead
    have gb : ((s[0].toNat : Int) == 48) = true := by rw [g2]; rfl
    obtain ⟨e1, e2⟩ := pn_lead (l := s.data.toList) (most := most) (by rw [HL.out]; exact g1) (by rw [HG0.out, g2])
    have E1 := Lib.hid e1
    have E2 := Lib.hid e2
    clear e1 e2
    clear g2
    go_enter Tryz.func154, Tryz.ntmps154
    go_wp2
    go_ret2
    exact ⟨ret_ib E2.out.symm E1.out.symm, rfl⟩
   ·have gb : 1 < s.size → ((s[0].toNat : Int) == 48) = false := by
     intro g1
     rw [beq_eq_false_iff_ne]
     intro e
     exact hlead ⟨g1, by rw [← UInt8.toNat_inj]; exact Int.ofNat_inj.1 e⟩
    have hor : s.size = 1 ∨ s.data.toList[0]? ≠ some 48 := by
     by_cases g1 : 1 < s.size
     ·refine .inr fun e => hlead ⟨g1, ?_⟩
      rw [HG0.out] at e
      injection e
     ·exact .inl (by omega)
    have HOR := Lib.hid hor
    clear hor hlead HG0
    by_cases hm : 65535 < most
    ·obtain ⟨e1, e2⟩ := pn_no (l := s.data.toList) (most := most) (fun h => by omega)
     have E1 := Lib.hid e1
     have E2 := Lib.hid e2
     clear e1 e2
     by_cases g1 : 1 < s.size
     ·have gc := gb g1
      clear gb
      go_enter Tryz.func154, Tryz.ntmps154
      go_wp2
      go_ret2
      exact ⟨ret_ib E2.out.symm E1.out.symm, rfl⟩
     ·clear gb
      go_enter Tryz.func154, Tryz.ntmps154
      go_wp2
      go_ret2
      exact ⟨ret_ib E2.out.symm E1.out.symm, rfl⟩
    ·by_cases g1 : 1 < s.size
     ·have gc := gb g1
      clear gb
      go_enter Tryz.func154, Tryz.ntmps154
      go_wp2
      go_loop [6, 7] (fun v i => ∃ k : Nat, k ≤ s.size ∧ i = .int .i64 k ∧ v = .int .i64 (pnTo s.data.toList k : Nat) ∧ dgTo s.data.toList k) (fun _ i => s.size - (intOf i).toNat)
      case atStart => exact ⟨0, by omega, rfl, rfl, dgTo_zero _⟩
      case round =>
       obtain ⟨k, hk, rfl, rfl, hdg⟩ := hrel
       have HD := Lib.hid hdg
       have hlt5 := dgTo_lt hdg (by simpa using hk)
       have hp5 : 10 ^ k ≤ 10 ^ 5 := Nat.pow_le_pow_right (by omega) (by omega)
       have hv5 : pnTo s.data.toList k < 100000 := by omega
       clear hdg hlt5 hp5
       by_cases hlt : k < s.size
       ·have hb256 : s[k].toNat < 256 := s[k].toNat_lt
        have HG := Lib.hid (str_at s k hlt)
        by_cases hd : isDg s[k] = true
        ·have HS := Lib.hid (pnTo_succ HG.out)
         have HN := Lib.hid (dgTo_succ HD.out HG.out hd)
         have HV := Lib.hid (show dgVal s[k] = s[k].toNat - 48 from rfl)
         obtain ⟨b1, b2⟩ := isDg_bd hd
         have c1 : (48 : Int) ≤ (s[k].toNat : Int) := by omega
         have c2 : (s[k].toNat : Int) ≤ 57 := by omega
         clear hd HD
         go_wp2
         go_round
         case rel => exact ⟨k + 1, by omega, by go_num, by rw [HS.out, HV.out]; go_num, HN.out⟩
         case measure => simp [intOf]; omega
        ·have hdf : isDg s[k] = false := by simpa using hd
         obtain ⟨e1, e2⟩ := pn_digit (most := most) HG.out hdf
         have E1 := Lib.hid e1
         have E2 := Lib.hid e2
         have hor : ¬ (48 : Int) ≤ (s[k].toNat : Int) ∨ ¬ (s[k].toNat : Int) ≤ 57 := by
          rcases Nat.lt_or_ge s[k].toNat 48 with h | h
          ·exact .inl (by omega)
          ·rcases Nat.lt_or_ge 57 s[k].toNat with h' | h'
           ·exact .inr (by omega)
           ·exact absurd (isDg_yes h h') hd
         clear e1 e2 hd hdf HD
         rcases hor with c1 | c1
         ·go_wp2
          go_ret2
          exact ⟨ret_ib E2.out.symm E1.out.symm, rfl⟩
         ·have c2 : (48 : Int) ≤ (s[k].toNat : Int) := by omega
          go_wp2
          go_ret2
          exact ⟨ret_ib E2.out.symm E1.out.symm, rfl⟩
       ·have he : k = s.size := by omega
        subst he
        have HA := Lib.hid (dgTo_all (l := s.data.toList) (by rw [HL.out]; exact HD.out))
        obtain ⟨n, hn⟩ : ∃ n, pnTo s.data.toList s.size = n := ⟨_, rfl⟩
        have HP := Lib.hid (show pnAcc s.data.toList = n by rw [← hn, ← pnTo_all, HL.out])
        rw [hn] at hv5
        rw [hn]
        clear hn HD
        by_cases hmn : most < (n : Int)
        ·obtain ⟨e1, e2⟩ := pn_no (l := s.data.toList) (most := most) (fun h => by have := h.2.2.2.2.2; rw [HP.out] at this; omega)
         have E1 := Lib.hid e1
         have E2 := Lib.hid e2
         clear e1 e2
         go_wp2
         go_ret2
         exact ⟨ret_ib E2.out.symm E1.out.symm, rfl⟩
        ·obtain ⟨e1, e2⟩ := pn_yes (l := s.data.toList) (most := most) ⟨by rw [HL.out]; omega, by rw [HL.out]; omega, by omega, by rw [HL.out]; exact HOR.out, HA.out, by rw [HP.out]; omega⟩
         rw [HP.out] at e2
         have E1 := Lib.hid e1
         have E2 := Lib.hid e2
         clear e1 e2
         go_wp2
         go_ret2
         exact ⟨ret_ib E2.out.symm E1.out.symm, rfl⟩
     ·clear gb
      go_enter Tryz.func154, Tryz.ntmps154
      go_wp2
      go_loop [6, 7] (fun v i => ∃ k : Nat, k ≤ s.size ∧ i = .int .i64 k ∧ v = .int .i64 (pnTo s.data.toList k : Nat) ∧ dgTo s.data.toList k) (fun _ i => s.size - (intOf i).toNat)
      case atStart => exact ⟨0, by omega, rfl, rfl, dgTo_zero _⟩
      case round =>
       obtain ⟨k, hk, rfl, rfl, hdg⟩ := hrel
       have HD := Lib.hid hdg
       have hlt5 := dgTo_lt hdg (by simpa using hk)
       have hp5 : 10 ^ k ≤ 10 ^ 5 := Nat.pow_le_pow_right (by omega) (by omega)
       have hv5 : pnTo s.data.toList k < 100000 := by omega
       clear hdg hlt5 hp5
       by_cases hlt : k < s.size
       ·have hb256 : s[k].toNat < 256 := s[k].toNat_lt
        have HG := Lib.hid (str_at s k hlt)
        by_cases hd : isDg s[k] = true
        ·have HS := Lib.hid (pnTo_succ HG.out)
         have HN := Lib.hid (dgTo_succ HD.out HG.out hd)
         have HV := Lib.hid (show dgVal s[k] = s[k].toNat - 48 from rfl)
         obtain ⟨b1, b2⟩ := isDg_bd hd
         have c1 : (48 : Int) ≤ (s[k].toNat : Int) := by omega
         have c2 : (s[k].toNat : Int) ≤ 57 := by omega
         clear hd HD
         go_wp2
         go_round
         case rel => exact ⟨k + 1, by omega, by go_num, by rw [HS.out, HV.out]; go_num, HN.out⟩
         case measure => simp [intOf]; omega
        ·have hdf : isDg s[k] = false := by simpa using hd
         obtain ⟨e1, e2⟩ := pn_digit (most := most) HG.out hdf
         have E1 := Lib.hid e1
         have E2 := Lib.hid e2
         have hor : ¬ (48 : Int) ≤ (s[k].toNat : Int) ∨ ¬ (s[k].toNat : Int) ≤ 57 := by
          rcases Nat.lt_or_ge s[k].toNat 48 with h | h
          ·exact .inl (by omega)
          ·rcases Nat.lt_or_ge 57 s[k].toNat with h' | h'
           ·exact .inr (by omega)
           ·exact absurd (isDg_yes h h') hd
         clear e1 e2 hd hdf HD
         rcases hor with c1 | c1
         ·go_wp2
          go_ret2
          exact ⟨ret_ib E2.out.symm E1.out.symm, rfl⟩
         ·have c2 : (48 : Int) ≤ (s[k].toNat : Int) := by omega
          go_wp2
          go_ret2
          exact ⟨ret_ib E2.out.symm E1.out.symm, rfl⟩
       ·have he : k = s.size := by omega
        subst he
        have HA := Lib.hid (dgTo_all (l := s.data.toList) (by rw [HL.out]; exact HD.out))
        obtain ⟨n, hn⟩ : ∃ n, pnTo s.data.toList s.size = n := ⟨_, rfl⟩
        have HP := Lib.hid (show pnAcc s.data.toList = n by rw [← hn, ← pnTo_all, HL.out])
        rw [hn] at hv5
        rw [hn]
        clear hn HD
        by_cases hmn : most < (n : Int)
        ·obtain ⟨e1, e2⟩ := pn_no (l := s.data.toList) (most := most) (fun h => by have := h.2.2.2.2.2; rw [HP.out] at this; omega)
         have E1 := Lib.hid e1
         have E2 := Lib.hid e2
         clear e1 e2
         go_wp2
         go_ret2
         exact ⟨ret_ib E2.out.symm E1.out.symm, rfl⟩
        ·obtain ⟨e1, e2⟩ := pn_yes (l := s.data.toList) (most := most) ⟨by rw [HL.out]; omega, by rw [HL.out]; omega, by omega, by rw [HL.out]; exact HOR.out, HA.out, by rw [HP.out]; omega⟩
         rw [HP.out] at e2
         have E1 := Lib.hid e1
         have E2 := Lib.hid e2
         clear e1 e2
         go_wp2
         go_ret2
         exact ⟨ret_ib E2.out.symm E1.out.symm, rfl⟩
end Go.Proofs.YtoaaogacaibedaaGreatDoor
