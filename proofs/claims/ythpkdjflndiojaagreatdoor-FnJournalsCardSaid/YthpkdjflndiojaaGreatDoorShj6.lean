/- What the theorem needs, out of many texts. -/
import Derived.Test.YthpkdjflndiojaaGreatDoorShj5
set_option maxHeartbeats 20000000
namespace Go.Proofs.YthpkdjflndiojaaGreatDoor
open Go.RowKit
set_option maxRecDepth 100000
theorem Bx9 {k' : IntKind} {b b' : Int} {c c' : Bool} (h2 : b = b') (h3 : c = c') : Ending.returned (.tuple #[.int k' b,.bool c]) = .returned (.tuple #[.int k' b',.bool c']):=by rw [h2,h3]
theorem Ac8 (s : ByteArray) : s.toList = s.data.toList:=by
 obtain ⟨⟨l⟩⟩:=s;exact ByteArray.toList_mk l
theorem Jz9 (s : ByteArray) (k : Nat) (hk : k < s.size) : s.data.toList[k]? = some s[k]:=by
 have h' : k < s.data.toList.length:=by simpa using hk
 rw [List.getElem?_eq_getElem h'];simp;rfl
theorem Ta9 (s : ByteArray) (most : Int) (w : World) (ht : Tab w) (hs : s.size ≤ 100000000) :
 Calls Tryz.prog 130 #[.string s,.int .i64 most] w fun e w' => e = .returned (.tuple #[.int .i64 (R8 s.data.toList most),.bool (Bc9 s.data.toList most)])∧Below w.heap.size w w':=by
 have HT:=Lib.hid ht;clear ht;by_cases hm : 65535 < most
 ·obtain ⟨e1,e2⟩:=Gf9 (l:=s.data.toList) (most:=most) (fun h => by omega)
  have E1:=Lib.hid e1;have E2:=Lib.hid e2;clear e1 e2;go_enter Tryz.func130,Tryz.ntmps130
  go_wp2
  go_ret2
  exact ⟨Bx9 E2.out.symm E1.out.symm,Below.refl _ _⟩
 ·by_cases h5 : 5 < s.size
  ·obtain ⟨e1,e2⟩:=Gf9 (l:=s.data.toList) (most:=most) (fun h => by have:=h.2.1;simp at this;omega)
   have E1:=Lib.hid e1;have E2:=Lib.hid e2;clear e1 e2;go_enter Tryz.func130,Tryz.ntmps130
   go_wp2
   go_ret2
   exact ⟨Bx9 E2.out.symm E1.out.symm,Below.refl _ _⟩
  ·go_enter Tryz.func130,Tryz.ntmps130
   go_wp2
   go_loopw [6] (fun v wr => ∃ k : Nat,k ≤ s.size∧wr = w.iter s k∧v = .int .i64 (Kf9 s.data.toList k : Nat)∧Qa9 s.data.toList k) (fun _ wr => s.size - wr.iterPos w.heap.size)
   case atStart => exact ⟨0,by omega,rfl,rfl,Mu9 _⟩
   case round =>
       obtain ⟨k,hk,rfl,rfl,hdg⟩:=hrel;have HD:=Lib.hid hdg;have hlt5:=Tw9 hdg (by simpa using hk)
       have hp5 : 10 ^ k ≤ 10 ^ 5:=Nat.pow_le_pow_right (by omega) (by omega)
       have hv5 : Kf9 s.data.toList k < 100000:=by omega
       clear hdg hlt5 hp5;by_cases hlt : k < s.size
       ·have HG:=Lib.hid (Jz9 s k hlt)
        by_cases ha : s[k].toNat < 128
        ·have hnx:=fun ty => run_next_ascii (P:=Tryz.prog) w s k ty hlt ha
         by_cases hd : Dv9 s[k] = true
         ·have HS:=Lib.hid (Ml9 HG.out)
          have HN:=Lib.hid (Mv9 HD.out HG.out hd);have HV:=Lib.hid (show Fd9 s[k] = s[k].toNat - 48 from rfl)
          obtain ⟨b1,b2⟩:=Gj9 hd;have c1 : ¬ (s[k].toNat : Int) < 48:=by omega
          have c2 : ¬ 57 < (s[k].toNat : Int):=by omega
          clear hd HD;go_wp2
          go_roundw
          case rel => exact ⟨k + 1,by omega,rfl,by rw [HS.out,HV.out];go_num,HN.out⟩
          case measure => simp;omega
         ·have hdf : Dv9 s[k] = false:=by simpa using hd
          obtain ⟨e1,e2⟩:=Gf9 (l:=s.data.toList) (most:=most) (fun h => by rw [Yn9 HG.out hdf] at h;exact absurd h.2.2.2.2.1 (by simp))
          have E1:=Lib.hid e1;have E2:=Lib.hid e2
          have hor : (s[k].toNat : Int) < 48 ∨ 57 < (s[k].toNat : Int) := by
               rcases Nat.lt_or_ge s[k].toNat 48 with h | h
               ·exact .inl (by omega)
               ·rcases Nat.lt_or_ge 57 s[k].toNat with h' | h'
                ·exact .inr (by omega)
                ·exact absurd (Lt9 h h') hd
          clear e1 e2 hd hdf HD;rcases hor with c1 | c1
          ·go_wp2
           go_ret2
           exact ⟨Bx9 E2.out.symm E1.out.symm,(Below.refl _ _).alloc (Nat.le_refl _) _⟩
          ·have c2 : ¬ (s[k].toNat : Int) < 48:=by omega
           go_wp2
           go_ret2
           exact ⟨Bx9 E2.out.symm E1.out.symm,(Below.refl _ _).alloc (Nat.le_refl _) _⟩
        ·have hnx:=fun ty => run_next_any (P:=Tryz.prog) w s k ty hlt
         have hhi:=(decode_high s k hlt (by omega)).1
         obtain ⟨e1,e2⟩:=Gf9 (l:=s.data.toList) (most:=most) (fun h => by rw [Yn9 HG.out (isDg_no (.inr (by omega)))] at h;exact absurd h.2.2.2.2.1 (by simp))
         have E1:=Lib.hid e1;have E2:=Lib.hid e2;have hle:=decode_le s k;obtain ⟨r,hr⟩ : ∃ r,(Utf8.decode s k).1 = r:=⟨_,rfl⟩;rw [hr] at hhi hle hnx;clear e1 e2 hr HD;have c1 : ¬ (r : Int) < 48:=by omega
         have c2 : 57 < (r : Int):=by omega
         go_wp2
         go_ret2
         exact ⟨Bx9 E2.out.symm E1.out.symm,(Below.refl _ _).alloc (Nat.le_refl _) _⟩
       ·have he : k = s.size:=by omega
        subst he;have hnx:=fun ty => run_next_end (P:=Tryz.prog) w s s.size ty (by omega)
        have hl : s.data.toList.length = s.size:=by simp
        have HA:=Lib.hid (Pz9 (l:=s.data.toList) (by rw [hl];exact HD.out))
        obtain ⟨n,hn⟩ : ∃ n,Kf9 s.data.toList s.size = n:=⟨_,rfl⟩;have HP:=Lib.hid (show De9 s.data.toList = n by rw [← hn,← Ot9,hl])
        rw [hn] at hv5;rw [hn];clear hn HD hl;have hW : Below w.heap.size w (w.iter s s.size):=(Below.refl _ _).alloc (Nat.le_refl _) _;have HT2:=Lib.hid (HT.out.below hW);by_cases hmn : most < (n : Int)
        ·obtain ⟨e1,e2⟩:=Gf9 (l:=s.data.toList) (most:=most) (fun h => by have:=h.2.2.2.2.2;rw [HP.out] at this;omega)
         have E1:=Lib.hid e1;have E2:=Lib.hid e2;clear e1 e2;go_wp2
         go_ret2
         exact ⟨Bx9 E2.out.symm E1.out.symm,hW⟩
        ·by_cases hz : s.data.toList ≠ []∧(s.data.toList.length = 1 ∨ s.data.toList[0]? ≠ some 48)
         ·obtain ⟨z1,z2⟩:=hz
          have hdec:=(Wk9 _ HA.out z1 z2).1;have hlen : 1 ≤ s.data.toList.length:=List.length_pos_iff.2 z1;obtain ⟨e1,e2⟩:=Or9 (l:=s.data.toList) (most:=most) ⟨hlen,by simp;omega,by omega,z2,HA.out,by rw [HP.out];omega⟩
          rw [HP.out] at hdec e2;have E1:=Lib.hid e1;have E2:=Lib.hid e2;have HS:=Lib.hid (show (⟨(Lib.itoa (n : Int)).toArray⟩ : ByteArray) = s by rw [Lib.itoa_nonneg,hdec])
          clear e1 e2 hdec z1 z2 hlen;go_wp2_with fail;refine (Ng9 n (by omega) (by omega) _ HT2.out).mono ?_
          rw [HS.out];rintro e w1 ⟨rfl,hb⟩;have hb' : Below w.heap.size w w1:=hW.trans (hb.mono hW.size);go_wp2_with fail;go_ret2
          exact ⟨Bx9 E2.out.symm E1.out.symm,hb'⟩
         ·have hne : Lib.decDigits n ≠ s.data.toList := by
              intro e;by_cases z1 : s.data.toList = []
              ·rw [z1] at e;exact Kq9 n e
              ·refine hz ⟨z1,?_⟩
               by_cases z2 : s.data.toList.length = 1
               ·exact .inl z2
               ·refine .inr fun z3 => dec_no ?_ z3 n e
                have:=List.length_pos_iff.2 z1;omega
          obtain ⟨e1,e2⟩:=Gf9 (l:=s.data.toList) (most:=most) (fun h => hz ⟨fun z => by rw [z] at h;simp at h,h.2.2.2.1⟩)
          have E1:=Lib.hid e1;have E2:=Lib.hid e2;obtain ⟨t,et⟩ : ∃ t : ByteArray,(⟨(Lib.itoa (n : Int)).toArray⟩ : ByteArray) = t:=⟨_,rfl⟩;have HX:=Lib.hid et
          have hts : (t.toList == s.toList) = false := by
              rw [beq_eq_false_iff_ne];intro e;rw [Ac8,Ac8,← et,Lib.itoa_nonneg] at e;exact hne e
          clear e1 e2 hz hne et;go_wp2_with fail;refine (Ng9 n (by omega) (by omega) _ HT2.out).mono ?_
          rw [HX.out];rintro e w1 ⟨rfl,hb⟩;have hb' : Below w.heap.size w w1:=hW.trans (hb.mono hW.size);go_wp2_with fail;go_ret2
          exact ⟨Bx9 E2.out.symm E1.out.symm,hb'⟩
theorem Qv9 (s : ByteArray) (most : Int) (w : World) (hs : s.size ≤ 100000000) :
 Calls Tryz.prog 119 #[.string s,.int .i64 most] w fun e w' => e = .returned (.tuple #[.int .i64 (R8 s.data.toList most),.bool (Bc9 s.data.toList most)])∧w = w':=by
 have hl : s.data.toList.length = s.size:=by simp
 have HL:=Lib.hid hl;clear hl;by_cases hz : s.size = 0
 ·have hzb : ((s.size : Int) == 0) = true:=by rw [hz];rfl
  obtain ⟨e1,e2⟩:=Gf9 (l:=s.data.toList) (most:=most) (fun h => by have:=h.1;rw [HL.out] at this;omega)
  have E1:=Lib.hid e1;have E2:=Lib.hid e2;clear e1 e2;clear hz;go_enter Tryz.func119,Tryz.ntmps119
  go_wp2
  go_ret2
  exact ⟨Bx9 E2.out.symm E1.out.symm,rfl⟩
 ·have hzb : ((s.size : Int) == 0) = false:=by rw [beq_eq_false_iff_ne];omega
  by_cases h5 : 5 < s.size
  ·obtain ⟨e1,e2⟩:=Gf9 (l:=s.data.toList) (most:=most) (fun h => by have:=h.2.1;rw [HL.out] at this;omega)
   have E1:=Lib.hid e1;have E2:=Lib.hid e2;clear e1 e2;go_enter Tryz.func119,Tryz.ntmps119
   go_wp2
   go_ret2
   exact ⟨Bx9 E2.out.symm E1.out.symm,rfl⟩
  ·have h0s : 0 < s.size:=by omega
   have HG0:=Lib.hid (Jz9 s 0 h0s);by_cases hlead : 1 < s.size∧s[0] = 48
   ·obtain ⟨g1,g2⟩:=hlead
    have gb : ((s[0].toNat : Int) == 48) = true:=by rw [g2];rfl
    obtain ⟨e1,e2⟩:=pn_lead (l:=s.data.toList) (most:=most) (by rw [HL.out];exact g1) (by rw [HG0.out,g2])
    have E1:=Lib.hid e1;have E2:=Lib.hid e2;clear e1 e2;clear g2;go_enter Tryz.func119,Tryz.ntmps119
    go_wp2
    go_ret2
    exact ⟨Bx9 E2.out.symm E1.out.symm,rfl⟩
   ·have gb : 1 < s.size → ((s[0].toNat : Int) == 48) = false := by
         intro g1;rw [beq_eq_false_iff_ne];intro e;exact hlead ⟨g1,by rw [← UInt8.toNat_inj];exact Int.ofNat_inj.1 e⟩
    have hor : s.size = 1 ∨ s.data.toList[0]? ≠ some 48 := by
         by_cases g1 : 1 < s.size
         ·refine .inr fun e => hlead ⟨g1,?_⟩
          rw [HG0.out] at e;injection e
         ·exact .inl (by omega)
    have HOR:=Lib.hid hor;clear hor hlead HG0;by_cases hm : 65535 < most
    ·obtain ⟨e1,e2⟩:=Gf9 (l:=s.data.toList) (most:=most) (fun h => by omega)
     have E1:=Lib.hid e1;have E2:=Lib.hid e2;clear e1 e2;by_cases g1 : 1 < s.size
     ·have gc:=gb g1
      clear gb;go_enter Tryz.func119,Tryz.ntmps119
      go_wp2
      go_ret2
      exact ⟨Bx9 E2.out.symm E1.out.symm,rfl⟩
     ·clear gb
      go_enter Tryz.func119,Tryz.ntmps119
      go_wp2
      go_ret2
      exact ⟨Bx9 E2.out.symm E1.out.symm,rfl⟩
    ·by_cases g1 : 1 < s.size
     ·have gc:=gb g1
      clear gb;go_enter Tryz.func119,Tryz.ntmps119
      go_wp2
      go_loop [6,7] (fun v i => ∃ k : Nat,k ≤ s.size∧i = .int .i64 k∧v = .int .i64 (Kf9 s.data.toList k : Nat)∧Qa9 s.data.toList k) (fun _ i => s.size - (intOf i).toNat)
      case atStart => exact ⟨0,by omega,rfl,rfl,Mu9 _⟩
      case round =>
          obtain ⟨k,hk,rfl,rfl,hdg⟩:=hrel;have HD:=Lib.hid hdg;have hlt5:=Tw9 hdg (by simpa using hk)
          have hp5 : 10 ^ k ≤ 10 ^ 5:=Nat.pow_le_pow_right (by omega) (by omega)
          have hv5 : Kf9 s.data.toList k < 100000:=by omega
          clear hdg hlt5 hp5;by_cases hlt : k < s.size
          ·have hb256 : s[k].toNat < 256:=s[k].toNat_lt
           have HG:=Lib.hid (Jz9 s k hlt);by_cases hd : Dv9 s[k] = true
           ·have HS:=Lib.hid (Ml9 HG.out)
            have HN:=Lib.hid (Mv9 HD.out HG.out hd);have HV:=Lib.hid (show Fd9 s[k] = s[k].toNat - 48 from rfl)
            obtain ⟨b1,b2⟩:=Gj9 hd;have c1 : (48 : Int) ≤ (s[k].toNat : Int):=by omega
            have c2 : (s[k].toNat : Int) ≤ 57:=by omega
            clear hd HD;go_wp2
            go_round
            case rel => exact ⟨k + 1,by omega,by go_num,by rw [HS.out,HV.out];go_num,HN.out⟩
            case measure => simp [intOf];omega
           ·have hdf : Dv9 s[k] = false:=by simpa using hd
            obtain ⟨e1,e2⟩:=Os9 (most:=most) HG.out hdf;have E1:=Lib.hid e1;have E2:=Lib.hid e2
            have hor : ¬ (48 : Int) ≤ (s[k].toNat : Int) ∨ ¬ (s[k].toNat : Int) ≤ 57 := by
                rcases Nat.lt_or_ge s[k].toNat 48 with h | h
                ·exact .inl (by omega)
                ·rcases Nat.lt_or_ge 57 s[k].toNat with h' | h'
                 ·exact .inr (by omega)
                 ·exact absurd (Lt9 h h') hd
            clear e1 e2 hd hdf HD;rcases hor with c1 | c1
            ·go_wp2
             go_ret2
             exact ⟨Bx9 E2.out.symm E1.out.symm,rfl⟩
            ·have c2 : (48 : Int) ≤ (s[k].toNat : Int):=by omega
             go_wp2
             go_ret2
             exact ⟨Bx9 E2.out.symm E1.out.symm,rfl⟩
          ·have he : k = s.size:=by omega
           subst he;have HA:=Lib.hid (Pz9 (l:=s.data.toList) (by rw [HL.out];exact HD.out))
           obtain ⟨n,hn⟩ : ∃ n,Kf9 s.data.toList s.size = n:=⟨_,rfl⟩;have HP:=Lib.hid (show De9 s.data.toList = n by rw [← hn,← Ot9,HL.out])
           rw [hn] at hv5;rw [hn];clear hn HD;by_cases hmn : most < (n : Int)
           ·obtain ⟨e1,e2⟩:=Gf9 (l:=s.data.toList) (most:=most) (fun h => by have:=h.2.2.2.2.2;rw [HP.out] at this;omega)
            have E1:=Lib.hid e1;have E2:=Lib.hid e2;clear e1 e2;go_wp2
            go_ret2
            exact ⟨Bx9 E2.out.symm E1.out.symm,rfl⟩
           ·obtain ⟨e1,e2⟩:=Or9 (l:=s.data.toList) (most:=most) ⟨by rw [HL.out];omega,by rw [HL.out];omega,by omega,by rw [HL.out];exact HOR.out,HA.out,by rw [HP.out];omega⟩
            rw [HP.out] at e2;have E1:=Lib.hid e1;have E2:=Lib.hid e2;clear e1 e2;go_wp2
            go_ret2
            exact ⟨Bx9 E2.out.symm E1.out.symm,rfl⟩
     ·clear gb
      go_enter Tryz.func119,Tryz.ntmps119
      go_wp2
      go_loop [6,7] (fun v i => ∃ k : Nat,k ≤ s.size∧i = .int .i64 k∧v = .int .i64 (Kf9 s.data.toList k : Nat)∧Qa9 s.data.toList k) (fun _ i => s.size - (intOf i).toNat)
      case atStart => exact ⟨0,by omega,rfl,rfl,Mu9 _⟩
      case round =>
          obtain ⟨k,hk,rfl,rfl,hdg⟩:=hrel;have HD:=Lib.hid hdg;have hlt5:=Tw9 hdg (by simpa using hk)
          have hp5 : 10 ^ k ≤ 10 ^ 5:=Nat.pow_le_pow_right (by omega) (by omega)
          have hv5 : Kf9 s.data.toList k < 100000:=by omega
          clear hdg hlt5 hp5;by_cases hlt : k < s.size
          ·have hb256 : s[k].toNat < 256:=s[k].toNat_lt
           have HG:=Lib.hid (Jz9 s k hlt);by_cases hd : Dv9 s[k] = true
           ·have HS:=Lib.hid (Ml9 HG.out)
            have HN:=Lib.hid (Mv9 HD.out HG.out hd);have HV:=Lib.hid (show Fd9 s[k] = s[k].toNat - 48 from rfl)
            obtain ⟨b1,b2⟩:=Gj9 hd;have c1 : (48 : Int) ≤ (s[k].toNat : Int):=by omega
            have c2 : (s[k].toNat : Int) ≤ 57:=by omega
            clear hd HD;go_wp2
            go_round
            case rel => exact ⟨k + 1,by omega,by go_num,by rw [HS.out,HV.out];go_num,HN.out⟩
            case measure => simp [intOf];omega
           ·have hdf : Dv9 s[k] = false:=by simpa using hd
            obtain ⟨e1,e2⟩:=Os9 (most:=most) HG.out hdf;have E1:=Lib.hid e1;have E2:=Lib.hid e2
            have hor : ¬ (48 : Int) ≤ (s[k].toNat : Int) ∨ ¬ (s[k].toNat : Int) ≤ 57 := by
                rcases Nat.lt_or_ge s[k].toNat 48 with h | h
                ·exact .inl (by omega)
                ·rcases Nat.lt_or_ge 57 s[k].toNat with h' | h'
                 ·exact .inr (by omega)
                 ·exact absurd (Lt9 h h') hd
            clear e1 e2 hd hdf HD;rcases hor with c1 | c1
            ·go_wp2
             go_ret2
             exact ⟨Bx9 E2.out.symm E1.out.symm,rfl⟩
            ·have c2 : (48 : Int) ≤ (s[k].toNat : Int):=by omega
             go_wp2
             go_ret2
             exact ⟨Bx9 E2.out.symm E1.out.symm,rfl⟩
          ·have he : k = s.size:=by omega
           subst he;have HA:=Lib.hid (Pz9 (l:=s.data.toList) (by rw [HL.out];exact HD.out))
           obtain ⟨n,hn⟩ : ∃ n,Kf9 s.data.toList s.size = n:=⟨_,rfl⟩;have HP:=Lib.hid (show De9 s.data.toList = n by rw [← hn,← Ot9,HL.out])
           rw [hn] at hv5;rw [hn];clear hn HD;by_cases hmn : most < (n : Int)
           ·obtain ⟨e1,e2⟩:=Gf9 (l:=s.data.toList) (most:=most) (fun h => by have:=h.2.2.2.2.2;rw [HP.out] at this;omega)
            have E1:=Lib.hid e1;have E2:=Lib.hid e2;clear e1 e2;go_wp2
            go_ret2
            exact ⟨Bx9 E2.out.symm E1.out.symm,rfl⟩
           ·obtain ⟨e1,e2⟩:=Or9 (l:=s.data.toList) (most:=most) ⟨by rw [HL.out];omega,by rw [HL.out];omega,by omega,by rw [HL.out];exact HOR.out,HA.out,by rw [HP.out];omega⟩
            rw [HP.out] at e2;have E1:=Lib.hid e1;have E2:=Lib.hid e2;clear e1 e2;go_wp2
            go_ret2
            exact ⟨Bx9 E2.out.symm E1.out.symm,rfl⟩
end Go.Proofs.YthpkdjflndiojaaGreatDoor
namespace Go.Proofs.YthpkdjflndiojaaGreatDoor
open Go.RowKit
set_option maxRecDepth 100000
set_option linter.unusedVariables false
def SplitTo (c : UInt8) (l : List UInt8) (k f : Nat) (L : List (List UInt8)) : Prop:=
 f ≤ k∧O8 c [] l = if k ≤ l.length then L ++ O8 c ((l.drop f).take (k - f)) (l.drop k) else L
theorem SplitTo.zero (c : UInt8) (l : List UInt8) : SplitTo c l 0 0 []:=⟨Nat.le_refl _,by simp⟩
theorem SplitTo.cut {c : UInt8} {l : List UInt8} {k f : Nat} {L : List (List UInt8)} (h : SplitTo c l k f L) (hk : l[k]? = some c) : SplitTo c l (k + 1) (k + 1) (L ++ [(l.drop f).take (k - f)]):=by
 have hlt:=(List.getElem?_eq_some_iff.1 hk).1;obtain ⟨h1,h2⟩:=h;refine ⟨Nat.le_refl _,?_⟩;rw [if_pos (by omega)] at h2 ⊢
 have e : l.drop k = c :: l.drop (k + 1):=by
  rw [List.drop_eq_getElem_cons hlt,(List.getElem?_eq_some_iff.1 hk).2]
 rw [h2,e,Dq9,if_pos rfl];simp
theorem SplitTo.skip {c b : UInt8} {l : List UInt8} {k f : Nat} {L : List (List UInt8)} (h : SplitTo c l k f L) (hk : l[k]? = some b) (hb : b ≠ c) : SplitTo c l (k + 1) f L:=by
 have hlt:=(List.getElem?_eq_some_iff.1 hk).1;obtain ⟨h1,h2⟩:=h;refine ⟨by omega,?_⟩
 rw [if_pos (by omega)] at h2 ⊢
 have e : l.drop k = b :: l.drop (k + 1):=by
  rw [List.drop_eq_getElem_cons hlt,(List.getElem?_eq_some_iff.1 hk).2]
 rw [h2,e,Dq9,if_neg hb];have e2 : (l.drop f).take (k + 1 - f) = (l.drop f).take (k - f) ++ [b]:=by
  rw [show k + 1 - f = (k - f) + 1 by omega,List.take_add_one,List.getElem?_drop,show f + (k - f) = k by omega,hk]
  rfl
 rw [e2]
theorem SplitTo.last {c : UInt8} {l : List UInt8} {f : Nat} {L : List (List UInt8)} (h : SplitTo c l l.length f L) : SplitTo c l (l.length + 1) (l.length + 1) (L ++ [(l.drop f).take (l.length - f)]):=by
 obtain ⟨h1,h2⟩:=h;refine ⟨by omega,?_⟩
 rw [if_pos (Nat.le_refl _)] at h2;rw [if_neg (by omega),h2]
 simp [O8]
theorem Bu9 (s : ByteArray) (a b : Nat) : (s.extract a b).data.toList = (s.data.toList.drop a).take (b - a):=by
 rw [ByteArray.data_extract,Array.toList_extract,List.extract_eq_take_drop]
theorem Tc9 {α : Type} {R : Rep α} {e : TypeId} {w : World} {base : Nat} {A : Option Addr} {n c : Nat} {xs : List α} {fp : List Nat} (h : Rep.OwnRows R e w base (.slice A n c) xs fp) : ∀ b off,A = some ⟨b,off,none⟩→base ≤ b:=by
 obtain ⟨cells,fps,ho,hl,he,hf,hn⟩:=h;intro b off hA;rcases ho.2 with ⟨h1,h0⟩ | ⟨g,cap,cur,h1,hb,hg,hnc,hcm,_,_⟩
 ·injection h1 with h1 _ _
  rw [h1] at hA;cases hA
 ·injection h1 with h1 _ _
  rw [h1] at hA;injection hA with hA;injection hA with hA _ _;omega
def RetStrs (w : World) (l : List (List UInt8)) (e : Ending) (w' : World) : Prop:=
 ∃ A c xs,e = .returned (.slice A xs.length c)∧xs.map (fun x => x.data.toList) = l∧Rep.RowsAt stR w' w'.heap.size A xs.length xs∧xs.length ≤ maxLen∧(∀ b off,A = some ⟨b,off,none⟩→w.heap.size ≤ b)∧Below w.heap.size w w'
theorem Co8 {α : Type} (w : World) (e : TypeId) (R : Rep α) (h0 : 0 < R.size) : Rep.OwnRows R e (w.alloc (.cells #[] e)) w.heap.size (.slice (some ⟨w.heap.size,0,none⟩) 0 0) [] [w.heap.size]:=
 ⟨[],[],by simpa using Rep.lit_empty w e R.size rfl,rfl,fun i x f hx => by simp at hx,rfl,by simp⟩
theorem It9 (s : ByteArray) (by' : UInt8) (w : World) (hs : s.size ≤ 1000000) :
 Calls Tryz.prog 118 #[.string s,.int .u8 by'.toNat] w (RetStrs w (O8 by' [] s.data.toList)):=by
 obtain ⟨i0,hi0,hz0,hz1,hz2⟩:=info_parts Tryz.infoStr;have hsl : s.data.toList.length = s.size:=by simp
 have HL:=Lib.hid hsl;clear hsl;obtain ⟨tg,htg⟩ : ∃ tg,O8 by' [] s.data.toList = tg:=⟨_,rfl⟩
 have HTG:=Lib.hid htg;rw [htg];clear htg;go_enter Tryz.func118,Tryz.ntmps118
 go_wp2
 have hb0 : Below w.heap.size w (w.alloc (.cells #[] 9)):=(Below.refl _ _).alloc (Nat.le_refl _) _;go_loopw [5,6,7] (fun v fr i wr => ∃ (k f : Nat) (xs : List ByteArray) (fp : List Nat),k ≤ s.size + 1∧f ≤ k∧xs.length ≤ k∧i = .int .i64 k∧fr = .int .i64 f∧Rep.OwnRows stR 9 wr w.heap.size v xs fp∧Below w.heap.size w wr∧Hid (SplitTo by' s.data.toList k f (xs.map (fun x => x.data.toList)))) (fun _ _ i _ => s.size + 1 - (intOf i).toNat)
 case atStart => exact ⟨0,0,[],[w.heap.size],by omega,by omega,by simp,rfl,rfl,Co8 w 9 stR (by decide),hb0,Lib.hid (SplitTo.zero _ _)⟩
 case round =>
  obtain ⟨k,f,xs,fp,hk,hf,hx,rfl,rfl,hown,hb,hst⟩:=hrel;clear hb0;by_cases hlt : k < s.size
  ·have HG:=Lib.hid (Jz9 s k hlt)
   have i1 : (k : Int) ≤ (s.size : Int):=by omega
   have i2 : ((k : Int) == (s.size : Int)) = false:=by simp;omega
   obtain ⟨b,hbb⟩ : ∃ b,s[k] = b:=⟨_,rfl⟩;rw [hbb] at HG;by_cases hc : b = by'
   ·subst hc
    have HN:=Lib.hid (hst.out.cut HG.out);have i3 : (f : Int) ≤ (k : Int):=by omega
    go_wp2_with (at_builtin
                 have hnew:=T7 wr #[.string (s.extract f k)] 1 1 9 (g:=wr.heap.size) rfl rfl (by simp [maxLen])
                 have hown4:=hown.alloc (.cells #[.string (s.extract f k)] 9);go_must (refine Rep.wpList_push _ rfl (.tmp 26) (.tmp 31) _ rfl stR w.heap.size 9 i0 _ 16 Tryz.underlying120 hi0 hz0 hz1 hz2 rfl (by decide) _ xs fp rfl hown4 _ 1 _ (s.extract f k) [] rfl hnew (Hr9 rfl) ⟨rfl,rfl⟩ (fun g hg hg' => by cases hg) (by simp only [maxLen];omega) (by omega) (by simp;have:=hb.size;omega) ?_)
                 intro A2 c2 w2 fp2 hown2 hg2 hf2 hv2;clear hnew hown4)
    have hbw : Below w.heap.size w w2:=(hb.alloc hb.size _).grown hg2 (by simp;have:=hb.size;omega) (fun j hj => (hv2 j hj).1)
    clear hg2 hf2 hv2 hown hst hb;go_roundw
    case rel => exact ⟨k + 1,k + 1,xs ++ [s.extract f k],fp2,by omega,by omega,by simp;omega,by go_num,by go_num,by simpa using hown2,hbw,Lib.hid (by rw [List.map_append,List.map_cons,List.map_nil,Bu9];exact HN.out)⟩
    case measure => simp [intOf];omega
   ·have HN:=Lib.hid (hst.out.skip HG.out hc)
    have hne : ((b.toNat : Int) == (by'.toNat : Int)) = false := by
       rw [beq_eq_false_iff_ne];exact fun e => hc (UInt8.toNat_inj.1 (by omega))
    clear hst;go_wp2_with fail;go_roundw
    case rel => exact ⟨k + 1,f,xs,fp,by omega,by omega,by omega,by go_num,by go_num,hown,hb,HN⟩
    case measure => simp [intOf];omega
  ·by_cases he : k = s.size
   ·have HN := Lib.hid (show SplitTo by' s.data.toList (s.size + 1) (s.size + 1) (xs.map (fun x => x.data.toList) ++ [(s.data.toList.drop f).take (s.size - f)]) by
        have h9:=hst.out;rw [he] at h9;rw [← HL.out] at h9 ⊢;exact h9.last)
    have i1 : (k : Int) ≤ (s.size : Int):=by omega
    have i2 : ((k : Int) == (s.size : Int)) = true:=by simp;omega
    have i3 : (f : Int) ≤ (k : Int):=by omega
    go_wp2_with (at_builtin
                 have hnew:=T7 wr #[.string (s.extract f s.size)] 1 1 9 (g:=wr.heap.size) rfl rfl (by simp [maxLen])
                 have hown4:=hown.alloc (.cells #[.string (s.extract f s.size)] 9);go_must (refine Rep.wpList_push _ rfl (.tmp 26) (.tmp 31) _ rfl stR w.heap.size 9 i0 _ 16 Tryz.underlying120 hi0 hz0 hz1 hz2 rfl (by decide) _ xs fp rfl hown4 _ 1 _ (s.extract f s.size) [] rfl hnew (Hr9 rfl) ⟨rfl,rfl⟩ (fun g hg hg' => by cases hg) (by simp only [maxLen];omega) (by omega) (by simp;have:=hb.size;omega) ?_)
                 intro A2 c2 w2 fp2 hown2 hg2 hf2 hv2;clear hnew hown4)
    have hbw : Below w.heap.size w w2:=(hb.alloc hb.size _).grown hg2 (by simp;have:=hb.size;omega) (fun j hj => (hv2 j hj).1)
    clear hg2 hf2 hv2 hown hst hb;go_roundw
    case rel => exact ⟨k + 1,k + 1,xs ++ [s.extract f s.size],fp2,by omega,by omega,by simp;omega,by go_num,by go_num,by simpa using hown2,hbw,Lib.hid (by rw [List.map_append,List.map_cons,List.map_nil,Bu9];first | exact HN.out | (rw [he];exact HN.out))⟩
    case measure => simp [intOf];omega
   ·have i1 : ¬ ((k : Int) ≤ (s.size : Int)):=by omega
    have HE := Lib.hid (show xs.map (fun x => x.data.toList) = tg by
        have h9:=hst.out.2;rw [if_neg (by rw [HL.out];omega),HTG.out] at h9
        exact h9.symm)
    obtain ⟨A3,c3,rfl,hle,hcm,hrows⟩:=hown.reads;have HGE:=Lib.hid (Tc9 hown);clear hown hst;go_wp2_with fail;go_ret
    exact ⟨A3,c3,xs,rfl,HE.out,hrows,by omega,HGE.out,hb⟩
def bl (x : ByteArray) : List UInt8:=x.data.toList
def gs (l : List ByteArray) (i : Nat) : ByteArray:=l.getD i ⟨#[]⟩
theorem Rq9 {l : List ByteArray} {i : Nat} {x : ByteArray} (h : l[i]? = some x) : gs l i = x:=by simp [gs,List.getD,h]
theorem dbOf_n2 {l : List UInt8} {ps : List ByteArray} (hp : ps.map bl = O8 58 [] l) (h : ps.length ≠ 2) : Dc9 l = none:=by
 unfold Dc9;rw [← hp];rcases ps with _ | ⟨p0,_ | ⟨p1,_ | ⟨p2,ps⟩⟩⟩
 ·rfl
 ·rfl
 ·exact absurd rfl h
 ·rfl
theorem dbOf_q4 {l : List UInt8} {ps qs : List ByteArray} (hp : ps.map bl = O8 58 [] l) (h : ps.length = 2) (hq : qs.map bl = O8 47 [] (bl (gs ps 1))) (h4 : qs.length ≠ 4) : Dc9 l = none:=by
 unfold Dc9;rw [← hp];rcases ps with _ | ⟨p0,_ | ⟨p1,_ | ⟨p2,ps⟩⟩⟩
 ·cases h
 ·cases h
 ·have hq' : qs.map bl = O8 47 [] (bl p1):=hq
  simp only [List.map_cons,List.map_nil];rw [← hq'];rcases qs with _ | ⟨q0,_ | ⟨q1,_ | ⟨q2,_ | ⟨q3,_ | ⟨q4,qs⟩⟩⟩⟩⟩
  ·rfl
  ·rfl
  ·rfl
  ·rfl
  ·exact absurd rfl h4
  ·rfl
 ·simp at h
theorem Zw9 {l : List UInt8} {ps qs : List ByteArray} (hp : ps.map bl = O8 58 [] l) (h : ps.length = 2) (hq : qs.map bl = O8 47 [] (bl (gs ps 1))) (h4 : qs.length = 4) :
 Dc9 l = mk5 99 (bl (gs ps 0)) (bl (gs qs 0)) (bl (gs qs 1)) (bl (gs qs 2)) (bl (gs qs 3)):=by
 unfold Dc9;rw [← hp];rcases ps with _ | ⟨p0,_ | ⟨p1,_ | ⟨p2,ps⟩⟩⟩
 ·cases h
 ·cases h
 ·have hq' : qs.map bl = O8 47 [] (bl p1):=hq
  simp only [List.map_cons,List.map_nil];rw [← hq'];rcases qs with _ | ⟨q0,_ | ⟨q1,_ | ⟨q2,_ | ⟨q3,_ | ⟨q4,qs⟩⟩⟩⟩⟩
  ·cases h4
  ·cases h4
  ·cases h4
  ·cases h4
  ·rfl
  ·simp at h4
 ·simp at h
theorem Zp9 {m : Int} {n : List UInt8} {f : Nat→List UInt8} {j : Nat} (hj : j < 4) (h : Bc9 (f j) m = false) : mk5 m n (f 0) (f 1) (f 2) (f 3) = none:=by
 unfold mk5;rw [if_neg];simp only [Bool.and_eq_true,not_and];intro h1;rcases (by omega : j = 0 ∨ j = 1 ∨ j = 2 ∨ j = 3) with rfl | rfl | rfl | rfl <;> simp_all
theorem Ds8 {l : List UInt8} {ps qs : List ByteArray} {j : Nat} (hp : ps.map bl = O8 58 [] l) (h : ps.length = 2) (hq : qs.map bl = O8 47 [] (bl (gs ps 1))) (h4 : qs.length = 4) (hj : j < 4) (hb : Bc9 (bl (gs qs j)) 99 = false) : Dc9 l = none:=by
 rw [Zw9 hp h hq h4];exact Zp9 (f:=fun i => bl (gs qs i)) hj hb
def dbP (n : ByteArray) (qs : List ByteArray) : Db:=⟨n,R8 (bl (gs qs 0)) 99,R8 (bl (gs qs 1)) 99,R8 (bl (gs qs 2)) 99,R8 (bl (gs qs 3)) 99⟩
theorem Bx8 {l : List UInt8} {ps qs : List ByteArray} (hp : ps.map bl = O8 58 [] l) (h : ps.length = 2) (hq : qs.map bl = O8 47 [] (bl (gs ps 1))) (h4 : qs.length = 4) (ho : ∀ j,j < 4→Bc9 (bl (gs qs j)) 99 = true) : Dc9 l = some (dbP (gs ps 0) qs):=by
 rw [Zw9 hp h hq h4,Pd9 (ho 0 (by omega)) (ho 1 (by omega)) (ho 2 (by omega)) (ho 3 (by omega))]
 rfl
def Kg9 (qs : List ByteArray) (j : Nat) : Array Value:=
 #[.int .i64 (if 0 < j then R8 (bl (gs qs 0)) 99 else 0),.int .i64 (if 1 < j then R8 (bl (gs qs 1)) 99 else 0),.int .i64 (if 2 < j then R8 (bl (gs qs 2)) 99 else 0),.int .i64 (if 3 < j then R8 (bl (gs qs 3)) 99 else 0)]
theorem Xm9 (qs : List ByteArray) {j : Nat} (hj : j < 4) : (Kg9 qs j).setIfInBounds j (.int .i64 (R8 (bl (gs qs j)) 99)) = Kg9 qs (j + 1):=by
 rcases (by omega : j = 0 ∨ j = 1 ∨ j = 2 ∨ j = 3) with rfl | rfl | rfl | rfl <;> simp [Kg9]
theorem At8 (qs : List ByteArray) {j : Nat} (hj : j < 4) : ∃ u,(Kg9 qs j)[j]? = some u:=by
 rcases (by omega : j = 0 ∨ j = 1 ∨ j = 2 ∨ j = 3) with rfl | rfl | rfl | rfl <;> exact ⟨_,rfl⟩
theorem Ah8 {c : UInt8} : ∀ {l cur p : List UInt8},p ∈ O8 c cur l→p.length ≤ cur.length + l.length:=by
 intro l;induction l with
 | nil => intro cur p h;simp [O8] at h;subst h;simp
 | cons b r ih =>
   intro cur p h;rw [Dq9] at h;split at h
   ·rcases List.mem_cons.1 h with h | h
    ·subst h;simp
    ·have:=ih h;simp at this ⊢;omega
   ·have:=ih h;simp at this ⊢;omega
theorem Ul9 {c : UInt8} : ∀ {l cur : List UInt8},(O8 c cur l).length ≤ l.length + 1:=by
 intro l;induction l with
 | nil => intro cur;simp [O8]
 | cons b r ih =>
   intro cur;rw [Dq9];split
   ·have:=@ih []
    simp;omega
   ·have:=@ih (cur ++ [b])
    simp;omega
theorem Lm9 {c : UInt8} {l : List UInt8} {ps : List ByteArray} {i : Nat} {x : ByteArray} (hp : ps.map bl = O8 c [] l) (hx : ps[i]? = some x) : x.size ≤ l.length:=by
 have h1 : bl x ∈ O8 c [] l:=by rw [← hp];exact List.mem_map.2 ⟨x,List.mem_of_getElem? hx,rfl⟩
 have h2:=Ah8 h1;simp [bl] at h2;exact h2
def ReadTo (L : List (List UInt8)) (k : Nat) (xs : List Db) : Prop:=xs.length = k∧Bi9 Dc9 L = match Bi9 Dc9 (L.drop k) with
 | none => none
 | some ys => some (xs ++ ys)
theorem ReadTo.zero (L : List (List UInt8)) : ReadTo L 0 []:=⟨rfl,by simp only [List.drop_zero];cases Bi9 Dc9 L <;> rfl⟩
theorem ReadTo.bad {L : List (List UInt8)} {k : Nat} {xs : List Db} {p : List UInt8} (h : ReadTo L k xs) (hp : L[k]? = some p) (hd : Dc9 p = none) : Bi9 Dc9 L = none:=by
 rw [h.2];have e : L.drop k = p :: L.drop (k + 1):=by rw [List.drop_eq_getElem_cons (List.getElem?_eq_some_iff.1 hp).1,(List.getElem?_eq_some_iff.1 hp).2]
 rw [e];unfold Bi9;rw [hd]
theorem ReadTo.succ {L : List (List UInt8)} {k : Nat} {xs : List Db} {p : List UInt8} {d : Db} (h : ReadTo L k xs) (hp : L[k]? = some p) (hd : Dc9 p = some d) : ReadTo L (k + 1) (xs ++ [d]):=by
 refine ⟨by simp [h.1],?_⟩
 rw [h.2];have e : L.drop k = p :: L.drop (k + 1):=by rw [List.drop_eq_getElem_cons (List.getElem?_eq_some_iff.1 hp).1,(List.getElem?_eq_some_iff.1 hp).2]
 rw [e];rw [show Bi9 Dc9 (p :: L.drop (k + 1)) = match Dc9 p with
  | none => none
  | some d => match Bi9 Dc9 (L.drop (k + 1)) with
    | none => none
    | some xs => some (d :: xs) from rfl,hd]
 simp only [];cases Bi9 Dc9 (L.drop (k + 1)) with
 | none => rfl
 | some ys => simp
theorem ReadTo.all {L : List (List UInt8)} {xs : List Db} (h : ReadTo L L.length xs) : Bi9 Dc9 L = some xs:=by
 rw [h.2,List.drop_length];simp [Bi9]
instance Keeps.rows {α : Type} (R : Rep α) (A : Option Addr) (n : Nat) (xs : List α) : Keeps (fun w => Rep.RowsAt R w w.heap.size A n xs):=⟨fun h x => (x.keep fun p hp => h.cell hp).more h.size⟩
instance Keeps.ownRows {α : Type} (R : Rep α) (e : TypeId) (base : Nat) (v : Value) (xs : List α) (fp : List Nat) : Keeps (fun w => Rep.OwnRows R e w base v xs fp):=⟨fun h x => x.of_below h⟩
theorem Je9 {α : Type} (w : World) (e : TypeId) (R : Rep α) (h0 : 0 < R.size) {base : Nat} (hb : base ≤ w.heap.size) : Rep.OwnRows R e (w.alloc (.cells #[] e)) base (.slice (some ⟨w.heap.size,0,none⟩) 0 0) [] [w.heap.size]:=
 ⟨[],[],by simpa using World.ownsRow_lit (base:=base) (e:=e) (size:=R.size) w #[] 0 hb (by simp) (by simp),rfl,fun i x f hx => by simp at hx,rfl,by simp⟩
def Oh9 (w : World) (p : List Db × Bool) (e : Ending) (w' : World) : Prop:=
 ∃ A c fp,e = .returned (.tuple #[.slice A p.1.length c,.bool p.2])∧dbsR.own w' w.heap.size [.slice A p.1.length c] p.1 fp∧Below w.heap.size w w'
theorem Ho9 {w W : World} {p : List Db × Bool} (hb : Below w.heap.size w W) (hp : p = ([],false)) : Oh9 w p (.returned (.tuple #[.slice (some ⟨W.heap.size,0,none⟩) 0 0,.bool false])) (W.alloc (.cells #[] 132)):=by
 subst hp;exact ⟨_,0,_,rfl,⟨_,rfl,Je9 W _ dbR (by decide) hb.size⟩,hb.alloc hb.size _⟩
set_option maxRecDepth 100000 in
theorem Ou9 (s : ByteArray) (w : World) : Calls Tryz.prog 111 #[.string s] w (Oh9 w (Cb9 s.data.toList)):=by
 have hsl : s.data.toList.length = s.size:=by simp
 obtain ⟨res,hres⟩ : ∃ res,Cb9 s.data.toList = res:=⟨_,rfl⟩;have HR:=Lib.hid hres;rw [hres];clear hres;by_cases h100 : 100 < s.size
 ·have HN:=Lib.hid (show res = ([],false) by rw [← HR.out];unfold Cb9;rw [if_pos (by omega)])
  have i0 : (100 : Int) < (s.size : Int):=by omega
  go_enter Tryz.func111,Tryz.ntmps111
  go_wp2
  go_ret2
  exact Ho9 (Below.refl _ _) HN.out
 ·have HP:=Lib.hid (show Te9 (Bi9 Dc9 (O8 59 [] s.data.toList)) = res by rw [← HR.out];unfold Cb9;rw [if_neg (by omega)])
  have HL:=Lib.hid hsl;clear hsl;have i0 : ¬ ((100 : Int) < (s.size : Int)):=by omega
  obtain ⟨j0,hj0,hz0,hz1,hz2⟩:=info_parts Tryz.infoDb;go_enter Tryz.func111,Tryz.ntmps111
  go_wp2_with fail;refine (It9 s 59 w (by omega)).mono ?_
  rintro e W1 ⟨A,c,L,rfl,hL,hrows,hcm,_,hb⟩;have S : All (fun w' => Below w.heap.size w w'∧Below W1.heap.size W1 w') W1:=⟨hb,Below.refl _ _⟩
  have HLL:=Lib.hid hL;have HW1:=Lib.hid hb;clear hb hL
  have hlen : L.length ≤ 101 := by
     have h9:=@Ul9 59 s.data.toList [];rw [← HLL.out,List.length_map,HL.out] at h9;omega
  go_wp2_with fail;have S1:=S.alloc (.cells #[] 132);have hown0:=Je9 W1 132 dbR (by decide) (Nat.le_refl _)
  go_loopw [5,6] (fun v i wr => ∃ (k : Nat) (xs : List Db) (fp : List Nat),k ≤ L.length∧i = .int .i64 k∧Hid (ReadTo (O8 59 [] s.data.toList) k xs∧∀ x,x ∈ xs→x.name.size ≤ 100)∧Rep.OwnRows dbR 132 wr W1.heap.size v xs fp∧All (fun w' => Below w.heap.size w w'∧Below W1.heap.size W1 w') wr) (fun _ i _ => L.length - (intOf i).toNat)
  case atStart => exact ⟨0,[],_,by omega,rfl,Lib.hid ⟨ReadTo.zero _,by simp⟩,hown0,S1⟩
  case round =>
     obtain ⟨k,xs,fp,hk,rfl,hrd,hown,S2⟩:=hrel;clear S1 S hown0;by_cases hlt : k < L.length
     ·obtain ⟨x,hx⟩:=Rep.getElem?_of_lt rfl hlt
      have hrw:=(hrows.keep fun p hp => S2.out.2.cell hp).more S2.out.2.size
      obtain ⟨bA,off,_,_,rfl,_,_,_,_⟩:=hrw.elem hlt (show 0 < 1 by omega)
      obtain ⟨cx,hbx⟩:=Fj9 hrw k x hx;clear hrw;have hxs : x.size ≤ 100:=by have:=Lm9 HLL.out hx;rw [HL.out] at this;omega
      have i1 : (0 : Int) ≤ (k : Int):=by omega
      have i2 : (k : Int) < (L.length : Int):=by omega
      go_wp2_with fail;refine (It9 x 58 wr (by omega)).mono ?_
      rintro e W3 ⟨A3,c3,ps,rfl,hp,hrows3,hcm3,hge3,hb⟩;have HFP:=Lib.hid (show (∀ g,g ∈ fp→g < wr.heap.size)∧(∀ b off,A3 = some ⟨b,off,none⟩→wr.heap.size ≤ b) from ⟨fun g hg => (hown.lt g hg).2,hge3⟩)
      have HN0:=Lib.hid hb.size;clear hge3;replace S2:=S2.later hb;have hown3:=hown.of_below hb;have S : All (fun w' => (Below w.heap.size w w'∧Below W1.heap.size W1 w')∧Rep.RowsAt stR w' w'.heap.size A3 ps.length ps∧Rep.OwnRows dbR 132 w' W1.heap.size u5 xs fp) _:=⟨S2.out,hrows3,hown3⟩
      have HPS:=Lib.hid (show ps.map bl = O8 58 [] (bl x) from hp)
      have HX:=Lib.hid (show (O8 59 [] s.data.toList)[k]? = some (bl x) by rw [← HLL.out,List.getElem?_map,hx];rfl)
      clear S2 hown hown3 hb hrows3 hp cx hbx hx;by_cases h2 : ps.length = 2
      ·have b2 : ((ps.length : Int) != (2 : Int)) = false:=by simp;omega
       have j1 : (1 : Int) < (ps.length : Int):=by omega
       have j0' : (0 : Int) < (ps.length : Int):=by omega
       obtain ⟨y,hy⟩:=Rep.getElem?_of_lt h2 (show 1 < 2 by omega)
       obtain ⟨b3,off3,_,_,rfl,_,_,_,_⟩:=S.out.2.1.elem (show 0 < ps.length by omega) (show 0 < 1 by omega)
       obtain ⟨cy,hby⟩:=Fj9 S.out.2.1 1 y hy;have hys : y.size ≤ 100:=by have:=Lm9 HPS.out hy;simp [bl] at this;omega
       have HFP2:=Lib.hid (show ∀ g,g ∈ fp→g < b3 from fun g hg => Nat.lt_of_lt_of_le (HFP.out.1 g hg) (HFP.out.2 _ _ rfl))
       go_wp2_with fail;refine (It9 y 47 _ (by omega)).mono ?_
       rintro e W4 ⟨A4,c4,qs,rfl,hq,hrows4,hcm4,_,hb⟩;have hq' : qs.map bl = O8 47 [] (bl (gs ps 1)):=by rw [Rq9 hy];exact hq
       have S2 : All (fun w' => ((Below w.heap.size w w'∧Below W1.heap.size W1 w')∧Rep.RowsAt stR w' w'.heap.size (some ⟨b3,off3,none⟩) ps.length ps∧Rep.OwnRows dbR 132 w' W1.heap.size u5 xs fp)∧Rep.RowsAt stR w' w'.heap.size A4 qs.length qs) W4:=⟨Keeps.keeps (F:=fun w' => (Below w.heap.size w w'∧Below W1.heap.size W1 w')∧Rep.RowsAt stR w' w'.heap.size (some ⟨b3,off3,none⟩) ps.length ps∧Rep.OwnRows dbR 132 w' W1.heap.size u5 xs fp) hb S.out,hrows4⟩
       have HQ:=Lib.hid hq';have HN4:=Lib.hid (Nat.le_trans HN0.out hb.size);have HYS:=Lib.hid (show (bl (gs ps 1)).length ≤ 100 by rw [Rq9 hy];simpa [bl] using hys)
       clear S hb hrows4 hq hq' cy hby hy;by_cases h4 : qs.length = 4
       ·have b4 : ((qs.length : Int) != (4 : Int)) = false:=by simp;omega
        have HG:=Lib.hid (fun (ho : ∀ j,j < 4→Bc9 (bl (gs qs j)) 99 = true) => Bx8 HPS.out h2 HQ.out h4 ho)
        have HB := Lib.hid (fun (j : Nat) (hj : j < 4) (hbad : Bc9 (bl (gs qs j)) 99 = false) => show res = ([], false) by
            rw [← HP.out,hrd.out.1.bad HX.out (Ds8 HPS.out h2 HQ.out h4 hj hbad)];rfl)
        have HS5:=S2.out.2.elem (show 0 < qs.length by omega) (show 0 < 1 by omega)
        have n4 : 4 ≤ qs.length:=by omega
        have n2 : 2 ≤ ps.length:=by omega
        have HGE:=Lib.hid (fun (j : Nat) (hj : j < 4) => Rep.getElem?_of_lt h4 hj)
        clear h4 h2;obtain ⟨b5,off5,_,_,rfl,_,_,_,_⟩:=HS5;go_wp2_with fail;have V0:=heap_alloc_new W4 (.cells (Kg9 qs 0) 3);have hb0:=Later.alloc W4 (.cells (Kg9 qs 0) 3);go_loopw [10] (fun i wr => ∃ (j : Nat),j ≤ 4∧i = .int .i64 j∧Hid (wr.heap[W4.heap.size]? = some (.cells (Kg9 qs j) 3 (0,0)))∧Hid (∀ j',j' < j→Bc9 (bl (gs qs j')) 99 = true)∧Below W4.heap.size W4 wr) (fun i _ => 4 - (intOf i).toNat)
        case atStart => exact ⟨0,by omega,rfl,Lib.hid V0,Lib.hid fun j' h => absurd h (by omega),hb0⟩
        case round =>
            clear V0 hb0;obtain ⟨j,hj,rfl,hv,hok,hbj⟩:=hrel;have S3:=S2.later hbj;have hD : W4.heap.size < wr.heap.size:=(Array.getElem?_eq_some_iff.1 hv.out).1;by_cases hj4 : j < 4
            ·obtain ⟨q,hq⟩:=HGE.out j hj4
             obtain ⟨cq,hbq⟩:=Fj9 S3.out.2 j q hq;have hqs : q.size ≤ 100:=by have h9:=Lm9 HQ.out hq;have:=HYS.out;omega
             have HQJ:=Lib.hid (Rq9 hq);obtain ⟨u,hu⟩:=At8 qs hj4;have cD : wr.cell? ⟨W4.heap.size,j,none⟩ = some u:=(E9 hv.out j).trans hu;have fD:=C9 hv.out j;have n0 : (0 : Int) ≤ (j : Int):=by omega
             have n1 : (j : Int) < (4 : Int):=by omega
             have n3 : (j : Int) < (qs.length : Int):=by omega
             obtain ⟨y5,hy5⟩ : ∃ y,Bc9 q.data.toList 99 = y:=⟨_,rfl⟩;have HY5:=Lib.hid hy5;clear hq hy5 S3 hu;go_wp2_with fail;refine (Qv9 q 99 wr (by omega)).mono ?_
             rintro e W5 ⟨rfl,rfl⟩;rw [HY5.out];cases y5
             ·have HN:=Lib.hid (HB.out j hj4 (by rw [HQJ.out];exact HY5.out))
              go_wp2_with fail;go_ret2
              exact Ho9 (S2.later hbj).out.1.1.1 HN.out
             ·go_wp2_with fail
              go_roundw
              case rel => exact ⟨j + 1, by omega, by go_num, Lib.hid (by rw [← Xm9 qs hj4, HQJ.out]; exact N9 hv.out j _), Lib.hid (fun j' h => by
                 by_cases he : j' < j
                 ·exact hok.out j' he
                 ·obtain rfl : j' = j:=by omega
                  rw [HQJ.out];exact HY5.out),Below.setCell hbj (Nat.le_refl _) _⟩
              case measure => simp [intOf];omega
            ·have he : j = 4:=by omega
             have hv4 : wr.heap[W4.heap.size]? = some (.cells #[.int .i64 (R8 (bl (gs qs 0)) 99),.int .i64 (R8 (bl (gs qs 1)) 99),.int .i64 (R8 (bl (gs qs 2)) 99),.int .i64 (R8 (bl (gs qs 3)) 99)] 3 (0,0)):=by
              have h9:=hv.out;rw [he] at h9;exact h9
             have HD:=Lib.hid (HG.out fun j' h => hok.out j' (by omega))
             have n1 : ¬ ((j : Int) < (4 : Int)):=by omega
             clear he;obtain ⟨p0,hp0⟩ : ∃ x,ps[0]? = some x:=⟨ps[0],List.getElem?_eq_getElem (by omega)⟩
             have cp : wr.cell? ⟨b3,off3,none⟩ = some (.string p0):=(Fj9 S3.out.1.2.1 0 p0 hp0).1;have HP0:=Lib.hid (Rq9 hp0);have hp0s : p0.size ≤ 100:=by have:=Lm9 HPS.out hp0;simp [bl] at this;omega
             have c0:=E9 hv4 0;have c1:=E9 hv4 1;have c2:=E9 hv4 2;have c3':=E9 hv4 3;have T : All (fun w' => (Below w.heap.size w w'∧Below W1.heap.size W1 w')∧Rep.OwnRows dbR 132 w' W1.heap.size u5 xs fp∧(w'.cell? ⟨b3,off3,none⟩ = some (.string p0)∧w'.cell? ⟨W4.heap.size,0,none⟩ = some (.int .i64 (R8 (bl (gs qs 0)) 99))∧w'.cell? ⟨W4.heap.size,1,none⟩ = some (.int .i64 (R8 (bl (gs qs 1)) 99))∧w'.cell? ⟨W4.heap.size,2,none⟩ = some (.int .i64 (R8 (bl (gs qs 2)) 99))∧w'.cell? ⟨W4.heap.size,3,none⟩ = some (.int .i64 (R8 (bl (gs qs 3)) 99)))) wr:=⟨S3.out.1.1,S3.out.1.2.2,cp,c0,c1,c2,c3'⟩
             have HXS:=Lib.hid (hrd.out.1.succ HX.out HD.out);have HXN:=Lib.hid (show ∀ z,z ∈ xs ++ [dbP (gs ps 0) qs]→z.name.size ≤ 100 by
              intro z hz;rcases List.mem_append.1 hz with h | h
              ·exact hrd.out.2 z h
              ·rw [List.mem_singleton.1 h]
               show (gs ps 0).size ≤ 100
               rw [HP0.out];exact hp0s)
             have hxk : xs.length ≤ 101:=by have:=hrd.out.1.1;omega
             clear S3 S2 cp c0 c1 c2 c3' hv4 hp0 hv hok hbj hD;go_wp2_with fail;refine M9 100 [0,1,2,3,4,5,6,7,8,9,10,11,12,13,14,15,16] [17,18,19] (fun w' => w'.cell? ⟨b3,off3,none⟩ = some (.string p0)∧w'.cell? ⟨W4.heap.size,0,none⟩ = some (.int .i64 (R8 (bl (gs qs 0)) 99))∧w'.cell? ⟨W4.heap.size,1,none⟩ = some (.int .i64 (R8 (bl (gs qs 1)) 99))∧w'.cell? ⟨W4.heap.size,2,none⟩ = some (.int .i64 (R8 (bl (gs qs 2)) 99))∧w'.cell? ⟨W4.heap.size,3,none⟩ = some (.int .i64 (R8 (bl (gs qs 3)) 99))) (by kernel_rfl) (by kernel_rfl) T.drew.out.2.2 ?_
             replace T:=T.drew;iterate 17 (refine LexR.cons rfl ?_ (fun w' hw => ?_) ?_;rotate_left;focus (obtain ⟨e1,e2,e3,e4,e5⟩:=hw;go_simp;(try exact rfl));(try go_frame))
             refine LexR.nil (LexW.cons rfl ?_);go_wp2_with fail;have TA:=T.alloc (.cells #[.string p0,.int .i64 (R8 (bl (gs qs 0)) 99),.int .i64 (R8 (bl (gs qs 1)) 99),.int .i64 (R8 (bl (gs qs 2)) 99),.int .i64 (R8 (bl (gs qs 3)) 99)] 132);have hnew:=T7 wr.drew #[.string p0,.int .i64 (R8 (bl (gs qs 0)) 99),.int .i64 (R8 (bl (gs qs 1)) 99),.int .i64 (R8 (bl (gs qs 2)) 99),.int .i64 (R8 (bl (gs qs 3)) 99)] 5 1 132 (g:=wr.drew.heap.size) rfl rfl (by simp [maxLen])
             refine ⟨fun _ => TA.out.2.2,LexW.cons rfl ?_⟩
             try go_frame
             refine Rep.wpList_push _ rfl (.tmp 63) (.tmp 80) _ rfl dbR W1.heap.size 132 j0 _ 48 Tryz.underlying114 hj0 hz0 hz1 hz2 rfl (by decide) u5 xs fp rfl TA.out.2.1 _ 1 _ (dbP p0 qs) [] rfl hnew (by simp [Value.oneCell']) (Qc9 _ _ (dbP p0 qs)) (fun g hg hg' => by cases hg) (by simp only [maxLen];omega) (by omega) (by have:=TA.out.1.2.size;simpa using this) ?_
             intro A2 c2 w2 fp2 hown2 hg2 hf2 hv2;have hb2 : Below W1.heap.size W1 w2:=TA.out.1.2.grown hg2 TA.out.1.2.size (fun j hj => (hv2 j hj).1)
             have hbl : ∀ g,g < wr.heap.size→g ∉ fp→w2.heap[g]? = wr.heap[g]?:=fun g hg hn => (hg2.block g (by simp;omega) (fun e => hn (hv2 g e.symm).2)).trans (Below.heap_alloc wr.drew _ g hg)
             have hT : (∀ (p : Addr) (v : Value),wr.cell? p = some v→p.block ∉ fp→w2.cell? p = some v):=fun p v hp hn => (World.cell?_of_block (hbl _ (World.block_lt_of_cell? _ _ hp) hn)).trans hp
             have nb3 : b3 ∉ fp:=fun e => absurd (HFP2.out _ e) (by omega)
             have nD : W4.heap.size ∉ fp:=fun e => absurd (HFP.out.1 _ e) (by have:=HN4.out;omega)
             obtain ⟨_,_,e1,e2,e3,e4,e5⟩:=T.out;have T2 : Hid (w2.cell? ⟨b3,off3,none⟩ = some (.string p0)∧w2.cell? ⟨W4.heap.size,0,none⟩ = some (.int .i64 (R8 (bl (gs qs 0)) 99))∧w2.cell? ⟨W4.heap.size,1,none⟩ = some (.int .i64 (R8 (bl (gs qs 1)) 99))∧w2.cell? ⟨W4.heap.size,2,none⟩ = some (.int .i64 (R8 (bl (gs qs 2)) 99))∧w2.cell? ⟨W4.heap.size,3,none⟩ = some (.int .i64 (R8 (bl (gs qs 3)) 99))):=
              Lib.hid ⟨hT _ _ e1 nb3,hT _ _ e2 nD,hT _ _ e3 nD,hT _ _ e4 nD,hT _ _ e5 nD⟩
             have hown5 : Hid (Rep.OwnRows dbR 132 w2 W1.heap.size (.slice A2 (xs.length + 1) c2) (xs ++ [dbP (gs ps 0) qs]) fp2):=Lib.hid (by rw [HP0.out];exact hown2)
             clear e1 e2 e3 e4 e5 hT hbl hv2 hf2 hg2 hown2 hnew TA T nb3 nD;refine ⟨fun _ => T2.out,LexW.cons rfl ?_⟩
             try go_frame
             go_wp2_with fail;refine ⟨fun _ => T2.out,LexW.nil ?_⟩
             go_wp2_with fail;go_roundw
             case rel => exact ⟨k + 1,_,fp2,by omega,by go_num,Lib.hid ⟨HXS.out,HXN.out⟩,hown5.out,⟨Later.trans HW1.out hb2,hb2⟩⟩
             case measure => simp [intOf];omega
       ·have b4 : ((qs.length : Int) != (4 : Int)) = true:=by simp;omega
        have HN := Lib.hid (show res = ([], false) by
            rw [← HP.out,hrd.out.1.bad HX.out (dbOf_q4 HPS.out h2 HQ.out h4)];rfl)
        go_wp2_with fail;go_ret2
        exact Ho9 S2.out.1.1.1 HN.out
      ·have b2 : ((ps.length : Int) != (2 : Int)) = true:=by simp;omega
       have HN := Lib.hid (show res = ([], false) by
           rw [← HP.out,hrd.out.1.bad HX.out (dbOf_n2 HPS.out h2)];rfl)
       go_wp2_with fail;go_ret2
       exact Ho9 S.out.1.1 HN.out
     ·have he : k = L.length:=by omega
      have hre:=hrd.out.1;rw [he,← show (O8 59 [] s.data.toList).length = L.length by rw [← HLL.out,List.length_map]] at hre
      have hall:=hre.all;have hxl : xs.length = L.length:=by rw [hrd.out.1.1];exact he
      have HF:=Lib.hid (show Jq9 xs from ⟨by omega,fun x hx => by have:=hrd.out.2 x hx;omega⟩)
      obtain ⟨A9,c9,rfl,hle9,hcm9,hrows9⟩:=hown.reads;have i2 : ¬ ((k : Int) < (L.length : Int)):=by omega
      obtain ⟨y,hy⟩ : ∃ y,Bm9 xs = y:=⟨_,rfl⟩
      have HR2 := Lib.hid (show res = if y = true then (xs, true) else ([], false) by
        rw [← HP.out,hall,← hy];rfl)
      have HY:=Lib.hid hy;clear hre hall hy hxl he;go_wp2_with fail;refine (Jb9 A9 c9 xs wr hrows9 HF.out).mono ?_;rintro e W9 ⟨rfl,hb⟩;rw [HY.out];replace S2:=S2.later hb;have hown9:=hown.of_below hb;clear hown hb hrows9;cases y
      ·go_wp2_with fail
       go_ret2
       exact Ho9 S2.out.1 HR2.out
      ·go_wp2_with fail
       go_ret2
       exact ⟨A9,c9,fp,by rw [HR2.out];rfl,by rw [HR2.out];exact ⟨_,rfl,hown9.low HW1.out.size⟩,S2.out.1⟩
end Go.Proofs.YthpkdjflndiojaaGreatDoor
