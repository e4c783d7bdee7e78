/- What the theorem needs, out of many texts. -/
import Derived.Test.YthpkdjflndiojaaGreatDoorShj2
import Derived.Laws.StructEq
import Derived.ChangeKeysEq
import Derived.Deep.Slices
import Derived.ChangeArms
import Derived.ChangeOld
import Derived.WideShapes
import Derived.Laws.RangeAny
import Derived.Maps.RangeWalk
import Derived.WalkSpells
import Derived.Lib.ItoaNum
set_option maxHeartbeats 20000000
namespace Go.Proofs.YthpkdjflndiojaaGreatDoor
open Go.RowKit
set_option maxRecDepth 100000
set_option linter.unusedVariables false
def inI (x lo hi : Int) : Bool:=decide (lo ≤ x∧x ≤ hi)
def Q7 (b : List UInt8) : List UInt8:=b ++ F9 (crc b)
theorem M7 {x lo hi : Int} {b : Bool} (h : inI x lo hi = b) (w : World) : Calls Tryz.prog 62 #[.int .i64 x,.int .i64 lo,.int .i64 hi] w fun e w' => e = .returned (.bool b)∧w = w':=by
 unfold inI at h;cases b
 ·exact Hs9 w (of_decide_eq_false h)
 ·have:=of_decide_eq_true h
  exact Dl9 w this.1 this.2
theorem L8 {x lo hi : Int} {b : Bool} (h : inI x lo hi = b) (w : World) : Calls Tryz.prog 77 #[.int .i64 x,.int .i64 lo,.int .i64 hi] w fun e w' => e = .returned (.bool b)∧w = w':=by
 unfold inI at h;by_cases h1 : lo ≤ x
 ·by_cases h2 : x ≤ hi
  ·obtain rfl : b = true:=by rw [← h];simp;omega
   clear h;go_enter Tryz.func77,Tryz.ntmps77
   go_wp2
   go_ret
   exact ⟨rfl,rfl⟩
  ·obtain rfl : b = false:=by rw [← h];simp;omega
   clear h;go_enter Tryz.func77,Tryz.ntmps77
   go_wp2
   go_ret
   exact ⟨rfl,rfl⟩
 ·obtain rfl : b = false:=by rw [← h];simp;omega
  clear h;go_enter Tryz.func77,Tryz.ntmps77
  go_wp2
  go_ret
  exact ⟨rfl,rfl⟩
def Gv9 (w : World) (l : List UInt8) (e : Ending) (w' : World) : Prop:=∃ v,e = .returned v∧Owns w' w.heap.size 5 v l∧Below w.heap.size w w'
theorem En9 (w : World) (base : Nat) (hb : base ≤ w.heap.size) : Owns (w.alloc (.cells #[] 5)) base 5 (.slice (some ⟨w.heap.size,0,none⟩) 0 0) []:=
 World.ownsRow_lit w #[] 0 hb (by simp) rfl
theorem Ec9 (w : World) (n : Int) : Reads (w.alloc (.cells #[.int .u8 (n % 256)] 5)) (w.alloc (.cells #[.int .u8 (n % 256)] 5)).heap.size 1 (some ⟨w.heap.size,0,none⟩) 1 (bys [u8 n]):=by
 have h:=Gy9 w #[.int .u8 (n % 256)] 1 5 rfl (by simp [maxLen])
 have e : bys [u8 n] = [.int .u8 (n % 256)]:=by simp [bys,Gc9]
 rw [e];exact h
theorem Pl9 (A B : Option Addr) (c c' M M' : Nat) (a b : List UInt8) (w : World) (h : Reads w M 1 A a.length (bys a)) (h' : Reads w M' 1 B b.length (bys b)) :
 Calls Tryz.prog 72 #[.slice A a.length c,.slice B b.length c'] w fun e w' => e = .returned (.bool (a == b))∧w = w':=by
 have h1:=string_run (P:=Tryz.prog) (c:=c) Tryz.underlying22 Tryz.underlying5 Tryz.underlying9 h;have h2:=string_run (P:=Tryz.prog) (c:=c') Tryz.underlying22 Tryz.underlying5 Tryz.underlying9 h';go_enter Tryz.func72,Tryz.ntmps72
 go_wp2
 go_ret
 simp
def Jr9 (l : List UInt8) (p : Int) : Bool:=decide (0 ≤ p) && decide (p + 2 ≤ l.length)
def S8 (l : List UInt8) (p : Int) : Int:=if Jr9 l p then ((l.getD p.toNat 0).toNat : Int) * 256 + ((l.getD (p.toNat + 1) 0).toNat : Int) else 0
def Eq9 (l : List UInt8) (p : Int) : Int:=if Jr9 l p then p + 2 else 0
theorem Zu9 {l : List UInt8} {p : Int} (h : p < 0 ∨ (l.length : Int) - 2 < p) : Jr9 l p = false∧S8 l p = 0∧Eq9 l p = 0:=by
 have e : Jr9 l p = false:=by
  unfold Jr9;rcases h with h | h
  ·rw [decide_eq_false (by omega)];rfl
  ·rw [decide_eq_false (p:=p + 2 ≤ l.length) (by omega),Bool.and_false]
 exact ⟨e,by simp [S8,e],by simp [Eq9,e]⟩
theorem Ye9 {l : List UInt8} {k : Nat} {x y : UInt8} (h : k + 2 ≤ l.length) (hx : l[k]? = some x) (hy : l[k + 1]? = some y) :
 Jr9 l k = true∧S8 l k = (x.toNat : Int) * 256 + y.toNat∧Eq9 l k = (k : Int) + 2:=by
 have e : Jr9 l k = true:=by
  unfold Jr9;rw [decide_eq_true (by omega),decide_eq_true (by omega)];rfl
 refine ⟨e,?_,by simp [Eq9,e]⟩
 unfold S8;rw [if_pos e];simp [hx,hy]
theorem Jf9 {k k' : IntKind} {a a' b b' : Int} {c c' : Bool} (h1 : a = a') (h2 : b = b') (h3 : c = c') : Ending.returned (.tuple #[.int k a,.int k' b,.bool c]) = .returned (.tuple #[.int k a',.int k' b',.bool c']):=by rw [h1,h2,h3]
theorem Dy9 {c c' : Bool} (h : c = c') : Ending.returned (.bool c) = .returned (.bool c'):=by rw [h]
theorem Gn9 (u : UInt8) : u.toNat < 256:=u.toNat_lt
theorem Fa9 (A : Option Addr) (c : Nat) (p : Int) (l : List UInt8) (w : World) (h : Reads w w.heap.size 1 A l.length (bys l)) (hn : l.length ≤ 100000000) :
 Calls Tryz.prog 96 #[.slice A l.length c,.int .i64 p] w fun e w' => e = .returned (.tuple #[.int .i64 (S8 l p),.int .i64 (Eq9 l p),.bool (Jr9 l p)])∧∃ n,w' = w.drewN n:=by
 by_cases h0 : p < 0
 ·obtain ⟨e1,e2,e3⟩:=Zu9 (l:=l) (.inl h0)
  have E1:=Lib.hid e1;have E2:=Lib.hid e2;have E3:=Lib.hid e3;clear e1 e2 e3;go_enter Tryz.func96,Tryz.ntmps96
  go_wp2
  go_ret3
  exact ⟨Jf9 E2.out.symm E3.out.symm E1.out.symm,0,rfl⟩
 ·obtain ⟨k,rfl⟩:=Int.eq_ofNat_of_zero_le (by omega : 0 ≤ p)
  by_cases h1 : (l.length : Int) - 2 < (k : Int)
  ·obtain ⟨e1,e2,e3⟩:=Zu9 (l:=l) (.inr h1)
   have E1:=Lib.hid e1;have E2:=Lib.hid e2;have E3:=Lib.hid e3;clear e1 e2 e3;go_enter Tryz.func96,Tryz.ntmps96
   go_wp2
   go_ret3
   exact ⟨Jf9 E2.out.symm E3.out.symm E1.out.symm,0,rfl⟩
  ·obtain ⟨b,off,x,rfl,_,hx,hcx⟩:=h.byte (k:=k) (by omega)
   obtain ⟨b',off',y,hA',_,hy,hcy⟩:=h.byte (k:=k + 1) (by omega)
   injection hA' with hA';injection hA' with hA1 hA2;subst hA1;subst hA2;obtain ⟨e1,e2,e3⟩:=Ye9 (by omega) hx hy
   have E1:=Lib.hid e1;have E2:=Lib.hid e2;have E3:=Lib.hid e3;have hxl:=Gn9 x;have hyl:=Gn9 y;clear e1 e2 e3 hx hy h;have i1 : (0 : Int) ≤ (k : Int):=by omega
   have i2 : (k : Int) < (l.length : Int):=by omega
   have i3 : (k : Int) + 1 < (l.length : Int):=by omega
   have hj:=Vs9 x.toNat y.toNat hxl hyl;go_enter Tryz.func96,Tryz.ntmps96
   go_wp2
   go_quiet (fail)
   go_wp2
   go_ret3
   exact ⟨Jf9 E2.out.symm E3.out.symm E1.out.symm,_,rfl⟩
theorem Ee9 (A : Option Addr) (c : Nat) (p : Int) (l : List UInt8) (w : World) (h : Reads w w.heap.size 1 A l.length (bys l)) (hn : l.length ≤ 100000000) :
 Calls Tryz.prog 71 #[.slice A l.length c,.int .i64 p] w fun e w' => e = .returned (.tuple #[.int .i64 (S8 l p),.int .i64 (Eq9 l p),.bool (Jr9 l p)])∧∃ n,w' = w.drewN n:=by
 by_cases h0 : p < 0
 ·obtain ⟨e1,e2,e3⟩:=Zu9 (l:=l) (.inl h0)
  have E1:=Lib.hid e1;have E2:=Lib.hid e2;have E3:=Lib.hid e3;clear e1 e2 e3;go_enter Tryz.func71,Tryz.ntmps71
  go_wp2
  go_ret3
  exact ⟨Jf9 E2.out.symm E3.out.symm E1.out.symm,0,rfl⟩
 ·obtain ⟨k,rfl⟩:=Int.eq_ofNat_of_zero_le (by omega : 0 ≤ p)
  by_cases h1 : (l.length : Int) - 2 < (k : Int)
  ·obtain ⟨e1,e2,e3⟩:=Zu9 (l:=l) (.inr h1)
   have E1:=Lib.hid e1;have E2:=Lib.hid e2;have E3:=Lib.hid e3;clear e1 e2 e3;go_enter Tryz.func71,Tryz.ntmps71
   go_wp2
   go_ret3
   exact ⟨Jf9 E2.out.symm E3.out.symm E1.out.symm,0,rfl⟩
  ·obtain ⟨b,off,x,rfl,_,hx,hcx⟩:=h.byte (k:=k) (by omega)
   obtain ⟨b',off',y,hA',_,hy,hcy⟩:=h.byte (k:=k + 1) (by omega)
   injection hA' with hA';injection hA' with hA1 hA2;subst hA1;subst hA2;obtain ⟨e1,e2,e3⟩:=Ye9 (by omega) hx hy
   have E1:=Lib.hid e1;have E2:=Lib.hid e2;have E3:=Lib.hid e3;have hxl:=Gn9 x;have hyl:=Gn9 y;clear e1 e2 e3 hx hy h;have i1 : (0 : Int) ≤ (k : Int):=by omega
   have i2 : (k : Int) < (l.length : Int):=by omega
   have i3 : (k : Int) + 1 < (l.length : Int):=by omega
   go_enter Tryz.func71,Tryz.ntmps71
   go_wp2
   go_quiet (fail)
   go_wp2
   go_ret3
   exact ⟨Jf9 E2.out.symm E3.out.symm E1.out.symm,_,rfl⟩
def inB (b : UInt8) : Bool:=decide (32 ≤ b.toNat) && decide (b.toNat ≤ 126)
def okB (l : List UInt8) : Bool:=decide (l.length ≤ 100) && l.all inB
def Td9 (l : List UInt8) (k : Nat) : Prop:=(l.take k).all inB = true
theorem Rj9 (l : List UInt8) : Td9 l 0:=by simp [Td9]
theorem Rk9 {l : List UInt8} {k : Nat} {b : UInt8} (h : Td9 l k) (hb : l[k]? = some b) (hi : inB b = true) : Td9 l (k + 1):=by
 unfold Td9 at *;rw [take_snoc_get hb,List.all_append,h];simp [hi]
theorem Zs9 {b : UInt8} (h1 : ¬ (b.toNat : Int) < 32) (h2 : ¬ 126 < (b.toNat : Int)) : inB b = true:=by
 unfold inB;rw [decide_eq_true (by omega),decide_eq_true (by omega)];rfl
theorem Tk9 {b : UInt8} (h : (b.toNat : Int) < 32 ∨ 126 < (b.toNat : Int)) : inB b = false:=by
 unfold inB;rcases h with h | h
 ·rw [decide_eq_false (by omega)];rfl
 ·rw [decide_eq_false (p:=b.toNat ≤ 126) (by omega),Bool.and_false]
theorem Oc9 {l : List UInt8} {k : Nat} {b : UInt8} (hb : l[k]? = some b) (hi : inB b = false) : okB l = false:=by
 have hm : b ∈ l:=List.mem_of_getElem? hb;unfold okB;have : l.all inB = false:=by
  rw [List.all_eq_false];exact ⟨b,hm,by simp [hi]⟩
 rw [this,Bool.and_false]
theorem Ow9 {l : List UInt8} (h : 100 < l.length) : okB l = false:=by
 unfold okB;rw [decide_eq_false (by omega)];rfl
theorem Zo9 {l : List UInt8} (h : Td9 l l.length) (h1 : l.length ≤ 100) : okB l = true:=by
 unfold Td9 at h;rw [List.take_length] at h;unfold okB;rw [decide_eq_true h1,h];rfl
theorem Zh9 (s : ByteArray) (k : Nat) (hk : k < s.size) : s.data.toList[k]? = some s[k]:=by
 have h' : k < s.data.toList.length:=by simpa using hk
 rw [List.getElem?_eq_getElem h'];simp;rfl
theorem Hm9 (s : ByteArray) (w : World) (hs : s.size ≤ 140737488351232) :
 Calls Tryz.prog 117 #[.string s] w fun e w' => e = .returned (.bool (okB s.data.toList))∧w = w':=by
 by_cases hb : 100 < s.size
 ·have E:=Lib.hid (Ow9 (l:=s.data.toList) (by simpa using hb))
  go_enter Tryz.func117,Tryz.ntmps117
  go_wp2
  go_ret
  exact ⟨Dy9 E.out.symm,rfl⟩
 ·go_enter Tryz.func117,Tryz.ntmps117
  go_wp2
  go_loop [9] (fun i => ∃ k : Nat,k ≤ s.size∧i = .int .i64 k∧Td9 s.data.toList k) (fun i => s.size - (intOf i).toNat)
  case atStart => exact ⟨0,by omega,rfl,Rj9 _⟩
  case round =>
   obtain ⟨k,hk,rfl,hok⟩:=hrel;by_cases hlt : k < s.size
   ·have HG:=Lib.hid (Zh9 s k hlt)
    have H:=Lib.hid hok;clear hok;by_cases h1 : (s[k].toNat : Int) < 32
    ·have E:=Lib.hid (Oc9 HG.out (Tk9 (.inl h1)))
     go_wp2
     go_ret
     exact ⟨Dy9 E.out.symm,rfl⟩
    ·by_cases h2 : 126 < (s[k].toNat : Int)
     ·have E:=Lib.hid (Oc9 HG.out (Tk9 (.inr h2)))
      go_wp2
      go_ret
      exact ⟨Dy9 E.out.symm,rfl⟩
     ·have E:=Lib.hid (Rk9 H.out HG.out (Zs9 h1 h2))
      go_wp2
      go_round
      case rel => exact ⟨k + 1,by omega,by go_num,E.out⟩
      case measure => simp [intOf];omega
   ·have he : k = s.size:=by omega
    subst he;have E:=Lib.hid (Zo9 (l:=s.data.toList) (by simpa using hok) (by simp;omega))
    clear hok;go_wp2
    go_ret
    exact ⟨Dy9 E.out.symm,rfl⟩
theorem Gd9 (s : ByteArray) (w : World) (hs : s.size ≤ 140737488351232) :
 Calls Tryz.prog 95 #[.string s] w fun e w' => e = .returned (.bool (okB s.data.toList))∧w = w':=by
 go_enter Tryz.func95,Tryz.ntmps95
 go_wp2
 go_loop [3] (fun i => ∃ k : Nat,k ≤ s.size∧k ≤ 101∧i = .int .i64 k∧Td9 s.data.toList k) (fun i => s.size - (intOf i).toNat)
 case atStart => exact ⟨0,by omega,by omega,rfl,Rj9 _⟩
 case round =>
  obtain ⟨k,hk,hk1,rfl,hok⟩:=hrel;by_cases hlt : k < s.size
  ·by_cases hle : k ≤ 100
   ·have HG:=Lib.hid (Zh9 s k hlt)
    have H:=Lib.hid hok;clear hok;by_cases h1 : (s[k].toNat : Int) < 32
    ·have E:=Lib.hid (Oc9 HG.out (Tk9 (.inl h1)))
     go_wp2
     go_ret
     exact ⟨Dy9 E.out.symm,rfl⟩
    ·by_cases h2 : 126 < (s[k].toNat : Int)
     ·have E:=Lib.hid (Oc9 HG.out (Tk9 (.inr h2)))
      go_wp2
      go_ret
      exact ⟨Dy9 E.out.symm,rfl⟩
     ·have E:=Lib.hid (Rk9 H.out HG.out (Zs9 h1 h2))
      go_wp2
      go_round
      case rel => exact ⟨k + 1,by omega,by omega,by go_num,E.out⟩
      case measure => simp [intOf];omega
   ·have hsz : 100 < s.size:=by omega
    have E:=Lib.hid (Ow9 (l:=s.data.toList) (by simpa using hsz))
    clear hok;go_wp2
    go_ret
    exact ⟨Dy9 (by rw [E.out];simp;omega),rfl⟩
  ·have he : k = s.size:=by omega
   subst he;by_cases hle : s.size ≤ 100
   ·have E:=Lib.hid (Zo9 (l:=s.data.toList) (by simpa using hok) (by simpa using hle))
    clear hok;go_wp2
    go_ret
    exact ⟨Dy9 (by rw [E.out];simp;omega),rfl⟩
   ·have E:=Lib.hid (Ow9 (l:=s.data.toList) (by simp;omega))
    clear hok;go_wp2
    go_ret
    exact ⟨Dy9 (by rw [E.out];simp;omega),rfl⟩
theorem Zg9 (A : Option Addr) (c : Nat) (l : List UInt8) (w : World) (h : Reads w w.heap.size 1 A l.length (bys l)) (hn : l.length ≤ 140737488351232) :
 Calls Tryz.prog 79 #[.slice A l.length c] w fun e w' => e = .returned (.int .i64 (crc l))∧w = w':=by
 go_enter Tryz.func79,Tryz.ntmps79
 go_wp2
 go_loop [3,8] (fun s i => ∃ k : Nat,k ≤ l.length∧i = .int .i64 k∧s = .int .i64 (Ii9 l k : Nat)) (fun _ i => l.length - (intOf i).toNat)
 case atStart => exact ⟨0,by omega,rfl,rfl⟩
 case round =>
  obtain ⟨k,hk,rfl,rfl⟩:=hrel;by_cases hlt : k < l.length
  ·obtain ⟨b,off,u,rfl,hbl,hu,hcell⟩:=h.byte hlt
   have HU:=Lib.hid (Qg9 hu);have hS:=Ws9 l k;have hx:=Zx9 (b:=u) hS;have hs0:=Qf9 (b:=u) hS;obtain ⟨s0,e0⟩ : ∃ s0,Ii9 l k ^^^ (u.toNat * 256) = s0:=⟨_,rfl⟩;rw [e0] at hx hs0;have E0:=Lib.hid e0;have hu256:=Gn9 u;clear hu e0;go_wp2
   go_loop [3,17] (fun s i => ∃ j : Nat,j ≤ 8∧i = .int .i64 j∧s = .int .i64 (Dd9 j s0 : Nat)) (fun _ i => 8 - (intOf i).toNat)
   case atStart => exact ⟨0,by omega,rfl,rfl⟩
   case round =>
        obtain ⟨j,hj,rfl,rfl⟩:=hrel;by_cases hj8 : j < 8
        ·have hT:=Hy9 hs0 j
         have HB:=Lib.hid (show Dd9 (j + 1) s0 = Hz9 (Dd9 j s0) from rfl)
         obtain ⟨t,et⟩ : ∃ t,Dd9 j s0 = t:=⟨_,rfl⟩;rw [et] at hT HB;rw [et];clear et;by_cases hb : 65535 < (t : Int) * 2
         ·have hx2:=Zy9 hT hb
          go_wp2
          go_round
          case rel => exact ⟨j + 1,by omega,by go_num,by rw [HB.out]⟩
          case measure => simp [intOf];omega
         ·have HX2:=Lib.hid (Zz9 hb)
          go_wp2
          go_round
          case rel => exact ⟨j + 1,by omega,by go_num,by rw [HB.out,← HX2.out]⟩
          case measure => simp [intOf];omega
        ·have he : j = 8:=by omega
         subst he;have HE:=Lib.hid (show Ii9 l (k + 1) = Dd9 8 s0 by rw [HU.out,← E0.out];rfl)
         go_wp2
         go_round
         case rel => exact ⟨k + 1,by omega,by go_num,by rw [HE.out]⟩
         case measure => simp [intOf];omega
  ·have he : k = l.length:=by omega
   subst he;rw [Sb9];have hm:=Lv9 (crc l : Nat);rw [Wr9] at hm;go_wp2
   go_ret
   exact ⟨rfl,rfl⟩
theorem Dw9 (A : Option Addr) (c : Nat) (l : List UInt8) (w : World) (h : Reads w w.heap.size 1 A l.length (bys l)) (hn : l.length ≤ 140737488351232) :
 Calls Tryz.prog 66 #[.slice A l.length c] w fun e w' => e = .returned (.int .i64 (crc l))∧w = w':=by
 go_enter Tryz.func66,Tryz.ntmps66
 go_wp2
 go_loop [3,4] (fun s i => ∃ k : Nat,k ≤ l.length∧i = .int .i64 k∧s = .int .i64 (Ii9 l k : Nat)) (fun _ i => l.length - (intOf i).toNat)
 case atStart => exact ⟨0,by omega,rfl,rfl⟩
 case round =>
  obtain ⟨k,hk,rfl,rfl⟩:=hrel;by_cases hlt : k < l.length
  ·obtain ⟨b,off,u,rfl,hbl,hu,hcell⟩:=h.byte hlt
   have HU:=Lib.hid (Qg9 hu);have hS:=Ws9 l k;have hx:=Dt8 (b:=u) hS;have hs0:=Qf9 (b:=u) hS;obtain ⟨s0,e0⟩ : ∃ s0,Ii9 l k ^^^ (u.toNat * 256) = s0:=⟨_,rfl⟩;rw [e0] at hx hs0;have E0:=Lib.hid e0;have hu256:=Gn9 u;clear hu e0;go_wp2
   go_loop [3,5] (fun s i => ∃ j : Nat,j ≤ 8∧i = .int .i64 j∧s = .int .i64 (Dd9 j s0 : Nat)) (fun _ i => 8 - (intOf i).toNat)
   case atStart => exact ⟨0,by omega,rfl,rfl⟩
   case round =>
        obtain ⟨j,hj,rfl,rfl⟩:=hrel;by_cases hj8 : j < 8
        ·have hT:=Hy9 hs0 j
         have HB:=Lib.hid (show Dd9 (j + 1) s0 = Hz9 (Dd9 j s0) from rfl)
         obtain ⟨t,et⟩ : ∃ t,Dd9 j s0 = t:=⟨_,rfl⟩;rw [et] at hT HB;rw [et];clear et;by_cases hb : 65535 < (t : Int) * 2
         ·have hx2:=Zy9 hT hb
          go_wp2
          go_round
          case rel => exact ⟨j + 1,by omega,by go_num,by rw [HB.out]⟩
          case measure => simp [intOf];omega
         ·have HX2:=Lib.hid (Zz9 hb)
          go_wp2
          go_round
          case rel => exact ⟨j + 1,by omega,by go_num,by rw [HB.out,← HX2.out]⟩
          case measure => simp [intOf];omega
        ·have he : j = 8:=by omega
         subst he;have HE:=Lib.hid (show Ii9 l (k + 1) = Dd9 8 s0 by rw [HU.out,← E0.out];rfl)
         go_wp2
         go_round
         case rel => exact ⟨k + 1,by omega,by go_num,by rw [HE.out]⟩
         case measure => simp [intOf];omega
  ·have he : k = l.length:=by omega
   subst he;rw [Sb9];have hm:=Lv9 (crc l : Nat);rw [Wr9] at hm;go_wp2
   go_ret
   exact ⟨rfl,rfl⟩
def Fs9 (g n : Int) : List UInt8:=[] ++ F9 g ++ F9 n
def Af9 (g n : Int) : List UInt8:=if inI g 1 60000 = true∧inI n 0 18 = true then Q7 (Fs9 g n) else []
theorem Da9 (g n : Int) : (Af9 g n).length ≤ 6:=by
 unfold Af9;split
 ·simp [Q7,Fs9,F9]
 ·simp
theorem Lw9 {g n : Int} (h : inI g 1 60000 = false ∨ inI n 0 18 = false) : Af9 g n = []:=by
 unfold Af9;rw [if_neg];rintro ⟨h1,h2⟩;rcases h with h | h
 ·rw [h] at h1;cases h1
 ·rw [h] at h2;cases h2
theorem Mp9 {g n : Int} (h : inI g 1 60000 = true) (h2 : inI n 0 18 = true) : Af9 g n = Q7 (Fs9 g n):=if_pos ⟨h,h2⟩
def E8 (l : List UInt8) : (Int × Int) × Bool:=if l.length = 6∧Af9 (S8 l 0) (S8 l 2) = l then ((S8 l 0,S8 l 2),true) else ((0,0),false)
def Og9 (w : World) (p : (Int × Int) × Bool) (e : Ending) (w' : World) : Prop:=e = .returned (.tuple #[.int .i64 p.1.1,.int .i64 p.1.2,.bool p.2])∧Below w.heap.size w w'
theorem Fc9 {l : List UInt8} (h : ¬ (l.length = 6∧Af9 (S8 l 0) (S8 l 2) = l)) : E8 l = ((0,0),false):=if_neg h
theorem Hu9 {l : List UInt8} (h : l.length = 6) (h2 : Af9 (S8 l 0) (S8 l 2) = l) : E8 l = ((S8 l 0,S8 l 2),true):=if_pos ⟨h,h2⟩
theorem Gk9 (g n : Int) (w : World) : Calls Tryz.prog 48 #[.int .i64 g,.int .i64 n] w (Gv9 w (Af9 g n)):=by
 obtain ⟨b1,h1⟩ : ∃ b,inI g 1 60000 = b:=⟨_,rfl⟩;obtain ⟨b2,h2⟩ : ∃ b,inI n 0 18 = b:=⟨_,rfl⟩;unfold Gv9;cases b1
 ·rw [Lw9 (.inl h1)]
  go_enter Tryz.func48,Tryz.ntmps48
  go_wp2_with (go_at_call 62;refine (M7 (by assumption) _).mono ?_;rintro e w' ⟨rfl,rfl⟩)
  go_ret
  exact ⟨_,rfl,En9 w _ (Nat.le_refl _),Later.alloc w _⟩
 ·cases b2
  ·rw [Lw9 (.inr h2)]
   go_enter Tryz.func48,Tryz.ntmps48
   go_wp2_with (go_at_call 62;refine (M7 (by assumption) _).mono ?_;rintro e w' ⟨rfl,rfl⟩)
   go_ret
   exact ⟨_,rfl,En9 w _ (Nat.le_refl _),Later.alloc w _⟩
  ·rw [Mp9 h1 h2]
   go_enter Tryz.func48,Tryz.ntmps48
   go_wp2_with (go_at_call 62;refine (M7 (by assumption) _).mono ?_;rintro e w' ⟨rfl,rfl⟩)
   clear h1 h2;have S : All (fun w' => Below w.heap.size w w') (w.alloc (.cells #[] 5)):=⟨Later.alloc w _⟩
   have o0:=En9 w w.heap.size (Nat.le_refl _);generalize w.alloc (.cells #[] 5) = W1 at S o0 ⊢;refine (I8 (some ⟨w.heap.size,0,none⟩) 0 g [] W1 (Owns.reads o0) (by simp)).mono ?_
   rintro e W2 ⟨v2,rfl,o2,hb⟩;replace S:=S.later hb;obtain ⟨A2,c2,rfl,_,_,r2,_⟩:=o2.shape;clear hb o2 o0;go_wp2_with fail;refine (I8 A2 c2 n _ W2 r2 (by simp [F9])).mono ?_
   rintro e W3 ⟨v3,rfl,o3,hb⟩;replace S:=S.later hb;obtain ⟨A3,c3,rfl,_,_,r3,_⟩:=o3.shape;have L3:=Lib.hid (show ([] ++ F9 g ++ F9 n).length = 4 by simp [F9])
   obtain ⟨l3,hl3⟩ : ∃ l3,[] ++ F9 g ++ F9 n = l3:=⟨_,rfl⟩;rw [hl3] at r3 L3 ⊢;have HL3:=Lib.hid hl3;clear hl3;clear hb o3 r2;go_wp2_with fail;refine (Dw9 A3 c3 l3 W3 r3 (by have:=L3.out;omega)).mono ?_
   rintro e W4 ⟨rfl,rfl⟩;go_wp2_with fail;refine (I8 A3 c3 (crc l3) l3 W3 r3 (by have:=L3.out;omega)).mono ?_
   rintro e W5 ⟨v5,rfl,o5,hb⟩;go_wp2_with fail;go_ret
   exact ⟨_,rfl,by unfold Q7 Fs9;rw [HL3.out];exact ownsRow_mono o5 S.out.size,Later.trans S.out hb⟩
theorem Tr9 (A : Option Addr) (c : Nat) (l : List UInt8) (w : World) (h : Reads w w.heap.size 1 A l.length (bys l)) (hn : l.length ≤ 100000000) : Calls Tryz.prog 31 #[.slice A l.length c] w (Og9 w (E8 l)):=by
 obtain ⟨p,hp⟩ : ∃ p,E8 l = p:=⟨_,rfl⟩;rw [hp];have HP:=Lib.hid hp;clear hp;unfold Og9;go_enter Tryz.func31,Tryz.ntmps31
 go_wp2_with fail;refine (Ee9 A c 0 l w h hn).mono ?_;rintro e W1 ⟨rfl,n1,rfl⟩;go_wp2_with fail;refine (Ee9 A c 2 l _ (h.drewN n1) hn).mono ?_;rintro e W2 ⟨rfl,n2,rfl⟩;have R2:=(h.drewN n1).drewN n2;have B2:=belowD (belowD (Below.refl w.heap.size w) n1) n2;generalize (w.drewN n1).drewN n2 = W2 at R2 B2 ⊢;by_cases hl : l.length = 6
 ·have hok : Jr9 l 2 = true:=by unfold Jr9;rw [hl];rfl
  have h6 : ((l.length : Int) != 6) = false:=by rw [hl];rfl
  have HL6:=Lib.hid hl;rw [hok];clear hl hok;go_wp2_with fail;refine (Gk9 (S8 l 0) (S8 l 2) W2).mono ?_;rintro e W3 ⟨v3,rfl,o3,hb⟩;obtain ⟨A3,c3,rfl,_,_,r3,_⟩:=o3.shape;replace R2:=(R2.below (hb.mono (Nat.le_refl _) |>.mono B2.size)).more (Nat.le_trans B2.size hb.size)
  replace B2:=Later.trans B2 hb;have HE:=Lib.hid (show (Af9 (S8 l 0) (S8 l 2) == l) = true ↔ Af9 (S8 l 0) (S8 l 2) = l by simp)
  clear hb o3;go_wp2_with fail;refine (Pl9 A3 A c3 c _ _ _ l W3 r3 R2).mono ?_;obtain ⟨y,hy⟩ : ∃ y,(Af9 (S8 l 0) (S8 l 2) == l) = y:=⟨_,rfl⟩;rw [hy];have HY:=Lib.hid hy;clear hy;rintro e W4 ⟨rfl,rfl⟩;cases y
  ·have hq:=Fc9 (l:=l) (fun h9 => by have h8:=HE.out.2 h9.2;rw [HY.out] at h8;cases h8)
   rw [HP.out] at hq;subst hq;go_wp2_with fail;go_ret3
   exact ⟨rfl,B2⟩
  ·have hq:=Hu9 HL6.out (HE.out.1 HY.out)
   rw [HP.out] at hq;subst hq;go_wp2_with fail;go_ret3
   exact ⟨rfl,B2⟩
 ·have hq:=Fc9 (l:=l) (fun h9 => hl h9.1)
  rw [HP.out] at hq;subst hq;have h6 : ((l.length : Int) != 6) = true:=by simp;omega
  clear hl;obtain ⟨ok,hok⟩ : ∃ ok,Jr9 l 2 = ok:=⟨_,rfl⟩;rw [hok];cases ok
  ·go_wp2_with fail
   go_ret3
   exact ⟨rfl,B2⟩
  ·go_wp2_with fail
   go_ret3
   exact ⟨rfl,B2⟩
theorem Uf9 (b : List UInt8) : (Q7 b).length = b.length + 2:=by simp [Q7,F9]
def strR (m : Nat→ByteArray) : Rep ByteArray:=Rep.leaf (fun s => .string s) (fun k _ => m k)
def digF : Nat→Nat→List UInt8
 | 0,_ => []
 | f + 1,k => if k = 0 then [] else digF f (k / 10) ++ [UInt8.ofNat (48 + k % 10)]
def Vk9 (k : Nat) : ByteArray:=⟨(109 :: (if k = 0 then [48] else digF k k)).toArray⟩
theorem Ba9 {P : Program} (d : Nat) (xs ys : Array Value) (f : Field) (fs : List Field) (t o : Nat) (a b : Value) (r : Bool) (w : World) (hf : (f.type, f.offset, decide (f.name = "_")) = (t, o, false))
 (ha : (part t xs o).run P w = .ok a w) (hb : (part t ys o).run P w = .ok b w) (hr : (Op.equalIn d t a b).run P w = .ok r w) :
 (Op.eqFields d xs ys (f :: fs)).run P w = if r = true then (Op.eqFields d xs ys fs).run P w else .ok false w:=by
 simp only [Prod.mk.injEq] at hf;obtain ⟨rfl, rfl, h3⟩ := hf;have h4 : f.name ≠ "_" := of_decide_eq_false h3;simp only [Op.eqFields, if_pos h4, Sem.run_bind, ha, hb, hr, Result.andThen_ok];cases r
 ·simp [Sem.run_pure]
 ·simp
theorem Tryz.strKey : Tryz.prog.plainKey 9 = true:=by kernel_rfl
theorem Tryz.intKey : Tryz.prog.plainKey 3 = true:=by kernel_rfl
structure Db where
 name : ByteArray
 size : Int
 queue : Int
 wait : Int
 idle : Int
def dbR : Rep Db:=((strR Vk9).pair (Rep.int.pair (Rep.int.pair (Rep.int.pair Rep.int)))).iso (fun d => (d.name,d.size,d.queue,d.wait,d.idle)) (fun p => ⟨p.1,p.2.1,p.2.2.1,p.2.2.2.1,p.2.2.2.2⟩)
def dbC (d : Db) : List Value:=[.string d.name,.int .i64 d.size,.int .i64 d.queue,.int .i64 d.wait,.int .i64 d.idle]
def dbsR : Rep (List Db):=Rep.rows 132 dbR
theorem Wl9 {w : World} {B : Nat} {A : Option Addr} {c : Nat} {xs : List Db} (h : dbsR.at_ w B [.slice A xs.length c] xs) : (xs.length ≤ c∧c ≤ maxLen)∧Rep.RowsAt dbR w B A xs.length xs:=by
 obtain ⟨A',c',he,hc,hr⟩:=h;injection he with he _;injection he with he _ he2;subst he he2;exact ⟨hc,hr⟩
theorem Wm9 {w : World} {B : Nat} {cs : List Value} {d : Db} (h : dbR.at_ w B cs d) : cs = dbC d:=by
 have hl : cs.length = 5:=Rep.len dbR h;obtain ⟨h0,h1,h2,h3,h4⟩:=h;match cs,hl with
 | [a, b, c, e, f], _ =>
   replace h0 : [a] = [.string d.name]:=h0;replace h1 : [b] = [.int .i64 d.size]:=h1;replace h2 : [c] = [.int .i64 d.queue]:=h2;replace h3 : [e] = [.int .i64 d.wait]:=h3;replace h4 : [f] = [.int .i64 d.idle]:=h4;injection h0 with h0;injection h1 with h1;injection h2 with h2;injection h3 with h3;injection h4 with h4;subst h0 h1 h2 h3 h4;rfl
theorem Qc9 (w : World) (base : Nat) (d : Db) : dbR.own w base (dbC d) d []:=
 ⟨[],[],⟨rfl,rfl⟩,⟨[],[],⟨rfl,rfl⟩,⟨[],[],⟨rfl,rfl⟩,⟨[],[],⟨rfl,rfl⟩,⟨rfl,rfl⟩,rfl,by simp⟩,rfl,by simp⟩,rfl,by simp⟩,rfl,by simp⟩
theorem Hx9 {w : World} {B n k : Nat} {A : Option Addr} {xs : List Db} (h : Rep.RowsAt dbR w B A n xs) (hk : k < n) :
 ∃ b off x,A = some ⟨b,off,none⟩∧b < B∧xs[k]? = some x∧w.cell? ⟨b,off + k * 5,none⟩ = some (.string x.name)∧w.cell? ⟨b,off + k * 5 + 1,none⟩ = some (.int .i64 x.size)∧w.cell? ⟨b,off + k * 5 + 2,none⟩ = some (.int .i64 x.queue)∧w.cell? ⟨b,off + k * 5 + 3,none⟩ = some (.int .i64 x.wait)∧w.cell? ⟨b,off + k * 5 + 4,none⟩ = some (.int .i64 x.idle):=by
 obtain ⟨b,off,c,x,hA,hb,hx,h2,hcell⟩:=h.elem hk (show 0 < 5 by omega)
 obtain rfl:=Wm9 h2;have e : dbR.size = 5:=rfl;rw [e] at hcell;refine ⟨b,off,x,hA,hb,hx,by simpa using hcell 0 _ rfl,?_,?_,?_,?_⟩
 ·have:=hcell 1 _ rfl;rwa [← Nat.add_assoc] at this
 ·have:=hcell 2 _ rfl;rwa [← Nat.add_assoc] at this
 ·have:=hcell 3 _ rfl;rwa [← Nat.add_assoc] at this
 ·have:=hcell 4 _ rfl;rwa [← Nat.add_assoc] at this
def Jq9 (xs : List Db) : Prop:=xs.length ≤ 1048576∧∀ x,x ∈ xs→x.name.size ≤ 1048576
theorem Tryz.infoDb : (Tryz.prog.info? 132).map (fun i => (i.zero,i.size,i.bytes)) = some (some (.agg #[.string ⟨#[]⟩,.int .i64 0,.int .i64 0,.int .i64 0,.int .i64 0]),5,48):=by kernel_rfl
structure Rec where
 kind : Int
 n : Int
 owner : Int
 text : ByteArray
def M8 (r : Rec) : List Value:=[.int .i64 r.kind,.int .i64 r.n,.int .i64 r.owner,.string r.text]
theorem J9 {w : World} {g t : Nat} {r : Rec} (h : w.heap[g]? = some (.cells (M8 r).toArray t (0,0))) : w.cell? ⟨g,0,none⟩ = some (.int .i64 r.kind)∧w.cell? ⟨g,1,none⟩ = some (.int .i64 r.n)∧w.cell? ⟨g,2,none⟩ = some (.int .i64 r.owner)∧w.cell? ⟨g,3,none⟩ = some (.string r.text):=⟨E9 h 0,E9 h 1,E9 h 2,E9 h 3⟩
structure Known where
 gen : Int
 text : ByteArray
 pGen : Int
 pText : ByteArray
 epoch : Int
 owner : Int
def T9 (r : Known) : List Value:=[.int .i64 r.gen,.string r.text,.int .i64 r.pGen,.string r.pText,.int .i64 r.epoch,.int .i64 r.owner]
theorem I9 {w : World} {g t : Nat} {r : Known} (h : w.heap[g]? = some (.cells (T9 r).toArray t (0,0))) : w.cell? ⟨g,0,none⟩ = some (.int .i64 r.gen)∧w.cell? ⟨g,1,none⟩ = some (.string r.text)∧w.cell? ⟨g,2,none⟩ = some (.int .i64 r.pGen)∧w.cell? ⟨g,3,none⟩ = some (.string r.pText)∧w.cell? ⟨g,4,none⟩ = some (.int .i64 r.epoch)∧w.cell? ⟨g,5,none⟩ = some (.int .i64 r.owner):=⟨E9 h 0,E9 h 1,E9 h 2,E9 h 3,E9 h 4,E9 h 5⟩
def knownZero : Known:=⟨0,⟨#[]⟩,0,⟨#[]⟩,0,0⟩
def Vl9 (b : UInt8) : Bool:=decide (97 ≤ b.toNat∧b.toNat ≤ 122)
def Eh9 (l : List UInt8) : Bool:=decide (1 ≤ l.length∧l.length ≤ 8) && l.all Vl9
theorem Ui9 (s : ByteArray) (k : Nat) (hk : k < s.size) : s.data.toList[k]? = some s[k]:=by
 have h' : k < s.data.toList.length:=by simpa using hk
 rw [List.getElem?_eq_getElem h'];simp;rfl
theorem Hc9 {s : ByteArray} {k : Nat} (hk : k < s.size) (h : ¬ (97 ≤ s[k].toNat∧s[k].toNat ≤ 122)) : Eh9 s.data.toList = false:=by
 unfold Eh9;rw [Bool.and_eq_false_iff];refine .inr ?_;rw [List.all_eq_false];exact ⟨s[k],List.mem_of_getElem? (Ui9 s k hk),by simp [Vl9];omega⟩
theorem Aw8 {s : ByteArray} (h : ¬ (1 ≤ s.size∧s.size ≤ 8)) : Eh9 s.data.toList = false:=by
 unfold Eh9;rw [Bool.and_eq_false_iff];refine .inl (decide_eq_false ?_);simpa using h
def Rm9 (s : ByteArray) (k : Nat) : Prop:=∀ b,b ∈ s.data.toList.take k→Vl9 b = true
theorem Pg9 (s : ByteArray) : Rm9 s 0:=by intro b hb;simp at hb
theorem Ph9 {s : ByteArray} {k : Nat} (hk : k < s.size) (h : Rm9 s k) (hb : 97 ≤ s[k].toNat∧s[k].toNat ≤ 122) : Rm9 s (k + 1):=by
 intro b hm;rw [Rep.take_get (Ui9 s k hk),List.mem_append] at hm;rcases hm with hm | hm
 ·exact h b hm
 ·simp at hm
  subst hm;simp [Vl9];omega
theorem Rl9 {s : ByteArray} (h : Rm9 s s.size) : Eh9 s.data.toList = inI (s.size : Int) 1 8:=by
 unfold Eh9 inI;have h2 : s.data.toList.all Vl9 = true:=List.all_eq_true.2 fun b hb => h b (by rw [List.take_of_length_le (by simp)];exact hb)
 rw [h2,Bool.and_true];have : s.data.toList.length = s.size:=by simp
 rw [this];apply decide_eq_decide.2;omega
theorem Di8 {s : ByteArray} {b : Bool} (hb : Eh9 s.data.toList = b) (w : World) (hs : s.size ≤ 1048576) : Calls Tryz.prog 121 #[.string s] w fun e w' => e = .returned (.bool b)∧w = w':=by
 have HB:=Lib.hid hb;clear hb;go_enter Tryz.func121,Tryz.ntmps121
 go_wp2
 go_loop [3] (fun i => ∃ k : Nat,k ≤ s.size∧i = .int .i64 k∧Hid (Rm9 s k)) (fun i => s.size - (intOf i).toNat)
 case atStart => exact ⟨0,by omega,rfl,Lib.hid (Pg9 s)⟩
 case round =>
  obtain ⟨k,hk,rfl,hl⟩:=hrel;by_cases hlt : k < s.size
  ·by_cases h1 : (s[k].toNat : Int) < 97
   ·obtain rfl : b = false:=by rw [← HB.out,Hc9 hlt (by omega)]
    go_wp2
    go_ret
    exact ⟨rfl,rfl⟩
   ·by_cases h2 : (122 : Int) < s[k].toNat
    ·obtain rfl : b = false:=by rw [← HB.out,Hc9 hlt (by omega)]
     go_wp2
     go_ret
     exact ⟨rfl,rfl⟩
    ·have HN:=Lib.hid (Ph9 hlt hl.out (by omega))
     go_wp2
     go_round
     case rel => exact ⟨k + 1,by omega,by go_num,HN⟩
     case measure => simp [intOf];omega
  ·have he : k = s.size:=by omega
   subst he;have HE:=Lib.hid (Rl9 hl.out);go_wp2_with (go_at_call 62;refine (M7 (b:=b) (by rw [← HE.out,HB.out]) _).mono ?_;rintro e w' ⟨rfl,rfl⟩)
   go_ret
   exact ⟨rfl,rfl⟩
theorem Db8 {s : ByteArray} {b : Bool} (hb : Eh9 s.data.toList = b) (w : World) (hs : s.size ≤ 1048576) : Calls Tryz.prog 134 #[.string s] w (Y8 w b):=by
 have HB:=Lib.hid hb;clear hb;unfold Y8;by_cases hl : 1 ≤ s.size∧s.size ≤ 8
 ·have hin : inI (s.size : Int) 1 8 = true:=decide_eq_true (by omega)
  obtain ⟨l1,l2⟩:=hl;go_enter Tryz.func134,Tryz.ntmps134
  go_wp2_with (go_at_call 77;refine (L8 hin _).mono ?_;rintro e w' ⟨rfl,rfl⟩)
  clear hin;go_loopw [] (fun wr => ∃ k : Nat,k ≤ s.size∧wr = w.iter s k∧Hid (Rm9 s k)) (fun wr => s.size - wr.iterPos w.heap.size)
  case atStart => exact ⟨0,by omega,rfl,Lib.hid (Pg9 s)⟩
  case round =>
   obtain ⟨k,hk,rfl,hto⟩:=hrel;by_cases hlt : k < s.size
   ·by_cases ha : s[k].toNat < 128
    ·have hnx:=fun ty => run_next_ascii (P:=Tryz.prog) w s k ty hlt ha
     by_cases h1 : (s[k].toNat : Int) < 97
     ·obtain rfl : b = false:=by rw [← HB.out,Hc9 hlt (by omega)]
      go_wp2
      go_ret
      exact ⟨rfl,(Below.refl _ _).alloc (Nat.le_refl _) _⟩
     ·by_cases h2 : (122 : Int) < s[k].toNat
      ·obtain rfl : b = false:=by rw [← HB.out,Hc9 hlt (by omega)]
       go_wp2
       go_ret
       exact ⟨rfl,(Below.refl _ _).alloc (Nat.le_refl _) _⟩
      ·have HN:=Lib.hid (Ph9 hlt hto.out (by omega))
       go_wp2
       go_roundw
       case rel => exact ⟨k + 1,by omega,rfl,HN⟩
       case measure => simp;omega
    ·have hnx:=fun ty => run_next_any (P:=Tryz.prog) w s k ty hlt
     have hhi:=(decode_high s k hlt (by omega)).1
     have hle:=decode_le s k;obtain rfl : b = false:=by rw [← HB.out,Hc9 hlt (by omega)]
     obtain ⟨r,hr⟩ : ∃ r,(Utf8.decode s k).1 = r:=⟨_,rfl⟩;rw [hr] at hhi hle hnx;clear hr;have c1 : ¬ (r : Int) < 97:=by omega
     have c2 : (122 : Int) < (r : Int):=by omega
     go_wp2
     go_ret
     exact ⟨rfl,(Below.refl _ _).alloc (Nat.le_refl _) _⟩
   ·have he : k = s.size:=by omega
    subst he;have hnx:=fun ty => run_next_end (P:=Tryz.prog) w s s.size ty (by omega)
    obtain rfl : b = true := by
        rw [← HB.out,Rl9 hto.out];exact decide_eq_true (by omega)
    go_wp2
    go_ret
    exact ⟨rfl,(Below.refl _ _).alloc (Nat.le_refl _) _⟩
 ·have hin : inI (s.size : Int) 1 8 = false:=decide_eq_false (by omega)
  obtain rfl : b = false:=by rw [← HB.out,Aw8 hl]
  clear hl;go_enter Tryz.func134,Tryz.ntmps134
  go_wp2_with (go_at_call 77;refine (L8 hin _).mono ?_;rintro e w' ⟨rfl,rfl⟩)
  go_ret
  exact ⟨rfl,Below.refl _ _⟩
def Qd9 : Db:=⟨⟨#[]⟩,0,0,0,0⟩
def dbB (d : Db) : Bool:=Eh9 d.name.data.toList && inI d.size 1 3 && inI d.queue 0 4 && inI d.wait 1 20 && inI d.idle 1 20
def ConfTo (xs : List Db) (k : Nat) : Prop:=
 (∀ i x,i < k→xs[i]? = some x→dbB x = true)∧(∀ i j x y,j < i→i < k→xs[i]? = some x→xs[j]? = some y→y.name ≠ x.name)
def Mf9 (xs : List Db) : Prop:=(1 ≤ xs.length∧xs.length ≤ 3)∧ConfTo xs xs.length
noncomputable def Bm9 (xs : List Db) : Bool:=@decide (Mf9 xs) (Classical.propDecidable _)
theorem Mx9 {xs : List Db} (h : Mf9 xs) : Bm9 xs = true:=by unfold Bm9;exact @decide_eq_true _ (Classical.propDecidable _) h
theorem Qh9 {xs : List Db} (h : ¬ Mf9 xs) : Bm9 xs = false:=by unfold Bm9;exact @decide_eq_false _ (Classical.propDecidable _) h
theorem Ks9 {xs : List Db} (h : Bm9 xs = true) : Mf9 xs:=by unfold Bm9 at h;exact @of_decide_eq_true _ (Classical.propDecidable _) h
theorem ConfTo.zero (xs : List Db) : ConfTo xs 0:=⟨fun i x h => absurd h (by omega),fun i j x y _ h => absurd h (by omega)⟩
theorem ConfTo.succ {xs : List Db} {k : Nat} {x : Db} (h : ConfTo xs k) (hx : xs[k]? = some x) (hd : dbB x = true) (hn : ∀ j y,j < k→xs[j]? = some y→y.name ≠ x.name) : ConfTo xs (k + 1):=by
 refine ⟨fun i y hi hy => ?_,fun i j y z hj hi hy hz => ?_⟩
 ·by_cases hk : i < k
  ·exact h.1 i y hk hy
  ·obtain rfl : i = k:=by omega
   rw [hx] at hy;injection hy with hy;subst hy;exact hd
 ·by_cases hk : i < k
  ·exact h.2 i j y z hj hk hy hz
  ·obtain rfl : i = k:=by omega
   rw [hx] at hy;injection hy with hy;subst hy;exact hn j z hj hz
theorem Ja9 {xs : List Db} {k : Nat} {x : Db} (hx : xs[k]? = some x) (hd : dbB x = false) : Bm9 xs = false:=Qh9 fun h => by
 have:=h.2.1 k x (List.getElem?_eq_some_iff.1 hx).1 hx;rw [hd] at this;cases this
theorem Fw9 {xs : List Db} {k j : Nat} {x y : Db} (hx : xs[k]? = some x) (hy : xs[j]? = some y) (hj : j < k) (hn : y.name = x.name) : Bm9 xs = false:=Qh9 fun h => h.2.2 k j x y hj (List.getElem?_eq_some_iff.1 hx).1 hx hy hn
theorem Mb9 {xs : List Db} (h : ¬ (1 ≤ xs.length∧xs.length ≤ 3)) : Bm9 xs = false:=Qh9 fun h' => h h'.1
theorem l3Db_b (d : Db) (w : World) (hd : d.name.size ≤ 1048576) : Calls Tryz.prog 113 #[.agg (dbC d).toArray] w (Y8 w (dbB d)):=by
 obtain ⟨b0,h0⟩ : ∃ b,Eh9 d.name.data.toList = b:=⟨_,rfl⟩;obtain ⟨b1,h1⟩ : ∃ b,inI d.size 1 3 = b:=⟨_,rfl⟩;obtain ⟨b2,h2⟩ : ∃ b,inI d.queue 0 4 = b:=⟨_,rfl⟩;obtain ⟨b3,h3⟩ : ∃ b,inI d.wait 1 20 = b:=⟨_,rfl⟩;obtain ⟨b4,h4⟩ : ∃ b,inI d.idle 1 20 = b:=⟨_,rfl⟩;have HC:=Lib.hid (show dbB d = (b0 && b1 && b2 && b3 && b4) by unfold dbB;rw [h0,h1,h2,h3,h4])
 unfold dbC Y8;cases b0;rotate_left;cases b1;rotate_left;cases b2;rotate_left;cases b3;rotate_left;cases b4;all_goals
  go_enter Tryz.func113,Tryz.ntmps113
  go_wp2_with (first
   | (go_at_call 121;refine (Di8 h0 _ hd).mono ?_;rintro e w' ⟨rfl,rfl⟩)
   | (go_at_call 62;refine (M7 (by assumption) _).mono ?_;rintro e w' ⟨rfl,rfl⟩))
  go_ret
  exact ⟨by rw [HC.out];simp,(Below.refl _ _).alloc (Nat.le_refl _) _⟩
theorem Ck8 {a b : ByteArray} (h : (a.toList == b.toList) = false) : a ≠ b:=by
 intro e;subst e;simp at h
theorem Cl8 {a b : ByteArray} (h : (a.toList == b.toList) = true) : a = b:=by
 have h1 : a.toList = b.toList:=by simpa using h
 obtain ⟨⟨l⟩⟩:=a;obtain ⟨⟨m⟩⟩:=b;rw [ByteArray.toList_mk,ByteArray.toList_mk] at h1;rw [h1]
set_option maxRecDepth 100000 in
theorem Jb9 (A : Option Addr) (c : Nat) (xs : List Db) (w : World) (h : Rep.RowsAt dbR w w.heap.size A xs.length xs) (hf : Jq9 xs) :
 Calls Tryz.prog 105 #[.slice A xs.length c] w (Y8 w (Bm9 xs)):=by
 have hn:=hf.1;have HF:=Lib.hid hf.2;clear hf;unfold Y8;go_enter Tryz.func105,Tryz.ntmps105
 go_wp2
 go_loopw [3] (fun i wr => ∃ k : Nat,k ≤ xs.length∧i = .int .i64 k∧Hid (ConfTo xs k)∧Below w.heap.size w wr) (fun i _ => xs.length - (intOf i).toNat)
 case atStart => exact ⟨0,by omega,rfl,Lib.hid (ConfTo.zero xs),Below.refl _ _⟩
 case round =>
  obtain ⟨k,hk,rfl,hto,hb⟩:=hrel;by_cases hlt : k < xs.length
  ·obtain ⟨b,off,x,rfl,hbl,hx,c0,c1,c2,c3,c4⟩:=Hx9 (h.keep fun p hp => hb.cell hp) hlt
   have HX:=Lib.hid hx;have hxs:=HF.out x (List.mem_of_getElem? hx);clear hx;have i1 : (0 : Int) ≤ (k : Int):=by omega
   have i2 : (k : Int) < (xs.length : Int):=by omega
   obtain ⟨y,hy⟩ : ∃ y,dbB x = y:=⟨_,rfl⟩;have HY:=Lib.hid hy;clear hy;go_wp2_with fail;refine (l3Db_b x wr hxs).mono ?_;rintro e w2 ⟨rfl,hb2⟩;rw [HY.out];have hb3:=hb.trans (hb2.mono hb.size);clear hb2 c0 c1 c2 c3 c4;cases y
   ·have HE:=Lib.hid (Ja9 HX.out HY.out)
    go_wp2_with fail;go_ret
    exact ⟨by rw [HE.out];rfl,hb3⟩
   ·obtain ⟨wo,hwo⟩ : ∃ wo : World,wo = wr:=⟨_,rfl⟩
    clear hb hwo;go_wp2_with fail;go_loopw [4] (fun i wr => ∃ j : Nat,j ≤ k∧i = .int .i64 j∧Hid (∀ i y,i < j→xs[i]? = some y→y.name ≠ x.name)∧Below w.heap.size w wr) (fun i _ => k - (intOf i).toNat)
    case atStart => exact ⟨0,by omega,rfl,Lib.hid (fun i y h => absurd h (by omega)),hb3⟩
    case round =>
       clear hb3;obtain ⟨j,hj,rfl,hnot,hb⟩:=hrel;by_cases hjk : j < k
       ·have hrows:=h.keep fun p hp => hb.cell hp
        obtain ⟨b1,off1,x1,hA,hbl1,hx1,c0,c1,c2,c3,c4⟩:=Hx9 hrows hlt;obtain ⟨b2,off2,y,hA2,hbl2,hy,d0,d1,d2,d3,d4⟩:=Hx9 hrows (show j < xs.length by omega)
        injection hA with hA;injection hA with e1 e2 _;injection hA2 with hA2;injection hA2 with e3 e4 _;subst e1 e2 e3 e4;obtain rfl : x = x1:=by have:=HX.out;rw [hx1] at this;injection this with this;exact this.symm
        have HYJ:=Lib.hid hy;clear hx1 hy;have i3 : (0 : Int) ≤ (j : Int):=by omega
        have i4 : (j : Int) < (xs.length : Int):=by omega
        have i5 : (j : Int) < (k : Int):=by omega
        obtain ⟨q,hq⟩ : ∃ q,(y.name.toList == x.name.toList) = q:=⟨_,rfl⟩;cases q
        ·have HN := Lib.hid (show ∀ i z, i < j + 1 → xs[i]? = some z → z.name ≠ x.name from fun i z hi hz => by
             by_cases h2 : i < j
             ·exact hnot.out i z h2 hz
             ·obtain rfl : i = j:=by omega
              have:=HYJ.out;rw [hz] at this;injection this with this;subst this;exact Ck8 hq)
         go_wp2
         go_quiet (fail)
         go_wp2
         go_roundw
         case rel => exact ⟨j + 1,by omega,by go_num,HN,belowD hb _⟩
         case measure => simp [intOf];omega
        ·have HE:=Lib.hid (Fw9 HX.out HYJ.out hjk (Cl8 hq))
         go_wp2
         go_quiet (fail)
         go_wp2
         go_ret
         exact ⟨by rw [HE.out];rfl,belowD hb _⟩
       ·obtain rfl : j = k:=by omega
        have HN:=Lib.hid (hto.out.succ HX.out HY.out (fun i y hi hy => hnot.out i y hi hy))
        go_wp2
        go_roundw
        case rel => exact ⟨j + 1,by omega,by go_num,HN,hb⟩
        case measure => simp [intOf];omega
  ·have he : k = xs.length:=by omega
   subst he;obtain ⟨y,hy⟩ : ∃ y,inI (xs.length : Int) 1 3 = y:=⟨_,rfl⟩
   have HE := Lib.hid (show Bm9 xs = y by
       unfold inI at hy;cases y
       ·exact Mb9 fun h => of_decide_eq_false hy (by omega)
       ·have:=of_decide_eq_true hy
        exact Mx9 ⟨by omega,hto.out⟩)
   go_wp2_with (go_at_call 62;refine (M7 hy _).mono ?_;rintro e w' ⟨rfl,rfl⟩)
   go_ret
   exact ⟨by rw [HE.out];rfl,hb⟩
end Go.Proofs.YthpkdjflndiojaaGreatDoor
namespace Go.Proofs.YthpkdjflndiojaaGreatDoor
set_option maxRecDepth 100000
def Dv9 (b : UInt8) : Bool:=decide (48 ≤ b.toNat) && decide (b.toNat ≤ 57)
def Fd9 (b : UInt8) : Nat:=b.toNat - 48
def De9 (l : List UInt8) : Nat:=l.foldl (fun a b => a * 10 + Fd9 b) 0
def Kf9 (l : List UInt8) (k : Nat) : Nat:=De9 (l.take k)
def Qa9 (l : List UInt8) (k : Nat) : Prop:=(l.take k).all Dv9 = true
theorem Gj9 {b : UInt8} (h : Dv9 b = true) : 48 ≤ b.toNat∧b.toNat ≤ 57:=by
 unfold Dv9 at h;rw [Bool.and_eq_true] at h;exact ⟨of_decide_eq_true h.1,of_decide_eq_true h.2⟩
theorem Lt9 {b : UInt8} (h1 : 48 ≤ b.toNat) (h2 : b.toNat ≤ 57) : Dv9 b = true:=by
 unfold Dv9;rw [decide_eq_true h1,decide_eq_true h2];rfl
theorem isDg_no {b : UInt8} (h : b.toNat < 48 ∨ 57 < b.toNat) : Dv9 b = false:=by
 unfold Dv9;rcases h with h | h
 ·rw [decide_eq_false (by omega)];rfl
 ·rw [decide_eq_false (p:=b.toNat ≤ 57) (by omega),Bool.and_false]
theorem Wi9 {b : UInt8} (h : Dv9 b = true) : Fd9 b < 10:=by have:=Gj9 h;unfold Fd9;omega
theorem Zv9 {b : UInt8} (h : Dv9 b = true) : UInt8.ofNat (48 + Fd9 b) = b:=by
 have:=Gj9 h;unfold Fd9;rw [show 48 + (b.toNat - 48) = b.toNat by omega]
 simp
theorem Dp9 (l : List UInt8) (b : UInt8) : De9 (l ++ [b]) = De9 l * 10 + Fd9 b:=by simp [De9,List.foldl_append]
theorem Ml9 {l : List UInt8} {k : Nat} {b : UInt8} (h : l[k]? = some b) : Kf9 l (k + 1) = Kf9 l k * 10 + Fd9 b:=by
 unfold Kf9;rw [List.take_add_one,h];exact Dp9 _ _
theorem Ot9 (l : List UInt8) : Kf9 l l.length = De9 l:=by unfold Kf9;rw [List.take_length]
theorem Mu9 (l : List UInt8) : Qa9 l 0:=by simp [Qa9]
theorem Mv9 {l : List UInt8} {k : Nat} {b : UInt8} (h : Qa9 l k) (hb : l[k]? = some b) (hd : Dv9 b = true) : Qa9 l (k + 1):=by
 unfold Qa9 at *;rw [List.take_add_one,hb,List.all_append,h];simp [hd]
theorem Pz9 {l : List UInt8} (h : Qa9 l l.length) : l.all Dv9 = true:=by unfold Qa9 at h;rwa [List.take_length] at h
theorem Yn9 {l : List UInt8} {k : Nat} {b : UInt8} (hb : l[k]? = some b) (hd : Dv9 b = false) : l.all Dv9 = false:=by
 rw [List.all_eq_false];exact ⟨b,List.mem_of_getElem? hb,by simp [hd]⟩
theorem Zl9 (l : List UInt8) (h : l.all Dv9 = true) : De9 l < 10 ^ l.length:=by
 induction hl : l.length generalizing l with
 | zero =>
   have : l = []:=List.eq_nil_of_length_eq_zero hl;subst this;decide
 | succ n ih =>
   obtain ⟨l',b,rfl⟩ : ∃ l' b,l = l' ++ [b]:=by
    rcases List.eq_nil_or_concat l with h0 | ⟨l',b,h0⟩
    ·subst h0;simp at hl
    ·exact ⟨l',b,by simpa using h0⟩
   rw [List.all_append,Bool.and_eq_true] at h;have hb : Dv9 b = true:=by simpa using h.2
   have h1:=ih l' h.1 (by simpa using hl)
   have h2:=Wi9 hb;rw [Dp9,Nat.pow_succ];omega
theorem Tw9 {l : List UInt8} {k : Nat} (h : Qa9 l k) (hk : k ≤ l.length) : Kf9 l k < 10 ^ k:=by
 have:=Zl9 (l.take k) h;rwa [List.length_take,Nat.min_eq_left hk] at this
theorem Wk9 (l : List UInt8) (h : l.all Dv9 = true) (hne : l ≠ []) (hz : l.length = 1 ∨ l[0]? ≠ some 48) : Lib.decDigits (De9 l) = l∧(l[0]? ≠ some 48→1 ≤ De9 l):=by
 induction hl : l.length generalizing l with
 | zero => exact absurd (List.eq_nil_of_length_eq_zero hl) hne
 | succ n ih =>
   obtain ⟨l',b,rfl⟩ : ∃ l' b,l = l' ++ [b]:=by
    rcases List.eq_nil_or_concat l with h0 | ⟨l',b,h0⟩
    ·exact absurd h0 hne
    ·exact ⟨l',b,by simpa using h0⟩
   rw [List.all_append,Bool.and_eq_true] at h;have hb : Dv9 b = true:=by simpa using h.2
   have hbd:=Gj9 hb;have hv:=Wi9 hb;rcases l' with _ | ⟨x,t⟩
   ·refine ⟨?_,?_⟩
    ·rw [Dp9,show De9 [] = 0 from rfl,Nat.zero_mul,Nat.zero_add]
     rw [Lib.decDigits,dif_pos hv,Zv9 hb];rfl
    ·intro h0
     rw [Dp9,show De9 [] = 0 from rfl]
     have hb48 : b ≠ 48:=by simpa using h0
     have : b.toNat ≠ 48:=fun e => hb48 (by rw [← UInt8.toNat_inj,e];rfl)
     unfold Fd9;omega
   ·have hz' : (x :: t)[0]? ≠ some 48 := by
       rcases hz with h1 | h1
       ·simp at h1
       ·simpa using h1
    have hn : (x :: t).length = n:=by simpa using hl
    obtain ⟨h1,h2⟩:=ih (x :: t) h.1 (by simp) (.inr hz') hn
    have h3:=h2 hz';refine ⟨?_,fun _ => by rw [Dp9];omega⟩
    rw [Dp9,Lib.decDigits,dif_neg (by omega)]
    rw [show (De9 (x :: t) * 10 + Fd9 b) / 10 = De9 (x :: t) by omega,show (De9 (x :: t) * 10 + Fd9 b) % 10 = Fd9 b by omega,h1,Zv9 hb]
theorem Kq9 (u : Nat) : Lib.decDigits u ≠ []:=by
 intro h;have:=Lib.decDigits_length u;rw [h] at this;have hp:=Lib.nDigits_pos u;simp at this;omega
theorem Wj9 (u : Nat) (h : 1 ≤ u) : (Lib.decDigits u)[0]? ≠ some 48:=by
 induction u using Nat.strongRecOn with
 | ind u ih =>
   rw [Lib.decDigits];by_cases h10 : u < 10
   ·rw [dif_pos h10]
    intro e;have e' : UInt8.ofNat (48 + u) = 48:=by simpa using e
    have:=congrArg UInt8.toNat e';simp at this;omega
   ·rw [dif_neg h10]
    have h1:=ih (u / 10) (by omega) (by omega)
    have hne:=Kq9 (u / 10);rw [List.getElem?_append_left (List.length_pos_iff.2 hne)];exact h1
theorem dec_no {l : List UInt8} (h1 : 1 < l.length) (h0 : l[0]? = some 48) (n : Nat) : Lib.decDigits n ≠ l:=by
 intro e;rcases Nat.eq_zero_or_pos n with hn | hn
 ·subst hn
  rw [Lib.decDigits_one (by omega)] at e
  rw [← e] at h1;simp at h1
 ·have:=Wj9 n hn
  rw [e] at this;exact this h0
def Bc9 (l : List UInt8) (most : Int) : Bool:=decide (1 ≤ l.length∧l.length ≤ 5∧most ≤ 65535∧(l.length = 1 ∨ l[0]? ≠ some 48)∧l.all Dv9 = true∧(De9 l : Int) ≤ most)
def R8 (l : List UInt8) (most : Int) : Int:=if Bc9 l most then (De9 l : Nat) else 0
theorem Gf9 {l : List UInt8} {most : Int} (h : ¬ (1 ≤ l.length∧l.length ≤ 5∧most ≤ 65535∧(l.length = 1 ∨ l[0]? ≠ some 48)∧l.all Dv9 = true∧(De9 l : Int) ≤ most)) : Bc9 l most = false∧R8 l most = 0:=by
 have e : Bc9 l most = false:=decide_eq_false h;exact ⟨e,by unfold R8;rw [e];rfl⟩
theorem pn_lead {l : List UInt8} {most : Int} (h1 : 1 < l.length) (h0 : l[0]? = some 48) : Bc9 l most = false∧R8 l most = 0:=
 Gf9 fun h => by
  rcases h.2.2.2.1 with h2 | h2
  ·omega
  ·exact h2 h0
theorem Os9 {l : List UInt8} {most : Int} {k : Nat} {b : UInt8} (hb : l[k]? = some b) (hd : Dv9 b = false) : Bc9 l most = false∧R8 l most = 0:=
 Gf9 fun h => by
  rw [Yn9 hb hd] at h;exact absurd h.2.2.2.2.1 (by simp)
theorem Or9 {l : List UInt8} {most : Int} (h : 1 ≤ l.length∧l.length ≤ 5∧most ≤ 65535∧(l.length = 1 ∨ l[0]? ≠ some 48)∧l.all Dv9 = true∧(De9 l : Int) ≤ most) : Bc9 l most = true∧R8 l most = (De9 l : Nat):=by
 have e : Bc9 l most = true:=decide_eq_true h;exact ⟨e,by unfold R8;rw [e];rfl⟩
end Go.Proofs.YthpkdjflndiojaaGreatDoor
