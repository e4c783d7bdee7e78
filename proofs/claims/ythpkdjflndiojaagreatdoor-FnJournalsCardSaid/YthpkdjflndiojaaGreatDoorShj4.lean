/- What the theorem needs, out of many texts. -/
import Derived.Test.YthpkdjflndiojaaGreatDoorShj3
import Derived.Lib.AppendStr
import Derived.Lib.ItoaMem
set_option maxHeartbeats 20000000
namespace Go.Proofs.YthpkdjflndiojaaGreatDoor
open Go.RowKit
set_option maxRecDepth 100000
set_option linter.unusedVariables false
def Du9 (b : UInt8) : Bool:=b == 58 || b == 47 || b == 59
def Cn9 (n : Nat) : UInt8:=if n = 0 then 58 else if n = 4 then 59 else 47
def O8 (c : UInt8) : List UInt8→List UInt8→List (List UInt8)
 | cur,[] => [cur]
 | cur,b :: r => if b = c then cur :: O8 c [] r else O8 c (cur ++ [b]) r
theorem Dq9 (c b : UInt8) (cur r : List UInt8) : O8 c cur (b :: r) = if b = c then cur :: O8 c [] r else O8 c (cur ++ [b]) r:=rfl
theorem Bw9 {c : UInt8} : ∀ {p cur : List UInt8},c ∉ p→O8 c cur p = [cur ++ p]:=by
 intro p;induction p with
 | nil => intro cur _;simp [O8]
 | cons b r ih =>
   intro cur h;have h1 : b ≠ c:=fun e => h (by simp [e])
   have h2 : c ∉ r:=fun e => h (by simp [e])
   rw [Dq9,if_neg h1,ih h2];simp
theorem At9 {c : UInt8} : ∀ {p cur r : List UInt8},c ∉ p→O8 c cur (p ++ c :: r) = (cur ++ p) :: O8 c [] r:=by
 intro p;induction p with
 | nil => intro cur r _;simp [O8]
 | cons b q ih =>
   intro cur r h;have h1 : b ≠ c:=fun e => h (by simp [e])
   have h2 : c ∉ q:=fun e => h (by simp [e])
   rw [List.cons_append];rw [Dq9,if_neg h1,ih h2];simp
theorem Qe9 (c : UInt8) : ∀ p : List UInt8,c ∉ p ∨ ∃ x r,p = x ++ c :: r∧c ∉ x:=by
 intro p;induction p with
 | nil => exact .inl (by simp)
 | cons b q ih =>
   by_cases hb : b = c
   ·exact .inr ⟨[],q,by simp [hb],by simp⟩
   ·rcases ih with h | ⟨x,r,h,hx⟩
    ·exact .inl fun e => by
      rcases List.mem_cons.1 e with e | e
      ·exact hb e.symm
      ·exact h e
    ·exact .inr ⟨b :: x, r, by simp [h], fun e => by
      rcases List.mem_cons.1 e with e | e
      ·exact hb e.symm
      ·exact hx e⟩
theorem Bd9 {c : UInt8} {p x : List UInt8} {l : List (List UInt8)} (h : O8 c [] p = x :: l) : (l = []∧p = x∧c ∉ x) ∨ ∃ r,p = x ++ c :: r∧c ∉ x∧O8 c [] r = l:=by
 rcases Qe9 c p with h0 | ⟨y,r,rfl,hy⟩
 ·rw [Bw9 h0] at h
  injection h with h1 h2;simp only [List.nil_append] at h1;exact .inl ⟨h2.symm,h1,h1 ▸ h0⟩
 ·rw [At9 hy] at h
  injection h with h1 h2;simp only [List.nil_append] at h1;subst h1;exact .inr ⟨r,rfl,hy,h2⟩
theorem Il9 (c : UInt8) (p : List UInt8) : O8 c [] p ≠ []:=by
 rcases Qe9 c p with h0 | ⟨y,r,rfl,hy⟩
 ·rw [Bw9 h0];simp
 ·rw [At9 hy];simp
def mk5 (most : Int) (n a b c d : List UInt8) : Option Db:=
 if Bc9 a most && Bc9 b most && Bc9 c most && Bc9 d most then some ⟨⟨n.toArray⟩,R8 a most,R8 b most,R8 c most,R8 d most⟩ else none
def Dc9 (p : List UInt8) : Option Db:=
 match O8 58 [] p with
 | [n, r] => match O8 47 [] r with
   | [a,b,c,d] => mk5 99 n a b c d
   | _ => none
 | _ => none
def Bi9 (f : List UInt8→Option Db) : List (List UInt8)→Option (List Db)
 | [] => some []
 | p :: r => match f p with
   | none => none
   | some d => match Bi9 f r with
     | none => none
     | some xs => some (d :: xs)
noncomputable def Te9 (o : Option (List Db)) : List Db × Bool:=match o with
 | some xs => if Bm9 xs = true then (xs,true) else ([],false)
 | none => ([],false)
noncomputable def Cb9 (s : List UInt8) : List Db × Bool:=if 100 < s.length then ([],false) else Te9 (Bi9 Dc9 (O8 59 [] s))
def Fg9 (ps : List (List UInt8)) : Option Db:=match ps with
 | [n,a,b,c,d] => mk5 65535 n a b c d
 | _ => none
def Gq9 : List UInt8→List UInt8→List (List UInt8)→List Db→Option (List Db)
 | [],_,_,dbs => some dbs
 | b :: r, cur, ps, dbs =>
   if Du9 b = false then Gq9 r (cur ++ [b]) ps dbs
   else if b ≠ Cn9 ps.length then none
   else if b = 59 then match Fg9 (ps ++ [cur]) with
     | none => none
     | some d => Gq9 r [] [] (dbs ++ [d])
   else Gq9 r [] (ps ++ [cur]) dbs
noncomputable def Ir9 (s : List UInt8) : List Db × Bool:=Te9 (Gq9 (s ++ [59]) [] [] [])
def Ds9 : List UInt8→List UInt8→List (List UInt8)→Option (List (List UInt8))
 | [],cur,ps => if ps.length = 4 then some (ps ++ [cur]) else none
 | b :: r,cur,ps => if Du9 b = false then Ds9 r (cur ++ [b]) ps else if b ≠ Cn9 ps.length then none else Ds9 r [] (ps ++ [cur])
def Nt9 (p : List UInt8) : Option Db:=match Ds9 p [] [] with
 | none => none
 | some ps => Fg9 ps
theorem Cy9 (b : UInt8) (r cur : List UInt8) (ps : List (List UInt8)) (dbs : List Db) : Gq9 (b :: r) cur ps dbs = if Du9 b = false then Gq9 r (cur ++ [b]) ps dbs
 else if b ≠ Cn9 ps.length then none
 else if b = 59 then match Fg9 (ps ++ [cur]) with
  | none => none
  | some d => Gq9 r [] [] (dbs ++ [d])
 else Gq9 r [] (ps ++ [cur]) dbs:=rfl
theorem Cb8 (cur : List UInt8) (ps : List (List UInt8)) : Ds9 [] cur ps = if ps.length = 4 then some (ps ++ [cur]) else none:=rfl
theorem Ic9 (b : UInt8) (r cur : List UInt8) (ps : List (List UInt8)) : Ds9 (b :: r) cur ps = if Du9 b = false then Ds9 r (cur ++ [b]) ps else if b ≠ Cn9 ps.length then none else Ds9 r [] (ps ++ [cur]):=rfl
theorem Ti9 (n : Nat) : 59 ≠ Cn9 n ↔ n ≠ 4:=by
 unfold Cn9;split
 ·rename_i h;subst h;simp
 ·split
  ·rename_i h;subst h;simp
  ·rename_i h;simp [h]
theorem Rd9 : ∀ {p cur : List UInt8} {ps : List (List UInt8)} {dbs : List Db} {r : List UInt8},59 ∉ p→Gq9 (p ++ 59 :: r) cur ps dbs = match Ds9 p cur ps with
 | none => none
 | some qs => match Fg9 qs with
   | none => none
   | some d => Gq9 r [] [] (dbs ++ [d]):=by
 intro p;induction p with
 | nil =>
   intro cur ps dbs r _;rw [List.nil_append];rw [Cy9,Cb8,if_neg (by decide)]
   by_cases h4 : ps.length = 4
   ·rw [if_neg (fun h => (Ti9 _).1 h h4),if_pos rfl,if_pos h4]
   ·rw [if_pos ((Ti9 _).2 h4),if_neg h4]
 | cons b q ih =>
   intro cur ps dbs r h;have h1 : b ≠ 59:=fun e => h (by simp [e])
   have h2 : 59 ∉ q:=fun e => h (by simp [e])
   rw [List.cons_append,Cy9,Ic9];by_cases hm : Du9 b = false
   ·rw [if_pos hm,if_pos hm];exact ih h2
   ·rw [if_neg hm,if_neg hm]
    by_cases hk : b ≠ Cn9 ps.length
    ·rw [if_pos hk,if_pos hk]
    ·rw [if_neg hk,if_neg hk,if_neg h1];exact ih h2
theorem run_all : ∀ (n : Nat) (s : List UInt8) (dbs : List Db),s.length ≤ n→Gq9 (s ++ [59]) [] [] dbs = match Bi9 Nt9 (O8 59 [] s) with
 | none => none
 | some xs => some (dbs ++ xs):=by
 intro n;induction n with
 | zero =>
   intro s dbs h;obtain rfl : s = []:=List.eq_nil_of_length_eq_zero (by omega)
   rfl
 | succ n ih =>
   intro s dbs h;rcases Qe9 59 s with h0 | ⟨x,r,rfl,hx⟩
   ·rw [Bw9 h0,Rd9 (r:=[]) h0]
    simp only [List.nil_append,Bi9,Nt9];cases Ds9 s [] [] with
    | none => rfl
    | some qs =>
      cases h5 : Fg9 qs with
      | none => simp only [h5]
      | some d => simp only [h5];rfl
   ·rw [At9 hx,List.append_assoc,List.cons_append,Rd9 hx]
    have hl : r.length ≤ n:=by simp at h;omega
    simp only [List.nil_append,Bi9,Nt9];cases Ds9 x [] [] with
    | none => rfl
    | some qs =>
      cases h5 : Fg9 qs with
      | none => simp only [h5]
      | some d =>
        simp only [h5];rw [ih r _ hl];cases Bi9 Nt9 (O8 59 [] r) with
        | none => rfl
        | some xs => simp
def NoMk (x : List UInt8) : Prop:=x.all (fun b => !Du9 b) = true
theorem NoMk.not {x : List UInt8} (h : NoMk x) {c : UInt8} (hc : Du9 c = true) : c ∉ x:=fun e => by
 have:=List.all_eq_true.1 h c e;simp [hc] at this
theorem Kt9 : ∀ {x cur : List UInt8} {ps : List (List UInt8)},NoMk x→Ds9 x cur ps = if ps.length = 4 then some (ps ++ [cur ++ x]) else none:=by
 intro x;induction x with
 | nil => intro cur ps _;simp [Ds9]
 | cons b q ih =>
   intro cur ps h;unfold NoMk at h;rw [List.all_cons,Bool.and_eq_true] at h;have hb : Du9 b = false:=by simpa using h.1
   rw [Ic9,if_pos hb,ih (show NoMk q from h.2)]
   simp
theorem Es9 : ∀ {x cur : List UInt8} {m : UInt8} {r : List UInt8} {ps : List (List UInt8)},NoMk x→Du9 m = true→Ds9 (x ++ m :: r) cur ps = if m ≠ Cn9 ps.length then none else Ds9 r [] (ps ++ [cur ++ x]):=by
 intro x;induction x with
 | nil =>
   intro cur m r ps _ hm;rw [List.nil_append,Ic9,if_neg (by simp [hm]),List.append_nil]
 | cons b q ih =>
   intro cur m r ps h hm;unfold NoMk at h;rw [List.all_cons,Bool.and_eq_true] at h;have hb : Du9 b = false:=by simpa using h.1
   rw [List.cons_append];rw [Ic9,if_pos hb,ih (show NoMk q from h.2) hm]
   simp
theorem Wq9 : ∀ p : List UInt8,NoMk p ∨ ∃ x m r,p = x ++ m :: r∧NoMk x∧Du9 m = true:=by
 intro p;induction p with
 | nil => exact .inl rfl
 | cons b q ih =>
   by_cases hb : Du9 b = true
   ·exact .inr ⟨[],b,q,rfl,rfl,hb⟩
   ·have hb' : Du9 b = false:=by simpa using hb
    rcases ih with h | ⟨x,m,r,h,hx,hm⟩
    ·exact .inl (by unfold NoMk at *;rw [List.all_cons,h];simp [hb'])
    ·exact .inr ⟨b :: x,m,r,by simp [h],by unfold NoMk at *;rw [List.all_cons,hx];simp [hb'],hm⟩
theorem Ib9 {p cur : List UInt8} {ps qs : List (List UInt8)} (h : Ds9 p cur ps = some qs) (h4 : ps.length ≠ 4) : ∃ x r,p = x ++ Cn9 ps.length :: r∧NoMk x∧Ds9 r [] (ps ++ [cur ++ x]) = some qs:=by
 rcases Wq9 p with h0 | ⟨x,m,r,rfl,hx,hm⟩
 ·rw [Kt9 h0,if_neg h4] at h;cases h
 ·rw [Es9 hx hm] at h
  by_cases hk : m ≠ Cn9 ps.length
  ·rw [if_pos hk] at h;cases h
  ·rw [if_neg hk] at h
   have : m = Cn9 ps.length:=Classical.not_not.1 hk;subst this;exact ⟨x,r,rfl,hx,h⟩
theorem Yq9 {p cur : List UInt8} {ps qs : List (List UInt8)} (h : Ds9 p cur ps = some qs) (h4 : ps.length = 4) (hs : 59 ∉ p) : NoMk p∧qs = ps ++ [cur ++ p]:=by
 rcases Wq9 p with h0 | ⟨x,m,r,rfl,hx,hm⟩
 ·rw [Kt9 h0,if_pos h4] at h
  injection h with h;exact ⟨h0,h.symm⟩
 ·rw [Es9 hx hm] at h
  by_cases hk : m ≠ Cn9 ps.length
  ·rw [if_pos hk] at h;cases h
  ·have : m = Cn9 ps.length:=Classical.not_not.1 hk
   rw [h4] at this;exact absurd (show (59 : UInt8) ∈ x ++ m :: r by rw [this];simp [Cn9]) hs
theorem Wt9 {p : List UInt8} {qs : List (List UInt8)} (h : Ds9 p [] [] = some qs) (hs : 59 ∉ p) : ∃ n a b c d,qs = [n,a,b,c,d]∧p = n ++ 58 :: (a ++ 47 :: (b ++ 47 :: (c ++ 47 :: d)))∧NoMk n∧NoMk a∧NoMk b∧NoMk c∧NoMk d:=by
 obtain ⟨n,p1,rfl,hn,h1⟩:=Ib9 h (by simp)
 obtain ⟨a,p2,rfl,ha,h2⟩:=Ib9 h1 (by simp)
 obtain ⟨b,p3,rfl,hb,h3⟩:=Ib9 h2 (by simp)
 obtain ⟨c,p4,rfl,hc,h4⟩:=Ib9 h3 (by simp)
 obtain ⟨hd,h5⟩:=Yq9 h4 (by simp) (fun e => hs (by simp [e]))
 exact ⟨n,a,b,c,p4,by simpa using h5,by simp [Cn9],hn,ha,hb,hc,hd⟩
theorem Vc9 {n a b c d : List UInt8} (hn : NoMk n) (ha : NoMk a) (hb : NoMk b) (hc : NoMk c) (hd : NoMk d) : Ds9 (n ++ 58 :: (a ++ 47 :: (b ++ 47 :: (c ++ 47 :: d)))) [] [] = some [n,a,b,c,d]:=by
 rw [Es9 hn (by decide),if_neg (by simp [Cn9]),Es9 ha (by decide),if_neg (by simp [Cn9]),Es9 hb (by decide),if_neg (by simp [Cn9]),Es9 hc (by decide),if_neg (by simp [Cn9]),Kt9 hd,if_pos (by simp)]
 simp
theorem Zk9 {a : List UInt8} (h : Bc9 a 99 = true) : Bc9 a 65535 = true∧R8 a 65535 = R8 a 99:=by
 have h':=h;unfold Bc9 at h;obtain ⟨h1,h2,h3,h4,h5,h6⟩:=of_decide_eq_true h;have h7 : Bc9 a 65535 = true:=by unfold Bc9;exact decide_eq_true ⟨h1,h2,by omega,h4,h5,by omega⟩
 exact ⟨h7,by unfold R8;rw [h7,h']⟩
theorem Ll9 {a : List UInt8} (h : Bc9 a 65535 = true) (hv : R8 a 65535 ≤ 20) : Bc9 a 99 = true∧R8 a 99 = R8 a 65535:=by
 have h':=h;unfold R8 at hv;rw [h,if_pos rfl] at hv;unfold Bc9 at h;obtain ⟨h1,h2,h3,h4,h5,h6⟩:=of_decide_eq_true h;have h7 : Bc9 a 99 = true:=by unfold Bc9;exact decide_eq_true ⟨h1,h2,by omega,h4,h5,by omega⟩
 exact ⟨h7,by unfold R8;rw [h7,h']⟩
theorem Iq9 {a : List UInt8} {m : Int} (h : Bc9 a m = true) : a.length ≤ 5:=by
 unfold Bc9 at h;exact (of_decide_eq_true h).2.1
theorem Gg9 {a : List UInt8} {m : Int} (h : Bc9 a m = true) : NoMk a:=by
 unfold Bc9 at h;have h5:=(of_decide_eq_true h).2.2.2.2.1;refine List.all_eq_true.2 fun b hb => ?_
 have h1:=Gj9 (List.all_eq_true.1 h5 b hb);have : Du9 b = false:=by
  cases h2 : Du9 b with
  | false => rfl
  | true =>
    unfold Du9 at h2;simp only [Bool.or_eq_true,beq_iff_eq] at h2;rcases h2 with (h2 | h2) | h2 <;> (subst h2;simp at h1)
 simp [this]
theorem Mo9 {a : List UInt8} (h : Eh9 a = true) : NoMk a∧a.length ≤ 8:=by
 unfold Eh9 at h;rw [Bool.and_eq_true] at h;refine ⟨List.all_eq_true.2 fun b hb => ?_,(of_decide_eq_true h.1).2⟩
 have h1:=List.all_eq_true.1 h.2 b hb;have : Du9 b = false:=by
  cases h2 : Du9 b with
  | false => rfl
  | true =>
    unfold Du9 at h2;simp only [Bool.or_eq_true,beq_iff_eq] at h2;rcases h2 with (h2 | h2) | h2 <;> (subst h2;simp [Vl9] at h1)
 simp [this]
theorem Jo9 {d : Db} (h : dbB d = true) : Eh9 d.name.data.toList = true∧d.size ≤ 20∧d.queue ≤ 20∧d.wait ≤ 20∧d.idle ≤ 20:=by
 unfold dbB inI at h;simp only [Bool.and_eq_true,decide_eq_true_eq] at h;obtain ⟨⟨⟨⟨h0,h1⟩,h2⟩,h3⟩,h4⟩:=h;exact ⟨h0,by omega,by omega,by omega,by omega⟩
theorem Lp9 {m : Int} {n a b c d : List UInt8} {x : Db} (h : mk5 m n a b c d = some x) : (Bc9 a m = true∧Bc9 b m = true∧Bc9 c m = true∧Bc9 d m = true)∧x = ⟨⟨n.toArray⟩,R8 a m,R8 b m,R8 c m,R8 d m⟩:=by
 unfold mk5 at h;split at h
 ·rename_i hh
  simp only [Bool.and_eq_true] at hh;injection h with h;exact ⟨⟨hh.1.1.1,hh.1.1.2,hh.1.2,hh.2⟩,h.symm⟩
 ·cases h
theorem Pd9 {m : Int} {n a b c d : List UInt8} (ha : Bc9 a m = true) (hb : Bc9 b m = true) (hc : Bc9 c m = true) (hd : Bc9 d m = true) : mk5 m n a b c d = some ⟨⟨n.toArray⟩,R8 a m,R8 b m,R8 c m,R8 d m⟩:=by
 unfold mk5;rw [ha,hb,hc,hd];rfl
theorem Cz8 {p : List UInt8} {x : Db} (hs : 59 ∉ p) (h : Nt9 p = some x) (hx : dbB x = true) : Dc9 p = some x∧p.length ≤ 32:=by
 unfold Nt9 at h;cases hc : Ds9 p [] [] with
 | none => rw [hc] at h;cases h
 | some qs =>
   rw [hc] at h;obtain ⟨n,a,b,c,d,rfl,rfl,fn,fa,fb,fc,fd⟩:=Wt9 hc hs;have h' : mk5 65535 n a b c d = some x:=h;obtain ⟨⟨oa,ob,oc,od⟩,rfl⟩:=Lp9 h';obtain ⟨hn,v1,v2,v3,v4⟩:=Jo9 hx;obtain ⟨a1,a2⟩:=Ll9 oa v1;obtain ⟨b1,b2⟩:=Ll9 ob v2;obtain ⟨c1,c2⟩:=Ll9 oc v3;obtain ⟨d1,d2⟩:=Ll9 od v4;have la:=Iq9 oa;have lb:=Iq9 ob;have lc:=Iq9 oc;have ld:=Iq9 od;have ln:=(Mo9 hn).2;refine ⟨?_,by simp at ln ⊢;omega⟩
   have m1 : (58 : UInt8) ∉ a ++ 47 :: (b ++ 47 :: (c ++ 47 :: d)):=by
    simp only [List.mem_append,List.mem_cons,not_or];exact ⟨fa.not (by decide),by decide,fb.not (by decide),by decide,fc.not (by decide),by decide,fd.not (by decide)⟩
   have e1 : O8 58 [] (n ++ 58 :: (a ++ 47 :: (b ++ 47 :: (c ++ 47 :: d)))) = [n,a ++ 47 :: (b ++ 47 :: (c ++ 47 :: d))]:=by
    rw [At9 (fn.not (by decide)),Bw9 m1]
    simp
   have e2 : O8 47 [] (a ++ 47 :: (b ++ 47 :: (c ++ 47 :: d))) = [a,b,c,d]:=by
    rw [At9 (fa.not (by decide)),At9 (fb.not (by decide)),At9 (fc.not (by decide)),Bw9 (fd.not (by decide))]
    simp
   unfold Dc9;rw [e1];simp only [];rw [e2];simp only [];rw [Pd9 a1 b1 c1 d1,a2,b2,c2,d2]
theorem to_one {p : List UInt8} {x : Db} (h : Dc9 p = some x) (hx : dbB x = true) : Nt9 p = some x:=by
 unfold Dc9 at h;split at h
 ·rename_i n r h58
  split at h
  ·rename_i a b c d h47
   obtain ⟨⟨oa,ob,oc,od⟩,rfl⟩:=Lp9 h;obtain ⟨hn,_⟩:=Jo9 hx;have fn : NoMk n:=by simpa using (Mo9 hn).1
   have en : p = n ++ 58 :: r := by
       rcases Bd9 h58 with ⟨h0,_⟩ | ⟨r',e,_,h2⟩
       ·cases h0
       ·rcases Bd9 h2 with ⟨_,e2,_⟩ | ⟨r2,_,_,h3⟩
        ·rw [e,e2]
        ·exact absurd h3 (Il9 _ _)
   have er : r = a ++ 47 :: (b ++ 47 :: (c ++ 47 :: d)) := by
       rcases Bd9 h47 with ⟨h0,_⟩ | ⟨r1,e1,_,h1⟩
       ·cases h0
       rcases Bd9 h1 with ⟨h0,_⟩ | ⟨r2,e2,_,h2⟩
       ·cases h0
       rcases Bd9 h2 with ⟨h0,_⟩ | ⟨r3,e3,_,h3⟩
       ·cases h0
       rcases Bd9 h3 with ⟨_,e4,_⟩ | ⟨r4,_,_,h4⟩
       ·rw [e1,e2,e3,e4]
       ·exact absurd h4 (Il9 _ _)
   subst en er;obtain ⟨a1,a2⟩:=Zk9 oa;obtain ⟨b1,b2⟩:=Zk9 ob;obtain ⟨c1,c2⟩:=Zk9 oc;obtain ⟨d1,d2⟩:=Zk9 od;unfold Nt9;rw [Vc9 fn (Gg9 oa) (Gg9 ob) (Gg9 oc) (Gg9 od)];show mk5 65535 n a b c d = _
   rw [Pd9 a1 b1 c1 d1,a2,b2,c2,d2]
  ·cases h
 ·cases h
theorem all_cons {f : List UInt8→Option Db} {p : List UInt8} {r : List (List UInt8)} {xs : List Db} (h : Bi9 f (p :: r) = some xs) : ∃ d ys,f p = some d∧Bi9 f r = some ys∧xs = d :: ys:=by
 unfold Bi9 at h;split at h
 ·cases h
 ·rename_i d hd
  split at h
  ·cases h
  ·rename_i ys hy
   injection h with h;exact ⟨d,ys,hd,hy,h.symm⟩
theorem Ua9 {f : List UInt8→Option Db} {p : List UInt8} {r : List (List UInt8)} {d : Db} {ys : List Db} (h1 : f p = some d) (h2 : Bi9 f r = some ys) : Bi9 f (p :: r) = some (d :: ys):=by
 unfold Bi9;rw [h1];simp only [];rw [h2]
theorem all_to : ∀ (n : Nat) (s : List UInt8) (xs : List Db),s.length ≤ n→Bi9 Nt9 (O8 59 [] s) = some xs→(∀ d,d ∈ xs→dbB d = true)→Bi9 Dc9 (O8 59 [] s) = some xs∧s.length + 1 ≤ 33 * xs.length:=by
 intro n;induction n with
 | zero =>
   intro s xs h;obtain rfl : s = []:=List.eq_nil_of_length_eq_zero (by omega)
   intro h1 _;have e : O8 59 [] [] = [[]]:=rfl;rw [e] at h1;obtain ⟨d,ys,hd,_,_⟩:=all_cons h1;cases hd
 | succ n ih =>
   intro s xs hl h hx;rcases Qe9 59 s with h0 | ⟨x,r,rfl,h0⟩
   ·rw [Bw9 h0,List.nil_append] at h ⊢
    obtain ⟨d,ys,hd,hy,rfl⟩:=all_cons h;obtain rfl : ys = []:=by cases hy;rfl
    obtain ⟨h1,h2⟩:=Cz8 h0 hd (hx d (by simp))
    exact ⟨Ua9 h1 rfl,by simp;omega⟩
   ·rw [At9 h0,List.nil_append] at h ⊢
    obtain ⟨d,ys,hd,hy,rfl⟩:=all_cons h;obtain ⟨h1,h2⟩:=Cz8 h0 hd (hx d (by simp))
    obtain ⟨h3,h4⟩:=ih r ys (by simp at hl;omega) hy (fun z hz => hx z (by simp [hz]))
    exact ⟨Ua9 h1 h3,by simp;omega⟩
theorem to_all : ∀ (l : List (List UInt8)) (xs : List Db),Bi9 Dc9 l = some xs→(∀ d,d ∈ xs→dbB d = true)→Bi9 Nt9 l = some xs:=by
 intro l;induction l with
 | nil => intro xs h _;exact h
 | cons p r ih =>
   intro xs h hx;obtain ⟨d,ys,hd,hy,rfl⟩:=all_cons h;exact Ua9 (to_one hd (hx d (by simp))) (ih ys hy fun z hz => hx z (by simp [hz]))
theorem Iz9 {xs : List Db} (h : Bm9 xs = true) : (∀ d,d ∈ xs→dbB d = true)∧xs.length ≤ 3:=by
 have hg:=Ks9 h;refine ⟨fun d hd => ?_,hg.1.2⟩
 obtain ⟨i,hi⟩:=List.mem_iff_getElem?.1 hd;exact hg.2.1 i d (List.getElem?_eq_some_iff.1 hi).1 hi
theorem Ov9 {o : Option (List Db)} {xs : List Db} (h : o = some xs) (hc : Bm9 xs = true) : Te9 o = (xs,true):=by
 subst h;unfold Te9;simp [hc]
theorem Zm9 {o : Option (List Db)} (h : ∀ xs,o = some xs→Bm9 xs = true→False) : Te9 o = ([],false):=by
 unfold Te9;split
 ·rename_i xs
  rw [if_neg fun hc => h xs rfl hc]
 ·rfl
theorem Cx8 (s : List UInt8) : Ir9 s = Cb9 s:=by
 have hr:=run_all s.length s [] (Nat.le_refl _);by_cases hex : ∃ xs,Bi9 Nt9 (O8 59 [] s) = some xs∧Bm9 xs = true
 ·obtain ⟨xs,h1,h2⟩:=hex
  obtain ⟨hd,hl⟩:=Iz9 h2;obtain ⟨h3,h4⟩:=all_to s.length s xs (Nat.le_refl _) h1 hd;rw [h1] at hr;unfold Ir9 Cb9;rw [if_neg (by omega),Ov9 hr (by simpa using h2),Ov9 h3 h2]
  simp
 ·have e1 : Ir9 s = ([], false) := by
   unfold Ir9;refine Zm9 fun xs hx hc => ?_
   rw [hr] at hx;cases h1 : Bi9 Nt9 (O8 59 [] s) with
   | none => rw [h1] at hx;cases hx
   | some ys =>
     rw [h1] at hx;injection hx with hx;simp only [List.nil_append] at hx;subst hx;exact hex ⟨ys,h1,hc⟩
  rw [e1];unfold Cb9;split
  ·rfl
  ·refine (Zm9 fun xs hx hc => ?_).symm
   exact hex ⟨xs,to_all _ xs hx (Iz9 hc).1,hc⟩
def ptB (l : List UInt8) (s : List UInt8) : List UInt8:=if okB s then l ++ (u8 s.length :: s) else l
theorem Jh9 {l : List UInt8} (h : okB l = true) : l.length ≤ 100:=by
 unfold okB at h;rw [Bool.and_eq_true] at h;exact of_decide_eq_true h.1
theorem Ev9 (l s : List UInt8) : (ptB l s).length ≤ l.length + 101:=by
 unfold ptB;by_cases h : okB s = true
 ·have:=Jh9 h
  rw [if_pos h];simp;omega
 ·rw [if_neg h];omega
theorem Vg9 (n : Nat) (h : n < 256) : [Value.int .u8 (n : Int)] = bys [u8 n]:=by
 simp only [bys,List.map_cons,List.map_nil,Gc9];rw [Int.emod_eq_of_lt (by omega) (by omega)]
theorem Ar8 (w : World) (s : ByteArray) (e : TypeId) (cap : Nat) (f : Nat × Nat) :
 Reads (w.drew.alloc (.cells (bytesRow s cap) e f)) (w.drew.alloc (.cells (bytesRow s cap) e f)).heap.size 1 (some ⟨w.heap.size,0,none⟩) s.data.toList.length (bys s.data.toList):=by
 refine ⟨by simp [bys],fun _ => ⟨_,rfl,by simp,fun j u hu => ?_⟩⟩
 have hadd : (⟨w.heap.size,0,none⟩ : Addr).add j = ⟨w.heap.size,j,none⟩:=by unfold Addr.add;split <;> simp_all
 rw [hadd,cell_of_row _ w.heap.size j (bytesRow s cap) e f (heap_alloc_new w.drew _)];have hj : j < s.data.size:=by
  rcases Nat.lt_or_ge j s.data.size with h | h
  ·exact h
  ·rw [List.getElem?_eq_none (by simpa [bys] using h)] at hu;cases hu
 simp only [bytesRow];simp only [bys,List.getElem?_map] at hu;rw [← hu];have hjs : j < s.size:=hj;simp [Array.getElem?_append,hjs]
theorem Va9 (A : Option Addr) (c : Nat) (s : ByteArray) (l : List UInt8) (w : World) (h : Reads w w.heap.size 1 A l.length (bys l)) (hn : l.length ≤ 100000000) (hs : s.size ≤ 100000000) :
 Calls Tryz.prog 110 #[.slice A l.length c,.string s] w fun e w' => ∃ v,e = .returned v∧Owns w' w.heap.size 5 v (ptB l s.data.toList)∧Below w.heap.size w w':=by
 by_cases hok : okB s.data.toList = true
 ·have hsz : s.size ≤ 100:=by simpa using Jh9 hok
  have HP:=Lib.hid (show ptB l s.data.toList = l ++ (u8 s.size :: s.data.toList) by unfold ptB;rw [if_pos hok];simp)
  have hcv:=fun w => run_bytes_of_string (P:=Tryz.prog) w 9 22 5 s Tryz.underlying9 Tryz.underlying22 Tryz.underlying5
  go_enter Tryz.func110,Tryz.ntmps110
  go_wp2_with fail;refine (Hm9 s w (by omega)).mono ?_
  rintro e w1 ⟨rfl,rfl⟩;go_wp2_with fail;have hnew:=Gy9 w #[.int .u8 (s.size : Int)] 1 5 rfl (by simp [maxLen])
  rw [show (#[Value.int .u8 (s.size : Int)] : Array Value).toList = bys [u8 s.size] from Vg9 s.size (by omega)] at hnew
  refine (Ep9 A _ c 1 l [u8 s.size] _ ((h.alloc (Nat.le_refl _) _).more (by simp)) hnew (by omega) (by simp)).mono ?_
  clear hnew;rintro e w1 ⟨v1,rfl,hown1,hb1⟩;have hW1 : Below w.heap.size w w1:=((Below.refl _ _).alloc (Nat.le_refl _) _).trans (hb1.mono (by simp))
  replace hown1:=ownsRow_mono hown1 (show w.heap.size ≤ _ by simp)
  obtain ⟨L1,hL1,hL1n⟩ : ∃ L1,l ++ [u8 s.size] = L1∧L1.length ≤ 200000000:=⟨_,rfl,by simp;omega⟩
  rw [hL1] at hown1;have HL1:=Lib.hid hL1;clear hL1;obtain ⟨A1,c1,rfl,_,_,hr1,_⟩:=Owns.shape hown1;clear hb1 hown1;go_wp2_with fail;have hrs:=Ar8 w1 s 5 (grownCap w1 s.size 0 5) ((bytesRow s (grownCap w1 s.size 0 5)).size,(bytesRow s (grownCap w1 s.size 0 5)).size + 1);have J:=Ep9 A1 _ c1 (grownCap w1 s.size 0 5) L1 s.data.toList _ ((hr1.drew.alloc (Nat.le_refl _) _).more (by simp)) hrs (by omega) (by simp;omega)
  rw [show s.data.toList.length = s.size by simp] at J
  refine J.mono ?_;clear J hrs hr1;rintro e w2 ⟨v2,rfl,hown2,hb2⟩;have hW2 : Below w.heap.size w w2:=(hW1.drew.alloc hW1.size _).trans (hb2.mono (Nat.le_trans hW1.size (by simp)))
  replace hown2:=ownsRow_mono hown2 (show w.heap.size ≤ _ from Nat.le_trans hW1.size (by simp))
  go_wp2_with fail;go_ret
  refine ⟨v2,rfl,?_,hW2⟩;rw [HP.out];rw [← HL1.out] at hown2;simpa [Owns] using hown2
 ·have hokf : okB s.data.toList = false:=by simpa using hok
  have HP:=Lib.hid (show ptB l s.data.toList = l ++ [] by unfold ptB;rw [if_neg hok];simp)
  clear hok;go_enter Tryz.func110,Tryz.ntmps110
  go_wp2_with fail;refine (Hm9 s w (by omega)).mono ?_
  rintro e w1 ⟨rfl,rfl⟩;go_wp2_with fail;refine (Ep9 A none c 0 l [] w h Reads.none_ (by omega) (by simp)).mono ?_
  rintro e w1 ⟨v,rfl,hown,hb⟩;go_wp2_with fail;go_ret
  exact ⟨v,rfl,by rw [HP.out];exact hown,hb⟩
theorem Sn9 (s : ByteArray) : Lib.strCells s = bys s.data.toList:=rfl
theorem Bq9 (A : Option Addr) (c : Nat) (s : ByteArray) (l : List UInt8) (w : World) (h : Reads w w.heap.size 1 A l.length (bys l)) (hn : l.length ≤ 100000000) (hs : s.size ≤ 100000000) :
 Calls Tryz.prog 65 #[.slice A l.length c,.string s] w fun e w' => ∃ v,e = .returned v∧Owns w' w.heap.size 5 v (ptB l s.data.toList)∧Below w.heap.size w w':=by
 obtain ⟨i0,hi0,hz0,hz1,hz2⟩:=info_parts Tryz.info8;have hb0 : Below w.heap.size w (w.alloc (.cells #[] 5)):=(Below.refl _ _).alloc (Nat.le_refl _) _;have hown0 : (w.alloc (.cells #[] 5)).ownsRow w.heap.size 5 1 (.slice (some ⟨w.heap.size,0,none⟩) 0 0) 0 []:=World.ownsRow_lit w #[] 0 (Nat.le_refl _) (by simp) rfl
 by_cases hok : okB s.data.toList = true
 ·have hsz : s.size ≤ 100:=by simpa using Jh9 hok
  have HP:=Lib.hid (show ptB l s.data.toList = l ++ (u8 s.size :: s.data.toList) by unfold ptB;rw [if_pos hok];simp)
  go_enter Tryz.func65,Tryz.ntmps65
  go_wp2_with (first
   | (at_builtin
      refine wpList_append_any _ rfl (.tmp 6) (.tmp 7) _ rfl w.heap.size 5 i0 _ 1 1 Tryz.underlying22 hi0 hz0 hz1 hz2 rfl (by omega) _ 0 [] rfl hown0 w.heap.size A l.length c (bys l) rfl (h.below hb0) (bys_one l) (by simp only [maxLen];omega) (by omega) hb0.size ?_
      intro v2 w2 hown2 hg2 hat2;have hb2 : Below w.heap.size w w2:=hb0.grown hg2 hb0.size (fun k hk => (hown0.lt k hk).1)
      clear hown0 hg2 hat2)
   | fail)
  refine (Gd9 s w2 (by omega)).mono ?_
  rintro e w3 ⟨rfl,rfl⟩;go_wp2_with (first
   | (at_builtin
      have hnew:=Gy9 w2 #[.int .u8 (s.size : Int)] 1 5 rfl (by simp [maxLen])
      refine wpList_append_any _ rfl (.tmp 13) (.tmp 17) _ rfl w.heap.size 5 i0 _ 1 1 Tryz.underlying22 hi0 hz0 hz1 hz2 rfl (by omega) v2 (0 + l.length) ([] ++ bys l) rfl (hown2.alloc _) _ _ 1 _ _ rfl hnew (by simp;rfl) (by simp only [maxLen];omega) (by omega) (Nat.le_trans hb2.size (by simp)) ?_
      clear hnew;intro v3 w3 hown3 hg3 hat3;have hb3 : Below w.heap.size w w3:=(hb2.alloc hb2.size _).grown hg3 (Nat.le_trans hb2.size (by simp)) (fun k hk => (hown2.lt k hk).1)
      clear hg3 hat3)
   | (at_builtin
      refine Lib.wpList_append_own_string _ rfl (.tmp 18) (.tmp 19) _ _ rfl w.heap.size 5 i0 Tryz.underlying22 Tryz.underlying9 hi0 hz0 hz1 hz2 v3 _ _ rfl hown3 s rfl (by simp only [maxLen];omega) (by omega) hb3.size ?_
      intro v4 w4 hown4 hg4 _))
  go_ret
  refine ⟨v4,rfl,?_,hb3.grown hg4 hb3.size (fun k hk => (hown3.lt k hk).1)⟩
  rw [HP.out];have e1 : [Value.int .u8 (s.size : Int)] = bys [u8 s.size]:=Vg9 s.size (by omega)
  rw [e1,Sn9] at hown4;unfold Owns;rw [show bys (l ++ (u8 s.size :: s.data.toList)) = [] ++ bys l ++ bys [u8 s.size] ++ bys s.data.toList by simp [bys]]
  rw [show (l ++ (u8 s.size :: s.data.toList)).length = 0 + l.length + 1 + s.size by simp;omega]
  exact hown4
 ·have hokf : okB s.data.toList = false:=by simpa using hok
  have HP:=Lib.hid (show ptB l s.data.toList = l by unfold ptB;rw [if_neg hok])
  clear hok;go_enter Tryz.func65,Tryz.ntmps65
  go_wp2_with (first
   | (at_builtin
      refine wpList_append_any _ rfl (.tmp 6) (.tmp 7) _ rfl w.heap.size 5 i0 _ 1 1 Tryz.underlying22 hi0 hz0 hz1 hz2 rfl (by omega) _ 0 [] rfl hown0 w.heap.size A l.length c (bys l) rfl (h.below hb0) (bys_one l) (by simp only [maxLen];omega) (by omega) hb0.size ?_
      intro v2 w2 hown2 hg2 hat2;have hb2 : Below w.heap.size w w2:=hb0.grown hg2 hb0.size (fun k hk => (hown0.lt k hk).1)
      clear hown0 hg2 hat2)
   | fail)
  refine (Gd9 s w2 (by omega)).mono ?_
  rintro e w3 ⟨rfl,rfl⟩;go_wp2_with fail;go_ret
  exact ⟨v2,rfl,by rw [HP.out];simpa [Owns] using hown2,hb2⟩
def gtO (l : List UInt8) (p : Int) : Option (List UInt8 × Int):=
 if p < 0 ∨ (l.length : Int) ≤ p then none else
 if (l.length : Int) - (p + 1) < ((l.getD p.toNat 0).toNat : Int) then none else
 if okB ((l.drop (p.toNat + 1)).take (l.getD p.toNat 0).toNat) then some ((l.drop (p.toNat + 1)).take (l.getD p.toNat 0).toNat,p + 1 + ((l.getD p.toNat 0).toNat : Int)) else none
def gtS (l : List UInt8) (p : Int) : ByteArray:=match gtO l p with | some x => ⟨x.1.toArray⟩ | none => ⟨#[]⟩
def gtN (l : List UInt8) (p : Int) : Int:=match gtO l p with | some x => x.2 | none => 0
def gtB (l : List UInt8) (p : Int) : Bool:=(gtO l p).isSome
theorem Gl9 {l : List UInt8} {p : Int} (h : gtO l p = none) : gtS l p = ⟨#[]⟩∧gtN l p = 0∧gtB l p = false:=by simp [gtS,gtN,gtB,h]
theorem Tm9 {l : List UInt8} {p : Int} {x : List UInt8 × Int} (h : gtO l p = some x) : gtS l p = ⟨x.1.toArray⟩∧gtN l p = x.2∧gtB l p = true:=by simp [gtS,gtN,gtB,h]
theorem Tn9 {l : List UInt8} {p : Int} (h : p < 0 ∨ (l.length : Int) ≤ p) : gtO l p = none:=by unfold gtO;rw [if_pos h]
theorem gt_in {l : List UInt8} {k : Nat} {u : UInt8} (hk : k < l.length) (hu : l[k]? = some u) :
 gtO l k = if (l.length : Int) - ((k : Int) + 1) < (u.toNat : Int) then none else if okB ((l.drop (k + 1)).take u.toNat) then some ((l.drop (k + 1)).take u.toNat,(k : Int) + 1 + u.toNat) else none:=by
 unfold gtO;rw [if_neg (by omega)]
 simp [hu]
theorem Eu9 {k' : IntKind} {a a' : ByteArray} {b b' : Int} {c c' : Bool} (h1 : a = a') (h2 : b = b') (h3 : c = c') : Ending.returned (.tuple #[.string a,.int k' b,.bool c]) = .returned (.tuple #[.string a',.int k' b',.bool c']):=by rw [h1,h2,h3]
theorem Vu9 (A : Option Addr) (c : Nat) (p : Int) (l : List UInt8) (w : World) (h : Reads w w.heap.size 1 A l.length (bys l)) (hn : l.length ≤ 100000000) (hc : l.length ≤ c) :
 Calls Tryz.prog 120 #[.slice A l.length c,.int .i64 p] w fun e w' => e = .returned (.tuple #[.string (gtS l p),.int .i64 (gtN l p),.bool (gtB l p)])∧w = w':=by
 obtain ⟨i0,hi0,hz0,hz1,hz2⟩:=info_parts Tryz.info8;by_cases h0 : p < 0
 ·obtain ⟨e1,e2,e3⟩:=Gl9 (Tn9 (l:=l) (.inl h0))
  have E1:=Lib.hid e1;have E2:=Lib.hid e2;have E3:=Lib.hid e3;clear e1 e2 e3;go_enter Tryz.func120,Tryz.ntmps120
  go_wp2
  go_ret3
  exact ⟨Eu9 E1.out.symm E2.out.symm E3.out.symm,rfl⟩
 ·obtain ⟨k,rfl⟩:=Int.eq_ofNat_of_zero_le (by omega : 0 ≤ p)
  by_cases h1 : (l.length : Int) ≤ (k : Int)
  ·obtain ⟨e1,e2,e3⟩:=Gl9 (Tn9 (l:=l) (.inr h1))
   have E1:=Lib.hid e1;have E2:=Lib.hid e2;have E3:=Lib.hid e3;clear e1 e2 e3;go_enter Tryz.func120,Tryz.ntmps120
   go_wp2
   go_ret3
   exact ⟨Eu9 E1.out.symm E2.out.symm E3.out.symm,rfl⟩
  ·obtain ⟨b,off,x,rfl,_,hx,hcx⟩:=h.byte (k:=k) (by omega)
   have hxl:=Gn9 x;have HG:=Lib.hid (gt_in (by omega) hx)
   clear hx;have i1 : (0 : Int) ≤ (k : Int):=by omega
   have i2 : (k : Int) < (l.length : Int):=by omega
   by_cases h2 : (l.length : Int) - ((k : Int) + 1) < (x.toNat : Int)
   ·obtain ⟨e1,e2,e3⟩:=Gl9 (by rw [HG.out,if_pos h2] : gtO l k = none)
    have E1:=Lib.hid e1;have E2:=Lib.hid e2;have E3:=Lib.hid e3;clear e1 e2 e3;go_enter Tryz.func120,Tryz.ntmps120
    go_wp2
    go_ret3
    exact ⟨Eu9 E1.out.symm E2.out.symm E3.out.symm,rfl⟩
   ·obtain ⟨A',hrun,hrd⟩:=slice_reads Tryz.underlying22 hi0 hz1 (A:=some ⟨b,off,none⟩) (n:=l.length) (c:=c) (lo:=k + 1) (hi':=k + 1 + x.toNat) .i64 .i64 (by omega) (by omega) hc
    have hrd':=hrd h;rw [show k + 1 + x.toNat - (k + 1) = x.toNat by omega] at hrd' hrun
    have hsl : ∀ w, (Instr.slice 22 (.slice (some ⟨b, off, none⟩) l.length c) (some (.int .i64 ((k : Int) + 1))) (some (.int .i64 ((k : Int) + 1 + (x.toNat : Int)))) none).run Tryz.prog w = .ok (.slice A' x.toNat (c - (k + 1))) w := by
         intro w;have:=hrun w;rwa [show (((k + 1 : Nat) : Int)) = (k : Int) + 1 by omega,show (((k + 1 + x.toNat : Nat) : Int)) = (k : Int) + 1 + (x.toNat : Int) by omega] at this
    clear hrun hrd;obtain ⟨s,hs⟩ : ∃ s,(l.drop (k + 1)).take x.toNat = s:=⟨_,rfl⟩;have HS:=Lib.hid hs;rw [hs] at hrd';clear hs;have hsl0:=hrd'.len
    have hss : (⟨s.toArray⟩ : ByteArray).size ≤ 1000 := by
         show s.toArray.size ≤ 1000
         rw [List.size_toArray,hsl0];omega
    have hcv:=string_run (P:=Tryz.prog) (src:=22) (dst:=9) Tryz.underlying22 Tryz.underlying5 Tryz.underlying9 (c:=c - (k + 1)) hrd';clear hsl0 hrd';by_cases hok : okB s = true
    ·obtain ⟨e1,e2,e3⟩:=Tm9 (by rw [HG.out,if_neg h2,HS.out,if_pos hok] : gtO l k = some (s,(k : Int) + 1 + x.toNat))
     have E1:=Lib.hid e1;have E2:=Lib.hid e2;have E3:=Lib.hid e3;clear e1 e2 e3;go_enter Tryz.func120,Tryz.ntmps120
     go_wp2_with fail;refine (Hm9 ⟨s.toArray⟩ w (by omega)).mono ?_
     rintro e w3 ⟨rfl,rfl⟩;go_wp2_with fail;go_ret3
     exact ⟨Eu9 E1.out.symm E2.out.symm E3.out.symm,rfl⟩
    ·obtain ⟨e1,e2,e3⟩:=Gl9 (by rw [HG.out,if_neg h2,HS.out,if_neg hok] : gtO l k = none)
     have E1:=Lib.hid e1;have E2:=Lib.hid e2;have E3:=Lib.hid e3;have hokf : okB s = false:=by simpa using hok
     clear e1 e2 e3 hok;go_enter Tryz.func120,Tryz.ntmps120
     go_wp2_with fail;refine (Hm9 ⟨s.toArray⟩ w (by omega)).mono ?_
     rintro e w3 ⟨rfl,rfl⟩;go_wp2_with fail;go_ret3
     exact ⟨Eu9 E1.out.symm E2.out.symm E3.out.symm,rfl⟩
theorem Tp9 (A : Option Addr) (c : Nat) (p : Int) (l : List UInt8) (w : World) (h : Reads w w.heap.size 1 A l.length (bys l)) (hn : l.length ≤ 100000000) (hc : l.length ≤ c) :
 Calls Tryz.prog 100 #[.slice A l.length c,.int .i64 p] w fun e w' => e = .returned (.tuple #[.string (gtS l p),.int .i64 (gtN l p),.bool (gtB l p)])∧w = w':=by
 obtain ⟨i0,hi0,hz0,hz1,hz2⟩:=info_parts Tryz.info8;by_cases h0 : p < 0
 ·obtain ⟨e1,e2,e3⟩:=Gl9 (Tn9 (l:=l) (.inl h0))
  have E1:=Lib.hid e1;have E2:=Lib.hid e2;have E3:=Lib.hid e3;clear e1 e2 e3;go_enter Tryz.func100,Tryz.ntmps100
  go_wp2
  go_ret3
  exact ⟨Eu9 E1.out.symm E2.out.symm E3.out.symm,rfl⟩
 ·obtain ⟨k,rfl⟩:=Int.eq_ofNat_of_zero_le (by omega : 0 ≤ p)
  by_cases h1 : (l.length : Int) ≤ (k : Int)
  ·obtain ⟨e1,e2,e3⟩:=Gl9 (Tn9 (l:=l) (.inr h1))
   have E1:=Lib.hid e1;have E2:=Lib.hid e2;have E3:=Lib.hid e3;clear e1 e2 e3;go_enter Tryz.func100,Tryz.ntmps100
   go_wp2
   go_ret3
   exact ⟨Eu9 E1.out.symm E2.out.symm E3.out.symm,rfl⟩
  ·obtain ⟨b,off,x,rfl,_,hx,hcx⟩:=h.byte (k:=k) (by omega)
   have hxl:=Gn9 x;have HG:=Lib.hid (gt_in (by omega) hx)
   clear hx;have i1 : (0 : Int) ≤ (k : Int):=by omega
   have i2 : (k : Int) < (l.length : Int):=by omega
   by_cases h2 : (l.length : Int) - ((k : Int) + 1) < (x.toNat : Int)
   ·have h2' : (l.length : Int) - (k : Int) - 1 < (x.toNat : Int):=by omega
    obtain ⟨e1,e2,e3⟩:=Gl9 (by rw [HG.out,if_pos h2] : gtO l k = none)
    have E1:=Lib.hid e1;have E2:=Lib.hid e2;have E3:=Lib.hid e3;clear e1 e2 e3;go_enter Tryz.func100,Tryz.ntmps100
    go_wp2
    go_ret3
    exact ⟨Eu9 E1.out.symm E2.out.symm E3.out.symm,rfl⟩
   ·have h2' : ¬ (l.length : Int) - (k : Int) - 1 < (x.toNat : Int):=by omega
    obtain ⟨A',hrun,hrd⟩:=slice_reads Tryz.underlying22 hi0 hz1 (A:=some ⟨b,off,none⟩) (n:=l.length) (c:=c) (lo:=k + 1) (hi':=k + 1 + x.toNat) .i64 .i64 (by omega) (by omega) hc
    have hrd':=hrd h;rw [show k + 1 + x.toNat - (k + 1) = x.toNat by omega] at hrd' hrun
    have hsl : ∀ w, (Instr.slice 22 (.slice (some ⟨b, off, none⟩) l.length c) (some (.int .i64 ((k : Int) + 1))) (some (.int .i64 ((k : Int) + 1 + (x.toNat : Int)))) none).run Tryz.prog w = .ok (.slice A' x.toNat (c - (k + 1))) w := by
         intro w;have:=hrun w;rwa [show (((k + 1 : Nat) : Int)) = (k : Int) + 1 by omega,show (((k + 1 + x.toNat : Nat) : Int)) = (k : Int) + 1 + (x.toNat : Int) by omega] at this
    clear hrun hrd;obtain ⟨s,hs⟩ : ∃ s,(l.drop (k + 1)).take x.toNat = s:=⟨_,rfl⟩;have HS:=Lib.hid hs;rw [hs] at hrd';clear hs;have hsl0:=hrd'.len
    have hss : (⟨s.toArray⟩ : ByteArray).size ≤ 1000 := by
         show s.toArray.size ≤ 1000
         rw [List.size_toArray,hsl0];omega
    have hcv:=string_run (P:=Tryz.prog) (src:=22) (dst:=9) Tryz.underlying22 Tryz.underlying5 Tryz.underlying9 (c:=c - (k + 1)) hrd';clear hsl0 hrd';by_cases hok : okB s = true
    ·obtain ⟨e1,e2,e3⟩:=Tm9 (by rw [HG.out,if_neg h2,HS.out,if_pos hok] : gtO l k = some (s,(k : Int) + 1 + x.toNat))
     have E1:=Lib.hid e1;have E2:=Lib.hid e2;have E3:=Lib.hid e3;clear e1 e2 e3;go_enter Tryz.func100,Tryz.ntmps100
     go_wp2_with fail;refine (Gd9 ⟨s.toArray⟩ w (by omega)).mono ?_
     rintro e w3 ⟨rfl,rfl⟩;go_wp2_with fail;go_ret3
     exact ⟨Eu9 E1.out.symm E2.out.symm E3.out.symm,rfl⟩
    ·obtain ⟨e1,e2,e3⟩:=Gl9 (by rw [HG.out,if_neg h2,HS.out,if_neg hok] : gtO l k = none)
     have E1:=Lib.hid e1;have E2:=Lib.hid e2;have E3:=Lib.hid e3;have hokf : okB s = false:=by simpa using hok
     clear e1 e2 e3 hok;go_enter Tryz.func100,Tryz.ntmps100
     go_wp2_with fail;refine (Gd9 ⟨s.toArray⟩ w (by omega)).mono ?_
     rintro e w3 ⟨rfl,rfl⟩;go_wp2_with fail;go_ret3
     exact ⟨Eu9 E1.out.symm E2.out.symm E3.out.symm,rfl⟩
theorem Vh9 {k : Nat} (h : k < 256) : (UInt8.ofNat k).toNat = k:=by
 rw [UInt8.toNat_ofNat',Nat.mod_eq_of_lt h]
theorem Wh9 {k : Nat} (h : k < 10) : Dv9 (UInt8.ofNat (48 + k)) = true∧Fd9 (UInt8.ofNat (48 + k)) = k:=by
 have e:=Vh9 (k:=48 + k) (by omega)
 exact ⟨Lt9 (by omega) (by omega),by unfold Fd9;omega⟩
theorem Vj9 : ∀ (k u : Nat),1 ≤ k→u < 10 ^ k→Lib.nDigits u ≤ k:=by
 intro k;induction k with
 | zero => intro u h;omega
 | succ k ih =>
   intro u _ hu;rw [Lib.nDigits];split
   ·omega
   ·rename_i h10
    have hk : 1 ≤ k := by
       rcases Nat.eq_zero_or_pos k with h0 | h0
       ·subst h0;omega
       ·exact h0
    have:=ih (u / 10) hk (by rw [Nat.pow_succ] at hu;omega)
    omega
theorem dec_acc (n : Nat) : De9 (Lib.decDigits n) = n∧(Lib.decDigits n).all Dv9 = true:=by
 induction n using Nat.strongRecOn with
 | ind n ih =>
   rw [Lib.decDigits];by_cases h : n < 10
   ·rw [dif_pos h]
    obtain ⟨h1,h2⟩:=Wh9 h;exact ⟨by show 0 * 10 + Fd9 _ = n;omega,by rw [List.all_cons,h1];rfl⟩
   ·rw [dif_neg h]
    obtain ⟨i1,i2⟩:=ih (n / 10) (by omega)
    obtain ⟨h1,h2⟩:=Wh9 (k:=n % 10) (by omega)
    refine ⟨by rw [Dp9,i1,h2];omega,?_⟩
    rw [List.all_append,i2,List.all_cons,h1];rfl
theorem pn_itoa (m : Int) : (Bc9 (Lib.itoa m) 65535 = decide (0 ≤ m∧m ≤ 65535))∧(0 ≤ m→m ≤ 65535→R8 (Lib.itoa m) 65535 = m):=by
 by_cases h0 : 0 ≤ m
 ·obtain ⟨n,rfl⟩:=Int.eq_ofNat_of_zero_le h0
  rw [Lib.itoa_nonneg];obtain ⟨h1,h2⟩:=dec_acc n;have h3:=Zl9 _ h2;rw [h1] at h3;by_cases hn : n ≤ 65535
  ·have hl5 : (Lib.decDigits n).length ≤ 5:=by rw [Lib.decDigits_length];exact Vj9 5 n (by omega) (by omega)
   have hl1 : 1 ≤ (Lib.decDigits n).length:=List.length_pos_iff.2 (Kq9 n)
   have hz : (Lib.decDigits n).length = 1 ∨ (Lib.decDigits n)[0]? ≠ some 48 := by
      rcases Nat.eq_zero_or_pos n with h | h
      ·subst h;exact .inl (by rw [Lib.decDigits_one (by omega)];rfl)
      ·exact .inr (Wj9 n h)
   obtain ⟨e1,e2⟩:=Or9 (l:=Lib.decDigits n) (most:=65535) ⟨hl1,hl5,by omega,hz,h2,by rw [h1];omega⟩
   rw [e1,e2,h1];exact ⟨by symm;rw [decide_eq_true_iff];omega,fun _ _ => rfl⟩
  ·obtain ⟨e1,e2⟩:=Gf9 (l:=Lib.decDigits n) (most:=65535) (fun h => by have:=h.2.2.2.2.2;rw [h1] at this;omega)
   rw [e1,e2];exact ⟨by symm;rw [decide_eq_false_iff_not];omega,fun _ h => by omega⟩
 ·obtain ⟨n,rfl⟩ : ∃ n : Nat,m = -(n : Int):=⟨m.natAbs,by omega⟩
  rw [Lib.itoa_neg n (by omega)]
  obtain ⟨e1,e2⟩:=Os9 (l:=45 :: Lib.decDigits n) (most:=65535) (k:=0) (b:=45) rfl (by decide)
  rw [e1,e2];exact ⟨by symm;rw [decide_eq_false_iff_not];omega,fun h => absurd h h0⟩
theorem Ob9 {l : List UInt8} {most : Int} (h : Bc9 l most = true) : Lib.itoa (R8 l most) = l∧R8 l most ≤ most∧0 ≤ R8 l most∧R8 l most ≤ 65535:=by
 have hc:=of_decide_eq_true h;obtain ⟨e1,e2⟩:=Or9 hc;obtain ⟨c1,c2,c3,c4,c5,c6⟩:=hc;have:=(Wk9 l c5 (by intro e;rw [e] at c1;simp at c1) c4).1
 rw [e2];exact ⟨by rw [Lib.itoa_nonneg];exact this,c6,by omega,by omega⟩
end Go.Proofs.YthpkdjflndiojaaGreatDoor
namespace Go.Proofs.YthpkdjflndiojaaGreatDoor
set_option maxRecDepth 100000
noncomputable def Fe9 (s : ByteArray) : Bool:=(Cb9 s.data.toList).2
def Ey9 (s : ByteArray) : Bool:=s.data.toList.isEmpty
noncomputable def Ak9 (r : Rec) : Bool:=
 decide (1 ≤ r.n∧r.n ≤ 60000) && (if r.kind = 1 then decide (r.owner = 0) && Fe9 r.text else if r.kind = 2 then decide (r.owner = 0) && Ey9 r.text else decide (r.kind = 3) && (decide (0 ≤ r.owner∧r.owner ≤ 1) && Ey9 r.text))
def X7 (g p : Int) (r : Rec) : List UInt8:=ptB ((((F9 g ++ F9 p) ++ [u8 r.kind]) ++ F9 r.n) ++ [u8 r.owner]) r.text.data.toList
noncomputable def Ah9 (g p : Int) (r : Rec) : List UInt8:=if Ak9 r = true∧(0 ≤ g∧g ≤ 65535)∧(0 ≤ p∧p ≤ 65535) then Q7 (X7 g p r) else []
def Cg9 (b : List UInt8) : Rec:=⟨((b.getD 4 0).toNat : Int),S8 b 5,((b.getD 7 0).toNat : Int),gtS b 8⟩
def N8 : Rec:=⟨0,0,0,⟨#[]⟩⟩
noncomputable def Fb9 (b : List UInt8) : Bool:=decide (11 ≤ b.length) && (Ah9 (S8 b 0) (S8 b 2) (Cg9 b) == b)
theorem Zn9 : okB [] = true:=by decide
theorem Dl8 (b : List UInt8) (p : Int) : okB (gtS b p).data.toList = true:=by
 unfold gtS;cases h : gtO b p with
 | none => exact Zn9
 | some x =>
   show okB x.1 = true
   unfold gtO at h;split at h
   ·cases h
   ·split at h
    ·cases h
    ·split at h
     ·injection h with h
      subst h;assumption
     ·cases h
theorem Dk8 {l s t : List UInt8} (h : okB s = true) : gtO (ptB l s ++ t) l.length = some (s,(l.length : Int) + 1 + s.length):=by
 have hs:=Jh9 h;have hu : (u8 (s.length : Int)).toNat = s.length:=by have:=Gc9 s.length;omega
 have e : ptB l s ++ t = l ++ (u8 s.length :: (s ++ t)):=by unfold ptB;rw [if_pos h];simp
 rw [e,gt_in (u:=u8 s.length) (by simp) (by simp),hu]
 rw [if_neg (by simp;omega)]
 have e2 : ((l ++ (u8 (s.length : Int) :: (s ++ t))).drop (l.length + 1)).take s.length = s:=by
  rw [List.drop_append];simp [List.drop_eq_nil_of_le]
 rw [e2,if_pos h]
theorem Ps9 {b : List UInt8} (h : Fb9 b = true) : gtB b 8 = true:=by
 unfold Fb9 at h;rw [Bool.and_eq_true,decide_eq_true_eq,beq_iff_eq] at h;obtain ⟨hl,hp⟩:=h;unfold Ah9 at hp;split at hp
 ·have hok:=Dl8 b 8
  have hm:=Dk8 (l:=((((F9 (S8 b 0) ++ F9 (S8 b 2)) ++ [u8 (Cg9 b).kind]) ++ F9 (Cg9 b).n) ++ [u8 (Cg9 b).owner])) (t:=F9 (crc (X7 (S8 b 0) (S8 b 2) (Cg9 b)))) hok;have e : ptB ((((F9 (S8 b 0) ++ F9 (S8 b 2)) ++ [u8 (Cg9 b).kind]) ++ F9 (Cg9 b).n) ++ [u8 (Cg9 b).owner]) (gtS b 8).data.toList ++ F9 (crc (X7 (S8 b 0) (S8 b 2) (Cg9 b))) = b:=hp;rw [e] at hm;have e8 : (((((F9 (S8 b 0) ++ F9 (S8 b 2)) ++ [u8 (Cg9 b).kind]) ++ F9 (Cg9 b).n) ++ [u8 (Cg9 b).owner]).length : Int) = 8:=by simp [F9]
  rw [e8] at hm;unfold gtB;rw [hm];rfl
 ·subst hp
  simp at hl
theorem Bq8 {b : List UInt8} (h : Fb9 b = true) : Ak9 (Cg9 b) = true:=by
 unfold Fb9 at h;rw [Bool.and_eq_true,decide_eq_true_eq,beq_iff_eq] at h;obtain ⟨hl,hp⟩:=h;unfold Ah9 at hp;split at hp
 ·rename_i hc
  exact hc.1
 ·subst hp
  simp at hl
theorem Oz9 (s : ByteArray) : Ey9 s = true ↔ s = ⟨#[]⟩:=by
 unfold Ey9;obtain ⟨a⟩:=s;obtain ⟨l⟩:=a;cases l <;> simp
end Go.Proofs.YthpkdjflndiojaaGreatDoor
namespace Go.Proofs.YthpkdjflndiojaaGreatDoor
open Go.RowKit
set_option maxRecDepth 100000
set_option linter.unusedVariables false
def Js9 : List Db→ByteArray→Db × Bool
 | [],_ => (Qd9,false)
 | x :: xs,n => if (x.name.toList == n.toList) = true then (x,true) else Js9 xs n
def NoneTo (xs : List Db) (n : ByteArray) (k : Nat) : Prop:=∀ i x,i < k→xs[i]? = some x→(x.name.toList == n.toList) = false
theorem NoneTo.zero (xs : List Db) (n : ByteArray) : NoneTo xs n 0:=fun i x h => absurd h (by omega)
theorem NoneTo.succ {xs : List Db} {n : ByteArray} {k : Nat} {x : Db} (h : NoneTo xs n k) (hx : xs[k]? = some x) (hn : (x.name.toList == n.toList) = false) : NoneTo xs n (k + 1):=by
 intro i y hi hy;by_cases hk : i < k
 ·exact h i y hk hy
 ·obtain rfl : i = k:=by omega
  rw [hx] at hy;injection hy with hy;subst hy;exact hn
theorem Wo9 : ∀ {xs : List Db} {n : ByteArray} {k : Nat} {x : Db},NoneTo xs n k→xs[k]? = some x→(x.name.toList == n.toList) = true→Js9 xs n = (x,true):=by
 intro xs;induction xs with
 | nil => intro n k x _ hx;simp at hx
 | cons y ys ih =>
   intro n k x hno hx hn;cases k with
   | zero =>
     simp only [List.getElem?_cons_zero] at hx;injection hx with hx;subst hx;unfold Js9;rw [if_pos hn]
   | succ k =>
     have h0:=hno 0 y (by omega) rfl
     unfold Js9;rw [if_neg (by rw [h0];simp)]
     have hno' : NoneTo ys n k:=fun i z hi hz => hno (i + 1) z (by omega) (by simpa using hz)
     exact ih hno' (by simpa using hx) hn
theorem Rz9 : ∀ {xs : List Db} {n : ByteArray},NoneTo xs n xs.length→Js9 xs n = (Qd9,false):=by
 intro xs;induction xs with
 | nil => intro n _;rfl
 | cons y ys ih =>
   intro n hno;have h0:=hno 0 y (by simp) rfl
   unfold Js9;rw [if_neg (by rw [h0];simp)]
   have hno' : NoneTo ys n ys.length:=fun i z hi hz => hno (i + 1) z (by simp;omega) (by simpa using hz)
   exact ih hno'
theorem Ry9 : ∀ {xs : List Db} {n : ByteArray},(Js9 xs n).2 = true→∃ (j : Nat) (y : Db),xs[j]? = some y∧y.name = n:=by
 intro xs;induction xs with
 | nil => intro n h;simp [Js9] at h
 | cons y ys ih =>
   intro n h;unfold Js9 at h;by_cases hy : (y.name.toList == n.toList) = true
   ·exact ⟨0,y,rfl,Cl8 hy⟩
   ·rw [if_neg hy] at h
    obtain ⟨j,z,hz,hn⟩:=ih h;exact ⟨j + 1,z,by simpa using hz,hn⟩
theorem Kr9 : ∀ {xs : List Db} {n : ByteArray},(Js9 xs n).2 = false→∀ (j : Nat) (y : Db),xs[j]? = some y→y.name ≠ n:=by
 intro xs;induction xs with
 | nil => intro n _ j y hy;simp at hy
 | cons x ys ih =>
   intro n h j y hy;unfold Js9 at h;by_cases hx : (x.name.toList == n.toList) = true
   ·rw [if_pos hx] at h;simp at h
   ·rw [if_neg hx] at h
    cases j with
    | zero =>
      simp only [List.getElem?_cons_zero] at hy;injection hy with hy;subst hy;exact Ck8 (by simpa using hx)
    | succ j => exact ih h j y (by simpa using hy)
def RetDb (w : World) (p : Db × Bool) (e : Ending) (w' : World) : Prop:=e = .returned (.tuple #[.agg (dbC p.1).toArray,.bool p.2])∧Below w.heap.size w w'
theorem Wn9 : (dbC Qd9).toArray = #[.string ⟨#[]⟩,.int .i64 0,.int .i64 0,.int .i64 0,.int .i64 0]:=rfl
set_option maxRecDepth 100000 in
theorem Sa9 (A : Option Addr) (c : Nat) (xs : List Db) (s : ByteArray) (w : World) (h : Rep.RowsAt dbR w w.heap.size A xs.length xs) (hn : xs.length ≤ 1048576) :
 Calls Tryz.prog 108 #[.slice A xs.length c,.string s] w (RetDb w (Js9 xs s)):=by
 go_enter Tryz.func108,Tryz.ntmps108
 go_wp2
 have hb0 : Below w.heap.size w (w.alloc (.cells #[.string ⟨#[]⟩,.int .i64 0,.int .i64 0,.int .i64 0,.int .i64 0] 132)):=(Below.refl _ _).alloc (Nat.le_refl _) _;have hv:=heap_alloc_new w (.cells #[.string ⟨#[]⟩,.int .i64 0,.int .i64 0,.int .i64 0,.int .i64 0] 132);generalize hgW : w.alloc (.cells #[.string ⟨#[]⟩,.int .i64 0,.int .i64 0,.int .i64 0,.int .i64 0] 132) = W1 at hb0 hv ⊢;clear hgW;have V:=Lib.hid hv;clear hv;go_loopw [6] (fun i wr => ∃ k : Nat,k ≤ xs.length∧i = .int .i64 k∧Hid (NoneTo xs s k)∧wr = W1) (fun i _ => xs.length - (intOf i).toNat)
 case atStart => exact ⟨0,by omega,rfl,Lib.hid (NoneTo.zero xs s),rfl⟩
 case round =>
  obtain ⟨k,hk,rfl,hno,rfl⟩:=hrel;have q0 : wr.cell? ⟨w.heap.size,0,none⟩ = some (.string ⟨#[]⟩):=E9 V.out 0;have q1 : wr.cell? ⟨w.heap.size,1,none⟩ = some (.int .i64 0):=E9 V.out 1;have q2 : wr.cell? ⟨w.heap.size,2,none⟩ = some (.int .i64 0):=E9 V.out 2;have q3 : wr.cell? ⟨w.heap.size,3,none⟩ = some (.int .i64 0):=E9 V.out 3;have q4 : wr.cell? ⟨w.heap.size,4,none⟩ = some (.int .i64 0):=E9 V.out 4;have f0:=C9 V.out 0;have f1:=C9 V.out 1;have f2:=C9 V.out 2;have f3:=C9 V.out 3;have f4:=C9 V.out 4;have hlt0 : w.heap.size < wr.heap.size:=World.block_lt_of_cell? wr ⟨w.heap.size,0,none⟩ q0;by_cases hlt : k < xs.length
  ·obtain ⟨b,off,x,rfl,hbl,hx,c0,c1,c2,c3,c4⟩:=Hx9 (h.keep fun p hp => hb0.cell hp) hlt
   have HX:=Lib.hid hx;clear hx;have i1 : (0 : Int) ≤ (k : Int):=by omega
   have i2 : (k : Int) < (xs.length : Int):=by omega
   by_cases hq : (x.name.toList == s.toList) = true
   ·have HE:=Lib.hid (Wo9 hno.out HX.out hq)
    go_wp2
    refine bodyPost_ret (v:=.tuple #[.agg (dbC x).toArray,.bool true]) (by simp [results,Tryz.results108,go_sem,dbC,q0,q1,q2,q3,q4]) rfl ⟨by rw [HE.out],?_⟩
    repeat (refine Below.setCell ?_ (by first | (simp;done) | (simp;omega)) _)
    exact hb0
   ·have hq' : (x.name.toList == s.toList) = false:=by simpa using hq
    have HN:=Lib.hid (hno.out.succ HX.out hq');clear hq;go_wp2
    go_roundw
    case rel => exact ⟨k + 1,by omega,by go_num,HN,trivial⟩
    case measure => simp [intOf];omega
  ·have he : k = xs.length:=by omega
   subst he;have HE:=Lib.hid (Rz9 hno.out);go_wp2
   refine bodyPost_ret (v:=.tuple #[.agg (dbC Qd9).toArray,.bool false]) (by simp [results,Tryz.results108,go_sem,Wn9,q0,q1,q2,q3,q4]) rfl ⟨by rw [HE.out],?_⟩
   repeat (refine Below.setCell ?_ (by first | (simp;done) | (simp;omega)) _)
   exact hb0
set_option maxRecDepth 100000 in
theorem Wp9 (A : Option Addr) (c : Nat) (xs : List Db) (s : ByteArray) (w : World) (h : Rep.RowsAt dbR w w.heap.size A xs.length xs) (hn : xs.length ≤ 1048576) :
 Calls Tryz.prog 128 #[.slice A xs.length c,.string s] w (RetDb w (Js9 xs s)):=by
 go_enter Tryz.func128,Tryz.ntmps128
 go_wp2
 have hb0 : Below w.heap.size w (w.alloc (.cells #[.string ⟨#[]⟩,.int .i64 0,.int .i64 0,.int .i64 0,.int .i64 0] 132)):=(Below.refl _ _).alloc (Nat.le_refl _) _;have hv:=heap_alloc_new w (.cells #[.string ⟨#[]⟩,.int .i64 0,.int .i64 0,.int .i64 0,.int .i64 0] 132);generalize hgW : w.alloc (.cells #[.string ⟨#[]⟩,.int .i64 0,.int .i64 0,.int .i64 0,.int .i64 0] 132) = W1 at hb0 hv ⊢;clear hgW;have V:=Lib.hid hv;clear hv;go_loopw [10] (fun i wr => ∃ k : Nat,k ≤ xs.length∧i = .int .i64 k∧Hid (NoneTo xs s k)∧Hid (wr.heap[w.heap.size]? = some (.cells #[.string ⟨#[]⟩,.int .i64 0,.int .i64 0,.int .i64 0,.int .i64 0] 132 (0,0)))∧Below w.heap.size w wr) (fun i _ => xs.length - (intOf i).toNat)
 case atStart => exact ⟨0,by omega,rfl,Lib.hid (NoneTo.zero xs s),V,hb0⟩
 case round =>
  clear V hb0;obtain ⟨k,hk,rfl,hno,V,hb0⟩:=hrel;have q0 : wr.cell? ⟨w.heap.size,0,none⟩ = some (.string ⟨#[]⟩):=E9 V.out 0;have q1 : wr.cell? ⟨w.heap.size,1,none⟩ = some (.int .i64 0):=E9 V.out 1;have q2 : wr.cell? ⟨w.heap.size,2,none⟩ = some (.int .i64 0):=E9 V.out 2;have q3 : wr.cell? ⟨w.heap.size,3,none⟩ = some (.int .i64 0):=E9 V.out 3;have q4 : wr.cell? ⟨w.heap.size,4,none⟩ = some (.int .i64 0):=E9 V.out 4;have f0:=C9 V.out 0;have f1:=C9 V.out 1;have f2:=C9 V.out 2;have f3:=C9 V.out 3;have f4:=C9 V.out 4;have hlt0 : w.heap.size < wr.heap.size:=World.block_lt_of_cell? wr ⟨w.heap.size,0,none⟩ q0;by_cases hlt : k < xs.length
  ·obtain ⟨b,off,x,rfl,hbl,hx,c0,c1,c2,c3,c4⟩:=Hx9 (h.keep fun p hp => hb0.cell hp) hlt
   have HX:=Lib.hid hx;clear hx;have i1 : (0 : Int) ≤ (k : Int):=by omega
   have i2 : (k : Int) < (xs.length : Int):=by omega
   by_cases hq : (x.name.toList == s.toList) = true
   ·have HE:=Lib.hid (Wo9 hno.out HX.out hq)
    go_wp2
    refine bodyPost_ret (v:=.tuple #[.agg (dbC x).toArray,.bool true]) (by simp [results,Tryz.results128,go_sem,dbC,hlt0,q0,q1,q2,q3,q4]) rfl ⟨by rw [HE.out],?_⟩
    refine Below.alloc ?_ (by simp;omega) _
    repeat (refine Below.setCell ?_ (by first | (simp;done) | (simp;omega)) _)
    exact hb0
   ·have hq' : (x.name.toList == s.toList) = false:=by simpa using hq
    have HN:=Lib.hid (hno.out.succ HX.out hq');clear hq;go_wp2
    go_roundw
    case rel => exact ⟨k + 1,by omega,by go_num,HN,Lib.hid ((Below.heap_alloc _ _ _ hlt0).trans V.out),hb0.alloc hb0.size _⟩
    case measure => simp [intOf];omega
  ·have he : k = xs.length:=by omega
   subst he;have HE:=Lib.hid (Rz9 hno.out);go_wp2
   refine bodyPost_ret (v:=.tuple #[.agg (dbC Qd9).toArray,.bool false]) (by simp [results,Tryz.results128,go_sem,Wn9,q0,q1,q2,q3,q4]) rfl ⟨by rw [HE.out],?_⟩
   repeat (refine Below.setCell ?_ (by first | (simp;done) | (simp;omega)) _)
   exact hb0
end Go.Proofs.YthpkdjflndiojaaGreatDoor
