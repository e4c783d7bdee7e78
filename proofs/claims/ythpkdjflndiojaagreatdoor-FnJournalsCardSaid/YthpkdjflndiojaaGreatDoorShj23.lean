/- What the theorem needs, out of many texts. -/
import Derived.Test.YthpkdjflndiojaaGreatDoorShj21
import Derived.Test.YthpkdjflndiojaaGreatDoorShj22
set_option maxHeartbeats 20000000
namespace Go.Proofs.YthpkdjflndiojaaGreatDoor
open Go.RowKit
set_option maxRecDepth 100000
set_option linter.unusedVariables false
abbrev Eg9:=Int→List UInt8
def upd (C : Eg9) (s : Int) (b : List UInt8) : Eg9:=fun i => if s = i then b else C i
theorem Hk9 (C : Eg9) (s : Int) (b : List UInt8) : upd C s b s = b:=if_pos rfl
theorem Bf9 {C : Eg9} {s i : Int} {b : List UInt8} (h : s ≠ i) : upd C s b i = C i:=if_neg h
def At (C : Eg9) (g : Int) (i : Nat) (x : Int) : Prop:=(Gb9 (C (atP g i))).2 = true∧(Gb9 (C (atP g i))).1.1 = x
theorem If9 {g h : Int} {i j : Nat} (hi : i < 18) (hj : j < 18) (hn : g % 2 ≠ h % 2 ∨ i ≠ j) : atP g i ≠ atP h j:=by unfold atP;omega
theorem Ad8 {g : Int} {i j : Nat} (hi : i < 18) (hj : j < 18) : atP (g + 1) i ≠ atP g j:=If9 hi hj (.inl (by omega))
theorem Fz9 {g h : Int} {i : Nat} : h % 2 ≠ atP g i:=by unfold atP;omega
theorem Ty9 {g : Int} {i : Nat} (hi : i < 18) : 0 ≤ atP g i∧atP g i < 38:=by unfold atP;omega
theorem At.of_eq {C C' : Eg9} {g q x : Int} {i j : Nat} (h : At C g i x) (e : C' (atP q j) = C (atP g i)) : At C' q j x:=by unfold At;rw [e];exact h
theorem Tl9 {g n : Int} (hg : 1 ≤ g∧g ≤ 60000) (hn : 0 ≤ n∧n ≤ 18) : E8 (Af9 g n) = ((g,n),true):=by
 have e : Af9 g n = u8 (g / 256) :: u8 g :: u8 (n / 256) :: u8 n :: F9 (crc (Fs9 g n)):=by
  rw [Mp9 (by unfold inI;simp;omega) (by unfold inI;simp;omega)]
  simp [Q7,Fs9,F9]
 have hl : (Af9 g n).length = 6:=by rw [e];simp [F9]
 have w0 : S8 (Af9 g n) 0 = g:=Lc9 (k:=0) (by omega) (by omega) (by omega) (by rw [e];rfl) (by rw [e];rfl)
 have w2 : S8 (Af9 g n) 2 = n:=Lc9 (k:=2) (by omega) (by omega) (by omega) (by rw [e];rfl) (by rw [e];rfl)
 rw [Hu9 hl (by rw [w0,w2]),w0,w2]
theorem Oa9 {g p : Int} {r : Rec} (hr : Ak9 r = true) (hg : 0 ≤ g∧g ≤ 65535) (hp : 0 ≤ p∧p ≤ 65535) : Gb9 (Ah9 g p r) = ((g,p,r),true):=by
 obtain ⟨h1,h2,h3,h4,_⟩:=Ao8 hr hg hp;unfold Gb9;rw [if_pos h1,h2,h3,h4]
theorem get_nil : (Gb9 []).2 = false:=by
 unfold Gb9;rw [if_neg];intro h;have:=Ps9 h;cases this
theorem Dj8 : (E8 []).2 = false:=by
 rw [Fc9];intro h;cases h.1
theorem Ys9 : ∀ (rs : List Rec) {k k' : Known},KG k→Cd9 k rs = some k'→KG k':=by
 intro rs;induction rs with
 | nil => intro k k' h e;injection e with e;subst e;exact h
 | cons r rs ih => intro k k' h e;exact ih (Kw9 h) (Ku9 e).2.2
theorem Yr9 : ∀ (rs : List Rec) {k k' : Known},Cd9 k rs = some k'→∀ (i : Nat) r,rs[i]? = some r→Ak9 r = true:=by
 intro rs;induction rs with
 | nil => intro k k' e i r hr;cases hr
 | cons x rs ih =>
   intro k k' e i r hr;obtain ⟨_,h2,h3⟩:=Ku9 e;cases i with
   | zero => injection hr with hr;subst hr;exact h2
   | succ i => exact ih h3 i r hr
structure JI (C : Eg9) (k : Known) (g : Int) (p : Nat) : Prop where
 g1 : 1 ≤ g
 g2 : g ≤ 60000
 p18 : p ≤ 18
 head : ∃ n : Nat,n ≤ p∧C (g % 2) = Af9 g n
 recs : ∃ rs : List Rec,rs.length = p∧Cd9 knownZero rs = some k∧∀ (i : Nat) r,rs[i]? = some r→C (atP g i) = Ah9 g i r
 own : ∀ i : Nat,i < 18→p ≤ i→¬ At C g i g
 old : ∀ (i : Nat) x,i < 18→At C g i x→x ≤ g
 oth : ∀ (i : Nat) x,i < 18→At C (g + 1) i x→x ≤ g + 1
 nxt : ∀ i : Nat,i < 18→At C (g + 1) i (g + 1)→p = 18∧i < (V9 k).length
 head2 : ∀ x n,E8 (C ((g + 1) % 2)) = ((x,n),true)→x < g
theorem JI.good {C : Eg9} {k : Known} {g : Int} {p : Nat} (h : JI C k g p) : KG k:=by
 obtain ⟨rs,_,h2,_⟩:=h.recs;exact Ys9 rs Ei9 h2
theorem Li9 {d : Disk} {g : Int} (hg : 1 ≤ g∧g ≤ 60000) : ∀ (rs : List Rec) (i n : Nat) (k k' : Known),(∀ (j : Nat) r,rs[j]? = some r→P9 d (atP g ((i + j : Nat) : Int)) = Ah9 g ((i + j : Nat) : Int) r)→Cd9 k rs = some k'→rs.length ≤ n→i + n ≤ 18→Z8 d g n i k = Z8 d g (n - rs.length) (i + rs.length) k':=by
 intro rs;induction rs with
 | nil => intro i n k k' _ h _ _;injection h with h;subst h;rfl
 | cons r rs ih =>
   intro i n k k' hs h hn h18;obtain ⟨m,rfl⟩ : ∃ m,n = m + 1:=⟨n - 1,by simp at hn;omega⟩
   obtain ⟨h1,h2,h3⟩:=Ku9 h;have h0:=hs 0 r rfl;rw [Nat.add_zero] at h0;have hget:=Oa9 (g:=g) (p:=(i : Int)) h2 (by omega) (by omega)
   have e1 : Cr9 d g i = true:=by unfold Cr9;rw [h0,hget];simp
   have e2 : Ay9 d g i = r:=by unfold Ay9;rw [h0,hget]
   rw [Gx9 e1 (by rw [e2];exact h1),e2,ih (i + 1) m _ k' (fun j x hx => by have:=hs (j + 1) x hx;rw [show i + 1 + j = i + (j + 1) by omega];exact this) h3 (by simp at hn;omega) (by omega)]
   simp;rw [show i + 1 + rs.length = i + (rs.length + 1) by omega]
theorem An8 {d : Disk} {k : Known} {g : Int} {p : Nat} (h : JI (P9 d) k g p) : U8 d g = (k,p):=by
 obtain ⟨rs,h1,h2,h3⟩:=h.recs;have hg:=h.g1;have hg2:=h.g2;have hp:=h.p18;unfold U8;rw [if_pos (by unfold inI;simp;omega),Li9 ⟨hg,hg2⟩ rs 0 18 knownZero k (fun j r hr => by rw [Nat.zero_add];exact h3 j r hr) h2 (by omega) (by omega),h1,Nat.zero_add]
 by_cases he : p = 18
 ·subst he
  rfl
 ·obtain ⟨m,hm⟩ : ∃ m,18 - p = m + 1:=⟨17 - p,by omega⟩
  rw [hm,Gw9];cases hs : Cr9 d g p with
  | false => rfl
  | true =>
    unfold Cr9 at hs;simp only [Bool.and_eq_true,beq_iff_eq] at hs;exact absurd (show At (P9 d) g p g from ⟨hs.1,hs.2.1⟩) (h.own p (by omega) (Nat.le_refl _))
theorem Xb9 {d : Disk} {b : Jour} {i : Nat} {g : Int} (hb : b.g < g) (hx : ∀ x n,E8 (P9 d (i : Int)) = ((x,n),true)→x < g) : (Bg9 d b i).g < g:=by
 obtain ⟨⟨⟨x,y⟩,ok⟩,hg⟩ : ∃ p,E8 (P9 d (i : Int)) = p:=⟨_,rfl⟩;by_cases hc : ok = true∧x % 2 = (i : Int)∧b.g < x∧y ≤ ((U8 d x).2 : Int)
 ·obtain ⟨rfl,h2,h3,h4⟩:=hc
  rw [Ej9 hg (Prod.eta _).symm h2 h3 h4];exact hx x y hg
 ·rw [Dx9 hg hc]
  exact hb
theorem Xa9 {d : Disk} {b : Jour} {i : Nat} (hx : ∀ x n,E8 (P9 d (i : Int)) = ((x,n),true)→x < b.g) : Bg9 d b i = b:=by
 obtain ⟨⟨⟨x,y⟩,ok⟩,hg⟩ : ∃ p,E8 (P9 d (i : Int)) = p:=⟨_,rfl⟩;refine Dx9 hg (fun h => ?_)
 obtain ⟨rfl,_,h3,_⟩:=h;have:=hx x y hg;omega
theorem Uk9 {d : Disk} {k : Known} {g : Int} {p i : Nat} {b : Jour} (h : JI (P9 d) k g p) (hi : g % 2 = (i : Int)) (hb : b.g < g) : Bg9 d b i = ⟨k,g,p⟩:=by
 obtain ⟨n,hn,he⟩:=h.head;have hp:=h.p18;rw [hi] at he;exact Ej9 (x:=g) (y:=n) (by rw [he];exact Tl9 ⟨h.g1,h.g2⟩ (by omega)) (An8 h) hi hb (by omega)
theorem Jg9 {d : Disk} {k : Known} {g : Int} {p : Nat} (hd : Z9 d) (h38 : d.secs.length = 38) (h : JI (P9 d) k g p) : R7 d = (⟨k,g,p⟩,true):=by
 have hg:=h.g1;have e : Be9 d 2 = ⟨k,g,p⟩:=by
  show Bg9 d (Bg9 d T8 0) 1 = _
  rcases (show g % 2 = 0 ∨ g % 2 = 1 by omega) with h0 | h1
  ·rw [Uk9 (i:=0) h (by omega) (by show (0 : Int) < g;omega)]
   refine Xa9 (fun x n hx => ?_)
   exact h.head2 x n (by rw [show (g + 1) % 2 = ((1 : Nat) : Int) by omega];exact hx)
  ·refine Uk9 (i:=1) h (by omega) (Xb9 (by show (0 : Int) < g;omega) (fun x n hx => ?_))
   exact h.head2 x n (by rw [show (g + 1) % 2 = ((0 : Nat) : Int) by omega];exact hx)
 unfold R7;rw [if_pos ⟨Kp9 hd,h38⟩,e];simp;omega
theorem JI.lay {C : Eg9} {k : Known} {g : Int} {i : Nat} {r : Rec} (h : JI C k g 18) (hr : (V9 k)[i]? = some r) : JI (upd C (atP (g + 1) i) (Ah9 (g + 1) i r)) k g 18:=by
 have hg:=h.g1;have hg2:=h.g2;have hl:=Ca9 k;have hi:=(List.getElem?_eq_some_iff.1 hr).1;have hrb:=Yr9 _ (Ka9 h.good) i r hr;have hget:=Oa9 (g:=g + 1) (p:=(i : Int)) hrb (by omega) (by omega)
 have hne : ∀ j : Nat,j < 18→atP (g + 1) (i : Int) ≠ atP g (j : Int):=fun j hj => Ad8 (by omega) hj
 refine ⟨hg,hg2,h.p18,?_,?_,?_,?_,?_,?_,?_⟩
 ·obtain ⟨n,h1,h2⟩:=h.head
  exact ⟨n,h1,by rw [Bf9 (Ne.symm Fz9)];exact h2⟩
 ·obtain ⟨rs,h1,h2,h3⟩:=h.recs
  refine ⟨rs,h1,h2,fun j x hx => ?_⟩
  have:=(List.getElem?_eq_some_iff.1 hx).1;rw [Bf9 (hne j (by omega))]
  exact h3 j x hx
 ·intro j h1 h2 ha
  omega
 ·intro j x h1 ha
  exact h.old j x h1 (ha.of_eq (Bf9 (hne j h1)).symm)
 ·intro j x h1 ha
  by_cases hj : i = j
  ·subst hj
   unfold At at ha;rw [Hk9,hget] at ha;have:=ha.2;replace this : g + 1 = x:=this;omega
  ·exact h.oth j x h1 (ha.of_eq (Bf9 (If9 (by omega) h1 (.inr hj))).symm)
 ·intro j h1 ha
  by_cases hj : i = j
  ·subst hj
   exact ⟨rfl,hi⟩
  ·exact h.nxt j h1 (ha.of_eq (Bf9 (If9 (by omega) h1 (.inr hj))).symm)
 ·intro x n hx
  rw [Bf9 (Ne.symm Fz9)] at hx;exact h.head2 x n hx
theorem JI.turn {C : Eg9} {k : Known} {g : Int} (h : JI C k g 18) (hg3 : g + 1 ≤ 60000) (hall : ∀ (i : Nat) r,(V9 k)[i]? = some r→C (atP (g + 1) i) = Ah9 (g + 1) i r) : JI (upd C ((g + 1) % 2) (Af9 (g + 1) ((V9 k).length : Int))) k (g + 1) (V9 k).length:=by
 have hg:=h.g1;have hl:=Ca9 k;have e2 : ∀ i : Nat,atP (g + 1 + 1) (i : Int) = atP g (i : Int):=fun i => by unfold atP;omega
 have hs : ∀ (q : Int) (i : Nat),(upd C ((g + 1) % 2) (Af9 (g + 1) ((V9 k).length : Int))) (atP q i) = C (atP q i):=fun q i => Bf9 Fz9
 refine ⟨by omega,hg3,by omega,⟨_,Nat.le_refl _,Hk9 _ _ _⟩,⟨V9 k,rfl,Ka9 h.good,fun i r hr => by rw [hs];exact hall i r hr⟩,?_,?_,?_,?_,?_⟩
 ·intro i h1 h2 ha
  have:=(h.nxt i h1 (ha.of_eq (hs _ _).symm)).2;omega
 ·intro i x h1 ha
  exact h.oth i x h1 (ha.of_eq (hs _ _).symm)
 ·intro i x h1 ha
  have:=h.old i x h1 (ha.of_eq (C':=C) (q:=g) (j:=i) (by rw [hs,e2]))
  omega
 ·intro i h1 ha
  have:=h.old i _ h1 (ha.of_eq (C':=C) (q:=g) (j:=i) (by rw [hs,e2]))
  omega
 ·intro x n hx
  obtain ⟨m,hm,he⟩:=h.head;rw [Bf9 (by omega),show (g + 1 + 1) % 2 = g % 2 by omega,he,Tl9 ⟨hg,h.g2⟩ (by omega)] at hx
  injection hx with hx _;injection hx with hx _;omega
theorem JI.add {C : Eg9} {k k' : Known} {g : Int} {p : Nat} {r : Rec} (h : JI C k g p) (hp : p < 18) (ha : K8 k r = (k',true)) : JI (upd C (atP g p) (Ah9 g p r)) k' g (p + 1):=by
 have hg:=h.g1;have hg2:=h.g2;have hrb:=(Se9 ha).2.1;have hget:=Oa9 (g:=g) (p:=(p : Int)) hrb (by omega) (by omega)
 have ho : ∀ j : Nat,j < 18→atP g (p : Int) ≠ atP (g + 1) (j : Int):=fun j hj => (Ad8 hj hp).symm
 refine ⟨hg,hg2,by omega,?_,?_,?_,?_,?_,?_,?_⟩
 ·obtain ⟨n,h1,h2⟩:=h.head
  exact ⟨n,by omega,by rw [Bf9 (Ne.symm Fz9)];exact h2⟩
 ·obtain ⟨rs,h1,h2,h3⟩:=h.recs
  refine ⟨rs ++ [r],by simp [h1],by rw [Id9 _ _ _ _ h2];exact Fx9 ha hrb rfl,fun j x hx => ?_⟩
  by_cases hj : j < p
  ·rw [List.getElem?_append_left (by omega)] at hx
   rw [Bf9 (If9 hp (by omega) (.inr (by omega)))]
   exact h3 j x hx
  ·have hlt:=(List.getElem?_eq_some_iff.1 hx).1
   simp at hlt;have hjp : j = p:=by omega
   subst hjp;rw [List.getElem?_append_right (by omega),h1,Nat.sub_self] at hx
   injection hx with hx;subst hx;exact Hk9 _ _ _
 ·intro j h1 h2 hat
  exact h.own j h1 (by omega) (hat.of_eq (Bf9 (If9 hp h1 (.inr (by omega)))).symm)
 ·intro j x h1 hat
  by_cases hj : p = j
  ·subst hj
   unfold At at hat;rw [Hk9,hget] at hat;have:=hat.2;replace this : g = x:=this;omega
  ·exact h.old j x h1 (hat.of_eq (Bf9 (If9 hp h1 (.inr hj))).symm)
 ·intro j x h1 hat
  exact h.oth j x h1 (hat.of_eq (Bf9 (ho j h1)).symm)
 ·intro j h1 hat
  have:=(h.nxt j h1 (hat.of_eq (Bf9 (ho j h1)).symm)).1;omega
 ·intro x n hx
  rw [Bf9 (Ne.symm Fz9)] at hx;exact h.head2 x n hx
theorem Ea9 {d : Disk} {i : Int} (h : ¬ Df9 d i) : P9 d i = []:=El9 (fun h9 => h h9.2)
theorem Rw9 {d : Disk} (hd : Z9 d) (keep : Int) {i : Nat} (hi : i < d.secs.length) : P9 (E7 d keep) (i : Int) = In9 d (Am9 (Fr9 d.cache (Cu9 keep)) d.cache.length) i:=by
 have hg:=Gr9 hd keep;rw [Bh9 keep hd] at hg ⊢;rw [Bb9 hg ⟨by omega,by show (i : Int) < ((J8 d _).length : Int);rw [J7];omega⟩]
 show Bk9 (⟨J8 d (Am9 (Fr9 d.cache (Cu9 keep)) d.cache.length),[],-1,false⟩ : Disk) (i : Int) 0 = _
 rw [Kc9 _ _ _ _ _ rfl];show (J8 d _).getD ((i : Int).toNat) [] = _
 rw [show ((i : Int).toNat) = i by simp,Ru9 hi]
theorem Pu9 {d : Disk} (keep : Int) : (E7 d keep).secs.length = d.secs.length:=by
 by_cases hd : Z9 d
 ·rw [Bh9 keep hd];exact J7 _ _
 ·rw [Wd9 keep hd]
theorem Bf8 {cache : List Wr} {x : Wr} {kb : Int} {k : Nat} (hk : k < cache.length) (i : Int) : Fr9 (cache ++ [x]) kb k i = Fr9 cache kb k i:=by
 unfold Fr9;rw [Vp9 hk]
theorem Bm8 {cache : List Wr} {x : Wr} {kb : Int} (i : Int) : ∀ k,k ≤ cache.length→Am9 (Fr9 (cache ++ [x]) kb) k i = Am9 (Fr9 cache kb) k i:=by
 intro k;induction k with
 | zero => intro _;rfl
 | succ k ih =>
   intro hk;show (if Fr9 (cache ++ [x]) kb k i = true then some k else Am9 (Fr9 (cache ++ [x]) kb) k i) = (if Fr9 cache kb k i = true then some k else Am9 (Fr9 cache kb) k i)
   rw [Bf8 (by omega),ih (by omega)]
theorem Bs8 {d : Disk} {s : Int} {b : List UInt8} (hg : Bj9 d s b) (h0 : d.fuse ≠ 0) (keep : Int) : P9 (E7 (U9 d s b) keep) = upd (P9 (E7 d keep)) s b ∨ P9 (E7 (U9 d s b) keep) = P9 (E7 d keep):=by
 have hgw:=Ft9 hg;have key : ∀ i : Nat,i < d.secs.length→P9 (E7 (U9 d s b) keep) (i : Int) = if Qi9 (Cu9 keep) d.cache.length = true∧s = (i : Int) then b else P9 (E7 d keep) (i : Int):=by
  intro i hi;rw [Rw9 hgw keep (by rw [Aj9 hg h0];exact hi),Rw9 hg.1 keep hi,Aj9 hg h0]
  unfold In9;show (match Am9 (Fr9 (d.cache ++ [(⟨s,b⟩ : Wr)]) (Cu9 keep)) (d.cache ++ [(⟨s,b⟩ : Wr)]).length (i : Int) with | some j => ((d.cache ++ [(⟨s,b⟩ : Wr)]).getD j ⟨0,[]⟩).b | none => d.secs.getD i []) = _
  rw [show (d.cache ++ [(⟨s,b⟩ : Wr)]).length = d.cache.length + 1 by simp]
  have hstep : Am9 (Fr9 (d.cache ++ [(⟨s,b⟩ : Wr)]) (Cu9 keep)) (d.cache.length + 1) (i : Int) = if Qi9 (Cu9 keep) d.cache.length = true∧s = (i : Int) then some d.cache.length else Am9 (Fr9 d.cache (Cu9 keep)) d.cache.length (i : Int):=by
   show (if Fr9 (d.cache ++ [(⟨s,b⟩ : Wr)]) (Cu9 keep) d.cache.length (i : Int) = true then some d.cache.length else Am9 (Fr9 (d.cache ++ [(⟨s,b⟩ : Wr)]) (Cu9 keep)) d.cache.length (i : Int)) = _
   rw [Bm8 _ _ (Nat.le_refl _)]
   have : Fr9 (d.cache ++ [(⟨s, b⟩ : Wr)]) (Cu9 keep) d.cache.length (i : Int) = true ↔ (Qi9 (Cu9 keep) d.cache.length = true ∧ s = (i : Int)) := by
      unfold Fr9;rw [Kk9 (x:=⟨s,b⟩) (by simp)]
      simp
   by_cases h : Qi9 (Cu9 keep) d.cache.length = true∧s = (i : Int)
   ·rw [if_pos h,if_pos (this.2 h)]
   ·rw [if_neg h,if_neg (fun h9 => h (this.1 h9))]
  rw [hstep];by_cases h : Qi9 (Cu9 keep) d.cache.length = true∧s = (i : Int)
  ·rw [if_pos h,if_pos h]
   show ((d.cache ++ [(⟨s,b⟩ : Wr)]).getD d.cache.length ⟨0,[]⟩).b = b
   rw [List.getD_eq_getElem?_getD];simp
  ·rw [if_neg h,if_neg h]
   rcases he : Am9 (Fr9 d.cache (Cu9 keep)) d.cache.length (i : Int) with _ | j
   ·rfl
   ·have hj:=(Lu9 he).1
    show ((d.cache ++ [(⟨s,b⟩ : Wr)]).getD j ⟨0,[]⟩).b = (d.cache.getD j ⟨0,[]⟩).b
    rw [List.getD_eq_getElem?_getD,List.getD_eq_getElem?_getD,List.getElem?_append_left hj]
 have hlen : (E7 (U9 d s b) keep).secs.length = d.secs.length:=by rw [Pu9,Aj9 hg h0]
 have hout : ∀ i : Int,¬ Df9 d i→P9 (E7 (U9 d s b) keep) i = []∧P9 (E7 d keep) i = []:=by
  intro i hi;exact ⟨Ea9 (fun h => hi ⟨h.1,by have:=h.2;rw [hlen] at this;exact this⟩),Ea9 (fun h => hi ⟨h.1,by have:=h.2;rw [Pu9] at this;exact this⟩)⟩
 by_cases hb : Qi9 (Cu9 keep) d.cache.length = true
 ·refine .inl (funext fun i => ?_)
  by_cases hi : Df9 d i
  ·obtain ⟨m,rfl⟩:=Int.eq_ofNat_of_zero_le hi.1
   have hm : m < d.secs.length:=by have:=hi.2;omega
   rw [key m hm];unfold upd;by_cases hs : s = (m : Int)
   ·rw [if_pos ⟨hb,hs⟩,if_pos hs]
   ·rw [if_neg (fun h9 => hs h9.2),if_neg hs]
  ·rw [(hout i hi).1,Bf9 (fun e => hi (by rw [← e];exact hg.2.2.1)),(hout i hi).2]
 ·refine .inr (funext fun i => ?_)
  by_cases hi : Df9 d i
  ·obtain ⟨m,rfl⟩:=Int.eq_ofNat_of_zero_le hi.1
   have hm : m < d.secs.length:=by have:=hi.2;omega
   rw [key m hm,if_neg (fun h9 => hb h9.1)]
  ·rw [(hout i hi).1,(hout i hi).2]
structure Up (d : Disk) (C : Eg9) (n : Nat) (F : Eg9→Prop) (f : Int) : Prop where
 good : Z9 d
 len : d.secs.length = 38
 up : d.down = false
 cache : d.cache.length ≤ n
 rd : P9 d = C
 fall : ∀ keep,F (P9 (E7 d keep))
 fuse : d.fuse = f
structure Dn (d : Disk) (F : Eg9→Prop) : Prop where
 good : Z9 d
 len : d.secs.length = 38
 dn : d.down = true
 fall : ∀ keep,F (P9 (E7 d keep))
theorem Dn.mono {d : Disk} {F G : Eg9→Prop} (h : Dn d F) (hs : ∀ c,F c→G c) : Dn d G:=⟨h.good,h.len,h.dn,fun k => hs _ (h.fall k)⟩
theorem Dn.write {d : Disk} {F : Eg9→Prop} (h : Dn d F) (s : Int) (b : List UInt8) : U9 d s b = d:=Ai9 (fun h9 => by have:=h9.2.1;rw [h.dn] at this;cases this)
theorem Dn.sync {d : Disk} {F : Eg9→Prop} (h : Dn d F) : S9 d = d:=Bp9 (fun h9 => by have:=h9.2;rw [h.dn] at this;cases this)
theorem Fn9 {d : Disk} {C : Eg9} {n : Nat} {F G : Eg9→Prop} {f s : Int} {b : List UInt8} (h : Up d C n F f) (hn : n < 30) (hs : 0 ≤ s∧s < 38) (hb : b.length ≤ 160) (h1 : ∀ c,F c→G c) (h2 : ∀ c,F c→G (upd c s b)) :
 (f ≠ 0∧Up (U9 d s b) (upd C s b) (n + 1) G (X9 f)) ∨ (f = 0∧Dn (U9 d s b) F):=by
 have hc:=h.cache;have hw : Bj9 d s b:=⟨h.good,h.up,⟨hs.1,by rw [h.len];exact hs.2⟩,hb,by omega⟩
 by_cases h0 : f = 0
 ·refine .inr ⟨h0,?_⟩
  have hgw:=Ft9 hw;rw [Dg9 hw (by rw [h.fuse];exact h0)] at hgw ⊢
  refine ⟨hgw,h.len,rfl,fun keep => ?_⟩
  have e : E7 (⟨d.secs,d.cache,-1,true⟩ : Disk) keep = E7 d keep:=by
   rw [Bh9 keep hgw,Bh9 keep h.good];rfl
  rw [e];exact h.fall keep
 ·have h0' : d.fuse ≠ 0:=by rw [h.fuse];exact h0
  refine .inl ⟨h0,⟨Ft9 hw,by rw [Aj9 hw h0'];exact h.len,by rw [Aj9 hw h0'];exact h.up,by rw [Aj9 hw h0'];show (d.cache ++ [_]).length ≤ n + 1;simp;omega,?_,fun keep => ?_,by rw [Aj9 hw h0',← h.fuse]⟩⟩
  ·funext i
   by_cases hi : Df9 d i
   ·rw [Sv9 hw h0' i hi,← h.rd]
    rfl
   ·rw [Ea9 (fun h9 => hi ⟨h9.1,by have:=h9.2;rw [Aj9 hw h0'] at this;exact this⟩),Bf9 (fun e => hi (by rw [← e];exact hw.2.2.1)),← h.rd,Ea9 hi]
  ·rcases Bs8 hw h0' keep with e | e <;> rw [e]
   ·exact h2 _ (h.fall keep)
   ·exact h1 _ (h.fall keep)
theorem Hl9 {d : Disk} {C : Eg9} {n : Nat} {F : Eg9→Prop} {f : Int} (h : Up d C n F f) :
 (f ≠ 0∧Up (S9 d) C 0 (fun c => c = C) (X9 f)) ∨ (f = 0∧Dn (S9 d) F):=by
 have hw : Cw9 d:=⟨h.good,h.up⟩;have hgs:=Cj9 h.good;by_cases h0 : f = 0
 ·refine .inr ⟨h0,?_⟩
  rw [Ch9 hw (by rw [h.fuse];exact h0)] at hgs ⊢
  refine ⟨hgs,h.len,rfl,fun keep => ?_⟩
  have e : E7 (⟨d.secs,d.cache,-1,true⟩ : Disk) keep = E7 d keep:=by
   rw [Bh9 keep hgs,Bh9 keep h.good];rfl
  rw [e];exact h.fall keep
 ·have h0' : d.fuse ≠ 0:=by rw [h.fuse];exact h0
  have hlen : (S9 d).secs.length = d.secs.length:=by rw [Av9 hw h0'];exact J7 _ _
  have hcn : (S9 d).cache = []:=by rw [Av9 hw h0']
  have hf0 : E7 (S9 d) 0 = ⟨J8 d (Am9 (key d.cache) d.cache.length),[],-1,false⟩:=No9 h.good h.up h0';have hfk : ∀ keep,E7 (S9 d) keep = E7 (S9 d) 0:=by
   intro keep;rw [hf0,Bh9 keep hgs,Av9 hw h0'];congr 1
   exact Rt9 _ _ _ _
  have hrd : P9 (E7 (S9 d) 0) = C:=by
   funext i
   by_cases hi : Df9 d i
   ·rw [Oo9 h.good h.up h0' i hi,h.rd]
   ·rw [Ea9 (fun h9 => hi ⟨h9.1,by have:=h9.2;rw [Pu9,hlen] at this;exact this⟩),← h.rd,Ea9 hi]
  refine .inl ⟨h0,⟨hgs,by rw [hlen];exact h.len,by rw [Av9 hw h0'];exact h.up,by rw [hcn];exact Nat.le_refl _,?_,fun keep => by rw [hfk,hrd],by rw [Av9 hw h0',← h.fuse]⟩⟩
  funext i
  by_cases hi : Df9 d i
  ·have hgf:=Gr9 hgs 0
   rw [← hrd,hf0];rw [hf0] at hgf;have hin : Df9 (⟨J8 d (Am9 (key d.cache) d.cache.length),[],-1,false⟩ : Disk) i:=⟨hi.1,by show i < ((J8 d _).length : Int);rw [J7];exact hi.2⟩
   have:=Su9 (⟨J8 d (Am9 (key d.cache) d.cache.length),[],-1,false⟩ : Disk) (X9 d.fuse) d.down hgf (by have:=h.good.2.2.2;unfold X9;split <;> omega) (by have:=h.good.2.2.2;unfold X9;split <;> omega) i hin
   rw [Av9 hw h0'];exact this
  ·rw [Ea9 (fun h9 => hi ⟨h9.1,by have:=h9.2;rw [hlen] at this;exact this⟩),← h.rd,Ea9 hi]
theorem Cl9 {f : Int} (h : f = -1) : X9 f = -1:=by subst h;rfl
theorem Hp9 (g p : Int) (r : Rec) : (Ah9 g p r).length ≤ 160:=by have:=Ex9 g p r;omega
theorem lay_up {d : Disk} {C : Eg9} {k : Known} {g f : Int} (h : Up d C 0 (fun c => c = C) f) (hj : JI C k g 18) : ∀ i,i ≤ (V9 k).length →
 (∃ C' f',Up (S7 d (g + 1) (V9 k) i) C' i (fun c => JI c k g 18) f'∧JI C' k g 18∧(∀ (j : Nat) r,j < i→(V9 k)[j]? = some r→C' (atP (g + 1) j) = Ah9 (g + 1) j r)∧(f = -1→f' = -1)) ∨ (f ≠ -1∧Dn (S7 d (g + 1) (V9 k) i) (fun c => JI c k g 18)):=by
 intro i;have hl:=Ca9 k;induction i with
 | zero =>
   intro _;exact .inl ⟨C,f,⟨h.good,h.len,h.up,h.cache,h.rd,fun keep => by have e : P9 (E7 d keep) = C:=h.fall keep;show JI (P9 (E7 d keep)) k g 18;rw [e];exact hj,h.fuse⟩,hj,fun j r hj2 => absurd hj2 (Nat.not_lt_zero _),id⟩
 | succ i ih =>
   intro hi;obtain ⟨r,hr⟩ : ∃ r,(V9 k)[i]? = some r:=⟨_,List.getElem?_eq_getElem (by omega)⟩
   rw [He9 hr];rcases ih (by omega) with ⟨C',f',hu,hji,hall,hf⟩ | ⟨hf,hdn⟩
   ·rcases Fn9 (G:=fun c => JI c k g 18) (s:=atP (g + 1) i) (b:=Ah9 (g + 1) i r) hu (by omega) (Ty9 (by omega)) (Hp9 _ _ _) (fun c hc => hc) (fun c hc => hc.lay hr) with ⟨h0,hu2⟩ | ⟨h0,hdn⟩
    ·refine .inl ⟨_,_,hu2,hji.lay hr,fun j x hj2 hx => ?_,fun h9 => Cl9 (hf h9)⟩
     by_cases hji2 : i = j
     ·subst hji2
      rw [hr] at hx;injection hx with hx;subst hx;exact Hk9 _ _ _
     ·rw [Bf9 (If9 (by omega) (by omega) (.inr hji2))]
      exact hall j x (by omega) hx
    ·exact .inr ⟨fun h9 => (by have:=hf h9;omega),hdn⟩
   ·rw [hdn.write]
    exact .inr ⟨hf,hdn⟩
theorem layP_up {d : Disk} {C : Eg9} {k : Known} {g f : Int} (h : Up d C 0 (fun c => c = C) f) (hj : JI C k g 18) (hg : g + 1 ≤ 60000) :
 (∃ C' f',Up (Ct9 d ⟨k,g,18⟩) C' 0 (fun c => c = C') f'∧JI C' k (g + 1) (V9 k).length∧(f = -1→f' = -1)) ∨ (f ≠ -1∧Dn (Ct9 d ⟨k,g,18⟩) (fun c => JI c k g 18 ∨ JI c k (g + 1) (V9 k).length)):=by
 unfold Ct9;show (∃ C' f',Up (S9 (U9 (S9 (S7 d (g + 1) (V9 k) (V9 k).length)) ((g + 1) % 2) (Af9 (g + 1) ((V9 k).length : Int)))) C' 0 (fun c => c = C') f'∧_) ∨ (_∧Dn (S9 (U9 (S9 (S7 d (g + 1) (V9 k) (V9 k).length)) ((g + 1) % 2) (Af9 (g + 1) ((V9 k).length : Int)))) _)
 have hhl:=Da9 (g + 1) ((V9 k).length : Int);rcases lay_up h hj _ (Nat.le_refl _) with ⟨C1,f1,hu1,hj1,hall,hf1⟩ | ⟨hf,hdn⟩
 ·have hall' : ∀ (j : Nat) r,(V9 k)[j]? = some r→C1 (atP (g + 1) j) = Ah9 (g + 1) j r:=fun j r hr => hall j r (List.getElem?_eq_some_iff.1 hr).1 hr
  have hj2:=hj1.turn hg hall';rcases Hl9 hu1 with ⟨h0,hu2⟩ | ⟨h0,hdn⟩
  ·rcases Fn9 (G:=fun c => c = C1 ∨ c = upd C1 ((g + 1) % 2) (Af9 (g + 1) ((V9 k).length : Int))) (s:=(g + 1) % 2) (b:=Af9 (g + 1) ((V9 k).length : Int)) hu2 (by omega) (by omega) (by omega) (fun c hc => .inl hc) (fun c hc => .inr (by rw [hc])) with ⟨h3,hu3⟩ | ⟨h3,hdn⟩
   ·rcases Hl9 hu3 with ⟨h4,hu4⟩ | ⟨h4,hdn⟩
    ·exact .inl ⟨_,_,hu4,hj2,fun h9 => Cl9 (Cl9 (Cl9 (hf1 h9)))⟩
    ·refine .inr ⟨fun h9 => (by rw [Cl9 (Cl9 (hf1 h9))] at h4;cases h4),hdn.mono fun c hc => ?_⟩
     rcases hc with rfl | rfl
     ·exact .inl hj1
     ·exact .inr hj2
   ·rw [hdn.sync]
    exact .inr ⟨fun h9 => (by rw [Cl9 (hf1 h9)] at h3;cases h3),hdn.mono fun c hc => .inl (by rw [hc];exact hj1)⟩
  ·rw [hdn.write,hdn.sync]
   exact .inr ⟨fun h9 => (by rw [hf1 h9] at h0;cases h0),hdn.mono fun c hc => .inl hc⟩
 ·rw [hdn.sync,hdn.write,hdn.sync]
  exact .inr ⟨hf,hdn.mono fun c hc => .inl hc⟩
theorem Zr9 {d : Disk} {C : Eg9} {k k' : Known} {g f : Int} {p : Nat} {r : Rec} (h : Up d C 0 (fun c => c = C) f) (hj : JI C k g p) (hp : p < 18) (ha : K8 k r = (k',true)) :
 (∃ C' f',Up (X8 d g p r) C' 0 (fun c => c = C') f'∧JI C' k' g (p + 1)∧(f = -1→f' = -1)) ∨ (f ≠ -1∧Dn (X8 d g p r) (fun c => JI c k g p ∨ JI c k' g (p + 1))):=by
 unfold X8;have hj2:=hj.add hp ha;rcases Fn9 (G:=fun c => c = C ∨ c = upd C (atP g p) (Ah9 g p r)) (s:=atP g p) (b:=Ah9 g p r) h (by omega) (Ty9 hp) (Hp9 _ _ _) (fun c hc => .inl hc) (fun c hc => .inr (by rw [hc])) with ⟨h3,hu3⟩ | ⟨h3,hdn⟩
 ·rcases Hl9 hu3 with ⟨h4,hu4⟩ | ⟨h4,hdn⟩
  ·exact .inl ⟨_,_,hu4,hj2,fun h9 => Cl9 (Cl9 h9)⟩
  ·refine .inr ⟨fun h9 => (by rw [Cl9 h9] at h4;cases h4),hdn.mono fun c hc => ?_⟩
   rcases hc with rfl | rfl
   ·exact .inl hj
   ·exact .inr hj2
 ·rw [hdn.sync]
  exact .inr ⟨fun h9 => (by rw [h9] at h3;cases h3),hdn.mono fun c hc => .inl (by rw [hc];exact hj)⟩
theorem El8 {d : Disk} {C : Eg9} {k k' : Known} {g f : Int} {p : Nat} {r : Rec} (h : Up d C 0 (fun c => c = C) f) (hj : JI C k g p) (hg : g + 1 ≤ 60000) (ha : K8 k r = (k',true)) :
 ((Ce9 d r).2 = true∧∃ C' f' g' p',Up (Ce9 d r).1 C' 0 (fun c => c = C') f'∧JI C' k' g' p'∧((g' = g∧p' = p + 1) ∨ g' = g + 1)∧(f = -1→f' = -1)) ∨
 ((Ce9 d r).2 = false∧f ≠ -1∧Dn (Ce9 d r).1 (fun c => ∃ k2 g2 p2,JI c k2 g2 p2∧(k2 = k ∨ k2 = k')∧g2 ≤ g + 1)):=by
 have hop : R7 d = (⟨k,g,p⟩,true):=Jg9 h.good h.len (by rw [h.rd];exact hj)
 have hp:=hj.p18;by_cases h18 : p = 18
 ·subst h18
  rw [Qr9 hop ha h.up rfl (by show g ≠ 60000;omega)]
  have hl:=Ca9 k;rcases layP_up h hj hg with ⟨C1,f1,hu1,hj1,hf1⟩ | ⟨hf,hdn⟩
  ·rcases Zr9 hu1 hj1 (by omega) ha with ⟨C2,f2,hu2,hj2,hf2⟩ | ⟨hf,hdn⟩
   ·refine .inl ⟨?_,C2,f2,g + 1,_,hu2,hj2,.inr rfl,fun h9 => hf2 (hf1 h9)⟩
    show (!(X8 (Ct9 d ⟨k,g,18⟩) (g + 1) ((V9 k).length : Int) r).down) = true
    rw [hu2.up];rfl
   ·refine .inr ⟨?_,fun h9 => hf (hf1 h9),hdn.mono fun c hc => ?_⟩
    ·show (!(X8 (Ct9 d ⟨k,g,18⟩) (g + 1) ((V9 k).length : Int) r).down) = false
     rw [hdn.dn];rfl
    ·rcases hc with hc | hc
     ·exact ⟨_,_,_,hc,.inl rfl,Int.le_refl _⟩
     ·exact ⟨_,_,_,hc,.inr rfl,Int.le_refl _⟩
  ·have e : X8 (Ct9 d ⟨k, g, 18⟩) (g + 1) ((V9 k).length : Int) r = Ct9 d ⟨k, g, 18⟩ := by
      unfold X8;rw [hdn.write,hdn.sync]
   refine .inr ⟨?_,hf,?_⟩
   ·show (!(X8 (Ct9 d ⟨k,g,18⟩) (g + 1) ((V9 k).length : Int) r).down) = false
    rw [e,hdn.dn];rfl
   ·show Dn (X8 (Ct9 d ⟨k,g,18⟩) (g + 1) ((V9 k).length : Int) r) _
    rw [e];refine hdn.mono fun c hc => ?_
    rcases hc with hc | hc
    ·exact ⟨_,_,_,hc,.inl rfl,by omega⟩
    ·exact ⟨_,_,_,hc,.inl rfl,Int.le_refl _⟩
 ·rw [Nb9 hop ha h.up (by show (p : Int) ≠ 18;omega)]
  rcases Zr9 h hj (by omega) ha with ⟨C2,f2,hu2,hj2,hf2⟩ | ⟨hf,hdn⟩
  ·refine .inl ⟨?_,C2,f2,g,_,hu2,hj2,.inl ⟨rfl,rfl⟩,hf2⟩
   show (!(X8 _ _ _ _).down) = true
   rw [hu2.up];rfl
  ·refine .inr ⟨?_,hf,hdn.mono fun c hc => ?_⟩
   ·show (!(X8 _ _ _ _).down) = false
    rw [hdn.dn];rfl
   ·rcases hc with hc | hc
    ·exact ⟨_,_,_,hc,.inl rfl,by omega⟩
    ·exact ⟨_,_,_,hc,.inr rfl,by omega⟩
theorem new_up : Up (An9 38) (fun _ => []) 0 (fun c => c = fun _ => []) (-1):=by
 have hg:=Lx9 (n:=38) (by decide) (by decide)
 have e : An9 38 = ⟨List.replicate 38 [],[],-1,false⟩:=rfl;have hr : ∀ i,P9 (An9 38) i = []:=by
  intro i;by_cases hi : Df9 (An9 38) i
  ·rw [Bb9 hg hi,e]
   show Bk9 (⟨List.replicate 38 [],[],-1,false⟩ : Disk) i 0 = []
   rw [Kc9 _ _ _ _ _ rfl,List.getD_eq_getElem?_getD];by_cases h : i.toNat < 38
   ·rw [List.getElem?_replicate,if_pos h];rfl
   ·rw [List.getElem?_replicate,if_neg h];rfl
  ·exact Ea9 hi
 refine ⟨hg,by rw [e];rfl,by rw [e],by rw [e];exact Nat.le_refl _,funext hr,fun keep => ?_,by rw [e]⟩
 have e2 : E7 (An9 38) keep = An9 38:=by
  rw [Bh9 keep hg,e];congr 1
 rw [e2];exact funext hr
theorem Rs9 : ∃ C,Up Db9 C 0 (fun c => c = C) (-1)∧JI C knownZero 1 0:=by
 have hhl:=Da9 1 0;have hat : ∀ (g : Int) (i : Nat) x,¬ At (upd (fun _ => []) 1 (Af9 1 0)) g i x:=by
  intro g i x h;have h1:=h.1;rw [Bf9 (by unfold atP;omega)] at h1
  rw [get_nil] at h1;cases h1
 refine ⟨upd (fun _ => []) 1 (Af9 1 0),?_,⟨by omega,by omega,by omega,⟨0,Nat.le_refl _,Hk9 _ _ _⟩,⟨[],rfl,rfl,fun i r h => by cases h⟩,fun i _ _ h => hat _ _ _ h,fun i x _ h => absurd h (hat _ _ _),fun i x _ h => absurd h (hat _ _ _),fun i _ h => absurd h (hat _ _ _),fun x n hx => ?_⟩⟩
 ·unfold Db9
  rcases Fn9 (G:=fun _ => True) (s:=1) (b:=Af9 1 0) new_up (by omega) (by omega) (by omega) (fun _ _ => trivial) (fun _ _ => trivial) with ⟨_,h2⟩ | ⟨h2,_⟩
  ·rcases Hl9 h2 with ⟨_,h3⟩ | ⟨h3,_⟩
   ·exact h3
   ·cases h3
  ·cases h2
 ·rw [Bf9 (by decide)] at hx
  have:=Dj8;rw [hx] at this;cases this
def Qt9 (r : Rec) : Prop:=(r.kind = 1∧r.owner = 0∧Fe9 r.text = true) ∨ (r.kind = 2∧r.owner = 0∧Ey9 r.text = true) ∨ (r.kind = 3∧(0 ≤ r.owner∧r.owner ≤ 1)∧Ey9 r.text = true)
def RetDb3G (w : World) (lo g : Nat) (A : Option Addr) (n c : Nat) (code : List UInt8) (e : Ending) (w' : World) : Prop:=
 ∃ x : Db,e = .returned (.agg #[.string x.name,.int .i64 x.size,.int .i64 x.queue,.int .i64 x.wait,.int .i64 x.idle])∧(x.name.size ≤ 100∧dbB x = true)∧Cur w' lo g A n c code∧Rep.Only w w' [g]
def Wy9 (w : World) (lo g : Nat) (A : Option Addr) (n c : Nat) (code : List UInt8) (e : Ending) (w' : World) : Prop:=
 ∃ r : Rec,e = .returned (.agg #[.int .i64 r.kind,.int .i64 r.n,.int .i64 r.owner,.string r.text])∧(r.text.size ≤ 100∧Qt9 r∧1 ≤ r.n∧r.n ≤ 6)∧Cur w' lo g A n c code∧Rep.Only w w' [g]
theorem Bz8 {xs : List Db} {x : Db} (h : ConfTo xs xs.length) (hx : dbB x = true) (hn : ∀ (j : Nat) (y : Db),xs[j]? = some y→y.name ≠ x.name) : ConfTo (xs ++ [x]) (xs ++ [x]).length:=by
 have h1 : ConfTo (xs ++ [x]) xs.length:=by
  refine ⟨fun i y hi hy => ?_,fun i j y z hj hi hy hz => ?_⟩
  ·rw [List.getElem?_append_left hi] at hy
   exact h.1 i y hi hy
  ·rw [List.getElem?_append_left hi] at hy
   rw [List.getElem?_append_left (by omega)] at hz
   exact h.2 i j y z hj hi hy hz
 rw [show (xs ++ [x]).length = xs.length + 1 by simp]
 refine h1.succ (by simp) hx (fun j y hj hy => ?_)
 rw [List.getElem?_append_left hj] at hy;exact hn j y hy
theorem V4.retG {w w1 : World} {lo g : Nat} {A : Option Addr} {n c : Nat} {code : List UInt8} {D : Nat} {k m o : Int} {t : ByteArray} (h : V4 w lo g A n c code D ⟨k,m,o,t⟩ w1) (ht : t.size ≤ 100∧Qt9 ⟨k,m,o,t⟩∧1 ≤ m∧m ≤ 6) :
 Wy9 w lo g A n c code (.returned (.agg #[.int .i64 k,.int .i64 m,.int .i64 o,.string t])) ((((w1.setCell ⟨w.heap.size,0,none⟩ (.int .i64 k)).setCell ⟨w.heap.size,1,none⟩ (.int .i64 m)).setCell ⟨w.heap.size,2,none⟩ (.int .i64 o)).setCell ⟨w.heap.size,3,none⟩ (.string t)):=by
 have ho:=U7 w1 w.heap.size (.int .i64 k) (.int .i64 m) (.int .i64 o) (.string t);have h2:=h.lt;have h3:=h.from_;exact ⟨⟨k,m,o,t⟩,rfl,ht,h.cur.only ho (by simp;omega) (fun a ha => by simp at ha;omega),h.only.then ho (fun a ha => .inr (by simp at ha;omega))⟩
set_option maxRecDepth 100000 in
theorem Xs9 (lo g : Nat) (A : Option Addr) (n c : Nat) (code : List UInt8) (w : World) (h : Cur w lo g A n c code) (hn : n ≤ 140737488351232) :
 Calls Tryz.prog 107 #[.pointer (some ⟨g,0,none⟩)] w (RetDb3G w lo g A n c code):=by
 have hglt:=h.lt;have hlg:=h.from_;go_enter Tryz.func107,Tryz.ntmps107
 go_wp2_with fail;have ho1:=Rep.only_alloc w (.cells #[.string ⟨#[]⟩,.int .i64 0,.int .i64 0,.int .i64 0,.int .i64 0] 132);have hv1:=heap_alloc_new w (.cells #[.string ⟨#[]⟩,.int .i64 0,.int .i64 0,.int .i64 0,.int .i64 0] 132);have hs1 : (w.alloc (.cells #[.string ⟨#[]⟩,.int .i64 0,.int .i64 0,.int .i64 0,.int .i64 0] 132)).heap.size = w.heap.size + 1:=by simp
 generalize hgW : w.alloc (.cells #[.string ⟨#[]⟩,.int .i64 0,.int .i64 0,.int .i64 0,.int .i64 0] 132) = W1 at ho1 hv1 hs1 ⊢;clear hgW;have hc1:=h.only ho1 (by simp) (fun a ha => by cases ha)
 have O1 : Rep.Only w W1 [g]:=ho1.mono (by simp)
 have V1:=Lib.hid hv1;clear ho1 hv1 h;rw [← hs1];refine (Px9 lo g A n c code [⟨#[109,97,105,110]⟩,⟨#[109,97,105,110]⟩,⟨#[108,111,103,115]⟩,⟨#[120]⟩] W1 hc1 hn (by decide) (by decide)).mono ?_
 rintro e W2 ⟨x1,hx1,rfl,hc2,ho⟩;have X1 : x1.size ≤ 100:=by simp only [List.mem_cons,List.not_mem_nil,or_false] at hx1;rcases hx1 with rfl | rfl | rfl | rfl <;> decide
 have V2:=Rep.var_only V1 ho (by omega) (by simp;omega)
 have O2:=O1.then ho (fun a ha => .inl ha)
 have s2:=ho.size;have N1 : Eh9 x1.data.toList = true:=by simp only [List.mem_cons,List.not_mem_nil,or_false] at hx1;rcases hx1 with rfl | rfl | rfl | rfl <;> decide
 clear ho hc1 V1 O1 hx1;go_wp2_with fail;refine (C8 lo g A n c code 3 W2 hc2 hn (by omega) (by omega)).mono ?_
 rintro e W3 ⟨x2,hx2,rfl,hc3,hg⟩;have ho:=I7 hg;have V3:=Rep.var_only V2 ho (by omega) (by simp;omega)
 have O3:=O2.then ho (fun a ha => .inl ha)
 have s3:=ho.size;clear ho hg hc2 V2 O2;go_wp2_with fail;refine (C8 lo g A n c code 5 W3 hc3 hn (by omega) (by omega)).mono ?_
 rintro e W4 ⟨x3,hx3,rfl,hc4,hg⟩;have ho:=I7 hg;have V4:=Rep.var_only V3 ho (by omega) (by simp;omega)
 have O4:=O3.then ho (fun a ha => .inl ha)
 have s4:=ho.size;clear ho hg hc3 V3 O3;go_wp2_with fail;refine (Cc9 lo g A n c code [1,2,5,20] W4 hc4 hn (by decide) (by decide)).mono ?_
 rintro e W5 ⟨x4,hx4,rfl,hc5,ho⟩;have V5:=Rep.var_only V4 ho (by omega) (by simp;omega)
 have O5:=O4.then ho (fun a ha => .inl ha)
 have s5:=ho.size;have N4 : inI x4 1 20 = true:=by simp only [List.mem_cons,List.not_mem_nil,or_false] at hx4;rcases hx4 with rfl | rfl | rfl | rfl <;> decide
 clear ho hx4 hc4 V4 O4;go_wp2_with fail;refine (Cc9 lo g A n c code [1,3,20] W5 hc5 hn (by decide) (by decide)).mono ?_
 rintro e W6 ⟨x5,hx5,rfl,hc6,ho⟩;have V6:=Rep.var_only V5 ho (by omega) (by simp;omega)
 have O6:=O5.then ho (fun a ha => .inl ha)
 have s6:=ho.size;have N5 : inI x5 1 20 = true:=by simp only [List.mem_cons,List.not_mem_nil,or_false] at hx5;rcases hx5 with rfl | rfl | rfl <;> decide
 have GX:=Lib.hid (show x1.size ≤ 100∧dbB ⟨x1,1 + (x2 : Int),(x3 : Int),x4,x5⟩ = true by
  refine ⟨X1,?_⟩;have m2 : inI (1 + (x2 : Int)) 1 3 = true:=decide_eq_true (by omega)
  have m3 : inI (x3 : Int) 0 4 = true:=decide_eq_true (by omega)
  show (Eh9 x1.data.toList && inI (1 + (x2 : Int)) 1 3 && inI (x3 : Int) 0 4 && inI x4 1 20 && inI x5 1 20) = true
  rw [N1,m2,m3,N4,N5];rfl)
 clear ho hx5 hc5 V5 O5 N1 N4 N5;have q0 : W6.cell? ⟨w.heap.size,0,none⟩ = some (.string ⟨#[]⟩):=E9 V6.out 0;have q1 : W6.cell? ⟨w.heap.size,1,none⟩ = some (.int .i64 0):=E9 V6.out 1;have q2 : W6.cell? ⟨w.heap.size,2,none⟩ = some (.int .i64 0):=E9 V6.out 2;have q3 : W6.cell? ⟨w.heap.size,3,none⟩ = some (.int .i64 0):=E9 V6.out 3;have q4 : W6.cell? ⟨w.heap.size,4,none⟩ = some (.int .i64 0):=E9 V6.out 4;have f0:=C9 V6.out 0;have f1:=C9 V6.out 1;have f2:=C9 V6.out 2;have f3:=C9 V6.out 3;have f4:=C9 V6.out 4;have hlt : w.heap.size < W6.heap.size:=by omega
 have o8:=Op9 W6 w.heap.size (.string x1) (.int .i64 (1 + (x2 : Int))) (.int .i64 (x3 : Int)) (.int .i64 x4) (.int .i64 x5);have HE:=Lib.hid (And.intro (hc6.only o8 (by simp;omega) (fun a ha => by simp at ha;omega)) (O6.then o8 (fun a ha => .inr (by simp at ha;omega))))
 clear hc6 O6 o8 V6;go_wp2_with fail;refine bodyPost_ret (v:=.agg #[.string x1,.int .i64 (1 + (x2 : Int)),.int .i64 (x3 : Int),.int .i64 x4,.int .i64 x5]) (by simp [results,Tryz.results107,go_sem,q0,q1,q2,q3,q4]) rfl ⟨⟨x1,1 + (x2 : Int),(x3 : Int),x4,x5⟩,rfl,GX.out,HE.out.1,HE.out.2⟩
set_option maxRecDepth 100000 in
theorem Vo9 (lo g : Nat) (A : Option Addr) (n c : Nat) (code : List UInt8) (w : World) (h : Cur w lo g A n c code) (hn : n ≤ 140737488351232) :
 Calls Tryz.prog 82 #[.pointer (some ⟨g,0,none⟩)] w (Qs9 w lo g A n c code (fun xs => (FewDbs 3 xs∧1 ≤ xs.length)∧ConfTo xs xs.length)):=by
 obtain ⟨j0,hj0,hz0,hz1,hz2⟩:=info_parts Tryz.infoDb;have hown0:=Je9 w 132 dbR (by decide) (Nat.le_refl _)
 have L : L3 w lo g A n c code (.slice (some ⟨w.heap.size,0,none⟩) 0 0) [] [w.heap.size] (w.alloc (.cells #[] 132)):=
  ⟨hown0,h.alloc _,(Rep.only_alloc w _).mono (by simp),h.lt,h.from_⟩
 clear hown0 h;go_enter Tryz.func82,Tryz.ntmps82
 go_wp2_with fail;generalize w.alloc (.cells #[] 132) = W1 at L ⊢;refine (C8 lo g A n c code 3 W1 L.cur hn (by omega) (by omega)).mono ?_
 rintro e W2 ⟨x,hx,rfl,hc2,hg⟩;replace L:=L.step hc2 (I7 hg);clear hc2 hg;go_wp2_with fail;obtain ⟨W0,rfl⟩ : ∃ W0 : World,W0 = W2:=⟨_,rfl⟩;go_loopw [3,4] (fun v i wr => ∃ (k : Nat) (xs : List Db) (fp : List Nat),k ≤ 3∧i = .int .i64 k∧Hid (Pool k xs∧ConfTo xs xs.length)∧L3 w lo g A n c code v xs fp wr) (fun _ i _ => (intOf i).toNat)
 case atStart => exact ⟨1 + x,[],_,by omega,by go_num,Lib.hid ⟨⟨⟨by simp;omega,by simp⟩,fun _ => by omega⟩,ConfTo.zero _⟩,L⟩
 case round =>
  clear L hx;obtain ⟨k,xs,fp,hk,rfl,hp,L⟩:=hrel;by_cases hlt : 0 < k
  ·have i1 : (0 : Int) < (k : Int):=by omega
   go_wp2_with fail;refine (Xs9 lo g A n c code wr L.cur hn).mono ?_;rintro e W3 ⟨x,rfl,hxs,hc3,ho3⟩;replace L:=L.step hc3 ho3;obtain ⟨A9,c9,rfl,_,_,_⟩:=L.own.reads;clear hc3 ho3;go_wp2_with fail;have V:=Lib.hid (heap_alloc_new W3 (.cells #[.string x.name,.int .i64 x.size,.int .i64 x.queue,.int .i64 x.wait,.int .i64 x.idle] 132));replace L:=L.alloc (.cells #[.string x.name,.int .i64 x.size,.int .i64 x.queue,.int .i64 x.wait,.int .i64 x.idle] 132);generalize W3.alloc (.cells #[.string x.name,.int .i64 x.size,.int .i64 x.queue,.int .i64 x.wait,.int .i64 x.idle] 132) = W4 at V L ⊢;generalize W3.heap.size = D at V ⊢;obtain ⟨A8,c8,he8,_,_,hrows⟩:=L.own.reads;injection he8 with he8 _ he9;subst he8 he9;obtain ⟨⟨d,y⟩,hd⟩ : ∃ p,Js9 xs x.name = p:=⟨_,rfl⟩;have HD:=Lib.hid hd;have hlen:=hp.out.1.1.1;refine (Sa9 A9 c9 xs x.name W4 hrows (by omega)).mono ?_
   rw [hd];rintro e W5 hret;obtain ⟨rfl,hb⟩:=hret.lit;replace L:=L.later hb;replace V:=Keeps.keeps (F:=fun w' => Hid (w'.heap[D]? = some (.cells #[.string x.name,.int .i64 x.size,.int .i64 x.queue,.int .i64 x.wait,.int .i64 x.idle] 132 (0,0)))) hb V
   clear hb hd hrows;have v0 : W5.cell? ⟨D,0,none⟩ = some (.string x.name):=E9 V.out 0;have v1 : W5.cell? ⟨D,1,none⟩ = some (.int .i64 x.size):=E9 V.out 1;have v2 : W5.cell? ⟨D,2,none⟩ = some (.int .i64 x.queue):=E9 V.out 2;have v3 : W5.cell? ⟨D,3,none⟩ = some (.int .i64 x.wait):=E9 V.out 3;have v4 : W5.cell? ⟨D,4,none⟩ = some (.int .i64 x.idle):=E9 V.out 4;have hDl : D < W5.heap.size:=(Array.getElem?_eq_some_iff.1 V.out).1;have HK:=Lib.hid hlen;clear hlen;cases y
   ·go_wp2_with (at_builtin
                 replace L:=L.alloc (.cells #[.string d.name,.int .i64 d.size,.int .i64 d.queue,.int .i64 d.wait,.int .i64 d.idle] 132);have hnew:=T7 (W5.alloc (.cells #[.string d.name,.int .i64 d.size,.int .i64 d.queue,.int .i64 d.wait,.int .i64 d.idle] 132)) #[.string x.name,.int .i64 x.size,.int .i64 x.queue,.int .i64 x.wait,.int .i64 x.idle] 5 1 132 (g:=W5.heap.size + 1) (by simp) rfl (by simp [maxLen])
                 replace L:=L.alloc (.cells #[.string x.name,.int .i64 x.size,.int .i64 x.queue,.int .i64 x.wait,.int .i64 x.idle] 132);go_must (refine Rep.wpList_push _ rfl (.tmp 27) (.tmp 29) _ rfl dbR w.heap.size 132 j0 _ 48 Tryz.underlying114 hj0 hz0 hz1 hz2 rfl (by decide) (.slice A9 xs.length c9) xs fp rfl L.own _ 1 _ x [] rfl hnew (by simp [Value.oneCell']) (Qc9 _ _ x) (fun g hg hg' => by cases hg) (by have:=HK.out;simp only [maxLen];omega) (by have:=HK.out;omega) (by have:=L.only.size;exact this) ?_)
                 intro A2 c2 w2 fp2 hown2 hg2 hf2 hv2;clear hnew)
    have L2:=L.grown hown2 hg2 hv2;clear L hown2 hg2 hf2 hv2;obtain ⟨k,rfl⟩ : ∃ j,k = j + 1:=⟨k - 1,by omega⟩
    go_roundw
    case rel => exact ⟨k,xs ++ [x],fp2,by omega,by go_num,Lib.hid ⟨⟨⟨by have:=hp.out.1.1.1;simp;omega,fun z hz => by rcases List.mem_append.1 hz with hz | hz;exact hp.out.1.1.2 z hz;rw [List.mem_singleton.1 hz];exact hxs.1⟩,fun hz => by simp at hz⟩,Bz8 hp.out.2 hxs.2 (Kr9 (by rw [HD.out]))⟩,by simpa using L2⟩
    case measure => simp [intOf]
   ·have hne : ¬ xs.length = 0 := by
       intro h0;have:=HD.out;rw [List.eq_nil_of_length_eq_zero h0] at this;cases this
    clear v0 v1 v2 v3 v4;go_wp2_with fail;replace L:=L.alloc (.cells #[.string d.name,.int .i64 d.size,.int .i64 d.queue,.int .i64 d.wait,.int .i64 d.idle] 132);obtain ⟨k,rfl⟩ : ∃ j,k = j + 1:=⟨k - 1,by omega⟩
    go_roundw
    case rel => exact ⟨k,xs,fp,by omega,by go_num,Lib.hid ⟨⟨⟨by have:=hp.out.1.1.1;omega,hp.out.1.1.2⟩,fun hz => absurd hz hne⟩,hp.out.2⟩,L⟩
    case measure => simp [intOf]
  ·have i1 : ¬ (0 : Int) < (k : Int):=by omega
   go_wp2_with fail;go_ret
   exact L.ret ⟨⟨⟨by have:=hp.out.1.1.1;omega,hp.out.1.1.2⟩,by have:=hp.out.1.2;omega⟩,hp.out.2⟩
set_option maxRecDepth 100000 in
theorem Ni9 (lo g : Nat) (A : Option Addr) (n c : Nat) (code : List UInt8) (w : World) (h : Cur w lo g A n c code) (hn : n ≤ 140737488351232) :
 Calls Tryz.prog 41 #[.pointer (some ⟨g,0,none⟩)] w (Wy9 w lo g A n c code):=by
 have hglt:=h.lt;have hlg:=h.from_;go_enter Tryz.func41,Tryz.ntmps41
 go_wp2_with fail;have ho1:=Rep.only_alloc w (.cells #[.int .i64 0,.int .i64 0,.int .i64 0,.string ⟨#[]⟩] 29);have hv1:=heap_alloc_new w (.cells #[.int .i64 0,.int .i64 0,.int .i64 0,.string ⟨#[]⟩] 29);have hs1 : (w.alloc (.cells #[.int .i64 0,.int .i64 0,.int .i64 0,.string ⟨#[]⟩] 29)).heap.size = w.heap.size + 1:=by simp
 generalize w.alloc (.cells #[.int .i64 0,.int .i64 0,.int .i64 0,.string ⟨#[]⟩] 29) = W1 at ho1 hv1 hs1 ⊢;have hc1:=h.only ho1 (by simp) (fun a ha => by cases ha)
 have O1 : Rep.Only w W1 [g]:=ho1.mono (by simp)
 have V1:=Lib.hid hv1;clear ho1 hv1 h;refine (C8 lo g A n c code 3 W1 hc1 hn (by omega) (by omega)).mono ?_
 rintro e W2 ⟨x,hx,rfl,hc2,hg2⟩;have ho:=I7 hg2;have V2:=Rep.var_only V1 ho (by omega) (by simp;omega)
 have O2:=O1.then ho (fun a ha => .inl ha)
 have s2:=ho.size;clear hg2 ho hc1 V1 O1;go_wp2_with fail;refine (C8 lo g A n c code 6 W2 hc2 hn (by omega) (by omega)).mono ?_
 rintro e W3 ⟨m,hm,rfl,hc3,hg3⟩;have ho:=I7 hg3;have V3:=Rep.var_only V2 ho (by omega) (by simp;omega)
 have O3:=O2.then ho (fun a ha => .inl ha)
 have s3:=ho.size;clear hg3 ho hc2 V2 O2;have V : ∀ kd : Int,V4 w lo g A n c code W3.heap.size ⟨kd,1 + (m : Int),0,⟨#[]⟩⟩ (W3.alloc (.cells #[.int .i64 kd,.int .i64 (1 + (m : Int)),.int .i64 0,.string ⟨#[]⟩] 29)):=fun kd =>
  ⟨(Below.heap_alloc _ _ _ (by omega)).trans V3.out,heap_alloc_new _ _,hc3.alloc _,O3.then (Rep.only_alloc _ _) (fun a ha => by cases ha),by omega,hglt,hlg⟩
 clear hc3 O3;have split : x = 0 ∨ x = 1 ∨ x = 2:=by omega
 rcases split with rfl | rfl | rfl
 ·replace V:=V 1
  clear V3;go_wp2_with fail;generalize W3.alloc (.cells #[.int .i64 1,.int .i64 (1 + (m : Int)),.int .i64 0,.string ⟨#[]⟩] 29) = W4 at V ⊢;generalize W3.heap.size = D at V ⊢;refine (Vo9 lo g A n c code W4 V.cur hn).mono ?_;rintro e W5 ⟨A2,c2,xs,fp,rfl,hP,hown,hc5,ho5⟩;replace V:=V.step hc5 ho5;obtain ⟨⟨hfew,h1⟩,hto⟩:=hP;have hcb : Bm9 xs = true:=Mx9 ⟨⟨h1,hfew.1⟩,hto⟩;have htx : Fe9 (Fh9 xs) = true:=by unfold Fe9;rw [Ve9 hcb]
  clear hto hcb;obtain ⟨⟨hq1,hq2⟩,hrows⟩:=Wl9 (Rep.reads dbsR hown);clear hown hc5 ho5;go_wp2_with fail;refine (Gu9 A2 c2 xs W5 hrows (hfew.fits (by omega))).mono ?_
  rintro e W6 ⟨rfl,hb⟩;replace V:=V.later hb;have hts:=Mw9 xs;generalize Fh9 xs = t at hts htx ⊢;clear hb hrows hq1 hq2 h1 hfew;obtain ⟨⟨d0,d1,d2,d3⟩,df,⟨z0,z1,z2,z3⟩,zf⟩:=V.facts;have df3:=df 3;have hDl : D < W6.heap.size:=(Array.getElem?_eq_some_iff.1 V.var).1;have hne : w.heap.size ≠ D:=by have:=V.hD;omega
  have zf0:=zf 0;have zf1:=zf 1;have zf2:=zf 2;have zf3:=zf 3;have hret:=(V.set 3 (.string t) ⟨1,1 + (m : Int),0,t⟩ rfl).retG ⟨hts,.inl ⟨rfl,rfl,htx⟩,by show 1 ≤ 1 + (m : Int);omega,by show 1 + (m : Int) ≤ 6;omega⟩
  clear V df zf;go_wp2_with fail;exact bodyPost_ret (v:=.agg #[.int .i64 1,.int .i64 (1 + (m : Int)),.int .i64 0,.string t]) (by simp [results,Tryz.results41,go_sem,z0,z1,z2,z3]) rfl hret
 ·replace V:=V 2
  clear V3;go_upto_region 2 with (fail)
  generalize W3.alloc (.cells #[.int .i64 2,.int .i64 (1 + (m : Int)),.int .i64 0,.string ⟨#[]⟩] 29) = W4 at V ⊢;generalize W3.heap.size = D at V ⊢;obtain ⟨⟨d0,d1,d2,d3⟩,df,⟨z0,z1,z2,z3⟩,zf⟩:=V.facts;have zf0:=zf 0;have zf1:=zf 1;have zf2:=zf 2;have zf3:=zf 3;have hret:=V.retG ⟨by decide,.inr (.inl ⟨rfl,rfl,rfl⟩),by show 1 ≤ 1 + (m : Int);omega,by show 1 + (m : Int) ≤ 6;omega⟩
  clear V df zf;go_wp2_with fail;exact bodyPost_ret (v:=.agg #[.int .i64 2,.int .i64 (1 + (m : Int)),.int .i64 0,.string ⟨#[]⟩]) (by simp [results,Tryz.results41,go_sem,z0,z1,z2,z3]) rfl hret
 ·replace V:=V 3
  clear V3;go_wp2_with fail;generalize W3.alloc (.cells #[.int .i64 3,.int .i64 (1 + (m : Int)),.int .i64 0,.string ⟨#[]⟩] 29) = W4 at V ⊢;generalize W3.heap.size = D at V ⊢;refine (C8 lo g A n c code 2 W4 V.cur hn (by omega) (by omega)).mono ?_
  rintro e W5 ⟨ow,how,rfl,hc5,hg5⟩;replace V:=V.step hc5 (I7 hg5);clear hc5 hg5;obtain ⟨⟨d0,d1,d2,d3⟩,df,⟨z0,z1,z2,z3⟩,zf⟩:=V.facts;have df2:=df 2;have hDl : D < W5.heap.size:=(Array.getElem?_eq_some_iff.1 V.var).1;have hne : w.heap.size ≠ D:=by have:=V.hD;omega
  have zf0:=zf 0;have zf1:=zf 1;have zf2:=zf 2;have zf3:=zf 3;have hret:=(V.set 2 (.int .i64 (ow : Int)) ⟨3,1 + (m : Int),(ow : Int),⟨#[]⟩⟩ rfl).retG ⟨by decide,.inr (.inr ⟨rfl,⟨by show 0 ≤ (ow : Int);omega,by show (ow : Int) ≤ 1;omega⟩,rfl⟩),by show 1 ≤ 1 + (m : Int);omega,by show 1 + (m : Int) ≤ 6;omega⟩
  clear V df zf;go_wp2_with fail;exact bodyPost_ret (v:=.agg #[.int .i64 3,.int .i64 (1 + (m : Int)),.int .i64 (ow : Int),.string ⟨#[]⟩]) (by simp [results,Tryz.results41,go_sem,z0,z1,z2,z3]) rfl hret
end Go.Proofs.YthpkdjflndiojaaGreatDoor
