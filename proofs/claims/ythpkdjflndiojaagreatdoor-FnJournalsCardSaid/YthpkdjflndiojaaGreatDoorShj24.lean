/- What the theorem needs, out of many texts. -/
import Derived.Test.YthpkdjflndiojaaGreatDoorShj23
set_option maxHeartbeats 20000000
namespace Go.Proofs.YthpkdjflndiojaaGreatDoor
open Go.RowKit
set_option maxRecDepth 100000
set_option linter.unusedVariables false
def Pb9 (k : Known) (kind : Int) : Int:=if kind = 1 then k.gen + 1 else if kind = 2 then k.pGen else k.epoch + 1
theorem Pa9 {k : Known} {r : Rec} {m : Int} (hk : KG k) (hr : Qt9 r) (hn : r.n = Pb9 k r.kind) (h1 : k.gen ≤ m) (h2 : k.pGen ≤ m) (h3 : k.epoch ≤ m) (hm : m ≤ 59999) :
 (r.kind = 2∧k.pGen = 0) ∨ ∃ k',K8 k r = (k',true)∧k'.gen ≤ m + 1∧k'.pGen ≤ m + 1∧k'.epoch ≤ m + 1:=by
 have b1:=hk.gen.1;have b2:=hk.pGen.1;have b3:=hk.epoch.1;rcases hr with hr | hr | hr
 ·have e1:=hr.1
  unfold Pb9 at hn;rw [if_pos e1] at hn;have hrb : Ak9 r = true:=Dz9.2 ⟨by omega,.inl hr⟩
  refine .inr ⟨⟨k.gen,k.text,r.n,r.text,k.epoch,k.owner⟩,?_,by show k.gen ≤ m + 1;omega,by show r.n ≤ m + 1;omega,by show k.epoch ≤ m + 1;omega⟩
  rw [Dt9 hk hrb,if_pos e1];exact if_pos (by omega)
 ·have e1:=hr.1
  unfold Pb9 at hn;rw [if_neg (by omega),if_pos e1] at hn
  by_cases h0 : k.pGen = 0
  ·exact .inl ⟨e1,h0⟩
  have hrb : Ak9 r = true:=Dz9.2 ⟨by omega,.inr (.inl hr)⟩
  refine .inr ⟨⟨k.pGen,k.pText,0,⟨#[]⟩,k.epoch,k.owner⟩,?_,by show k.pGen ≤ m + 1;omega,by show (0 : Int) ≤ m + 1;omega,by show k.epoch ≤ m + 1;omega⟩
  rw [Dt9 hk hrb,if_neg (by omega),if_pos e1]
  exact if_pos hn
 ·have e1:=hr.1
  unfold Pb9 at hn;rw [if_neg (by omega),if_neg (by omega)] at hn
  have hrb : Ak9 r = true:=Dz9.2 ⟨by omega,.inr (.inr hr)⟩
  refine .inr ⟨⟨k.gen,k.text,k.pGen,k.pText,r.n,r.owner⟩,?_,by show k.gen ≤ m + 1;omega,by show k.pGen ≤ m + 1;omega,by show r.n ≤ m + 1;omega⟩
  rw [Dt9 hk hrb,if_neg (by omega),if_neg (by omega)]
  exact if_pos (by omega)
def JInv (x : Disk) (m : Int) : Prop:=∃ C k g p,Up x C 0 (fun c => c = C) (-1)∧JI C k g p∧g ≤ m + 1∧k.gen ≤ m∧k.pGen ≤ m∧k.epoch ≤ m
theorem JInv.mono {x : Disk} {m m' : Int} (h : JInv x m) (hm : m ≤ m') : JInv x m':=by
 obtain ⟨C,k,g,p,h1,h2,h3,h4,h5,h6⟩:=h;exact ⟨C,k,g,p,h1,h2,by omega,by omega,by omega,by omega⟩
theorem JInv.fits {x : Disk} {m : Int} (h : JInv x m) : Ag9 x:=by
 obtain ⟨C,k,g,p,h1,_⟩:=h;obtain ⟨⟨a1,a2,a3⟩,b,c,_⟩:=h1.good;exact ⟨by omega,fun l hl => by have:=b l hl;omega,by omega,fun z hz => by have:=(c z hz).2.2;omega⟩
theorem Yb9 : JInv Db9 0:=by
 obtain ⟨C,h1,h2⟩:=Rs9;exact ⟨C,knownZero,1,0,h1,h2,by omega,by decide,by decide,by decide⟩
theorem Tj9 {x : Disk} {m : Int} {r : Rec} (h : JInv x m) (hm : m ≤ 50000) (hr : Qt9 r) (hn : r.n = Pb9 (R7 x).1.k r.kind) : JInv (Ce9 x r).1 (m + 1):=by
 obtain ⟨C,k,g,p,h1,h2,h3,h4,h5,h6⟩:=h;have hop:=Jg9 h1.good h1.len (by rw [h1.rd];exact h2)
 rw [hop] at hn;rcases Pa9 h2.good hr hn h4 h5 h6 (by omega) with ⟨e1,e2⟩ | ⟨k',ha,b1,b2,b3⟩
 ·have hno : K8 k r = (k, false) := by
     unfold K8;rw [if_neg];intro hc;rw [Bool.and_eq_true] at hc;have h9:=(Dz9.1 hc.2).1.1;unfold Pb9 at hn;rw [if_neg (by omega),if_pos e1] at hn
     replace hn : r.n = k.pGen:=hn;omega
  rw [Md9 hop hno (fun h9 => by cases h9.2.1)]
  exact JInv.mono ⟨C,k,g,p,h1,h2,h3,h4,h5,h6⟩ (by omega)
 ·rcases El8 h1 h2 (by omega) ha with ⟨_,C',f',g',p',hu,hj,hg,hf⟩ | ⟨_,hf,_⟩
  ·have:=hf rfl
   subst this;exact ⟨C',k',g',p',hu,hj,by rcases hg with ⟨hg,_⟩ | hg <;> omega,b1,b2,b3⟩
  ·exact absurd rfl hf
set_option maxRecDepth 2000000 in
theorem Vz9 (w : World) : Calls Tryz.prog 80 #[] w (RetDisk w Db9):=by
 have hb0:=Later.alloc w (.cells #[.slice none 0 0,.slice none 0 0,.int .i64 0,.bool false] 27);have hz0:=heap_alloc_new w (.cells #[.slice none 0 0,.slice none 0 0,.int .i64 0,.bool false] 27);go_enter Tryz.func80,Tryz.ntmps80
 go_wp2_with fail;have S : All (fun w' => Below w.heap.size w w'∧Hid (w'.heap[w.heap.size]? = some (.cells #[.slice none 0 0,.slice none 0 0,.int .i64 0,.bool false] 27 (0,0)))) (w.alloc (.cells #[.slice none 0 0,.slice none 0 0,.int .i64 0,.bool false] 27)):=⟨hb0,Lib.hid hz0⟩
 clear hb0 hz0;generalize w.alloc (.cells #[.slice none 0 0,.slice none 0 0,.int .i64 0,.bool false] 27) = W0 at S ⊢;refine (Ma9 38 W0).mono ?_;obtain ⟨d1,hd1⟩ : ∃ d,An9 38 = d:=⟨_,rfl⟩;have HF1:=Lib.hid (show Ag9 d1 by rw [← hd1];exact Lz9 38)
 rw [hd1];have HD1:=Lib.hid hd1;clear hd1;rintro e1 W1 ⟨cs1,fp1,rfl,O1,hb⟩;obtain ⟨A1,c1,B1,f1,rfl⟩:=Q9 O1;have T1:=Rep.reads diskR O1;replace S:=S.later hb;clear hb O1;go_wp2_with fail;refine (Gk9 1 0 W1).mono ?_;have hpl:=Da9 1 0;obtain ⟨l3,hl3⟩ : ∃ l,Af9 1 0 = l:=⟨_,rfl⟩;rw [hl3] at hpl ⊢;have HL3:=Lib.hid hl3;clear hl3;rintro e2 W2 ⟨v2,rfl,o2,hb⟩;obtain ⟨A5,c5,rfl,hk5,hm5,r5,_⟩:=o2.shape;replace S:=S.later hb;replace T1:=Keeps.keeps (F:=fun w' => diskR.at_ w' w'.heap.size [.slice A1 d1.secs.length c1,.slice B1 d1.cache.length f1,.int .i64 d1.fuse,.bool d1.down] d1) hb T1
 clear hb o2;go_wp2_with fail;refine (Dh9 [.slice A1 d1.secs.length c1,.slice B1 d1.cache.length f1,.int .i64 d1.fuse,.bool d1.down] [.slice A5 l3.length c5] d1 1 l3 W2 T1 ⟨A5,c5,rfl,⟨hk5,hm5⟩,r5⟩ HF1.out (by omega) (by decide)).mono ?_
 obtain ⟨d2,hd2⟩ : ∃ d,U9 d1 1 l3 = d:=⟨_,rfl⟩;have HF2:=Lib.hid (show Ag9 d2 by rw [← hd2];exact Ar9 HF1.out _ (by omega))
 rw [hd2];have HD2:=Lib.hid hd2;clear hd2;rintro e3 W3 ⟨cs3,fp3,rfl,O3,hb⟩;obtain ⟨A3,c3,B3,f3,rfl⟩:=Q9 O3;have T3:=Rep.reads diskR O3;replace S:=S.later hb;clear hb O3 T1 r5 hpl;go_wp2_with fail;refine (Di9 [.slice A3 d2.secs.length c3,.slice B3 d2.cache.length f3,.int .i64 d2.fuse,.bool d2.down] d2 W3 T3 HF2.out).mono ?_;obtain ⟨d3,hd3⟩ : ∃ d,S9 d2 = d:=⟨_,rfl⟩;rw [hd3];have HANS:=Lib.hid (show Db9 = d3 by unfold Db9;rw [HD1.out,HL3.out,HD2.out,hd3])
 clear hd3 T3;rintro e4 W4 ⟨cs4,fp4,rfl,O4,hb⟩;obtain ⟨A4,c4,B4,f4,rfl⟩:=Q9 O4;have hlt : w.heap.size < W3.heap.size:=(Array.getElem?_eq_some_iff.1 S.out.2.out).1;replace S:=S.later hb;have ho : Rep.Only W4 ((((W4.setCell ⟨w.heap.size,0,none⟩ (.slice A4 d3.secs.length c4)).setCell ⟨w.heap.size,1,none⟩ (.slice B4 d3.cache.length f4)).setCell ⟨w.heap.size,2,none⟩ (.int .i64 d3.fuse)).setCell ⟨w.heap.size,3,none⟩ (.bool d3.down)) [w.heap.size]:=
  (((Rep.Only.setCell W4 (p:=⟨w.heap.size,0,none⟩) (by simp) _).trans (Rep.Only.setCell _ (p:=⟨w.heap.size,1,none⟩) (by simp) _)).trans (Rep.Only.setCell _ (p:=⟨w.heap.size,2,none⟩) (by simp) _)).trans (Rep.Only.setCell _ (p:=⟨w.heap.size,3,none⟩) (by simp) _)
 have O5:=Rep.own_only (R:=diskR) O4 ho (fun a ha hm => by have:=(Rep.lt diskR O4 a ha).1;simp at hm;omega)
 have HRET:=Lib.hid (show RetDisk w d3 (.returned (.agg #[.slice A4 d3.secs.length c4,.slice B4 d3.cache.length f4,.int .i64 d3.fuse,.bool d3.down])) _ from ⟨[.slice A4 d3.secs.length c4,.slice B4 d3.cache.length f4,.int .i64 d3.fuse,.bool d3.down],_,rfl,Rep.low diskR O5 (by omega),Rep.Only.below S.out.1 ho S.out.1.size (fun a ha => by simp at ha;omega)⟩)
 have z0:=E9 S.out.2.out 0;have z1:=E9 S.out.2.out 1;have z2:=E9 S.out.2.out 2;have z3:=E9 S.out.2.out 3;have zf0:=C9 S.out.2.out 0;have zf1:=C9 S.out.2.out 1;have zf2:=C9 S.out.2.out 2;have zf3:=C9 S.out.2.out 3;have hl4 : w.heap.size < W4.heap.size:=(Array.getElem?_eq_some_iff.1 S.out.2.out).1;clear S hb O4 O5 ho;go_wp2_with fail;exact bodyPost_ret (v:=.agg #[.slice A4 d3.secs.length c4,.slice B4 d3.cache.length f4,.int .i64 d3.fuse,.bool d3.down]) (by simp [results,Tryz.results80,go_sem,z0,z1,z2,z3]) rfl (by rw [HANS.out];exact HRET.out)
structure J5 (w : World) (lo g : Nat) (A : Option Addr) (n c : Nat) (code : List UInt8) (D : Nat) (cs : List Value) (x : Disk) (W : World) : Prop where
 cur : Cur W lo g A n c code
 only : Rep.Only w W [g]
 rbox : W.heap[w.heap.size]? = some (.cells [.slice none 0 0,.slice none 0 0,.int .i64 0,.bool false].toArray 27 (0,0))
 dbox : W.heap[D]? = some (.cells cs.toArray 27 (0,0))
 own : ∃ base fp,diskR.own W base cs x fp∧w.heap.size < base∧D ∉ fp
 hD : w.heap.size < D
 hg : g < w.heap.size
section
variable {w W W' : World} {lo g D : Nat} {A : Option Addr} {n c : Nat} {code : List UInt8} {cs : List Value} {x : Disk}
theorem J5.lt (h : J5 w lo g A n c code D cs x W) : D < W.heap.size:=(Array.getElem?_eq_some_iff.1 h.dbox).1
theorem J5.low {w0 : World} (h : J5 w w0.heap.size g A n c code D cs x W) (hb : Below w0.heap.size w0 w) : Below w0.heap.size w0 W:=by
 have h1:=h.cur.from_;exact Rep.Only.below hb h.only hb.size (fun a ha => by simp at ha;omega)
theorem J5.at (h : J5 w lo g A n c code D cs x W) : diskR.at_ W W.heap.size cs x:=by
 obtain ⟨base,fp,ho,_⟩:=h.own;exact Rep.reads diskR ho
theorem J5.step (h : J5 w lo g A n c code D cs x W) (hc : Cur W' lo g A n c code) (ho : Rep.Only W W' [g]) : J5 w lo g A n c code D cs x W':=by
 have h1:=h.hD;have h2:=h.hg;have h3:=h.lt;obtain ⟨base,fp,o1,o2,o3⟩:=h.own;exact ⟨hc,h.only.trans ho,(ho.block _ (by omega) (by simp;omega)).trans h.rbox,(ho.block _ h3 (by simp;omega)).trans h.dbox,⟨base,fp,Rep.own_only o1 ho (fun a ha hm => by have:=(Rep.lt diskR o1 a ha).1;simp at hm;omega),o2,o3⟩,h1,h2⟩
theorem J5.later (h : J5 w lo g A n c code D cs x W) (hb : Below W.heap.size W W') : J5 w lo g A n c code D cs x W':=
 h.step (h.cur.only (Rep.only_of_below hb) (by simp) (fun a ha => by cases ha)) ((Rep.only_of_below hb).mono (by simp))
theorem J5.alone (h : J5 w lo g A n c code D cs x W) (hb : Below W.heap.size W W') : J5 w lo g A n c code D cs x W'∧∃ base fp,diskR.own W' base cs x fp∧w.heap.size < base∧D ∉ fp∧W.heap.size ∉ fp:=by
 refine ⟨h.later hb,?_⟩;obtain ⟨base,fp,o1,o2,o3⟩:=h.own;exact ⟨base,fp,Rep.own_only o1 (Rep.only_of_below hb) (fun a _ hm => by cases hm),o2,o3,fun hm => by have:=(Rep.lt diskR o1 _ hm).2;omega⟩
theorem J5.beside {E : Nat} (h : J5 w lo g A n c code D cs x W) (hE : D < E) (hn : ∃ base fp,diskR.own W base cs x fp∧w.heap.size < base∧D ∉ fp∧E ∉ fp) (ho : Rep.Only W W' [E]) : J5 w lo g A n c code D cs x W':=by
 have h1:=h.hD;have h2:=h.hg;have h3:=h.lt;have h4:=h.cur.from_;obtain ⟨base,fp,o1,o2,o3,hEf⟩:=hn;exact ⟨h.cur.only ho (by simp;omega) (fun a ha => by simp at ha;omega),h.only.then ho (fun a ha => .inr (by simp at ha;omega)),(ho.block _ (by omega) (by simp;omega)).trans h.rbox,(ho.block _ h3 (by simp;omega)).trans h.dbox,⟨base,fp,Rep.own_only o1 ho (fun a ha hm => by simp at hm;subst hm;exact hEf ha),o2,o3⟩,h1,h2⟩
theorem J5.put {a b cc dd a' b' cc' dd' : Value} {x' : Disk} (h : J5 w lo g A n c code D [a,b,cc,dd] x W) {base : Nat} {fp : List Nat} (ho : diskR.own W base [a',b',cc',dd'] x' fp) (hb : D < base) :
 J5 w lo g A n c code D [a',b',cc',dd'] x' ((((W.setCell ⟨D,0,none⟩ a').setCell ⟨D,1,none⟩ b').setCell ⟨D,2,none⟩ cc').setCell ⟨D,3,none⟩ dd'):=by
 have hw:=Aa9 W D a' b' cc' dd';have h1:=h.hD;have h2:=h.hg;have h4:=h.cur.from_;have hn : ∀ a,a ∈ fp→a ≠ D:=fun a ha => by have:=(Rep.lt diskR ho a ha).1;omega
 exact ⟨h.cur.only hw (by simp;omega) (fun a ha => by simp at ha;omega),h.only.then hw (fun a ha => .inr (by simp at ha;omega)),(hw.block _ (by have:=h.lt;omega) (by simp;omega)).trans h.rbox,Im9 h.dbox a' b' cc' dd',⟨base,fp,Rep.own_only ho hw (fun a ha hm => by simp at hm;exact hn a ha hm),by omega,fun hm => hn D hm rfl⟩,h1,h2⟩
end
def RetL5 (w : World) (lo g : Nat) (A : Option Addr) (n c : Nat) (code : List UInt8) (P : Disk→Prop) (e : Ending) (w' : World) : Prop:=
 ∃ cs x fp,e = .returned (.agg cs.toArray)∧P x∧diskR.own w' w.heap.size cs x fp∧Cur w' lo g A n c code∧Rep.Only w w' [g]
theorem J5.ret {w W : World} {lo g D : Nat} {A : Option Addr} {n c : Nat} {code : List UInt8} {a b cc dd : Value} {x : Disk} {P : Disk→Prop} (h : J5 w lo g A n c code D [a,b,cc,dd] x W) (hP : P x) :
 RetL5 w lo g A n c code P (.returned (.agg #[a,b,cc,dd])) ((((W.setCell ⟨w.heap.size,0,none⟩ a).setCell ⟨w.heap.size,1,none⟩ b).setCell ⟨w.heap.size,2,none⟩ cc).setCell ⟨w.heap.size,3,none⟩ dd):=by
 have hw:=Aa9 W w.heap.size a b cc dd;have h1:=h.hD;have h2:=h.hg;have h4:=h.cur.from_;obtain ⟨base,fp,o1,o2,o3⟩:=h.own;exact ⟨[a,b,cc,dd],x,fp,rfl,hP,Rep.low diskR (Rep.own_only o1 hw (fun y hy hm => by have:=(Rep.lt diskR o1 y hy).1;simp at hm;omega)) (by omega),h.cur.only hw (by simp;omega) (fun y hy => by simp at hy;omega),h.only.then hw (fun y hy => .inr (by simp at hy;omega))⟩
set_option maxRecDepth 2000000 in
theorem Pj9 (w0 : World) (g : Nat) (A : Option Addr) (n c : Nat) (code : List UInt8) (most : Nat) (w : World) (h : Cur w w0.heap.size g A n c code) (hn : n ≤ 140737488351232) (hb0 : Below w0.heap.size w0 w) (hgv : Given w0) (hm : most ≤ 40) :
 Calls Tryz.prog 39 #[.pointer (some ⟨g,0,none⟩),.int .i64 most] w (RetL5 w w0.heap.size g A n c code (fun x => JInv x most)):=by
 have HB:=Lib.hid hb0;have HG:=Lib.hid hgv;have hglt:=h.lt;have hr0:=heap_alloc_new w (.cells #[.slice none 0 0,.slice none 0 0,.int .i64 0,.bool false] 27);have hc0:=h.alloc (.cells #[.slice none 0 0,.slice none 0 0,.int .i64 0,.bool false] 27);have ho0 : Rep.Only w (w.alloc (.cells #[.slice none 0 0,.slice none 0 0,.int .i64 0,.bool false] 27)) [g]:=(Rep.only_alloc w _).mono (by simp)
 have hs0 : (w.alloc (.cells #[.slice none 0 0,.slice none 0 0,.int .i64 0,.bool false] 27)).heap.size = w.heap.size + 1:=by simp
 clear h hb0 hgv;go_enter Tryz.func39,Tryz.ntmps39
 go_upto_region 1 with (fail)
 generalize w.alloc (.cells #[.slice none 0 0,.slice none 0 0,.int .i64 0,.bool false] 27) = W1 at hr0 hc0 ho0 hs0 ⊢;go_wp2_with fail;refine (Vz9 W1).mono ?_;have hinv:=Yb9;obtain ⟨x0,hx0⟩ : ∃ x0,Db9 = x0:=⟨_,rfl⟩;rw [hx0] at hinv ⊢;clear hx0;rintro e1 W2 ⟨cs1,fp1,rfl,O1,hb⟩;obtain ⟨A1,c1,B1,f1,rfl⟩:=Q9 O1;have J : J5 w w0.heap.size g A n c code W2.heap.size [.slice A1 x0.secs.length c1,.slice B1 x0.cache.length f1,.int .i64 x0.fuse,.bool x0.down] x0 (W2.alloc (.cells #[.slice A1 x0.secs.length c1,.slice B1 x0.cache.length f1,.int .i64 x0.fuse,.bool x0.down] 27)):=by
  have hb2:=Later.trans hb (Later.alloc W2 (.cells #[.slice A1 x0.secs.length c1,.slice B1 x0.cache.length f1,.int .i64 x0.fuse,.bool x0.down] 27));have hsz:=hb.size;refine ⟨hc0.only (Rep.only_of_below hb2) (by simp) (fun a ha => by cases ha),ho0.trans ((Rep.only_of_below hb2).mono (by simp)),(hb2.block _ (by omega)).trans hr0,heap_alloc_new W2 _,⟨W1.heap.size,fp1,Rep.own_only O1 (Rep.only_alloc W2 _) (fun a _ hm => by cases hm),by omega,fun hm => ?_⟩,by omega,hglt⟩
  have:=(Rep.lt diskR O1 _ hm).2;omega
 go_upto_region 2 with (fail)
 clear hr0 hc0 ho0 hs0 O1 hb;generalize W2.alloc (.cells #[.slice A1 x0.secs.length c1,.slice B1 x0.cache.length f1,.int .i64 x0.fuse,.bool x0.down] 27) = W3 at J ⊢;generalize W2.heap.size = D at J ⊢;have i1 : (most : Int) ≤ 40:=by omega
 have i2 : 0 ≤ (most : Int):=by omega
 go_wp2_with fail;rw [show (most : Int) + 1 = ((most + 1 : Nat) : Int) by omega]
 refine (C8 w0.heap.size g A n c code (most + 1) W3 J.cur hn (by omega) (by omega)).mono ?_
 rintro e W4 ⟨u,hu,rfl,hc,hg⟩;replace J:=J.step hc (I7 hg);clear hc hg i1 i2;have HU:=Lib.hid hu;clear hu;go_wp2_with fail;go_loopw [6] (fun i wr => ∃ (k m : Nat) (cs : List Value) (x : Disk),k + m ≤ most∧i = .int .i64 k∧Hid (JInv x m)∧J5 w w0.heap.size g A n c code D cs x wr) (fun i _ => (intOf i).toNat)
 case atStart => exact ⟨u,0,_,x0,by have:=HU.out;omega,rfl,Lib.hid hinv,J⟩
 case round =>
  clear J hinv HU;obtain ⟨k,m,cs,x,hkm,rfl,HI,J⟩:=hrel;obtain ⟨A2,c2,B2,f2,rfl⟩:=G7 J.at;by_cases hlt : 0 < k
  ·have i1 : (0 : Int) < (k : Int):=by omega
   obtain ⟨d0,d1,d2,d3⟩:=Q8 J.dbox;go_wp2_with fail;refine (Dj9 [.slice A2 x.secs.length c2,.slice B2 x.cache.length f2,.int .i64 x.fuse,.bool x.down] x wr J.at HI.out.fits (Keeps.keeps (F:=Given) (J.low HB.out) HG.out)).mono ?_;clear d0 d1 d2 d3;obtain ⟨⟨⟨⟨ja,jb,jp,jq,je,jf⟩,jg,jm⟩,ok⟩,hp⟩ : ∃ p,R7 x = p:=⟨_,rfl⟩;rw [hp];have hjg:=Eo9 x;rw [hp] at hjg;have hja : 0 ≤ ja∧ja ≤ 60000:=hjg.1.gen;have hje : 0 ≤ je∧je ≤ 60000:=hjg.1.epoch;have HP:=Lib.hid hp;clear hp hjg;rintro e1 V1 hret;obtain ⟨rfl,hb⟩:=hret.lit8;replace J:=J.later hb;clear hret hb;have HJ:=heap_alloc_new V1 (.cells #[.int .i64 ja,.string jb,.int .i64 jp,.string jq,.int .i64 je,.int .i64 jf,.int .i64 jg,.int .i64 jm] 37);have hDj:=J.lt;replace J:=J.later (Later.alloc V1 (.cells #[.int .i64 ja,.string jb,.int .i64 jp,.string jq,.int .i64 je,.int .i64 jf,.int .i64 jg,.int .i64 jm] 37));go_upto_region 6 with (fail)
   generalize V1.alloc (.cells #[.int .i64 ja,.string jb,.int .i64 jp,.string jq,.int .i64 je,.int .i64 jf,.int .i64 jg,.int .i64 jm] 37) = V2 at HJ J ⊢;generalize V1.heap.size = DJ at HJ hDj ⊢;go_wp2_with fail;refine (Ni9 w0.heap.size g A n c code V2 J.cur hn).mono ?_;rintro e2 V3 ⟨⟨rk,rn,ro,rt⟩,rfl,⟨hts,hkind,_⟩,hc3,ho3⟩;replace hts : rt.size ≤ 100:=hts;have HTS:=Lib.hid hts;have HKD:=Lib.hid hkind;have hDJ:=(Array.getElem?_eq_some_iff.1 HJ).1;replace HJ:=(ho3.block _ hDJ (by have:=J.hD;have:=J.hg;simp;omega)).trans HJ
   replace J:=J.step hc3 ho3;clear hc3 ho3 hts;have hDJ:=(Array.getElem?_eq_some_iff.1 HJ).1;have HE:=heap_alloc_new V3 (.cells #[.int .i64 rk,.int .i64 rn,.int .i64 ro,.string rt] 29);have hDE : D < V3.heap.size:=J.lt;have K:=J.alone (Later.alloc V3 (.cells #[.int .i64 rk,.int .i64 rn,.int .i64 ro,.string rt] 29));replace HJ:=((Later.alloc V3 (.cells #[.int .i64 rk,.int .i64 rn,.int .i64 ro,.string rt] 29)).block _ hDJ).trans HJ;go_upto_region 7 with (fail)
   clear J;generalize V3.alloc (.cells #[.int .i64 rk,.int .i64 rn,.int .i64 ro,.string rt] 29) = V4 at HE HJ K ⊢;generalize V3.heap.size = E at HE hDE hDJ K ⊢;rcases hkind with hk1 | hk2 | hk3
   ·have hrk : rk = 1:=hk1.1
    subst hrk;clear hk1;obtain ⟨e0,e1,e2,e3⟩:=J9 (r:=⟨1,rn,ro,rt⟩) HE;obtain ⟨j0,j1,j2,j3,j4,j5,j6,j7⟩:=G8 (r:=⟨⟨ja,jb,jp,jq,je,jf⟩,jg,jm⟩) HJ;have ef1:=C9 HE 1;have hEl:=(Array.getElem?_eq_some_iff.1 HE).1;have HE2 : (V4.setCell ⟨E,1,none⟩ (.int .i64 (ja + 1))).heap[E]? = some (.cells (M8 ⟨1,ja + 1,ro,rt⟩).toArray 29 (0,0)):=N9 HE 1 (.int .i64 (ja + 1));have J2:=K.1.beside hDE K.2 (Rep.Only.setCell V4 (p:=⟨E,1,none⟩) (by simp) (.int .i64 (ja + 1)))
    clear HJ K;go_upto_region 13 with (fail)
    clear e0 e1 e2 e3 j0 j1 j2 j3 j4 j5 j6 j7 ef1 HE;generalize V4.setCell ⟨E,1,none⟩ (.int .i64 (ja + 1)) = V5 at HE2 J2 ⊢;obtain ⟨e0,e1,e2,e3⟩:=J9 (r:=⟨1,ja + 1,ro,rt⟩) HE2;obtain ⟨d0,d1,d2,d3⟩:=Q8 J2.dbox;go_wp2_with fail;refine (Go9 [.slice A2 x.secs.length c2,.slice B2 x.cache.length f2,.int .i64 x.fuse,.bool x.down] x ⟨1,ja + 1,ro,rt⟩ V5 J2.at HI.out.fits (Keeps.keeps (F:=Given) (J2.low HB.out) HG.out) (Nat.le_trans HTS.out (by decide))).mono ?_
    have HI2:=Lib.hid (show JInv (Ce9 x ⟨1,ja + 1,ro,rt⟩).1 (m + 1 : Nat) from Tj9 HI.out (by omega) (by exact HKD.out) (by rw [HP.out];rfl))
    obtain ⟨⟨x2,ok2⟩,hY⟩ : ∃ Y,Ce9 x ⟨1,ja + 1,ro,rt⟩ = Y:=⟨_,rfl⟩;rw [hY] at HI2 ⊢;clear hY e0 e1 e2 e3 d0 d1 d2 d3 HE2;rintro e4 V6 ⟨cs6,fp6,rfl,O6,hb⟩;obtain ⟨A6,c6,B6,f6,rfl⟩:=Q9 O6;have hD6:=J2.lt;have J3:=J2.later hb;have J4:=J3.put O6 hD6;obtain ⟨d0,d1,d2,d3⟩:=Q8 J3.dbox;have df0:=C9 J3.dbox 0;have df1:=C9 J3.dbox 1;have df2:=C9 J3.dbox 2;have df3:=C9 J3.dbox 3;have hD7:=J3.lt;clear J2 J3 O6 hb;go_wp2_with fail;obtain ⟨k,rfl⟩ : ∃ j,k = j + 1:=⟨k - 1,by omega⟩
    go_roundw
    case rel => exact ⟨k,m + 1,_,x2,by omega,by go_num,HI2,J4⟩
    case measure => simp [intOf]
   ·have hrk : rk = 2:=hk2.1
    subst hrk;clear hk2;obtain ⟨e0,e1,e2,e3⟩:=J9 (r:=⟨2,rn,ro,rt⟩) HE;obtain ⟨j0,j1,j2,j3,j4,j5,j6,j7⟩:=G8 (r:=⟨⟨ja,jb,jp,jq,je,jf⟩,jg,jm⟩) HJ;have ef1:=C9 HE 1;have hEl:=(Array.getElem?_eq_some_iff.1 HE).1;have HE2 : (V4.setCell ⟨E,1,none⟩ (.int .i64 (jp))).heap[E]? = some (.cells (M8 ⟨2,jp,ro,rt⟩).toArray 29 (0,0)):=N9 HE 1 (.int .i64 (jp));have J2:=K.1.beside hDE K.2 (Rep.Only.setCell V4 (p:=⟨E,1,none⟩) (by simp) (.int .i64 (jp)))
    clear HJ K;go_upto_region 13 with (fail)
    clear e0 e1 e2 e3 j0 j1 j2 j3 j4 j5 j6 j7 ef1 HE;generalize V4.setCell ⟨E,1,none⟩ (.int .i64 (jp)) = V5 at HE2 J2 ⊢;obtain ⟨e0,e1,e2,e3⟩:=J9 (r:=⟨2,jp,ro,rt⟩) HE2;obtain ⟨d0,d1,d2,d3⟩:=Q8 J2.dbox;go_wp2_with fail;refine (Go9 [.slice A2 x.secs.length c2,.slice B2 x.cache.length f2,.int .i64 x.fuse,.bool x.down] x ⟨2,jp,ro,rt⟩ V5 J2.at HI.out.fits (Keeps.keeps (F:=Given) (J2.low HB.out) HG.out) (Nat.le_trans HTS.out (by decide))).mono ?_
    have HI2:=Lib.hid (show JInv (Ce9 x ⟨2,jp,ro,rt⟩).1 (m + 1 : Nat) from Tj9 HI.out (by omega) (by exact HKD.out) (by rw [HP.out];rfl))
    obtain ⟨⟨x2,ok2⟩,hY⟩ : ∃ Y,Ce9 x ⟨2,jp,ro,rt⟩ = Y:=⟨_,rfl⟩;rw [hY] at HI2 ⊢;clear hY e0 e1 e2 e3 d0 d1 d2 d3 HE2;rintro e4 V6 ⟨cs6,fp6,rfl,O6,hb⟩;obtain ⟨A6,c6,B6,f6,rfl⟩:=Q9 O6;have hD6:=J2.lt;have J3:=J2.later hb;have J4:=J3.put O6 hD6;obtain ⟨d0,d1,d2,d3⟩:=Q8 J3.dbox;have df0:=C9 J3.dbox 0;have df1:=C9 J3.dbox 1;have df2:=C9 J3.dbox 2;have df3:=C9 J3.dbox 3;have hD7:=J3.lt;clear J2 J3 O6 hb;go_wp2_with fail;obtain ⟨k,rfl⟩ : ∃ j,k = j + 1:=⟨k - 1,by omega⟩
    go_roundw
    case rel => exact ⟨k,m + 1,_,x2,by omega,by go_num,HI2,J4⟩
    case measure => simp [intOf]
   ·have hrk : rk = 3:=hk3.1
    subst hrk;clear hk3;obtain ⟨e0,e1,e2,e3⟩:=J9 (r:=⟨3,rn,ro,rt⟩) HE;obtain ⟨j0,j1,j2,j3,j4,j5,j6,j7⟩:=G8 (r:=⟨⟨ja,jb,jp,jq,je,jf⟩,jg,jm⟩) HJ;have ef1:=C9 HE 1;have hEl:=(Array.getElem?_eq_some_iff.1 HE).1;have HE2 : (V4.setCell ⟨E,1,none⟩ (.int .i64 (je + 1))).heap[E]? = some (.cells (M8 ⟨3,je + 1,ro,rt⟩).toArray 29 (0,0)):=N9 HE 1 (.int .i64 (je + 1));have J2:=K.1.beside hDE K.2 (Rep.Only.setCell V4 (p:=⟨E,1,none⟩) (by simp) (.int .i64 (je + 1)))
    clear HJ K;go_upto_region 13 with (fail)
    clear e0 e1 e2 e3 j0 j1 j2 j3 j4 j5 j6 j7 ef1 HE;generalize V4.setCell ⟨E,1,none⟩ (.int .i64 (je + 1)) = V5 at HE2 J2 ⊢;obtain ⟨e0,e1,e2,e3⟩:=J9 (r:=⟨3,je + 1,ro,rt⟩) HE2;obtain ⟨d0,d1,d2,d3⟩:=Q8 J2.dbox;go_wp2_with fail;refine (Go9 [.slice A2 x.secs.length c2,.slice B2 x.cache.length f2,.int .i64 x.fuse,.bool x.down] x ⟨3,je + 1,ro,rt⟩ V5 J2.at HI.out.fits (Keeps.keeps (F:=Given) (J2.low HB.out) HG.out) (Nat.le_trans HTS.out (by decide))).mono ?_
    have HI2:=Lib.hid (show JInv (Ce9 x ⟨3,je + 1,ro,rt⟩).1 (m + 1 : Nat) from Tj9 HI.out (by omega) (by exact HKD.out) (by rw [HP.out];rfl))
    obtain ⟨⟨x2,ok2⟩,hY⟩ : ∃ Y,Ce9 x ⟨3,je + 1,ro,rt⟩ = Y:=⟨_,rfl⟩;rw [hY] at HI2 ⊢;clear hY e0 e1 e2 e3 d0 d1 d2 d3 HE2;rintro e4 V6 ⟨cs6,fp6,rfl,O6,hb⟩;obtain ⟨A6,c6,B6,f6,rfl⟩:=Q9 O6;have hD6:=J2.lt;have J3:=J2.later hb;have J4:=J3.put O6 hD6;obtain ⟨d0,d1,d2,d3⟩:=Q8 J3.dbox;have df0:=C9 J3.dbox 0;have df1:=C9 J3.dbox 1;have df2:=C9 J3.dbox 2;have df3:=C9 J3.dbox 3;have hD7:=J3.lt;clear J2 J3 O6 hb;go_wp2_with fail;obtain ⟨k,rfl⟩ : ∃ j,k = j + 1:=⟨k - 1,by omega⟩
    go_roundw
    case rel => exact ⟨k,m + 1,_,x2,by omega,by go_num,HI2,J4⟩
    case measure => simp [intOf]
  ·have i1 : ¬ (0 : Int) < (k : Int):=by omega
   have he : k = 0:=by omega
   subst he;obtain ⟨d0,d1,d2,d3⟩:=Q8 J.dbox;obtain ⟨z0,z1,z2,z3⟩:=Q8 J.rbox;have zf0:=C9 J.rbox 0;have zf1:=C9 J.rbox 1;have zf2:=C9 J.rbox 2;have zf3:=C9 J.rbox 3;have HR:=Lib.hid (J.ret (P:=fun x => JInv x most) (HI.out.mono (by omega)))
   have hlr : w.heap.size < wr.heap.size:=(Array.getElem?_eq_some_iff.1 J.rbox).1;clear J;go_wp2_with fail;exact bodyPost_ret (v:=.agg #[.slice A2 x.secs.length c2,.slice B2 x.cache.length f2,.int .i64 x.fuse,.bool x.down]) (by simp [results,Tryz.results39,go_sem,z0,z1,z2,z3]) rfl HR.out
structure KB (w w1 : World) (g : Nat) (A : Option Addr) (n c : Nat) (code : List UInt8) (D : Nat) (cs : List Value) (x : Disk) (W : World) : Prop where
 cur : Cur W w1.heap.size g A n c code
 below : Below w.heap.size w W
 belowL : Below w1.heap.size w1 W
 zbox : W.heap[w.heap.size]? = some (.cells [.slice none 0 0,.slice none 0 0,.int .i64 0,.bool false].toArray 27 (0,0))
 rbox : W.heap[w.heap.size + 1]? = some (.cells (M8 N8).toArray 29 (0,0))
 dbox : W.heap[D]? = some (.cells cs.toArray 27 (0,0))
 own : ∃ fp,diskR.own W w1.heap.size cs x fp∧D ∉ fp∧g ∉ fp
 hD : w1.heap.size ≤ D∧D ≠ g
 hw : w.heap.size + 1 < w1.heap.size
section
variable {w w1 W W' : World} {g D : Nat} {A : Option Addr} {n c : Nat} {code : List UInt8} {cs : List Value} {x : Disk}
theorem KB.lt (h : KB w w1 g A n c code D cs x W) : D < W.heap.size:=(Array.getElem?_eq_some_iff.1 h.dbox).1
theorem KB.at (h : KB w w1 g A n c code D cs x W) : diskR.at_ W W.heap.size cs x:=by
 obtain ⟨fp,ho,_⟩:=h.own;exact Rep.reads diskR ho
theorem KB.step (h : KB w w1 g A n c code D cs x W) (hc : Cur W' w1.heap.size g A n c code) (ho : Rep.Only W W' [g]) : KB w w1 g A n c code D cs x W':=by
 obtain ⟨h1,h2⟩:=h.hD;have h3:=h.lt;have h4:=h.cur.from_;have h5:=h.hw;have h6:=h.belowL.size;obtain ⟨fp,o1,o2,o3⟩:=h.own;exact ⟨hc,Rep.Only.below h.below ho h.below.size (fun a ha => by simp at ha;omega),Rep.Only.below h.belowL ho h6 (fun a ha => by simp at ha;omega),(ho.block _ (by omega) (by simp;omega)).trans h.zbox,(ho.block _ (by omega) (by simp;omega)).trans h.rbox,(ho.block _ h3 (by simp;omega)).trans h.dbox,⟨fp,Rep.own_only o1 ho (fun a ha hm => by simp at hm;subst hm;exact o3 ha),o2,o3⟩,h.hD,h5⟩
theorem KB.later (h : KB w w1 g A n c code D cs x W) (hb : Below W.heap.size W W') : KB w w1 g A n c code D cs x W':=
 h.step (h.cur.only (Rep.only_of_below hb) (by simp) (fun a ha => by cases ha)) ((Rep.only_of_below hb).mono (by simp))
theorem KB.alone (h : KB w w1 g A n c code D cs x W) (hb : Below W.heap.size W W') : KB w w1 g A n c code D cs x W'∧∃ fp,diskR.own W' w1.heap.size cs x fp∧D ∉ fp∧g ∉ fp∧W.heap.size ∉ fp:=by
 refine ⟨h.later hb,?_⟩;obtain ⟨fp,o1,o2,o3⟩:=h.own;exact ⟨fp,Rep.own_only o1 (Rep.only_of_below hb) (fun a _ hm => by cases hm),o2,o3,fun hm => by have:=(Rep.lt diskR o1 _ hm).2;omega⟩
theorem KB.beside {E : Nat} (h : KB w w1 g A n c code D cs x W) (hE : D < E∧g < E) (hn : ∃ fp,diskR.own W w1.heap.size cs x fp∧D ∉ fp∧g ∉ fp∧E ∉ fp) (ho : Rep.Only W W' [E]) : KB w w1 g A n c code D cs x W'∧∃ fp,diskR.own W' w1.heap.size cs x fp∧D ∉ fp∧g ∉ fp∧E ∉ fp:=by
 obtain ⟨h1,h2⟩:=h.hD;have h3:=h.lt;have h4:=h.cur.from_;have h5:=h.hw;have h6:=h.belowL.size;obtain ⟨fp,o1,o2,o3,o4⟩:=hn;have ow:=Rep.own_only o1 ho (fun a ha hm => by simp at hm;subst hm;exact o4 ha)
 exact ⟨⟨h.cur.only ho (by simp;omega) (fun a ha => by simp at ha;omega),Rep.Only.below h.below ho h.below.size (fun a ha => by simp at ha;omega),Rep.Only.below h.belowL ho h6 (fun a ha => by simp at ha;omega),(ho.block _ (by omega) (by simp;omega)).trans h.zbox,(ho.block _ (by omega) (by simp;omega)).trans h.rbox,(ho.block _ h3 (by simp;omega)).trans h.dbox,⟨fp,ow,o2,o3⟩,h.hD,h5⟩,⟨fp,ow,o2,o3,o4⟩⟩
end
def RetDJ (w : World) (e : Ending) (w' : World) : Prop:=
 ∃ cs x fp r,∃ keep : Nat,e = .returned (.tuple #[.agg cs.toArray,.agg #[.int .i64 r.kind,.int .i64 r.n,.int .i64 r.owner,.string r.text],.int .i64 keep])∧(JInv x 40∧r.text.size ≤ 100∧(∃ k,K8 (R7 x).1.k r = (k,true)∧k.epoch ≤ 41)∧keep < 256)∧diskR.own w' w.heap.size cs x fp∧Below w.heap.size w w'
theorem KB.ret {w w1 W : World} {g D : Nat} {A : Option Addr} {n c : Nat} {code : List UInt8} {a b cc dd : Value} {x : Disk} (h : KB w w1 g A n c code D [a,b,cc,dd] x W) (k m o : Int) (t : ByteArray) (keep : Nat)
 (hP : JInv x 40∧t.size ≤ 100∧(∃ k',K8 (R7 x).1.k ⟨k,m,o,t⟩ = (k',true)∧k'.epoch ≤ 41)∧keep < 256) :
 RetDJ w (.returned (.tuple #[.agg #[a,b,cc,dd],.agg #[.int .i64 k,.int .i64 m,.int .i64 o,.string t],.int .i64 keep])) ((((((((W.setCell ⟨w.heap.size,0,none⟩ a).setCell ⟨w.heap.size,1,none⟩ b).setCell ⟨w.heap.size,2,none⟩ cc).setCell ⟨w.heap.size,3,none⟩ dd).setCell ⟨w.heap.size + 1,0,none⟩ (.int .i64 k)).setCell ⟨w.heap.size + 1,1,none⟩ (.int .i64 m)).setCell ⟨w.heap.size + 1,2,none⟩ (.int .i64 o)).setCell ⟨w.heap.size + 1,3,none⟩ (.string t)):=by
 have h5:=h.hw;have hw : Rep.Only W ((((((((W.setCell ⟨w.heap.size,0,none⟩ a).setCell ⟨w.heap.size,1,none⟩ b).setCell ⟨w.heap.size,2,none⟩ cc).setCell ⟨w.heap.size,3,none⟩ dd).setCell ⟨w.heap.size + 1,0,none⟩ (.int .i64 k)).setCell ⟨w.heap.size + 1,1,none⟩ (.int .i64 m)).setCell ⟨w.heap.size + 1,2,none⟩ (.int .i64 o)).setCell ⟨w.heap.size + 1,3,none⟩ (.string t)) [w.heap.size,w.heap.size + 1]:=
  ((Aa9 W w.heap.size a b cc dd).mono (by simp)).trans ((U7 _ (w.heap.size + 1) (.int .i64 k) (.int .i64 m) (.int .i64 o) (.string t)).mono (by simp))
 obtain ⟨fp,o1,_,_⟩:=h.own;exact ⟨[a,b,cc,dd],x,fp,⟨k,m,o,t⟩,keep,rfl,hP,Rep.low diskR (Rep.own_only o1 hw (fun y hy hm => by have:=(Rep.lt diskR o1 y hy).1;simp at hm;omega)) (by omega),Rep.Only.below h.below hw h.below.size (fun y hy => by simp at hy;omega)⟩
set_option maxRecDepth 2000000 in
theorem Tv9 (A : Option Addr) (c : Nat) (code : List UInt8) (w : World) (h : Reads w w.heap.size 1 A code.length (bys code)) (hn : code.length ≤ 1048576) (hg : Given w) :
 Calls Tryz.prog 11 #[.slice A code.length c] w (RetDJ w):=by
 have hb0 : Below w.heap.size w ((w.alloc (.cells #[.slice none 0 0,.slice none 0 0,.int .i64 0,.bool false] 27)).alloc (.cells #[.int .i64 0,.int .i64 0,.int .i64 0,.string ⟨#[]⟩] 29)):=Later.trans (Later.alloc w _) (Later.alloc _ _);have hz0 : ((w.alloc (.cells #[.slice none 0 0,.slice none 0 0,.int .i64 0,.bool false] 27)).alloc (.cells #[.int .i64 0,.int .i64 0,.int .i64 0,.string ⟨#[]⟩] 29)).heap[w.heap.size]? = some (.cells [.slice none 0 0,.slice none 0 0,.int .i64 0,.bool false].toArray 27 (0,0)):=(Below.heap_alloc _ _ _ (by simp)).trans (heap_alloc_new w _)
 have hr0 : ((w.alloc (.cells #[.slice none 0 0,.slice none 0 0,.int .i64 0,.bool false] 27)).alloc (.cells #[.int .i64 0,.int .i64 0,.int .i64 0,.string ⟨#[]⟩] 29)).heap[w.heap.size + 1]? = some (.cells (M8 N8).toArray 29 (0,0)):=G9 _ _ (by simp)
 have hs0 : w.heap.size + 1 < ((w.alloc (.cells #[.slice none 0 0,.slice none 0 0,.int .i64 0,.bool false] 27)).alloc (.cells #[.int .i64 0,.int .i64 0,.int .i64 0,.string ⟨#[]⟩] 29)).heap.size:=by simp
 have h1:=(h.below hb0).more hb0.size;have hg1 : Given ((w.alloc (.cells #[.slice none 0 0,.slice none 0 0,.int .i64 0,.bool false] 27)).alloc (.cells #[.int .i64 0,.int .i64 0,.int .i64 0,.string ⟨#[]⟩] 29)):=Keeps.keeps (F:=Given) hb0 hg;clear h hg;go_enter Tryz.func11,Tryz.ntmps11
 go_upto_region 1 with (fail)
 generalize (w.alloc (.cells #[.slice none 0 0,.slice none 0 0,.int .i64 0,.bool false] 27)).alloc (.cells #[.int .i64 0,.int .i64 0,.int .i64 0,.string ⟨#[]⟩] 29) = w1 at hb0 hz0 hr0 hs0 h1 hg1 ⊢;have HG:=Lib.hid hg1;go_wp2_with fail;refine (Ro9 A c code w1 h1 hn).mono ?_;rintro e W2 ⟨g,rfl,hcur,hb1⟩;clear h1 hg1;go_wp2_with fail;refine (Cc9 w1.heap.size g A code.length c code [8,8,40] W2 hcur (by omega) (by decide) (by decide)).mono ?_
 rintro e W3 ⟨z,hz,rfl,hc3,ho3⟩;obtain ⟨mz,hmz,rfl⟩ : ∃ m : Nat,m ≤ 40∧z = (m : Int):=by
  simp only [List.mem_cons,List.not_mem_nil,or_false] at hz;rcases hz with rfl | rfl | rfl
  ·exact ⟨8,by omega,rfl⟩
  ·exact ⟨8,by omega,rfl⟩
  ·exact ⟨40,by omega,rfl⟩
 have hgl:=hcur.from_;have hb3 : Below w1.heap.size w1 W3:=Rep.Only.below hb1 ho3 hb1.size (fun a ha => by simp at ha;omega)
 have HM:=Lib.hid hmz;clear hz hcur hb1 ho3 hmz;go_wp2_with fail;refine (Pj9 w1 g A code.length c code mz W3 hc3 (by omega) hb3 HG.out HM.out).mono ?_
 rintro e W4 ⟨cs4,x,fp4,rfl,HI4,O4,hc4,ho4⟩;obtain ⟨A2,c2,B2,f2,rfl⟩:=Q9 O4;have HI:=Lib.hid (show JInv x 40 from HI4.mono (by have:=HM.out;omega))
 have hb4 : Below w1.heap.size w1 W4:=Rep.Only.below hb3 ho4 hb3.size (fun a ha => by simp at ha;omega)
 have hg3:=hc3.lt;have hs3:=hb3.size;have J : KB w w1 g A code.length c code W4.heap.size [.slice A2 x.secs.length c2,.slice B2 x.cache.length f2,.int .i64 x.fuse,.bool x.down] x (W4.alloc (.cells #[.slice A2 x.secs.length c2,.slice B2 x.cache.length f2,.int .i64 x.fuse,.bool x.down] 27)):=by
  have hb5:=Later.trans hb4 (Later.alloc W4 (.cells #[.slice A2 x.secs.length c2,.slice B2 x.cache.length f2,.int .i64 x.fuse,.bool x.down] 27));have h4:=ho4.size;refine ⟨hc4.alloc _,Later.trans hb0 hb5,hb5,(hb5.block _ (by omega)).trans hz0,(hb5.block _ (by omega)).trans hr0,heap_alloc_new W4 _,⟨fp4,Rep.low diskR (Rep.own_only O4 (Rep.only_alloc W4 _) (fun a _ hm => by cases hm)) hs3,fun hm => ?_,fun hm => ?_⟩,⟨by omega,by have:=hc4.lt;omega⟩,by omega⟩
  ·have:=(Rep.lt diskR O4 _ hm).2
   omega
  ·have:=(Rep.lt diskR O4 _ hm).1
   omega
 go_upto_region 3 with (fail)
 clear hb0 hz0 hr0 hs0 hb3 hb4 hc3 hc4 ho4 O4 HI4 hgl hg3 hs3;generalize W4.alloc (.cells #[.slice A2 x.secs.length c2,.slice B2 x.cache.length f2,.int .i64 x.fuse,.bool x.down] 27) = W5 at J ⊢;generalize W4.heap.size = D at J ⊢;obtain ⟨d0,d1,d2,d3⟩:=Q8 J.dbox;go_wp2_with fail;refine (Dj9 [.slice A2 x.secs.length c2,.slice B2 x.cache.length f2,.int .i64 x.fuse,.bool x.down] x W5 J.at HI.out.fits (Keeps.keeps (F:=Given) J.belowL HG.out)).mono ?_;clear d0 d1 d2 d3;obtain ⟨⟨⟨⟨ja,jb,jp,jq,je,jf⟩,jg,jm⟩,ok⟩,hp⟩ : ∃ p,R7 x = p:=⟨_,rfl⟩;rw [hp];have hjg:=Eo9 x;rw [hp] at hjg;have hja : 0 ≤ ja∧ja ≤ 60000:=hjg.1.gen;have hjp : 0 ≤ jp∧jp ≤ 60000:=hjg.1.pGen;have hje : 0 ≤ je∧je ≤ 60000:=hjg.1.epoch;have HACC:=Lib.hid (show ∀ r : Rec,Qt9 r→r.n = Pb9 ⟨ja,jb,jp,jq,je,jf⟩ r.kind→¬ (r.kind = 2∧jp = 0)→∃ k',K8 (R7 x).1.k r = (k',true)∧k'.epoch ≤ 41 by
  intro r hr hn2 hne;have hkk:=hjg.1;rw [hp];obtain ⟨C,k,gg,p,u1,u2,u3,u4,u5,u6⟩:=HI.out;have hop:=Jg9 u1.good u1.len (by rw [u1.rd];exact u2)
  rw [hp] at hop;have ek : (⟨ja,jb,jp,jq,je,jf⟩ : Known) = k:=congrArg (fun q : Jour × Bool => q.1.k) hop
  rw [← ek] at u4 u5 u6;rcases Pa9 hkk hr hn2 u4 u5 u6 (by omega) with h9 | ⟨k',h9,_,_,h10⟩
  ·exact absurd h9 hne
  ·exact ⟨k',h9,by omega⟩)
 clear hp hjg;rintro e1 V1 hret;obtain ⟨rfl,hb⟩:=hret.lit8;replace J:=J.later hb;clear hret hb;have HJ:=heap_alloc_new V1 (.cells #[.int .i64 ja,.string jb,.int .i64 jp,.string jq,.int .i64 je,.int .i64 jf,.int .i64 jg,.int .i64 jm] 37);have hDj:=J.lt;have hgj:=J.cur.lt;replace J:=J.later (Later.alloc V1 (.cells #[.int .i64 ja,.string jb,.int .i64 jp,.string jq,.int .i64 je,.int .i64 jf,.int .i64 jg,.int .i64 jm] 37));go_upto_region 4 with (fail)
 generalize V1.alloc (.cells #[.int .i64 ja,.string jb,.int .i64 jp,.string jq,.int .i64 je,.int .i64 jf,.int .i64 jg,.int .i64 jm] 37) = V2 at HJ J ⊢;generalize V1.heap.size = DJ at HJ hDj hgj ⊢;go_wp2_with fail;refine (Ni9 w1.heap.size g A code.length c code V2 J.cur (by omega)).mono ?_
 rintro e2 V3 ⟨⟨rk,rn,ro,rt⟩,rfl,⟨hts,hkind,_⟩,hc3,ho3⟩;replace hts : rt.size ≤ 100:=hts;have HTS:=Lib.hid hts;have HKD:=Lib.hid hkind;have hDJ:=(Array.getElem?_eq_some_iff.1 HJ).1;replace HJ:=(ho3.block _ hDJ (by simp;omega)).trans HJ
 replace J:=J.step hc3 ho3;clear hc3 ho3 hts;have hDJ:=(Array.getElem?_eq_some_iff.1 HJ).1;have HE:=heap_alloc_new V3 (.cells #[.int .i64 rk,.int .i64 rn,.int .i64 ro,.string rt] 29);have hDE : D < V3.heap.size∧g < V3.heap.size:=⟨J.lt,J.cur.lt⟩;have K:=J.alone (Later.alloc V3 (.cells #[.int .i64 rk,.int .i64 rn,.int .i64 ro,.string rt] 29));replace HJ:=((Later.alloc V3 (.cells #[.int .i64 rk,.int .i64 rn,.int .i64 ro,.string rt] 29)).block _ hDJ).trans HJ;go_upto_region 5 with (fail)
 clear J;generalize V3.alloc (.cells #[.int .i64 rk,.int .i64 rn,.int .i64 ro,.string rt] 29) = V4 at HE HJ K ⊢;generalize V3.heap.size = E at HE hDE hDJ K ⊢;rcases hkind with hk1 | hk2 | hk3
 ·have hrk : rk = 1:=hk1.1
  subst hrk;clear hk1;obtain ⟨e0,e1,e2,e3⟩:=J9 (r:=⟨1,rn,ro,rt⟩) HE;obtain ⟨j0,j1,j2,j3,j4,j5,j6,j7⟩:=G8 (r:=⟨⟨ja,jb,jp,jq,je,jf⟩,jg,jm⟩) HJ;have ef1:=C9 HE 1;have hEl:=(Array.getElem?_eq_some_iff.1 HE).1;have HE2 : (V4.setCell ⟨E,1,none⟩ (.int .i64 (ja + 1))).heap[E]? = some (.cells (M8 ⟨1,ja + 1,ro,rt⟩).toArray 29 (0,0)):=N9 HE 1 (.int .i64 (ja + 1));have K2:=(K.1.beside hDE K.2 (Rep.Only.setCell V4 (p:=⟨E,1,none⟩) (by simp) (.int .i64 (ja + 1)))).1
  clear HJ K;go_upto_region 13 with (fail)
  clear e0 e1 e2 e3 j0 j1 j2 j3 j4 j5 j6 j7 ef1 HE;generalize V4.setCell ⟨E,1,none⟩ (.int .i64 (ja + 1)) = V5 at HE2 K2 ⊢;have HAC:=Lib.hid (show ∃ k',K8 (R7 x).1.k ⟨1,ja + 1,ro,rt⟩ = (k',true)∧k'.epoch ≤ 41 from HACC.out ⟨1,ja + 1,ro,rt⟩ HKD.out rfl (fun h9 => by cases h9.1))
  refine M9 100 [0,1,2] [3,4,5,6] (fun w' => w'.heap[D]? = some (.cells [.slice A2 x.secs.length c2,.slice B2 x.cache.length f2,.int .i64 x.fuse,.bool x.down].toArray 27 (0,0))∧w'.heap[E]? = some (.cells (M8 ⟨1,ja + 1,ro,rt⟩).toArray 29 (0,0))) (by kernel_rfl) (by kernel_rfl) ⟨K2.dbox,HE2⟩ ?_
  replace HE2:=((Later.drew V5).block _ (Array.getElem?_eq_some_iff.1 HE2).1).trans HE2;replace K2:=K2.later (Later.drew V5);iterate 3 (refine LexR.cons rfl ?_ (fun w' hw => ?_) ?_;rotate_left;focus (obtain ⟨hw1,hw2⟩:=hw;obtain ⟨d0,d1,d2,d3⟩:=Q8 hw1;obtain ⟨e0,e1,e2,e3⟩:=J9 (r:=⟨1,ja + 1,ro,rt⟩) hw2;clear hw1 hw2;go_simp;(try exact rfl));(try go_frame))
  refine LexR.nil (LexW.cons rfl ?_);try go_frame
  generalize V5.drew = V6 at HE2 K2 ⊢;go_wp2_with fail;refine (C8 w1.heap.size g A code.length c code 256 V6 K2.cur (by omega) (by omega) (by omega)).mono ?_
  rintro e5 V7 ⟨keep,hkeep,rfl,hc7,hg7⟩;have HKP:=Lib.hid hkeep;replace HE2:=((I7 hg7).block _ (Array.getElem?_eq_some_iff.1 HE2).1 (by simp;omega)).trans HE2
  replace K2:=K2.step hc7 (I7 hg7);clear hc7 hg7 hkeep;obtain ⟨z0,z1,z2,z3⟩:=Q8 K2.zbox;obtain ⟨y0,y1,y2,y3⟩:=J9 (r:=N8) K2.rbox;have zf0:=C9 K2.zbox 0;have zf1:=C9 K2.zbox 1;have zf2:=C9 K2.zbox 2;have zf3:=C9 K2.zbox 3;have yf0:=C9 K2.rbox 0;have yf1:=C9 K2.rbox 1;have yf2:=C9 K2.rbox 2;have yf3:=C9 K2.rbox 3;have hlz : w.heap.size + 1 < V7.heap.size:=(Array.getElem?_eq_some_iff.1 K2.rbox).1;have HR:=Lib.hid (K2.ret 1 (ja + 1) ro rt keep ⟨HI.out,HTS.out,HAC.out,HKP.out⟩);have hw:=K2.hw;have hdl:=K2.hD;have hS0 : V7.heap[D]? = some (.cells [.slice A2 x.secs.length c2,.slice B2 x.cache.length f2,.int .i64 x.fuse,.bool x.down].toArray 27 (0,0))∧V7.heap[E]? = some (.cells (M8 ⟨1,ja + 1,ro,rt⟩).toArray 29 (0,0)):=⟨K2.dbox,HE2⟩;have hD7:=K2.lt;have hE7:=(Array.getElem?_eq_some_iff.1 HE2).1;have hS1:=Aa9 V7 w.heap.size (.slice A2 x.secs.length c2) (.slice B2 x.cache.length f2) (.int .i64 x.fuse) (.bool x.down);have hS2:=U7 ((((V7.setCell ⟨w.heap.size,0,none⟩ (.slice A2 x.secs.length c2)).setCell ⟨w.heap.size,1,none⟩ (.slice B2 x.cache.length f2)).setCell ⟨w.heap.size,2,none⟩ (.int .i64 x.fuse)).setCell ⟨w.heap.size,3,none⟩ (.bool x.down)) (w.heap.size + 1) (.int .i64 1) (.int .i64 (ja + 1)) (.int .i64 ro) (.string rt);have hT1:=And.intro ((hS1.block D hD7 (by simp;omega)).trans hS0.1) ((hS1.block E hE7 (by simp;omega)).trans hS0.2)
  have hT2:=And.intro ((hS2.block D (Nat.lt_of_lt_of_le hD7 hS1.size) (by simp;omega)).trans hT1.1) ((hS2.block E (Nat.lt_of_lt_of_le hE7 hS1.size) (by simp;omega)).trans hT1.2)
  have HT1:=Lib.hid hT1;have HT2:=Lib.hid hT2;have HS0:=Lib.hid hS0;clear K2 HE2 hS0 hS1 hS2 hT1 hT2 hD7 hE7 hw hdl;go_wp2_with fail;refine ⟨by first | exact HS0.out | exact fun _ => HS0.out,LexW.cons rfl ?_⟩
  try go_frame
  go_wp2_with fail;refine ⟨by first | exact HT1.out | exact fun _ => HT1.out,LexW.cons rfl ?_⟩
  try go_frame
  go_wp2_with fail;refine ⟨by first | exact HT2.out | exact fun _ => HT2.out,LexW.cons rfl ?_⟩
  try go_frame
  go_wp2_with fail;refine ⟨by first | exact HT2.out | exact fun _ => HT2.out,LexW.nil ?_⟩
  go_wp2_with fail;exact bodyPost_ret (v:=.tuple #[.agg #[.slice A2 x.secs.length c2,.slice B2 x.cache.length f2,.int .i64 x.fuse,.bool x.down],.agg #[.int .i64 1,.int .i64 (ja + 1),.int .i64 ro,.string rt],.int .i64 keep]) (by simp [results,Tryz.results11,go_sem,z0,z1,z2,z3,y0,y1,y2,y3]) rfl HR.out
 ·have hrk : rk = 2:=hk2.1
  subst hrk;clear hk2;obtain ⟨e0,e1,e2,e3⟩:=J9 (r:=⟨2,rn,ro,rt⟩) HE;obtain ⟨j0,j1,j2,j3,j4,j5,j6,j7⟩:=G8 (r:=⟨⟨ja,jb,jp,jq,je,jf⟩,jg,jm⟩) HJ;have ef1:=C9 HE 1;have hEl:=(Array.getElem?_eq_some_iff.1 HE).1;have HE2 : (V4.setCell ⟨E,1,none⟩ (.int .i64 jp)).heap[E]? = some (.cells (M8 ⟨2,jp,ro,rt⟩).toArray 29 (0,0)):=N9 HE 1 (.int .i64 jp);have K2:=K.1.beside hDE K.2 (Rep.Only.setCell V4 (p:=⟨E,1,none⟩) (by simp) (.int .i64 jp))
  have HJ2:=((Rep.Only.setCell V4 (fp:=[E]) (p:=⟨E,1,none⟩) (by simp) (.int .i64 jp)).block _ (Array.getElem?_eq_some_iff.1 HJ).1 (by simp;omega)).trans HJ
  clear K;go_upto_region 11 with (fail)
  clear e0 e1 e2 e3 j0 j1 j2 j3 j4 j5 j6 j7 ef1 HE HJ hEl;generalize V4.setCell ⟨E,1,none⟩ (.int .i64 jp) = V5 at HE2 HJ2 K2 ⊢;obtain ⟨e0,e1,e2,e3⟩:=J9 (r:=⟨2,jp,ro,rt⟩) HE2;obtain ⟨j0,j1,j2,j3,j4,j5,j6,j7⟩:=G8 (r:=⟨⟨ja,jb,jp,jq,je,jf⟩,jg,jm⟩) HJ2;by_cases hz0 : jp = 0
  ·subst hz0
   have ef0:=C9 HE2 0;have ef1:=C9 HE2 1;have ef2:=C9 HE2 2;have ef3:=C9 HE2 3;have hEl:=(Array.getElem?_eq_some_iff.1 HE2).1;have HE3:=Cx9 (r0:=⟨2,0,ro,rt⟩) HE2 3 (je + 1) 0 ⟨#[]⟩;have K3:=(K2.1.beside hDE K2.2 (U7 V5 E (.int .i64 3) (.int .i64 (je + 1)) (.int .i64 0) (.string ⟨#[]⟩))).1;clear K2 HJ2 HE2;go_upto_region 13 with (fail)
   clear e0 e1 e2 e3 j0 j1 j2 j3 j4 j5 j6 j7 ef0 ef1 ef2 ef3;generalize ((((V5.setCell ⟨E,0,none⟩ (.int .i64 3)).setCell ⟨E,1,none⟩ (.int .i64 (je + 1))).setCell ⟨E,2,none⟩ (.int .i64 0)).setCell ⟨E,3,none⟩ (.string ⟨#[]⟩)) = V5 at HE3 K3 ⊢;have HE2:=HE3;have K2:=K3;clear HE3 K3;have HAC:=Lib.hid (show ∃ k',K8 (R7 x).1.k ⟨3,je + 1,0,⟨#[]⟩⟩ = (k',true)∧k'.epoch ≤ 41 from HACC.out ⟨3,je + 1,0,⟨#[]⟩⟩ (.inr (.inr ⟨rfl,⟨by show (0 : Int) ≤ 0;omega,by show (0 : Int) ≤ 1;omega⟩,rfl⟩)) rfl (fun h9 => by cases h9.1))
   refine M9 100 [0,1,2] [3,4,5,6] (fun w' => w'.heap[D]? = some (.cells [.slice A2 x.secs.length c2,.slice B2 x.cache.length f2,.int .i64 x.fuse,.bool x.down].toArray 27 (0,0))∧w'.heap[E]? = some (.cells (M8 ⟨3,je + 1,0,⟨#[]⟩⟩).toArray 29 (0,0))) (by kernel_rfl) (by kernel_rfl) ⟨K2.dbox,HE2⟩ ?_
   replace HE2:=((Later.drew V5).block _ (Array.getElem?_eq_some_iff.1 HE2).1).trans HE2;replace K2:=K2.later (Later.drew V5);iterate 3 (refine LexR.cons rfl ?_ (fun w' hw => ?_) ?_;rotate_left;focus (obtain ⟨hw1,hw2⟩:=hw;obtain ⟨d0,d1,d2,d3⟩:=Q8 hw1;obtain ⟨e0,e1,e2,e3⟩:=J9 (r:=⟨3,je + 1,0,⟨#[]⟩⟩) hw2;clear hw1 hw2;go_simp;(try exact rfl));(try go_frame))
   refine LexR.nil (LexW.cons rfl ?_);try go_frame
   generalize V5.drew = V6 at HE2 K2 ⊢;go_wp2_with fail;refine (C8 w1.heap.size g A code.length c code 256 V6 K2.cur (by omega) (by omega) (by omega)).mono ?_
   rintro e5 V7 ⟨keep,hkeep,rfl,hc7,hg7⟩;have HKP:=Lib.hid hkeep;replace HE2:=((I7 hg7).block _ (Array.getElem?_eq_some_iff.1 HE2).1 (by simp;omega)).trans HE2
   replace K2:=K2.step hc7 (I7 hg7);clear hc7 hg7 hkeep;obtain ⟨z0,z1,z2,z3⟩:=Q8 K2.zbox;obtain ⟨y0,y1,y2,y3⟩:=J9 (r:=N8) K2.rbox;have zf0:=C9 K2.zbox 0;have zf1:=C9 K2.zbox 1;have zf2:=C9 K2.zbox 2;have zf3:=C9 K2.zbox 3;have yf0:=C9 K2.rbox 0;have yf1:=C9 K2.rbox 1;have yf2:=C9 K2.rbox 2;have yf3:=C9 K2.rbox 3;have hlz : w.heap.size + 1 < V7.heap.size:=(Array.getElem?_eq_some_iff.1 K2.rbox).1;have HR:=Lib.hid (K2.ret 3 (je + 1) 0 ⟨#[]⟩ keep ⟨HI.out,by decide,HAC.out,HKP.out⟩)
   have hw:=K2.hw;have hdl:=K2.hD;have hS0 : V7.heap[D]? = some (.cells [.slice A2 x.secs.length c2,.slice B2 x.cache.length f2,.int .i64 x.fuse,.bool x.down].toArray 27 (0,0))∧V7.heap[E]? = some (.cells (M8 ⟨3,je + 1,0,⟨#[]⟩⟩).toArray 29 (0,0)):=⟨K2.dbox,HE2⟩;have hD7:=K2.lt;have hE7:=(Array.getElem?_eq_some_iff.1 HE2).1;have hS1:=Aa9 V7 w.heap.size (.slice A2 x.secs.length c2) (.slice B2 x.cache.length f2) (.int .i64 x.fuse) (.bool x.down);have hS2:=U7 ((((V7.setCell ⟨w.heap.size,0,none⟩ (.slice A2 x.secs.length c2)).setCell ⟨w.heap.size,1,none⟩ (.slice B2 x.cache.length f2)).setCell ⟨w.heap.size,2,none⟩ (.int .i64 x.fuse)).setCell ⟨w.heap.size,3,none⟩ (.bool x.down)) (w.heap.size + 1) (.int .i64 3) (.int .i64 (je + 1)) (.int .i64 0) (.string ⟨#[]⟩);have hT1:=And.intro ((hS1.block D hD7 (by simp;omega)).trans hS0.1) ((hS1.block E hE7 (by simp;omega)).trans hS0.2)
   have hT2:=And.intro ((hS2.block D (Nat.lt_of_lt_of_le hD7 hS1.size) (by simp;omega)).trans hT1.1) ((hS2.block E (Nat.lt_of_lt_of_le hE7 hS1.size) (by simp;omega)).trans hT1.2)
   have HT1:=Lib.hid hT1;have HT2:=Lib.hid hT2;have HS0:=Lib.hid hS0;clear K2 HE2 hS0 hS1 hS2 hT1 hT2 hD7 hE7 hw hdl;go_wp2_with fail;refine ⟨by first | exact HS0.out | exact fun _ => HS0.out,LexW.cons rfl ?_⟩
   try go_frame
   go_wp2_with fail;refine ⟨by first | exact HT1.out | exact fun _ => HT1.out,LexW.cons rfl ?_⟩
   try go_frame
   go_wp2_with fail;refine ⟨by first | exact HT2.out | exact fun _ => HT2.out,LexW.cons rfl ?_⟩
   try go_frame
   go_wp2_with fail;refine ⟨by first | exact HT2.out | exact fun _ => HT2.out,LexW.nil ?_⟩
   go_wp2_with fail;exact bodyPost_ret (v:=.tuple #[.agg #[.slice A2 x.secs.length c2,.slice B2 x.cache.length f2,.int .i64 x.fuse,.bool x.down],.agg #[.int .i64 3,.int .i64 (je + 1),.int .i64 0,.string ⟨#[]⟩],.int .i64 keep]) (by simp [results,Tryz.results11,go_sem,z0,z1,z2,z3,y0,y1,y2,y3]) rfl HR.out
  ·have nz : (jp == 0) = false:=by simp [hz0]
   have HNZ:=Lib.hid hz0;have K3:=K2.1;clear K2 HJ2;go_upto_region 13 with (fail)
   clear e0 e1 e2 e3 j0 j1 j2 j3 j4 j5 j6 j7;have K2:=K3;clear K3;have HAC:=Lib.hid (show ∃ k',K8 (R7 x).1.k ⟨2,jp,ro,rt⟩ = (k',true)∧k'.epoch ≤ 41 from HACC.out ⟨2,jp,ro,rt⟩ HKD.out rfl (fun h9 => HNZ.out h9.2))
   refine M9 100 [0,1,2] [3,4,5,6] (fun w' => w'.heap[D]? = some (.cells [.slice A2 x.secs.length c2,.slice B2 x.cache.length f2,.int .i64 x.fuse,.bool x.down].toArray 27 (0,0))∧w'.heap[E]? = some (.cells (M8 ⟨2,jp,ro,rt⟩).toArray 29 (0,0))) (by kernel_rfl) (by kernel_rfl) ⟨K2.dbox,HE2⟩ ?_
   replace HE2:=((Later.drew V5).block _ (Array.getElem?_eq_some_iff.1 HE2).1).trans HE2;replace K2:=K2.later (Later.drew V5);iterate 3 (refine LexR.cons rfl ?_ (fun w' hw => ?_) ?_;rotate_left;focus (obtain ⟨hw1,hw2⟩:=hw;obtain ⟨d0,d1,d2,d3⟩:=Q8 hw1;obtain ⟨e0,e1,e2,e3⟩:=J9 (r:=⟨2,jp,ro,rt⟩) hw2;clear hw1 hw2;go_simp;(try exact rfl));(try go_frame))
   refine LexR.nil (LexW.cons rfl ?_);try go_frame
   generalize V5.drew = V6 at HE2 K2 ⊢;go_wp2_with fail;refine (C8 w1.heap.size g A code.length c code 256 V6 K2.cur (by omega) (by omega) (by omega)).mono ?_
   rintro e5 V7 ⟨keep,hkeep,rfl,hc7,hg7⟩;have HKP:=Lib.hid hkeep;replace HE2:=((I7 hg7).block _ (Array.getElem?_eq_some_iff.1 HE2).1 (by simp;omega)).trans HE2
   replace K2:=K2.step hc7 (I7 hg7);clear hc7 hg7 hkeep;obtain ⟨z0,z1,z2,z3⟩:=Q8 K2.zbox;obtain ⟨y0,y1,y2,y3⟩:=J9 (r:=N8) K2.rbox;have zf0:=C9 K2.zbox 0;have zf1:=C9 K2.zbox 1;have zf2:=C9 K2.zbox 2;have zf3:=C9 K2.zbox 3;have yf0:=C9 K2.rbox 0;have yf1:=C9 K2.rbox 1;have yf2:=C9 K2.rbox 2;have yf3:=C9 K2.rbox 3;have hlz : w.heap.size + 1 < V7.heap.size:=(Array.getElem?_eq_some_iff.1 K2.rbox).1;have HR:=Lib.hid (K2.ret 2 jp ro rt keep ⟨HI.out,HTS.out,HAC.out,HKP.out⟩);have hw:=K2.hw;have hdl:=K2.hD;have hS0 : V7.heap[D]? = some (.cells [.slice A2 x.secs.length c2,.slice B2 x.cache.length f2,.int .i64 x.fuse,.bool x.down].toArray 27 (0,0))∧V7.heap[E]? = some (.cells (M8 ⟨2,jp,ro,rt⟩).toArray 29 (0,0)):=⟨K2.dbox,HE2⟩;have hD7:=K2.lt;have hE7:=(Array.getElem?_eq_some_iff.1 HE2).1;have hS1:=Aa9 V7 w.heap.size (.slice A2 x.secs.length c2) (.slice B2 x.cache.length f2) (.int .i64 x.fuse) (.bool x.down);have hS2:=U7 ((((V7.setCell ⟨w.heap.size,0,none⟩ (.slice A2 x.secs.length c2)).setCell ⟨w.heap.size,1,none⟩ (.slice B2 x.cache.length f2)).setCell ⟨w.heap.size,2,none⟩ (.int .i64 x.fuse)).setCell ⟨w.heap.size,3,none⟩ (.bool x.down)) (w.heap.size + 1) (.int .i64 2) (.int .i64 (jp)) (.int .i64 ro) (.string rt);have hT1:=And.intro ((hS1.block D hD7 (by simp;omega)).trans hS0.1) ((hS1.block E hE7 (by simp;omega)).trans hS0.2)
   have hT2:=And.intro ((hS2.block D (Nat.lt_of_lt_of_le hD7 hS1.size) (by simp;omega)).trans hT1.1) ((hS2.block E (Nat.lt_of_lt_of_le hE7 hS1.size) (by simp;omega)).trans hT1.2)
   have HT1:=Lib.hid hT1;have HT2:=Lib.hid hT2;have HS0:=Lib.hid hS0;clear K2 HE2 hS0 hS1 hS2 hT1 hT2 hD7 hE7 hw hdl;go_wp2_with fail;refine ⟨by first | exact HS0.out | exact fun _ => HS0.out,LexW.cons rfl ?_⟩
   try go_frame
   go_wp2_with fail;refine ⟨by first | exact HT1.out | exact fun _ => HT1.out,LexW.cons rfl ?_⟩
   try go_frame
   go_wp2_with fail;refine ⟨by first | exact HT2.out | exact fun _ => HT2.out,LexW.cons rfl ?_⟩
   try go_frame
   go_wp2_with fail;refine ⟨by first | exact HT2.out | exact fun _ => HT2.out,LexW.nil ?_⟩
   go_wp2_with fail;exact bodyPost_ret (v:=.tuple #[.agg #[.slice A2 x.secs.length c2,.slice B2 x.cache.length f2,.int .i64 x.fuse,.bool x.down],.agg #[.int .i64 2,.int .i64 (jp),.int .i64 ro,.string rt],.int .i64 keep]) (by simp [results,Tryz.results11,go_sem,z0,z1,z2,z3,y0,y1,y2,y3]) rfl HR.out
 ·have hrk : rk = 3:=hk3.1
  subst hrk;clear hk3;obtain ⟨e0,e1,e2,e3⟩:=J9 (r:=⟨3,rn,ro,rt⟩) HE;obtain ⟨j0,j1,j2,j3,j4,j5,j6,j7⟩:=G8 (r:=⟨⟨ja,jb,jp,jq,je,jf⟩,jg,jm⟩) HJ;have ef1:=C9 HE 1;have hEl:=(Array.getElem?_eq_some_iff.1 HE).1;have HE2 : (V4.setCell ⟨E,1,none⟩ (.int .i64 (je + 1))).heap[E]? = some (.cells (M8 ⟨3,je + 1,ro,rt⟩).toArray 29 (0,0)):=N9 HE 1 (.int .i64 (je + 1));have K2:=(K.1.beside hDE K.2 (Rep.Only.setCell V4 (p:=⟨E,1,none⟩) (by simp) (.int .i64 (je + 1)))).1
  clear HJ K;go_upto_region 13 with (fail)
  clear e0 e1 e2 e3 j0 j1 j2 j3 j4 j5 j6 j7 ef1 HE;generalize V4.setCell ⟨E,1,none⟩ (.int .i64 (je + 1)) = V5 at HE2 K2 ⊢;have HAC:=Lib.hid (show ∃ k',K8 (R7 x).1.k ⟨3,je + 1,ro,rt⟩ = (k',true)∧k'.epoch ≤ 41 from HACC.out ⟨3,je + 1,ro,rt⟩ HKD.out rfl (fun h9 => by cases h9.1))
  refine M9 100 [0,1,2] [3,4,5,6] (fun w' => w'.heap[D]? = some (.cells [.slice A2 x.secs.length c2,.slice B2 x.cache.length f2,.int .i64 x.fuse,.bool x.down].toArray 27 (0,0))∧w'.heap[E]? = some (.cells (M8 ⟨3,je + 1,ro,rt⟩).toArray 29 (0,0))) (by kernel_rfl) (by kernel_rfl) ⟨K2.dbox,HE2⟩ ?_
  replace HE2:=((Later.drew V5).block _ (Array.getElem?_eq_some_iff.1 HE2).1).trans HE2;replace K2:=K2.later (Later.drew V5);iterate 3 (refine LexR.cons rfl ?_ (fun w' hw => ?_) ?_;rotate_left;focus (obtain ⟨hw1,hw2⟩:=hw;obtain ⟨d0,d1,d2,d3⟩:=Q8 hw1;obtain ⟨e0,e1,e2,e3⟩:=J9 (r:=⟨3,je + 1,ro,rt⟩) hw2;clear hw1 hw2;go_simp;(try exact rfl));(try go_frame))
  refine LexR.nil (LexW.cons rfl ?_);try go_frame
  generalize V5.drew = V6 at HE2 K2 ⊢;go_wp2_with fail;refine (C8 w1.heap.size g A code.length c code 256 V6 K2.cur (by omega) (by omega) (by omega)).mono ?_
  rintro e5 V7 ⟨keep,hkeep,rfl,hc7,hg7⟩;have HKP:=Lib.hid hkeep;replace HE2:=((I7 hg7).block _ (Array.getElem?_eq_some_iff.1 HE2).1 (by simp;omega)).trans HE2
  replace K2:=K2.step hc7 (I7 hg7);clear hc7 hg7 hkeep;obtain ⟨z0,z1,z2,z3⟩:=Q8 K2.zbox;obtain ⟨y0,y1,y2,y3⟩:=J9 (r:=N8) K2.rbox;have zf0:=C9 K2.zbox 0;have zf1:=C9 K2.zbox 1;have zf2:=C9 K2.zbox 2;have zf3:=C9 K2.zbox 3;have yf0:=C9 K2.rbox 0;have yf1:=C9 K2.rbox 1;have yf2:=C9 K2.rbox 2;have yf3:=C9 K2.rbox 3;have hlz : w.heap.size + 1 < V7.heap.size:=(Array.getElem?_eq_some_iff.1 K2.rbox).1;have HR:=Lib.hid (K2.ret 3 (je + 1) ro rt keep ⟨HI.out,HTS.out,HAC.out,HKP.out⟩);have hw:=K2.hw;have hdl:=K2.hD;have hS0 : V7.heap[D]? = some (.cells [.slice A2 x.secs.length c2,.slice B2 x.cache.length f2,.int .i64 x.fuse,.bool x.down].toArray 27 (0,0))∧V7.heap[E]? = some (.cells (M8 ⟨3,je + 1,ro,rt⟩).toArray 29 (0,0)):=⟨K2.dbox,HE2⟩;have hD7:=K2.lt;have hE7:=(Array.getElem?_eq_some_iff.1 HE2).1;have hS1:=Aa9 V7 w.heap.size (.slice A2 x.secs.length c2) (.slice B2 x.cache.length f2) (.int .i64 x.fuse) (.bool x.down);have hS2:=U7 ((((V7.setCell ⟨w.heap.size,0,none⟩ (.slice A2 x.secs.length c2)).setCell ⟨w.heap.size,1,none⟩ (.slice B2 x.cache.length f2)).setCell ⟨w.heap.size,2,none⟩ (.int .i64 x.fuse)).setCell ⟨w.heap.size,3,none⟩ (.bool x.down)) (w.heap.size + 1) (.int .i64 3) (.int .i64 (je + 1)) (.int .i64 ro) (.string rt);have hT1:=And.intro ((hS1.block D hD7 (by simp;omega)).trans hS0.1) ((hS1.block E hE7 (by simp;omega)).trans hS0.2)
  have hT2:=And.intro ((hS2.block D (Nat.lt_of_lt_of_le hD7 hS1.size) (by simp;omega)).trans hT1.1) ((hS2.block E (Nat.lt_of_lt_of_le hE7 hS1.size) (by simp;omega)).trans hT1.2)
  have HT1:=Lib.hid hT1;have HT2:=Lib.hid hT2;have HS0:=Lib.hid hS0;clear K2 HE2 hS0 hS1 hS2 hT1 hT2 hD7 hE7 hw hdl;go_wp2_with fail;refine ⟨by first | exact HS0.out | exact fun _ => HS0.out,LexW.cons rfl ?_⟩
  try go_frame
  go_wp2_with fail;refine ⟨by first | exact HT1.out | exact fun _ => HT1.out,LexW.cons rfl ?_⟩
  try go_frame
  go_wp2_with fail;refine ⟨by first | exact HT2.out | exact fun _ => HT2.out,LexW.cons rfl ?_⟩
  try go_frame
  go_wp2_with fail;refine ⟨by first | exact HT2.out | exact fun _ => HT2.out,LexW.nil ?_⟩
  go_wp2_with fail;exact bodyPost_ret (v:=.tuple #[.agg #[.slice A2 x.secs.length c2,.slice B2 x.cache.length f2,.int .i64 x.fuse,.bool x.down],.agg #[.int .i64 3,.int .i64 (je + 1),.int .i64 ro,.string rt],.int .i64 keep]) (by simp [results,Tryz.results11,go_sem,z0,z1,z2,z3,y0,y1,y2,y3]) rfl HR.out
end Go.Proofs.YthpkdjflndiojaaGreatDoor
