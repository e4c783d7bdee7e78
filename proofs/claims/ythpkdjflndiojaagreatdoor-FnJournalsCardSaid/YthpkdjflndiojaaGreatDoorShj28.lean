/- What the theorem needs, out of many texts. -/
import Derived.Test.YthpkdjflndiojaaGreatDoorShj21
import Derived.Test.YthpkdjflndiojaaGreatDoorShj27
import Derived.Recover
set_option maxHeartbeats 20000000
namespace Go.Proofs.YthpkdjflndiojaaGreatDoor
open Go.RowKit
set_option maxRecDepth 100000
set_option linter.unusedVariables false
def panV : Value:=.iface 9 (.string ⟨#[97,32,114,101,99,111,114,100,32,99,97,110,110,111,116,32,98,101,32,119,114,105,116,116,101,110]⟩)
def panC : List PanicEntry:=[{ v:=panV,recovered:=false }]
theorem Pc9 (p : Value) (w : World) : Calls Tryz.prog 54 #[p,.bool true] w fun e w' => e = .returned (.tuple #[])∧w = w':=by
 go_enter Tryz.func54,Tryz.ntmps54
 go_wp2
 go_end0;exact ⟨rfl,rfl⟩
theorem Th9 (p : Value) (w : World) : Calls Tryz.prog 54 #[p,.bool false] w fun e w' => e = .panicked panC∧w = w':=by
 go_enter Tryz.func54,Tryz.ntmps54
 go_wp2
 exact ⟨rfl,rfl,rfl⟩
structure SB (w0 : World) (S : Nat) (cs : List Value) (x : Disk) (j : Jour) (W : World) : Prop where
 below : Below w0.heap.size w0 W
 box : W.heap[S]? = some (.cells (cs ++ Y7 j).toArray 54 (0,0))
 own : ∃ fp,diskR.own W w0.heap.size cs x fp∧S ∉ fp
 lo : w0.heap.size ≤ S
section
variable {w0 W W' : World} {S : Nat} {cs cs' : List Value} {x x' : Disk} {j j' : Jour}
theorem SB.lt (h : SB w0 S cs x j W) : S < W.heap.size:=(Array.getElem?_eq_some_iff.1 h.box).1
theorem SB.at (h : SB w0 S cs x j W) : diskR.at_ W W.heap.size cs x:=by
 obtain ⟨fp,ho,_⟩:=h.own;exact Rep.reads diskR ho
theorem SB.shape (h : SB w0 S cs x j W) : ∃ A c B e,cs = [.slice A x.secs.length c,.slice B x.cache.length e,.int .i64 x.fuse,.bool x.down]:=G7 h.at
theorem SB.later (h : SB w0 S cs x j W) (hb : Below W.heap.size W W') : SB w0 S cs x j W':=by
 obtain ⟨fp,ho,hn⟩:=h.own;refine ⟨Rep.Only.below h.below (Rep.only_of_below hb) h.below.size (fun g hg => by cases hg),(hb.block _ h.lt).trans h.box,⟨fp,Rep.own_only ho (Rep.only_of_below hb) (fun a _ hm => by cases hm),hn⟩,h.lo⟩
theorem SB.given (h : SB w0 S cs x j W) (hg : Given w0) : Given W:=Keeps.keeps (F:=Given) h.below hg
theorem SB.put (h : SB w0 S cs x j W) (ho : Rep.Only W W' [S]) (hb : W'.heap[S]? = some (.cells (cs ++ Y7 j').toArray 54 (0,0))) : SB w0 S cs x j' W':=by
 obtain ⟨fp,h1,hn⟩:=h.own;refine ⟨Rep.Only.below h.below ho h.below.size (fun g hg => by simp at hg;subst hg;exact h.lo),hb,⟨fp,Rep.own_only h1 ho (fun a ha hm => by simp at hm;subst hm;exact hn ha),hn⟩,h.lo⟩
theorem SB.putD {a b cc dd a' b' cc' dd' : Value} (h : SB w0 S [a,b,cc,dd] x j W) {base : Nat} {fp : List Nat} (ho : diskR.own W base [a',b',cc',dd'] x' fp) (hb : S < base) :
 SB w0 S [a',b',cc',dd'] x' j ((((W.setCell ⟨S,0,none⟩ a').setCell ⟨S,1,none⟩ b').setCell ⟨S,2,none⟩ cc').setCell ⟨S,3,none⟩ dd'):=by
 have hw:=Aa9 W S a' b' cc' dd';have hlo:=h.lo;refine ⟨Rep.Only.below h.below hw h.below.size (fun g hg => by simp at hg;subst hg;exact h.lo),?_,⟨fp,Rep.low diskR (Rep.own_only ho hw (fun a ha hm => ?_)) (by omega),fun hm => ?_⟩,h.lo⟩
 ·have h0 : (W.setCell ⟨S,0,none⟩ a').heap[S]? = some (.cells ([a',b,cc,dd] ++ Y7 j).toArray 54 (0,0)):=N9 h.box 0 a'
  have h1 : ((W.setCell ⟨S,0,none⟩ a').setCell ⟨S,1,none⟩ b').heap[S]? = some (.cells ([a',b',cc,dd] ++ Y7 j).toArray 54 (0,0)):=N9 h0 1 b';have h2 : (((W.setCell ⟨S,0,none⟩ a').setCell ⟨S,1,none⟩ b').setCell ⟨S,2,none⟩ cc').heap[S]? = some (.cells ([a',b',cc',dd] ++ Y7 j).toArray 54 (0,0)):=N9 h1 2 cc';exact N9 h2 3 dd'
 ·have:=(Rep.lt diskR ho _ ha).1
  simp at hm;omega
 ·have:=(Rep.lt diskR ho _ hm).1
  omega
theorem SB.cells {a b cc dd : Value} (h : SB w0 S [a,b,cc,dd] x j W) : W.cell? ⟨S,0,none⟩ = some a∧W.cell? ⟨S,1,none⟩ = some b∧W.cell? ⟨S,2,none⟩ = some cc∧W.cell? ⟨S,3,none⟩ = some dd:=
 ⟨E9 h.box 0,E9 h.box 1,E9 h.box 2,E9 h.box 3⟩
theorem SB.frz (h : SB w0 S cs x j W) (i : Nat) : W.frozen? ⟨S,i,none⟩ = false:=C9 h.box i
end
def Hq9 (d : Disk) (j : Jour) : Option Jour:=if d.down = true then none else some j
theorem N7 {d : Disk} (j : Jour) (h : d.down = false) : Hq9 d j = some j:=by unfold Hq9;rw [h];rfl
theorem Au9 {d : Disk} (j : Jour) (h : d.down = true) : Hq9 d j = none:=if_pos h
def RetS (w0 w : World) (S : Nat) (x : Disk) (oj : Option Jour) (e : Ending) (w' : World) : Prop:=
 Rep.Only w w' [S]∧∃ cs j,SB w0 S cs x j w'∧((oj = some j∧e = .returned (.tuple #[])) ∨ (oj = none∧e = .panicked panC))
set_option maxRecDepth 2000000 in
theorem Rc9 (w0 : World) (S : Nat) (cs : List Value) (x : Disk) (j : Jour) (n : Int) (A5 : Option Addr) (c5 : Nat) (bs : List UInt8) (w : World) (h : SB w0 S cs x j w) (hf : Ag9 x) (hn : (Lit.int .i64 n).wf = true) (hbr : byR.at_ w w.heap.size [.slice A5 bs.length c5] bs) (hfb : Sh9 bs) :
 Calls Tryz.prog 91 #[.pointer (some ⟨S,0,none⟩),.int .i64 n,.slice A5 bs.length c5] w (RetS w0 w S (U9 x n bs) (Hq9 (U9 x n bs) j)):=by
 obtain ⟨A,c,B,e,rfl⟩:=h.shape;obtain ⟨z0,z1,z2,z3⟩:=h.cells;obtain ⟨y,hy⟩ : ∃ y,U9 x n bs = y:=⟨_,rfl⟩;rw [hy];have HY:=Lib.hid hy;clear hy;go_enter Tryz.func91,Tryz.ntmps91
 go_wp2_with fail;refine (La9 [.slice A x.secs.length c,.slice B x.cache.length e,.int .i64 x.fuse,.bool x.down] x n [.slice A5 bs.length c5] bs w h.at hbr hf hn hfb).mono ?_;rw [HY.out];clear hbr z0 z1 z2 z3;rintro e1 W1 ⟨cs1,fp1,rfl,O1,hb⟩;obtain ⟨A1,c1,B1,f1,rfl⟩:=Q9 O1;have hS:=h.lt;have h2:=h.later hb;obtain ⟨z0,z1,z2,z3⟩:=h2.cells;have zf0:=h2.frz 0;have zf1:=h2.frz 1;have zf2:=h2.frz 2;have zf3:=h2.frz 3;have h3:=h2.putD O1 hS;have ho3:=(Rep.only_of_below hb).mono (fp':=[S]) (by simp) |>.trans (Aa9 W1 S (.slice A1 y.secs.length c1) (.slice B1 y.cache.length f1) (.int .i64 y.fuse) (.bool y.down))
 clear h h2 O1 hb;go_upto_region 1 with (fail)
 generalize ((((W1.setCell ⟨S,0,none⟩ (.slice A1 y.secs.length c1)).setCell ⟨S,1,none⟩ (.slice B1 y.cache.length f1)).setCell ⟨S,2,none⟩ (.int .i64 y.fuse)).setCell ⟨S,3,none⟩ (.bool y.down)) = W2 at h3 ho3 ⊢;clear z0 z1 z2 z3 zf0 zf1 zf2 zf3;obtain ⟨z0,z1,z2,z3⟩:=h3.cells;obtain ⟨dn,hdn⟩ : ∃ b,y.down = b:=⟨_,rfl⟩;have HDN:=Lib.hid hdn;rw [hdn] at z3;clear hdn;cases dn
 ·go_wp2_with fail
  refine (Pc9 _ W2).mono ?_;rintro e2 W3 ⟨rfl,rfl⟩;go_wp2_with fail;go_end0;exact ⟨ho3,_,j,h3,.inl ⟨N7 j HDN.out,rfl⟩⟩
 ·go_wp2_with fail
  refine (Th9 _ W2).mono ?_;rintro e2 W3 ⟨rfl,rfl⟩;go_wp2_with fail;exact ⟨rfl,ho3,_,j,h3,.inr ⟨Au9 j HDN.out,rfl⟩⟩
set_option maxRecDepth 2000000 in
theorem Ld9 (w0 : World) (S : Nat) (cs : List Value) (x : Disk) (j : Jour) (w : World) (h : SB w0 S cs x j w) (hf : Ag9 x) :
 Calls Tryz.prog 57 #[.pointer (some ⟨S,0,none⟩)] w (RetS w0 w S (S9 x) (Hq9 (S9 x) j)):=by
 obtain ⟨A,c,B,e,rfl⟩:=h.shape;obtain ⟨z0,z1,z2,z3⟩:=h.cells;obtain ⟨y,hy⟩ : ∃ y,S9 x = y:=⟨_,rfl⟩;rw [hy];have HY:=Lib.hid hy;clear hy;go_enter Tryz.func57,Tryz.ntmps57
 go_wp2_with fail;refine (Le9 [.slice A x.secs.length c,.slice B x.cache.length e,.int .i64 x.fuse,.bool x.down] x w h.at hf).mono ?_;rw [HY.out];clear z0 z1 z2 z3;rintro e1 W1 ⟨cs1,fp1,rfl,O1,hb⟩;obtain ⟨A1,c1,B1,f1,rfl⟩:=Q9 O1;have hS:=h.lt;have h2:=h.later hb;obtain ⟨z0,z1,z2,z3⟩:=h2.cells;have zf0:=h2.frz 0;have zf1:=h2.frz 1;have zf2:=h2.frz 2;have zf3:=h2.frz 3;have h3:=h2.putD O1 hS;have ho3:=(Rep.only_of_below hb).mono (fp':=[S]) (by simp) |>.trans (Aa9 W1 S (.slice A1 y.secs.length c1) (.slice B1 y.cache.length f1) (.int .i64 y.fuse) (.bool y.down))
 clear h h2 O1 hb;go_upto_region 1 with (fail)
 generalize ((((W1.setCell ⟨S,0,none⟩ (.slice A1 y.secs.length c1)).setCell ⟨S,1,none⟩ (.slice B1 y.cache.length f1)).setCell ⟨S,2,none⟩ (.int .i64 y.fuse)).setCell ⟨S,3,none⟩ (.bool y.down)) = W2 at h3 ho3 ⊢;clear z0 z1 z2 z3 zf0 zf1 zf2 zf3;obtain ⟨z0,z1,z2,z3⟩:=h3.cells;obtain ⟨dn,hdn⟩ : ∃ b,y.down = b:=⟨_,rfl⟩;have HDN:=Lib.hid hdn;rw [hdn] at z3;clear hdn;cases dn
 ·go_wp2_with fail
  refine (Pc9 _ W2).mono ?_;rintro e2 W3 ⟨rfl,rfl⟩;go_wp2_with fail;go_end0;exact ⟨ho3,_,j,h3,.inl ⟨N7 j HDN.out,rfl⟩⟩
 ·go_wp2_with fail
  refine (Th9 _ W2).mono ?_;rintro e2 W3 ⟨rfl,rfl⟩;go_wp2_with fail;exact ⟨rfl,ho3,_,j,h3,.inr ⟨Au9 j HDN.out,rfl⟩⟩
theorem Z7 {w : World} {S t : Nat} {a b cc dd : Value} {j : Jour} (h : w.heap[S]? = some (.cells ([a,b,cc,dd] ++ Y7 j).toArray t (0,0))) :
 w.cell? ⟨S,4,none⟩ = some (.int .i64 j.k.gen)∧w.cell? ⟨S,5,none⟩ = some (.string j.k.text)∧w.cell? ⟨S,6,none⟩ = some (.int .i64 j.k.pGen)∧w.cell? ⟨S,7,none⟩ = some (.string j.k.pText)∧w.cell? ⟨S,8,none⟩ = some (.int .i64 j.k.epoch)∧w.cell? ⟨S,9,none⟩ = some (.int .i64 j.k.owner)∧w.cell? ⟨S,10,none⟩ = some (.int .i64 j.g)∧w.cell? ⟨S,11,none⟩ = some (.int .i64 j.place):=
 ⟨E9 h 4,E9 h 5,E9 h 6,E9 h 7,E9 h 8,E9 h 9,E9 h 10,E9 h 11⟩
theorem LexW.nilP {P : Program} {ops : Array Oper} {Q : Exit→Act→World→Prop} {S : World→Prop} {z : Nat} {a : Act} {w : World} (h : Q .normal a w) : LexW P ops Q S z [] a w:=h
theorem RetS.cases {w0 w w' : World} {S : Nat} {x : Disk} {oj : Option Jour} {e : Ending} (h : RetS w0 w S x oj e w') : Rep.Only w w' [S]∧((∃ cs j,oj = some j∧e = .returned (.tuple #[])∧SB w0 S cs x j w') ∨ (∃ cs j,oj = none∧e = .panicked panC∧SB w0 S cs x j w')):=by
 obtain ⟨h1,cs,j,h2,h3⟩:=h;refine ⟨h1,?_⟩;rcases h3 with ⟨h3,h4⟩ | ⟨h3,h4⟩
 ·exact .inl ⟨cs,j,h3,h4,h2⟩
 ·exact .inr ⟨cs,j,h3,h4,h2⟩
set_option maxRecDepth 2000000 in
theorem Sz9 (w0 : World) (S : Nat) (cs : List Value) (x : Disk) (j : Jour) (r : Rec) (w : World) (h : SB w0 S cs x j w) (hf : Ag9 x) (hg : Given w0) (hg0 : 1 ≤ j.g∧j.g ≤ 60000) (hp0 : 0 ≤ j.place∧j.place ≤ 17) (hs : r.text.size ≤ 1048576) :
 Calls Tryz.prog 56 #[.pointer (some ⟨S,0,none⟩),.agg (M8 r).toArray] w (RetS w0 w S (U9 x (atP j.g j.place) (Ah9 j.g j.place r)) (Hq9 (U9 x (atP j.g j.place) (Ah9 j.g j.place r)) ⟨j.k,j.g,j.place + 1⟩)):=by
 obtain ⟨A,c,B,e,rfl⟩:=h.shape;obtain ⟨k,g,p⟩:=j;obtain ⟨rk,rn,ro,rt⟩:=r;replace hg0 : 1 ≤ g∧g ≤ 60000:=hg0;replace hp0 : 0 ≤ p∧p ≤ 17:=hp0;have hpl:=Ex9 g p ⟨rk,rn,ro,rt⟩;show Calls Tryz.prog 56 #[.pointer (some ⟨S,0,none⟩),.agg #[.int .i64 rk,.int .i64 rn,.int .i64 ro,.string rt]] w (RetS w0 w S (U9 x (atP g p) (Ah9 g p ⟨rk,rn,ro,rt⟩)) (Hq9 (U9 x (atP g p) (Ah9 g p ⟨rk,rn,ro,rt⟩)) ⟨k,g,p + 1⟩))
 obtain ⟨l3,hl3⟩ : ∃ l,Ah9 g p ⟨rk,rn,ro,rt⟩ = l:=⟨_,rfl⟩;rw [hl3] at hpl ⊢;have HL3:=Lib.hid hl3;obtain ⟨y,hy⟩ : ∃ y,U9 x (atP g p) l3 = y:=⟨_,rfl⟩;rw [hy];have HY:=Lib.hid hy;have hSl:=h.lt;have P : All (fun w' => SB w0 S [.slice A x.secs.length c,.slice B x.cache.length e,.int .i64 x.fuse,.bool x.down] x ⟨k,g,p⟩ w'∧Rep.Only w w' [S]∧w'.heap[w.heap.size]? = some (.cells (M8 ⟨rk,rn,ro,rt⟩).toArray 29 (0,0))) (w.alloc (.cells #[.int .i64 rk,.int .i64 rn,.int .i64 ro,.string rt] 29)):=
  ⟨h.later (Later.alloc w _),(Rep.only_alloc w _).mono (by simp),heap_alloc_new w _⟩
 clear h hy hl3;go_enter Tryz.func56,Tryz.ntmps56
 go_upto_region 1 with (fail)
 generalize w.alloc (.cells #[.int .i64 rk,.int .i64 rn,.int .i64 ro,.string rt] 29) = W1 at P ⊢;obtain ⟨P1,P2,P3⟩:=P.out;clear P;refine M9 100 [0,1,2,3,4,5,6,7,8,9] [10,11] (fun w' => w'.heap[S]? = some (.cells (([.slice A x.secs.length c,.slice B x.cache.length e,.int .i64 x.fuse,.bool x.down] : List Value) ++ Y7 ⟨k,g,p⟩).toArray 54 (0,0))) (by kernel_rfl) (by kernel_rfl) P1.box ?_
 replace P1:=P1.later (Later.drew W1);replace P2:=P2.trans ((Rep.only_drew W1).mono (fp':=[S]) (by simp))
 replace P3:=((Later.drew W1).block _ (Array.getElem?_eq_some_iff.1 P3).1).trans P3;iterate 10 (refine LexR.cons rfl ?_ (fun w' hw => ?_) ?_;rotate_left;focus (obtain ⟨_,_,_,_,_,_,c10,c11⟩:=Z7 (j:=⟨k,g,p⟩) hw;clear hw;go_simp;(try exact rfl));(try go_frame))
 refine LexR.nil (LexW.cons rfl ?_);try go_frame
 generalize W1.drew = W2 at P1 P2 P3 ⊢;go_wp2_with fail;refine ⟨by first | exact P1.box | exact fun _ => P1.box,LexW.cons rfl ?_⟩
 try go_frame
 go_wp2_with fail;refine ⟨by first | exact P1.box | exact fun _ => P1.box,LexW.nil ?_⟩
 go_wp2_with fail;refine Gp9 100 [0,1,2,4,5,6] [3,7,8] (fun w' => w'.heap[w.heap.size]? = some (.cells (M8 ⟨rk,rn,ro,rt⟩).toArray 29 (0,0))) (by kernel_rfl) (by kernel_rfl) (by intro c a d v w h;cases d <;> exact h) P3 ?_
 replace P1:=P1.later (Later.drew W2);replace P2:=P2.trans ((Rep.only_drew W2).mono (fp':=[S]) (by simp))
 replace P3:=((Later.drew W2).block _ (Array.getElem?_eq_some_iff.1 P3).1).trans P3;iterate 6 (refine LexR.cons rfl ?_ (fun w' hw => ?_) ?_;rotate_left;focus (obtain ⟨e0,e1,e2,e3⟩:=J9 (r:=⟨rk,rn,ro,rt⟩) hw;clear hw;go_simp;(try exact rfl));(try go_frame))
 refine LexR.nil (LexW.cons rfl ?_);try go_frame
 generalize W2.drew = W3 at P1 P2 P3 ⊢;go_wp2_with fail;refine (Kb9 g p W3 (by omega) (by omega)).mono ?_
 rintro e1 V1 ⟨rfl,rfl⟩;go_wp2_with fail;refine ⟨by first | exact P3 | exact fun _ => P3,LexW.cons rfl ?_⟩
 try go_frame
 go_wp2_with fail;refine (Rh9 g p ⟨rk,rn,ro,rt⟩ W3 (P1.given hg) hs).mono ?_;rw [HL3.out];rintro e3 V2 ⟨v2,rfl,o2,hb⟩;obtain ⟨A5,c5,rfl,hk5,hm5,r5,_⟩:=o2.shape;replace P1:=P1.later hb;replace P2:=P2.trans ((Rep.only_of_below hb).mono (fp':=[S]) (by simp))
 replace P3:=(hb.block _ (Array.getElem?_eq_some_iff.1 P3).1).trans P3;clear hb o2;go_wp2_with fail;refine ⟨by first | exact P3 | exact fun _ => P3,LexW.cons rfl ?_⟩
 try go_frame
 go_wp2_with fail;refine (Rc9 w0 S _ x ⟨k,g,p⟩ (atP g p) A5 c5 l3 V2 P1 hf (Ie9 (by omega) (by omega) (by omega) (by omega)) ⟨A5,c5,rfl,⟨hk5,hm5⟩,r5⟩ (by show l3.length ≤ 1048576;omega)).mono ?_
 rw [HY.out];rintro e4 V3 hret;obtain ⟨ho,hc⟩:=hret.cases;have P3':=(ho.block _ (Array.getElem?_eq_some_iff.1 P3).1 (by simp;omega)).trans P3
 replace P2:=P2.trans ho;clear hret ho P1 P3 r5;rcases hc with ⟨cs2,j2,hoj,rfl,Q⟩ | ⟨cs2,j2,hoj,rfl,Q⟩
 ·have hdn : y.down = false:=by cases hd : y.down with | false => rfl | true => rw [Au9 _ hd] at hoj;cases hoj
  rw [N7 _ hdn] at hoj;injection hoj with hoj;subst hoj;have HDN:=Lib.hid hdn;obtain ⟨A6,c6,B6,e6,rfl⟩:=Q.shape;clear hdn;go_wp2_with fail;refine ⟨by first | exact P3' | exact fun _ => P3',LexW.nilP ?_⟩
  obtain ⟨_,_,_,_,_,_,c10,c11⟩:=Z7 (j:=⟨k,g,p⟩) Q.box;have zf:=Q.frz 11;have Q2:=Q.put (j':=⟨k,g,p + 1⟩) (Rep.Only.setCell V3 (p:=⟨S,11,none⟩) (by simp) (.int .i64 (p + 1))) (N9 Q.box 11 (.int .i64 (p + 1)))
  have P4:=P2.trans (Rep.Only.setCell V3 (fp:=[S]) (p:=⟨S,11,none⟩) (by simp) (.int .i64 (p + 1)))
  clear P2 P3' Q;go_wp2_with fail;go_end0;exact ⟨P4,_,_,Q2,.inl ⟨N7 _ HDN.out,rfl⟩⟩
 ·have hdn : y.down = true:=by cases hd : y.down with | true => rfl | false => rw [N7 _ hd] at hoj;cases hoj
  have HDN:=Lib.hid hdn;clear hdn;go_wp2_with fail;exact ⟨rfl,P2,_,_,Q,.inr ⟨Au9 _ HDN.out,rfl⟩⟩
theorem Hd9 (p : Value) (b : Bool) (w : World) : Calls Tryz.prog 54 #[p,.bool b] w fun e w' => w = w'∧((b = true∧e = .returned (.tuple #[])) ∨ (b = false∧e = .panicked panC)):=by
 cases b
 ·exact (Th9 p w).mono fun e w' h => ⟨h.2,.inr ⟨rfl,h.1⟩⟩
 ·exact (Pc9 p w).mono fun e w' h => ⟨h.2,.inl ⟨rfl,h.1⟩⟩
theorem Kz9 {d : Disk} (h : d.down = true) (s : Int) (b : List UInt8) : U9 d s b = d:=Ai9 (fun h9 => by have:=h9.2.1;rw [h] at this;cases this)
theorem Jd9 {d : Disk} (h : d.down = true) : S9 d = d:=Bp9 (fun h9 => by have:=h9.2;rw [h] at this;cases this)
theorem Df8 {d : Disk} {g : Int} {xs : List Rec} {i : Nat} (h : (S7 d g xs i).down = true) : ∀ n,S7 d g xs (i + n) = S7 d g xs i:=by
 intro n;induction n with
 | zero => rfl
 | succ n ih =>
   rcases hx : xs[i + n]? with _ | r
   ·show (match xs[i + n]? with | some r => _ | none => _) = _
    rw [hx];exact ih
   ·rw [← Nat.add_assoc,He9 hx,ih,Kz9 h]
theorem layP_dn {d : Disk} {j : Jour} {i : Nat} (hi : i ≤ (V9 j.k).length) (h : (S7 d (j.g + 1) (V9 j.k) i).down = true) : Ct9 d j = S7 d (j.g + 1) (V9 j.k) i:=by
 have e:=Df8 h ((V9 j.k).length - i);rw [show i + ((V9 j.k).length - i) = (V9 j.k).length by omega] at e
 unfold Ct9;rw [e,Jd9 h,Kz9 h,Jd9 h]
theorem Dh8 {d : Disk} {j : Jour} (h : (S9 (S7 d (j.g + 1) (V9 j.k) (V9 j.k).length)).down = true) : Ct9 d j = S9 (S7 d (j.g + 1) (V9 j.k) (V9 j.k).length):=by
 unfold Ct9;rw [Kz9 h,Jd9 h]
theorem Dg8 {d : Disk} {j : Jour} (h : (U9 (S9 (S7 d (j.g + 1) (V9 j.k) (V9 j.k).length)) ((j.g + 1) % 2) (Af9 (j.g + 1) ((V9 j.k).length : Int))).down = true) : Ct9 d j = U9 (S9 (S7 d (j.g + 1) (V9 j.k) (V9 j.k).length)) ((j.g + 1) % 2) (Af9 (j.g + 1) ((V9 j.k).length : Int)):=by
 unfold Ct9;rw [Jd9 h]
structure SG (w0 w : World) (S : Nat) (A : Option Addr) (c : Nat) (xs : List Rec) (cs : List Value) (x : Disk) (j : Jour) (W : World) : Prop where
 sb : SB w0 S cs x j W
 only : Rep.Only w W [S]
 recs : W.ownsRow w.heap.size 29 4 (.slice A xs.length c) xs.length (Ac9 xs)
section
variable {w0 w W W' : World} {S : Nat} {A : Option Addr} {c : Nat} {xs : List Rec} {cs cs' : List Value} {x x' : Disk} {j j' : Jour}
theorem SG.step (h : SG w0 w S A c xs cs x j W) (ho : Rep.Only W W' [S]) (hs : SB w0 S cs' x' j' W') (hS : S < w.heap.size) : SG w0 w S A c xs cs' x' j' W':=
 ⟨hs,h.only.trans ho,Rep.ownsRow_block h.recs (fun k hk => ho.block k (h.recs.lt k (by simpa using hk)).2 (by have:=(h.recs.lt k (by simpa using hk)).1;simp;omega))⟩
theorem SG.later (h : SG w0 w S A c xs cs x j W) (hb : Below W.heap.size W W') (hS : S < w.heap.size) : SG w0 w S A c xs cs x j W':=h.step ((Rep.only_of_below hb).mono (by simp)) (h.sb.later hb) hS
end
set_option maxRecDepth 2000000 in
theorem Qu9 (w0 : World) (S : Nat) (cs : List Value) (x : Disk) (j : Jour) (w : World) (h : SB w0 S cs x j w) (hg0 : j.g = 60000) :
 Calls Tryz.prog 55 #[.pointer (some ⟨S,0,none⟩)] w (RetS w0 w S x none):=by
 obtain ⟨A,c,B,e,rfl⟩:=h.shape;obtain ⟨k,g,p⟩:=j;replace hg0 : g = 60000:=hg0;subst hg0;obtain ⟨_,_,_,_,_,_,c10,c11⟩:=Z7 (j:=⟨k,60000,p⟩) h.box;go_enter Tryz.func55,Tryz.ntmps55
 go_wp2_with fail;refine (Hd9 _ _ w).mono ?_;rintro e1 W1 ⟨rfl,hc⟩;rcases hc with ⟨hc,rfl⟩ | ⟨hc,rfl⟩
 ·simp at hc
 ·clear hc
  go_wp2_with fail;exact ⟨rfl,Rep.Only.refl _ _,_,_,h,.inr ⟨rfl,rfl⟩⟩
set_option maxRecDepth 2000000 in
theorem Sp9 (w0 : World) (S : Nat) (cs : List Value) (x : Disk) (j : Jour) (w : World) (h : SB w0 S cs x j w) (hf : Ag9 x) (hg : Given w0) (hg0 : 0 ≤ j.g∧j.g ≤ 59999) (hrs : ∀ r,r ∈ V9 j.k→r.text.size ≤ 1048576) :
 Calls Tryz.prog 55 #[.pointer (some ⟨S,0,none⟩)] w (RetS w0 w S (Ct9 x j) (Hq9 (Ct9 x j) ⟨j.k,j.g + 1,((V9 j.k).length : Int)⟩)):=by
 obtain ⟨A,c,B,e,rfl⟩:=h.shape;obtain ⟨⟨ka,kb,kp,kq,ke,kf⟩,g,p⟩:=j;obtain ⟨hg1,hg2⟩:=hg0;replace hg1 : 0 ≤ g:=hg1;replace hg2 : g ≤ 59999:=hg2;have hSw:=h.lt;obtain ⟨y,hy⟩ : ∃ y,Ct9 x ⟨⟨ka,kb,kp,kq,ke,kf⟩,g,p⟩ = y:=⟨_,rfl⟩;obtain ⟨xs,hxs⟩ : ∃ xs,V9 ⟨ka,kb,kp,kq,ke,kf⟩ = xs:=⟨_,rfl⟩;have hxl : xs.length ≤ 4:=by rw [← hxs];exact Ca9 _
 have HSM:=Lib.hid (show ∀ r,r ∈ xs→r.text.size ≤ 1048576 by rw [← hxs];exact hrs)
 have HL1:=Lib.hid (show ∀ i,i ≤ xs.length→(S7 x (g + 1) xs i).down = true→y = S7 x (g + 1) xs i by
  intro i hi hd;rw [← hy];rw [← hxs] at hi hd ⊢;exact layP_dn (j:=⟨⟨ka,kb,kp,kq,ke,kf⟩,g,p⟩) hi hd)
 have HL2:=Lib.hid (show (S9 (S7 x (g + 1) xs xs.length)).down = true→y = S9 (S7 x (g + 1) xs xs.length) by
  intro hd;rw [← hy];rw [← hxs] at hd ⊢;exact Dh8 (j:=⟨⟨ka,kb,kp,kq,ke,kf⟩,g,p⟩) hd)
 have HL3:=Lib.hid (show (U9 (S9 (S7 x (g + 1) xs xs.length)) ((g + 1) % 2) (Af9 (g + 1) (xs.length : Int))).down = true→y = U9 (S9 (S7 x (g + 1) xs xs.length)) ((g + 1) % 2) (Af9 (g + 1) (xs.length : Int)) by
  intro hd;rw [← hy];rw [← hxs] at hd ⊢;exact Dg8 (j:=⟨⟨ka,kb,kp,kq,ke,kf⟩,g,p⟩) hd)
 have HL4:=Lib.hid (show y = S9 (U9 (S9 (S7 x (g + 1) xs xs.length)) ((g + 1) % 2) (Af9 (g + 1) (xs.length : Int))) by
  rw [← hy,← hxs];rfl)
 show Calls Tryz.prog 55 #[.pointer (some ⟨S,0,none⟩)] w (RetS w0 w S (Ct9 x ⟨⟨ka,kb,kp,kq,ke,kf⟩,g,p⟩) (Hq9 (Ct9 x ⟨⟨ka,kb,kp,kq,ke,kf⟩,g,p⟩) ⟨⟨ka,kb,kp,kq,ke,kf⟩,g + 1,((V9 ⟨ka,kb,kp,kq,ke,kf⟩).length : Int)⟩))
 rw [hy,hxs];have HXS:=Lib.hid hxs;clear hy hxs hrs;obtain ⟨_,_,_,_,_,_,c10,c11⟩:=Z7 (j:=⟨⟨ka,kb,kp,kq,ke,kf⟩,g,p⟩) h.box;go_enter Tryz.func55,Tryz.ntmps55
 go_wp2_with fail;refine (Hd9 _ _ w).mono ?_;rintro e1 W1 ⟨rfl,hc⟩;rcases hc with ⟨hc,rfl⟩ | ⟨hc,rfl⟩
 rotate_left
 ·exfalso
  simp at hc;omega
 clear hc;have zf10:=h.frz 10;have zf11:=h.frz 11;have h1:=h.put (j':=⟨⟨ka,kb,kp,kq,ke,kf⟩,g + 1,p⟩) (Rep.Only.setCell w (p:=⟨S,10,none⟩) (by simp) (.int .i64 (g + 1))) (N9 h.box 10 (.int .i64 (g + 1)))
 have h2:=h1.put (j':=⟨⟨ka,kb,kp,kq,ke,kf⟩,g + 1,0⟩) (Rep.Only.setCell _ (p:=⟨S,11,none⟩) (by simp) (.int .i64 0)) (N9 h1.box 11 (.int .i64 0))
 have ho:=(Rep.Only.setCell w (fp:=[S]) (p:=⟨S,10,none⟩) (by simp) (.int .i64 (g + 1))).trans (Rep.Only.setCell _ (p:=⟨S,11,none⟩) (by simp) (.int .i64 0))
 clear h h1;go_upto_region 3 with (fail)
 generalize (w.setCell ⟨S,10,none⟩ (.int .i64 (g + 1))).setCell ⟨S,11,none⟩ (.int .i64 0) = W1 at h2 ho ⊢;clear c10 c11 zf10 zf11;obtain ⟨c4,c5,c6,c7,c8,c9,_,_⟩:=Z7 (j:=⟨⟨ka,kb,kp,kq,ke,kf⟩,g + 1,0⟩) h2.box;go_wp2_with fail;refine (Uu9 ⟨ka,kb,kp,kq,ke,kf⟩ W1).mono ?_;rw [HXS.out];clear c4 c5 c6 c7 c8 c9;rintro e1 W2 ⟨A1,c1,rfl,o1,hb⟩;have L : SG w0 w S A1 c1 xs [.slice A x.secs.length c,.slice B x.cache.length e,.int .i64 x.fuse,.bool x.down] x ⟨⟨ka,kb,kp,kq,ke,kf⟩,g + 1,0⟩ W2:=⟨h2.later hb,ho.trans ((Rep.only_of_below hb).mono (by simp)),ownsRow_mono o1 ho.size⟩
 clear h2 ho o1 hb;go_wp2_with fail;go_loopw [32] (fun i wr => ∃ (k : Nat) (cs : List Value),k ≤ xs.length∧i = .int .i64 k∧SG w0 w S A1 c1 xs cs (S7 x (g + 1) xs k) ⟨⟨ka,kb,kp,kq,ke,kf⟩,g + 1,k⟩ wr) (fun i _ => xs.length - (intOf i).toNat)
 case atStart => exact ⟨0,_,by omega,rfl,L⟩
 case round =>
  clear L;obtain ⟨k,cs,hk,rfl,L⟩:=hrel;by_cases hlt : k < xs.length
  ·obtain ⟨bb,off,⟨rk,rn,ro,rt⟩,rfl,hbl,hx,c0,c1',c2,c3⟩:=Re9 (Reads.of_own L.recs) hlt
   have HX:=Lib.hid hx;have HSZ:=Lib.hid (show rt.size ≤ 1048576 from HSM.out _ (List.mem_of_getElem? hx))
   clear hx;have i1 : (0 : Int) ≤ (k : Int):=by omega
   have i2 : (k : Int) < (xs.length : Int):=by omega
   have HE:=heap_alloc_new wr (.cells #[.int .i64 rk,.int .i64 rn,.int .i64 ro,.string rt] 29);have L2:=L.later (Later.alloc wr (.cells #[.int .i64 rk,.int .i64 rn,.int .i64 ro,.string rt] 29)) hSw;go_upto_region 6 with (fail)
   clear c0 c1' c2 c3 hbl L;generalize wr.alloc (.cells #[.int .i64 rk,.int .i64 rn,.int .i64 ro,.string rt] 29) = W5 at HE L2 ⊢;generalize wr.heap.size = E at HE ⊢;obtain ⟨e0,e1,e2,e3⟩:=J9 (r:=⟨rk,rn,ro,rt⟩) HE;go_wp2_with fail;have hfits:=Fv9 hf (g + 1) xs k;refine (Sz9 w0 S cs (S7 x (g + 1) xs k) ⟨⟨ka,kb,kp,kq,ke,kf⟩,g + 1,k⟩ ⟨rk,rn,ro,rt⟩ W5 L2.sb hfits hg ⟨by show 1 ≤ g + 1;omega,by show g + 1 ≤ 60000;omega⟩ ⟨by show (0 : Int) ≤ (k : Int);omega,by show (k : Int) ≤ 17;omega⟩ HSZ.out).mono ?_
   rw [show U9 (S7 x (g + 1) xs k) (atP (Jour.g ⟨⟨ka,kb,kp,kq,ke,kf⟩,g + 1,(k : Int)⟩) (Jour.place ⟨⟨ka,kb,kp,kq,ke,kf⟩,g + 1,(k : Int)⟩)) (Ah9 (Jour.g ⟨⟨ka,kb,kp,kq,ke,kf⟩,g + 1,(k : Int)⟩) (Jour.place ⟨⟨ka,kb,kp,kq,ke,kf⟩,g + 1,(k : Int)⟩) ⟨rk,rn,ro,rt⟩) = S7 x (g + 1) xs (k + 1) from (He9 HX.out).symm]
   rintro e4 V3 hret;obtain ⟨ho,hc⟩:=hret.cases;clear hret hfits e0 e1 e2 e3 HE;rcases hc with ⟨cs2,j2,hoj,rfl,Q⟩ | ⟨cs2,j2,hoj,rfl,Q⟩
   ·have hdn : (S7 x (g + 1) xs (k + 1)).down = false:=by cases hd : (S7 x (g + 1) xs (k + 1)).down with | false => rfl | true => rw [Au9 _ hd] at hoj;cases hoj
    rw [N7 _ hdn] at hoj;injection hoj with hoj;subst hoj;have L3:=L2.step ho Q hSw;clear hdn Q ho L2;go_wp2_with fail;go_roundw
    case rel => exact ⟨k + 1,_,by omega,by go_num,L3⟩
    case measure => simp [intOf];omega
   ·have hdn : (S7 x (g + 1) xs (k + 1)).down = true:=by cases hd : (S7 x (g + 1) xs (k + 1)).down with | true => rfl | false => rw [N7 _ hd] at hoj;cases hoj
    have HQ:=Lib.hid (HL1.out (k + 1) (by omega) hdn)
    have HDN:=Lib.hid hdn;have ho2:=L2.only.trans ho;clear hdn hoj L2 ho;go_wp2_with fail;exact ⟨rfl,ho2,_,_,by rw [HQ.out];exact Q,.inr ⟨Au9 _ (by rw [HQ.out];exact HDN.out),rfl⟩⟩
  ·have he : k = xs.length:=by omega
   subst he;clear hlt hk;have HFL:=Lib.hid (Fv9 hf (g + 1) xs xs.length);go_wp2_with fail;refine (Ld9 w0 S cs (S7 x (g + 1) xs xs.length) _ wr L.sb HFL.out).mono ?_;obtain ⟨y1,hy1⟩ : ∃ y1,S9 (S7 x (g + 1) xs xs.length) = y1:=⟨_,rfl⟩;have HF1:=Lib.hid (show Ag9 y1 by rw [← hy1];exact Dm9 HFL.out)
   rw [hy1];have HY1:=Lib.hid hy1;clear hy1;rintro e4 V3 hret;obtain ⟨ho,hc⟩:=hret.cases;clear hret;rcases hc with ⟨cs2,j2,hoj,rfl,Q⟩ | ⟨cs2,j2,hoj,rfl,Q⟩
   rotate_left
   ·have hdn : y1.down = true:=by cases hd : y1.down with | true => rfl | false => rw [N7 _ hd] at hoj;cases hoj
    have HQ:=Lib.hid (show y = y1 by have:=HL2.out (by rw [HY1.out];exact hdn);rw [HY1.out] at this;exact this)
    have HDN:=Lib.hid hdn;have ho2:=L.only.trans ho;clear hdn hoj L ho;go_wp2_with fail;exact ⟨rfl,ho2,_,_,by rw [HQ.out];exact Q,.inr ⟨Au9 _ (by rw [HQ.out];exact HDN.out),rfl⟩⟩
   have hdn : y1.down = false:=by cases hd : y1.down with | false => rfl | true => rw [Au9 _ hd] at hoj;cases hoj
   rw [N7 _ hdn] at hoj;injection hoj with hoj;subst hoj;have L3:=L.step ho Q hSw;clear hdn Q ho L;obtain ⟨A2,c2,B2,e2,rfl⟩:=L3.sb.shape;go_wp2_with fail;have T : All (fun w' => SG w0 w S A1 c1 xs [.slice A2 y1.secs.length c2,.slice B2 y1.cache.length e2,.int .i64 y1.fuse,.bool y1.down] y1 ⟨⟨ka,kb,kp,kq,ke,kf⟩,g + 1,xs.length⟩ w') V3:=⟨L3⟩
   clear L3;refine Gp9 100 [0,1,2,3,4,5,7,8,9,10,11,12,13,14,15,16] [6,17,18] (fun w' => w'.cell? ⟨S,10,none⟩ = some (.int .i64 (g + 1))∧w'.cell? ⟨S,11,none⟩ = some (.int .i64 (xs.length : Int))) (by kernel_rfl) (by kernel_rfl) (by intro c a d v w h;cases d <;> exact h) ⟨(Z7 T.out.sb.box).2.2.2.2.2.2.1,(Z7 T.out.sb.box).2.2.2.2.2.2.2⟩ ?_
   have T2 : All (fun w' => SG w0 w S A1 c1 xs [.slice A2 y1.secs.length c2,.slice B2 y1.cache.length e2,.int .i64 y1.fuse,.bool y1.down] y1 ⟨⟨ka,kb,kp,kq,ke,kf⟩,g + 1,xs.length⟩ w') V3.drew:=⟨T.out.later (Later.drew V3) hSw⟩
   clear T;iterate 16 (refine LexR.cons rfl ?_ (fun w' hw => ?_) ?_;rotate_left;focus (obtain ⟨c10,c11⟩:=hw;go_simp;(try exact rfl));(try go_frame))
   refine LexR.nil (LexW.cons rfl ?_);try go_frame
   generalize V3.drew = V4 at T2 ⊢;go_wp2_with fail;refine (Iu9 (g + 1) V4 (by omega) (by omega)).mono ?_
   rintro e5 V5 ⟨rfl,rfl⟩;go_wp2_with fail;refine ⟨by first | exact ⟨(Z7 T2.out.sb.box).2.2.2.2.2.2.1,(Z7 T2.out.sb.box).2.2.2.2.2.2.2⟩ | exact fun _ => ⟨(Z7 T2.out.sb.box).2.2.2.2.2.2.1,(Z7 T2.out.sb.box).2.2.2.2.2.2.2⟩,LexW.cons rfl ?_⟩
   try go_frame
   go_wp2_with fail;have hhl:=Da9 (g + 1) (xs.length : Int);refine (Kn9 (g + 1) (xs.length : Int) V4).mono ?_;obtain ⟨l3,hl3⟩ : ∃ l,Af9 (g + 1) (xs.length : Int) = l:=⟨_,rfl⟩;rw [hl3] at hhl ⊢;have HLL:=Lib.hid hl3;clear hl3;rintro e3 V5 ⟨v2,rfl,o2,hb⟩;obtain ⟨A5,c5,rfl,hk5,hm5,r5,_⟩:=o2.shape;have T3 : All (fun w' => SG w0 w S A1 c1 xs [.slice A2 y1.secs.length c2,.slice B2 y1.cache.length e2,.int .i64 y1.fuse,.bool y1.down] y1 ⟨⟨ka,kb,kp,kq,ke,kf⟩,g + 1,xs.length⟩ w') V5:=⟨T2.out.later hb hSw⟩
   clear T2 hb o2;go_wp2_with fail;refine ⟨by first | exact ⟨(Z7 T3.out.sb.box).2.2.2.2.2.2.1,(Z7 T3.out.sb.box).2.2.2.2.2.2.2⟩ | exact fun _ => ⟨(Z7 T3.out.sb.box).2.2.2.2.2.2.1,(Z7 T3.out.sb.box).2.2.2.2.2.2.2⟩,LexW.cons rfl ?_⟩
   try go_frame
   go_wp2_with fail;refine (Rc9 w0 S _ y1 _ ((g + 1) % 2) A5 c5 l3 V5 T3.out.sb HF1.out (WalkArith.wf_i64 (by omega)) ⟨A5,c5,rfl,⟨hk5,hm5⟩,r5⟩ (by show l3.length ≤ 1048576;omega)).mono ?_
   obtain ⟨y2,hy2⟩ : ∃ y2,U9 y1 ((g + 1) % 2) l3 = y2:=⟨_,rfl⟩;have HF2:=Lib.hid (show Ag9 y2 by rw [← hy2];exact Ar9 HF1.out _ (by omega))
   rw [hy2];have HY2:=Lib.hid hy2;clear hy2 r5;rintro e4 V6 hret;obtain ⟨ho,hc⟩:=hret.cases;clear hret;rcases hc with ⟨cs3,j3,hoj,rfl,Q⟩ | ⟨cs3,j3,hoj,rfl,Q⟩
   rotate_left
   ·have hdn : y2.down = true:=by cases hd : y2.down with | true => rfl | false => rw [N7 _ hd] at hoj;cases hoj
    have HQ:=Lib.hid (show y = y2 by have:=HL3.out (by rw [HY1.out,HLL.out,HY2.out];exact hdn);rw [HY1.out,HLL.out,HY2.out] at this;exact this)
    have HDN:=Lib.hid hdn;have ho2:=T3.out.only.trans ho;clear hdn hoj T3 ho;go_wp2_with fail;exact ⟨rfl,ho2,_,_,by rw [HQ.out];exact Q,.inr ⟨Au9 _ (by rw [HQ.out];exact HDN.out),rfl⟩⟩
   have hdn : y2.down = false:=by cases hd : y2.down with | false => rfl | true => rw [Au9 _ hd] at hoj;cases hoj
   rw [N7 _ hdn] at hoj;injection hoj with hoj;subst hoj;have L4:=T3.out.step ho Q hSw;clear hdn Q ho T3;obtain ⟨A3,c3,B3,e3,rfl⟩:=L4.sb.shape;go_wp2_with fail;refine ⟨by first | exact ⟨(Z7 L4.sb.box).2.2.2.2.2.2.1,(Z7 L4.sb.box).2.2.2.2.2.2.2⟩ | exact fun _ => ⟨(Z7 L4.sb.box).2.2.2.2.2.2.1,(Z7 L4.sb.box).2.2.2.2.2.2.2⟩,LexW.nilP ?_⟩
   go_wp2_with fail;refine (Ld9 w0 S _ y2 _ V6 L4.sb HF2.out).mono ?_;rw [show S9 y2 = y by rw [← HY2.out,← HLL.out,← HY1.out];exact HL4.out.symm]
   rintro e4 V7 hret;obtain ⟨ho,hc⟩:=hret.cases;have ho2:=L4.only.trans ho;clear hret ho L4;rcases hc with ⟨cs4,j4,hoj,rfl,Q⟩ | ⟨cs4,j4,hoj,rfl,Q⟩
   ·have HOJ:=Lib.hid hoj
    clear hoj;go_wp2_with fail;go_end0;exact ⟨ho2,_,_,Q,.inl ⟨HOJ.out,rfl⟩⟩
   ·have hdn : y.down = true:=by cases hd : y.down with | true => rfl | false => rw [N7 _ hd] at hoj;cases hoj
    have HDN:=Lib.hid hdn;clear hoj hdn;go_wp2_with fail;exact ⟨rfl,ho2,_,_,Q,.inr ⟨Au9 _ HDN.out,rfl⟩⟩
theorem Xf9 {W : World} {S : Nat} {a b cc dd : Value} {j0 : Jour} (h : W.heap[S]? = some (.cells ([a,b,cc,dd] ++ Y7 j0).toArray 54 (0,0))) (ka : Int) (kb : ByteArray) (kp : Int) (kq : ByteArray) (ke kf g m : Int) : ((((((((W.setCell ⟨S,4,none⟩ (.int .i64 ka)).setCell ⟨S,5,none⟩ (.string kb)).setCell ⟨S,6,none⟩ (.int .i64 kp)).setCell ⟨S,7,none⟩ (.string kq)).setCell ⟨S,8,none⟩ (.int .i64 ke)).setCell ⟨S,9,none⟩ (.int .i64 kf)).setCell ⟨S,10,none⟩ (.int .i64 g)).setCell ⟨S,11,none⟩ (.int .i64 m)).heap[S]? = some (.cells ([a,b,cc,dd] ++ Y7 ⟨⟨ka,kb,kp,kq,ke,kf⟩,g,m⟩).toArray 54 (0,0)):=by
 obtain ⟨⟨a0,b0,p0,q0,e0,f0⟩,g0,m0⟩:=j0;have h0 : (W.setCell ⟨S,4,none⟩ (.int .i64 ka)).heap[S]? = some (.cells ([a,b,cc,dd] ++ Y7 ⟨⟨ka,b0,p0,q0,e0,f0⟩,g0,m0⟩).toArray 54 (0,0)):=N9 h 4 (.int .i64 ka);have h1 : ((W.setCell ⟨S,4,none⟩ (.int .i64 ka)).setCell ⟨S,5,none⟩ (.string kb)).heap[S]? = some (.cells ([a,b,cc,dd] ++ Y7 ⟨⟨ka,kb,p0,q0,e0,f0⟩,g0,m0⟩).toArray 54 (0,0)):=N9 h0 5 (.string kb);have h2 : (((W.setCell ⟨S,4,none⟩ (.int .i64 ka)).setCell ⟨S,5,none⟩ (.string kb)).setCell ⟨S,6,none⟩ (.int .i64 kp)).heap[S]? = some (.cells ([a,b,cc,dd] ++ Y7 ⟨⟨ka,kb,kp,q0,e0,f0⟩,g0,m0⟩).toArray 54 (0,0)):=N9 h1 6 (.int .i64 kp);have h3 : ((((W.setCell ⟨S,4,none⟩ (.int .i64 ka)).setCell ⟨S,5,none⟩ (.string kb)).setCell ⟨S,6,none⟩ (.int .i64 kp)).setCell ⟨S,7,none⟩ (.string kq)).heap[S]? = some (.cells ([a,b,cc,dd] ++ Y7 ⟨⟨ka,kb,kp,kq,e0,f0⟩,g0,m0⟩).toArray 54 (0,0)):=N9 h2 7 (.string kq);have h4 : (((((W.setCell ⟨S,4,none⟩ (.int .i64 ka)).setCell ⟨S,5,none⟩ (.string kb)).setCell ⟨S,6,none⟩ (.int .i64 kp)).setCell ⟨S,7,none⟩ (.string kq)).setCell ⟨S,8,none⟩ (.int .i64 ke)).heap[S]? = some (.cells ([a,b,cc,dd] ++ Y7 ⟨⟨ka,kb,kp,kq,ke,f0⟩,g0,m0⟩).toArray 54 (0,0)):=N9 h3 8 (.int .i64 ke);have h5 : ((((((W.setCell ⟨S,4,none⟩ (.int .i64 ka)).setCell ⟨S,5,none⟩ (.string kb)).setCell ⟨S,6,none⟩ (.int .i64 kp)).setCell ⟨S,7,none⟩ (.string kq)).setCell ⟨S,8,none⟩ (.int .i64 ke)).setCell ⟨S,9,none⟩ (.int .i64 kf)).heap[S]? = some (.cells ([a,b,cc,dd] ++ Y7 ⟨⟨ka,kb,kp,kq,ke,kf⟩,g0,m0⟩).toArray 54 (0,0)):=N9 h4 9 (.int .i64 kf);have h6 : (((((((W.setCell ⟨S,4,none⟩ (.int .i64 ka)).setCell ⟨S,5,none⟩ (.string kb)).setCell ⟨S,6,none⟩ (.int .i64 kp)).setCell ⟨S,7,none⟩ (.string kq)).setCell ⟨S,8,none⟩ (.int .i64 ke)).setCell ⟨S,9,none⟩ (.int .i64 kf)).setCell ⟨S,10,none⟩ (.int .i64 g)).heap[S]? = some (.cells ([a,b,cc,dd] ++ Y7 ⟨⟨ka,kb,kp,kq,ke,kf⟩,g,m0⟩).toArray 54 (0,0)):=N9 h5 10 (.int .i64 g);exact N9 h6 11 (.int .i64 m)
theorem Ip9 (W : World) (S : Nat) (ka : Int) (kb : ByteArray) (kp : Int) (kq : ByteArray) (ke kf g m : Int) : Rep.Only W ((((((((W.setCell ⟨S,4,none⟩ (.int .i64 ka)).setCell ⟨S,5,none⟩ (.string kb)).setCell ⟨S,6,none⟩ (.int .i64 kp)).setCell ⟨S,7,none⟩ (.string kq)).setCell ⟨S,8,none⟩ (.int .i64 ke)).setCell ⟨S,9,none⟩ (.int .i64 kf)).setCell ⟨S,10,none⟩ (.int .i64 g)).setCell ⟨S,11,none⟩ (.int .i64 m)) [S]:=
 ((((((((Rep.Only.setCell W (p:=⟨S,4,none⟩) (by simp) _).trans (Rep.Only.setCell _ (p:=⟨S,5,none⟩) (by simp) _)).trans (Rep.Only.setCell _ (p:=⟨S,6,none⟩) (by simp) _)).trans (Rep.Only.setCell _ (p:=⟨S,7,none⟩) (by simp) _)).trans (Rep.Only.setCell _ (p:=⟨S,8,none⟩) (by simp) _)).trans (Rep.Only.setCell _ (p:=⟨S,9,none⟩) (by simp) _)).trans (Rep.Only.setCell _ (p:=⟨S,10,none⟩) (by simp) _)).trans (Rep.Only.setCell _ (p:=⟨S,11,none⟩) (by simp) _))
structure NB (w0 w : World) (S R : Nat) (r : Rec) (cs : List Value) (x : Disk) (j : Jour) (W : World) : Prop where
 sb : SB w0 S cs x j W
 only : Rep.Only w W [S]
 rbox : W.heap[R]? = some (.cells (M8 r).toArray 29 (0,0))
 ne : R ≠ S
section
variable {w0 w W W' : World} {S R : Nat} {r : Rec} {cs cs' : List Value} {x x' : Disk} {j j' : Jour}
theorem NB.step (h : NB w0 w S R r cs x j W) (ho : Rep.Only W W' [S]) (hs : SB w0 S cs' x' j' W') : NB w0 w S R r cs' x' j' W':=
 ⟨hs,h.only.trans ho,(ho.block _ (Array.getElem?_eq_some_iff.1 h.rbox).1 (by simp;exact h.ne)).trans h.rbox,h.ne⟩
theorem NB.later (h : NB w0 w S R r cs x j W) (hb : Below W.heap.size W W') : NB w0 w S R r cs x j W':=h.step ((Rep.only_of_below hb).mono (by simp)) (h.sb.later hb)
end
def RetA (w0 w : World) (S : Nat) (p : Disk × Bool) (e : Ending) (w' : World) : Prop:=
 Rep.Only w w' [S]∧∃ cs j,SB w0 S cs p.1 j w'∧((p.2 = true∧e = .returned (.tuple #[])) ∨ (p.2 = false∧e = .panicked panC))
theorem Em8 {d : Disk} {j : Jour} {r : Rec} (h : d.down = true) : Ij9 d j r = (d,false):=by
 unfold Ij9 X8;rw [Kz9 h,Jd9 h,h];rfl
theorem Sf9 {d : Disk} {j : Jour} {r : Rec} (h : (U9 d (atP j.g j.place) (Ah9 j.g j.place r)).down = true) : Ij9 d j r = (U9 d (atP j.g j.place) (Ah9 j.g j.place r),false):=by
 unfold Ij9 X8;rw [Jd9 h,h];rfl
set_option maxRecDepth 2000000 in
theorem add_any (w0 : World) (S : Nat) (cs : List Value) (x : Disk) (j0 : Jour) (r : Rec) (w : World) (h : SB w0 S cs x j0 w) (hf : Ag9 x) (hg : Given w0) (hrs : r.text.size ≤ 1048576) :
 Calls Tryz.prog 20 #[.pointer (some ⟨S,0,none⟩),.agg (M8 r).toArray] w (RetA w0 w S (Ce9 x r)):=by
 obtain ⟨A,c,B,e,rfl⟩:=h.shape;obtain ⟨rk,rn,ro,rt⟩:=r;have HRS:=Lib.hid hrs;clear hrs;obtain ⟨Y,hY⟩ : ∃ Y,Ce9 x ⟨rk,rn,ro,rt⟩ = Y:=⟨_,rfl⟩;rw [hY];have HYY:=Lib.hid hY;clear hY;have N : NB w0 w S w.heap.size ⟨rk,rn,ro,rt⟩ [.slice A x.secs.length c,.slice B x.cache.length e,.int .i64 x.fuse,.bool x.down] x j0 (w.alloc (.cells #[.int .i64 rk,.int .i64 rn,.int .i64 ro,.string rt] 29)):=⟨h.later (Later.alloc w _),(Rep.only_alloc w _).mono (by simp),heap_alloc_new w _,by have:=h.lt;omega⟩
 clear h;show Calls Tryz.prog 20 #[.pointer (some ⟨S,0,none⟩),.agg #[.int .i64 rk,.int .i64 rn,.int .i64 ro,.string rt]] w _
 go_enter Tryz.func20,Tryz.ntmps20
 go_upto_region 1 with (fail)
 generalize w.alloc (.cells #[.int .i64 rk,.int .i64 rn,.int .i64 ro,.string rt] 29) = W1 at N ⊢;generalize w.heap.size = R at N ⊢;obtain ⟨d0,d1,d2,d3⟩:=N.sb.cells;go_wp2_with fail;refine (Eb9 [.slice A x.secs.length c,.slice B x.cache.length e,.int .i64 x.fuse,.bool x.down] x W1 N.sb.at hf (N.sb.given hg)).mono ?_;clear d0 d1 d2 d3;obtain ⟨⟨⟨⟨ja,jb,jp,jq,je,jf⟩,jg,jm⟩,ok⟩,hp⟩ : ∃ p,R7 x = p:=⟨_,rfl⟩;have hgd:=Eo9 x;rw [hp] at hgd ⊢;have HP:=Lib.hid hp;obtain ⟨hkg,⟨hg0,hg1⟩,hm0,hm1⟩:=hgd;replace hg0 : 0 ≤ jg:=hg0;replace hg1 : jg ≤ 60000:=hg1;replace hm0 : 0 ≤ jm:=hm0;replace hm1 : jm ≤ 18:=hm1;have HKG:=Lib.hid hkg;clear hp hkg;rintro e1 W2 hret;obtain ⟨rfl,hb⟩:=hret.lit8i;replace N:=N.later hb;clear hret hb;have HJ:=heap_alloc_new W2 (.cells #[.int .i64 ja,.string jb,.int .i64 jp,.string jq,.int .i64 je,.int .i64 jf,.int .i64 jg,.int .i64 jm] 37);have hJl : S < W2.heap.size:=N.sb.lt;have hJr : R < W2.heap.size:=(Array.getElem?_eq_some_iff.1 N.rbox).1;replace N:=N.later (Later.alloc W2 (.cells #[.int .i64 ja,.string jb,.int .i64 jp,.string jq,.int .i64 je,.int .i64 jf,.int .i64 jg,.int .i64 jm] 37));go_upto_region 2 with (fail)
 generalize W2.alloc (.cells #[.int .i64 ja,.string jb,.int .i64 jp,.string jq,.int .i64 je,.int .i64 jf,.int .i64 jg,.int .i64 jm] 37) = W3 at HJ N ⊢;generalize W2.heap.size = DJ at HJ hJl hJr ⊢;obtain ⟨j0',j1,j2,j3,j4,j5,j6,j7⟩:=G8 (r:=⟨⟨ja,jb,jp,jq,je,jf⟩,jg,jm⟩) HJ;obtain ⟨e0,e1,e2,e3⟩:=J9 (r:=⟨rk,rn,ro,rt⟩) N.rbox;go_wp2_with fail;have hsz:=Fu9 HKG.out;refine (Ky9 ⟨ja,jb,jp,jq,je,jf⟩ ⟨rk,rn,ro,rt⟩ W3 (N.sb.given hg) (Nat.le_trans hsz.1 (by decide)) (Nat.le_trans hsz.2 (by decide)) HRS.out).mono ?_
 clear hsz j0' j1 j2 j3 j4 j5 j6 j7 e0 e1 e2 e3;obtain ⟨⟨⟨na,nb,np,nq,ne,nf⟩,yes⟩,hap⟩ : ∃ p,K8 ⟨ja,jb,jp,jq,je,jf⟩ ⟨rk,rn,ro,rt⟩ = p:=⟨_,rfl⟩;rw [hap];have HAP:=Lib.hid hap;clear hap;rintro e2 W4 hret;obtain ⟨rfl,hb⟩:=hret.lit6;replace N:=N.later hb;replace HJ:=(hb.block _ (Array.getElem?_eq_some_iff.1 HJ).1).trans HJ;clear hret hb;have hDJ:=(Array.getElem?_eq_some_iff.1 HJ).1;replace N:=N.later (Later.alloc W4 (.cells #[.int .i64 na,.string nb,.int .i64 np,.string nq,.int .i64 ne,.int .i64 nf] 35));replace HJ:=((Later.alloc W4 (.cells #[.int .i64 na,.string nb,.int .i64 np,.string nq,.int .i64 ne,.int .i64 nf] 35)).block _ hDJ).trans HJ;go_upto_region 3 with (fail)
 generalize W4.alloc (.cells #[.int .i64 na,.string nb,.int .i64 np,.string nq,.int .i64 ne,.int .i64 nf] 35) = W5 at HJ N ⊢;generalize W4.heap.size = EK at hDJ ⊢;have HDJ:=Lib.hid hDJ;clear hDJ;by_cases hall : ok = true∧yes = true∧x.down = false
 rotate_left
 ·have HN:=Lib.hid (Md9 HP.out HAP.out hall)
  have HY2:=Lib.hid (show Y = (x,false) by rw [← HYY.out];exact HN.out)
  have hxx : (ok && (yes && !x.down)) = false := by
     cases ok <;> cases yes <;> cases hd : x.down <;> simp_all
  obtain ⟨_,_,_,d3⟩:=N.sb.cells;obtain ⟨dn,hdn⟩ : ∃ b,x.down = b:=⟨_,rfl⟩;rw [hdn] at d3 hxx;clear hdn HJ hall;cases ok
  ·go_wp2_with fail
   refine (Hd9 _ _ W5).mono ?_;rintro e3 W6 ⟨rfl,hc⟩;rcases hc with ⟨hc,rfl⟩ | ⟨hc,rfl⟩
   ·exfalso
    simp at hc
   clear hc;go_wp2_with fail;exact ⟨rfl,N.only,_,_,by rw [HY2.out];exact N.sb,.inr ⟨by rw [HY2.out],rfl⟩⟩
  ·cases yes
   ·go_wp2_with fail
    refine (Hd9 _ _ W5).mono ?_;rintro e3 W6 ⟨rfl,hc⟩;rcases hc with ⟨hc,rfl⟩ | ⟨hc,rfl⟩
    ·exfalso
     simp at hc
    clear hc;go_wp2_with fail;exact ⟨rfl,N.only,_,_,by rw [HY2.out];exact N.sb,.inr ⟨by rw [HY2.out],rfl⟩⟩
   ·cases dn
    ·cases hxx
    ·go_wp2_with fail
     refine (Hd9 _ _ W5).mono ?_;rintro e3 W6 ⟨rfl,hc⟩;rcases hc with ⟨hc,rfl⟩ | ⟨hc,rfl⟩
     ·exfalso
      simp at hc
     clear hc;go_wp2_with fail;exact ⟨rfl,N.only,_,_,by rw [HY2.out];exact N.sb,.inr ⟨by rw [HY2.out],rfl⟩⟩
 obtain ⟨rfl,rfl,hdx⟩:=hall;obtain ⟨_,_,_,d3⟩:=N.sb.cells;rw [hdx] at d3;have HDX:=Lib.hid hdx;clear hdx;go_wp2_with fail;refine (Hd9 _ _ W5).mono ?_;rintro e3 W6 ⟨rfl,hc⟩;rcases hc with ⟨hc,rfl⟩ | ⟨hc,rfl⟩
 rotate_left
 ·exfalso
  simp at hc
 clear hc d3;obtain ⟨j0',j1,j2,j3,j4,j5,j6,j7⟩:=G8 (r:=⟨⟨ja,jb,jp,jq,je,jf⟩,jg,jm⟩) HJ;have zf4:=N.sb.frz 4;have zf5:=N.sb.frz 5;have zf6:=N.sb.frz 6;have zf7:=N.sb.frz 7;have zf8:=N.sb.frz 8;have zf9:=N.sb.frz 9;have zf10:=N.sb.frz 10;have zf11:=N.sb.frz 11;obtain ⟨jk0,jg0,jm0⟩:=j0;obtain ⟨c4,c5,c6,c7,c8,c9,c10,c11⟩:=Z7 (j:=⟨jk0,jg0,jm0⟩) N.sb.box;have hSl:=N.sb.lt;have N2:=N.step (Ip9 W5 S ja jb jp jq je jf jg jm) (N.sb.put (Ip9 W5 S ja jb jp jq je jf jg jm) (Xf9 N.sb.box ja jb jp jq je jf jg jm));have HJ2:=((Ip9 W5 S ja jb jp jq je jf jg jm).block _ (Array.getElem?_eq_some_iff.1 HJ).1 (by simp;omega)).trans HJ
 clear N;go_upto_region 5 with (fail)
 clear j0' j1 j2 j3 j4 j5 j6 j7 zf4 zf5 zf6 zf7 zf8 zf9 zf10 zf11 c4 c5 c6 c7 c8 c9 c10 c11 HJ;generalize ((((((((W5.setCell ⟨S,4,none⟩ (.int .i64 ja)).setCell ⟨S,5,none⟩ (.string jb)).setCell ⟨S,6,none⟩ (.int .i64 jp)).setCell ⟨S,7,none⟩ (.string jq)).setCell ⟨S,8,none⟩ (.int .i64 je)).setCell ⟨S,9,none⟩ (.int .i64 jf)).setCell ⟨S,10,none⟩ (.int .i64 jg)).setCell ⟨S,11,none⟩ (.int .i64 jm)) = W7 at N2 HJ2 ⊢;obtain ⟨_,_,_,_,_,_,_,j7⟩:=G8 (r:=⟨⟨ja,jb,jp,jq,je,jf⟩,jg,jm⟩) HJ2;by_cases hm : jm = 18
 ·subst hm
  have hpos:=Mn9 HP.out;replace hpos : 0 < jg:=hpos;by_cases hgm : jg = 60000
  ·have HY2:=Lib.hid (show Y = (x,false) by rw [← HYY.out];exact Sg9 HP.out HAP.out HDX.out rfl hgm)
   go_wp2_with fail;refine (Qu9 w0 S _ x _ W7 N2.sb hgm).mono ?_;rintro e4 W8 hret;obtain ⟨ho,hc⟩:=hret.cases;have ho2:=N2.only.trans ho;clear hret ho N2 HJ2 j7;rcases hc with ⟨cs2,j2,hoj,rfl,Q⟩ | ⟨cs2,j2,hoj,rfl,Q⟩
   ·cases hoj
   ·go_wp2_with fail
    exact ⟨rfl,ho2,_,_,by rw [HY2.out];exact Q,.inr ⟨by rw [HY2.out],rfl⟩⟩
  ·have HY2:=Lib.hid (show Y = Ij9 (Ct9 x ⟨⟨ja,jb,jp,jq,je,jf⟩,jg,18⟩) ⟨⟨ja,jb,jp,jq,je,jf⟩,jg + 1,((V9 ⟨ja,jb,jp,jq,je,jf⟩).length : Int)⟩ ⟨rk,rn,ro,rt⟩ by rw [← HYY.out];exact Qr9 HP.out HAP.out HDX.out rfl hgm)
   have hrl:=Ca9 ⟨ja,jb,jp,jq,je,jf⟩;go_wp2_with fail;refine (Sp9 w0 S _ x ⟨⟨ja,jb,jp,jq,je,jf⟩,jg,18⟩ W7 N2.sb hf hg ⟨hg0,by show jg ≤ 59999;omega⟩ (fun r hr => by have:=Nd9 (Fu9 HKG.out) r hr;omega)).mono ?_
   obtain ⟨x2,hx2⟩ : ∃ x2,Ct9 x ⟨⟨ja,jb,jp,jq,je,jf⟩,jg,18⟩ = x2:=⟨_,rfl⟩;have HFX:=Lib.hid (show Ag9 x2 by rw [← hx2];exact Mt9 hf _)
   rw [hx2];have HX2:=Lib.hid hx2;clear hx2;rintro e4 W8 hret;obtain ⟨ho,hc⟩:=hret.cases;clear hret HJ2 j7;rcases hc with ⟨cs2,j2,hoj,rfl,Q⟩ | ⟨cs2,j2,hoj,rfl,Q⟩
   rotate_left
   ·have hdn : x2.down = true:=by cases hd : x2.down with | true => rfl | false => rw [N7 _ hd] at hoj;cases hoj
    have HQ:=Lib.hid (show Y = (x2,false) by rw [HY2.out,HX2.out];exact Em8 hdn)
    have ho2:=N2.only.trans ho;clear hdn hoj N2 ho;go_wp2_with fail;exact ⟨rfl,ho2,_,_,by rw [HQ.out];exact Q,.inr ⟨by rw [HQ.out],rfl⟩⟩
   have hdn : x2.down = false:=by cases hd : x2.down with | false => rfl | true => rw [Au9 _ hd] at hoj;cases hoj
   rw [N7 _ hdn] at hoj;injection hoj with hoj;subst hoj;have N3:=N2.step ho Q;clear hdn Q ho N2;obtain ⟨A2,c2,B2,f2,rfl⟩:=N3.sb.shape;obtain ⟨e0,e1,e2,e3⟩:=J9 (r:=⟨rk,rn,ro,rt⟩) N3.rbox;go_wp2_with fail;refine (Sz9 w0 S _ x2 ⟨⟨ja,jb,jp,jq,je,jf⟩,jg + 1,((V9 ⟨ja,jb,jp,jq,je,jf⟩).length : Int)⟩ ⟨rk,rn,ro,rt⟩ _ N3.sb HFX.out hg ⟨by show 1 ≤ jg + 1;omega,by show jg + 1 ≤ 60000;omega⟩ ⟨by show 0 ≤ ((V9 ⟨ja,jb,jp,jq,je,jf⟩).length : Int);omega,by show ((V9 ⟨ja,jb,jp,jq,je,jf⟩).length : Int) ≤ 17;omega⟩ HRS.out).mono ?_
   clear e0 e1 e2 e3;obtain ⟨x3,hx3⟩ : ∃ x3,U9 x2 (atP (Jour.g ⟨⟨ja,jb,jp,jq,je,jf⟩,jg + 1,((V9 ⟨ja,jb,jp,jq,je,jf⟩).length : Int)⟩) (Jour.place ⟨⟨ja,jb,jp,jq,je,jf⟩,jg + 1,((V9 ⟨ja,jb,jp,jq,je,jf⟩).length : Int)⟩)) (Ah9 (Jour.g ⟨⟨ja,jb,jp,jq,je,jf⟩,jg + 1,((V9 ⟨ja,jb,jp,jq,je,jf⟩).length : Int)⟩) (Jour.place ⟨⟨ja,jb,jp,jq,je,jf⟩,jg + 1,((V9 ⟨ja,jb,jp,jq,je,jf⟩).length : Int)⟩) ⟨rk,rn,ro,rt⟩) = x3:=⟨_,rfl⟩;have HF3:=Lib.hid (show Ag9 x3 by rw [← hx3];exact Ar9 HFX.out _ (by have:=Ex9 (Jour.g ⟨⟨ja,jb,jp,jq,je,jf⟩,jg + 1,((V9 ⟨ja,jb,jp,jq,je,jf⟩).length : Int)⟩) (Jour.place ⟨⟨ja,jb,jp,jq,je,jf⟩,jg + 1,((V9 ⟨ja,jb,jp,jq,je,jf⟩).length : Int)⟩) ⟨rk,rn,ro,rt⟩;omega))
   rw [hx3];have HX3:=Lib.hid hx3;clear hx3;rintro e6 W9 hret;obtain ⟨ho,hc⟩:=hret.cases;clear hret;rcases hc with ⟨cs3,j3,hoj,rfl,Q⟩ | ⟨cs3,j3,hoj,rfl,Q⟩
   rotate_left
   ·have hdn : x3.down = true:=by cases hd : x3.down with | true => rfl | false => rw [N7 _ hd] at hoj;cases hoj
    have HQ:=Lib.hid (show Y = (x3,false) by rw [HY2.out,HX2.out,← HX3.out];exact Sf9 (by rw [HX3.out];exact hdn))
    have ho2:=N3.only.trans ho;clear hdn hoj N3 ho;go_wp2_with fail;exact ⟨rfl,ho2,_,_,by rw [HQ.out];exact Q,.inr ⟨by rw [HQ.out],rfl⟩⟩
   have hdn : x3.down = false:=by cases hd : x3.down with | false => rfl | true => rw [Au9 _ hd] at hoj;cases hoj
   rw [N7 _ hdn] at hoj;injection hoj with hoj;subst hoj;have N4:=N3.step ho Q;clear hdn Q ho N3;go_wp2_with fail;refine (Ld9 w0 S _ x3 _ W9 N4.sb HF3.out).mono ?_;have HYZ:=Lib.hid (show Y = (S9 x3,!(S9 x3).down) by rw [HY2.out,HX2.out,← HX3.out];rfl)
   obtain ⟨x4,hx4⟩ : ∃ x4,S9 x3 = x4:=⟨_,rfl⟩;rw [hx4] at HYZ ⊢;clear hx4;rintro e7 W10 hret;obtain ⟨ho,hc⟩:=hret.cases;have ho2:=N4.only.trans ho;clear hret ho N4;rcases hc with ⟨cs4,j4,hoj,rfl,Q⟩ | ⟨cs4,j4,hoj,rfl,Q⟩
   ·have hdn : x4.down = false:=by cases hd : x4.down with | false => rfl | true => rw [Au9 _ hd] at hoj;cases hoj
    have HDN:=Lib.hid hdn;clear hoj hdn;go_wp2_with fail;go_end0;exact ⟨ho2,_,_,by rw [HYZ.out];exact Q,.inl ⟨by rw [HYZ.out];show (!x4.down) = true;rw [HDN.out];rfl,rfl⟩⟩
   ·have hdn : x4.down = true:=by cases hd : x4.down with | true => rfl | false => rw [N7 _ hd] at hoj;cases hoj
    have HDN:=Lib.hid hdn;clear hoj hdn;go_wp2_with fail;exact ⟨rfl,ho2,_,_,by rw [HYZ.out];exact Q,.inr ⟨by rw [HYZ.out];show (!x4.down) = false;rw [HDN.out];rfl,rfl⟩⟩
 ·have HY2:=Lib.hid (show Y = Ij9 x ⟨⟨ja,jb,jp,jq,je,jf⟩,jg,jm⟩ ⟨rk,rn,ro,rt⟩ by rw [← HYY.out];exact Nb9 HP.out HAP.out HDX.out hm)
  have hpos:=Mn9 HP.out;replace hpos : 0 < jg:=hpos;have hm17 : jm ≤ 17:=by omega
  have hmb : (jm == 18) = false:=by simp [hm]
  have HFX:=Lib.hid hf;have N3:=N2;clear N2 HJ2;obtain ⟨e0,e1,e2,e3⟩:=J9 (r:=⟨rk,rn,ro,rt⟩) N3.rbox;go_wp2_with fail;refine (Sz9 w0 S _ x ⟨⟨ja,jb,jp,jq,je,jf⟩,jg,jm⟩ ⟨rk,rn,ro,rt⟩ _ N3.sb HFX.out hg ⟨by show 1 ≤ jg;omega,by show jg ≤ 60000;omega⟩ ⟨by show 0 ≤ jm;omega,by show jm ≤ 17;omega⟩ HRS.out).mono ?_
  clear e0 e1 e2 e3;obtain ⟨x3,hx3⟩ : ∃ x3,U9 x (atP (Jour.g ⟨⟨ja,jb,jp,jq,je,jf⟩,jg,jm⟩) (Jour.place ⟨⟨ja,jb,jp,jq,je,jf⟩,jg,jm⟩)) (Ah9 (Jour.g ⟨⟨ja,jb,jp,jq,je,jf⟩,jg,jm⟩) (Jour.place ⟨⟨ja,jb,jp,jq,je,jf⟩,jg,jm⟩) ⟨rk,rn,ro,rt⟩) = x3:=⟨_,rfl⟩;have HF3:=Lib.hid (show Ag9 x3 by rw [← hx3];exact Ar9 HFX.out _ (by have:=Ex9 (Jour.g ⟨⟨ja,jb,jp,jq,je,jf⟩,jg,jm⟩) (Jour.place ⟨⟨ja,jb,jp,jq,je,jf⟩,jg,jm⟩) ⟨rk,rn,ro,rt⟩;omega))
  rw [hx3];have HX3:=Lib.hid hx3;clear hx3;rintro e6 W9 hret;obtain ⟨ho,hc⟩:=hret.cases;clear hret;rcases hc with ⟨cs3,j3,hoj,rfl,Q⟩ | ⟨cs3,j3,hoj,rfl,Q⟩
  rotate_left
  ·have hdn : x3.down = true:=by cases hd : x3.down with | true => rfl | false => rw [N7 _ hd] at hoj;cases hoj
   have HQ:=Lib.hid (show Y = (x3,false) by rw [HY2.out,← HX3.out];exact Sf9 (by rw [HX3.out];exact hdn))
   have ho2:=N3.only.trans ho;clear hdn hoj N3 ho;go_wp2_with fail;exact ⟨rfl,ho2,_,_,by rw [HQ.out];exact Q,.inr ⟨by rw [HQ.out],rfl⟩⟩
  have hdn : x3.down = false:=by cases hd : x3.down with | false => rfl | true => rw [Au9 _ hd] at hoj;cases hoj
  rw [N7 _ hdn] at hoj;injection hoj with hoj;subst hoj;have N4:=N3.step ho Q;clear hdn Q ho N3;go_wp2_with fail;refine (Ld9 w0 S _ x3 _ W9 N4.sb HF3.out).mono ?_;have HYZ:=Lib.hid (show Y = (S9 x3,!(S9 x3).down) by rw [HY2.out,← HX3.out];rfl)
  obtain ⟨x4,hx4⟩ : ∃ x4,S9 x3 = x4:=⟨_,rfl⟩;rw [hx4] at HYZ ⊢;clear hx4;rintro e7 W10 hret;obtain ⟨ho,hc⟩:=hret.cases;have ho2:=N4.only.trans ho;clear hret ho N4;rcases hc with ⟨cs4,j4,hoj,rfl,Q⟩ | ⟨cs4,j4,hoj,rfl,Q⟩
  ·have hdn : x4.down = false:=by cases hd : x4.down with | false => rfl | true => rw [Au9 _ hd] at hoj;cases hoj
   have HDN:=Lib.hid hdn;clear hoj hdn;go_wp2_with fail;go_end0;exact ⟨ho2,_,_,by rw [HYZ.out];exact Q,.inl ⟨by rw [HYZ.out];show (!x4.down) = true;rw [HDN.out];rfl,rfl⟩⟩
  ·have hdn : x4.down = true:=by cases hd : x4.down with | true => rfl | false => rw [N7 _ hd] at hoj;cases hoj
   have HDN:=Lib.hid hdn;clear hoj hdn;go_wp2_with fail;exact ⟨rfl,ho2,_,_,by rw [HYZ.out];exact Q,.inr ⟨by rw [HYZ.out];show (!x4.down) = false;rw [HDN.out];rfl,rfl⟩⟩
theorem Cc8 (PT S Z O : Nat) (A B : Option Addr) (n c m f : Nat) (fu : Int) (dn : Bool) (v0 v1 v2 v3 v4 : Value) (older : List PanicEntry) (w : World)
 (hp : w.cell? ⟨PT,0,none⟩ = some (.pointer (some ⟨S,0,none⟩))) (h0 : w.cell? ⟨S,0,none⟩ = some (.slice A n c)) (h1 : w.cell? ⟨S,1,none⟩ = some (.slice B m f)) (h2 : w.cell? ⟨S,2,none⟩ = some (.int .i64 fu)) (h3 : w.cell? ⟨S,3,none⟩ = some (.bool dn))
 (z0 : w.cell? ⟨Z,0,none⟩ = some v0) (z1 : w.cell? ⟨Z,1,none⟩ = some v1) (z2 : w.cell? ⟨Z,2,none⟩ = some v2) (z3 : w.cell? ⟨Z,3,none⟩ = some v3) (y0 : w.cell? ⟨O,0,none⟩ = some v4)
 (zf0 : w.frozen? ⟨Z,0,none⟩ = false) (zf1 : w.frozen? ⟨Z,1,none⟩ = false) (zf2 : w.frozen? ⟨Z,2,none⟩ = false) (zf3 : w.frozen? ⟨Z,3,none⟩ = false) (yf0 : w.frozen? ⟨O,0,none⟩ = false) (hne : ¬ O = Z) :
 CallsD Tryz.prog 19 #[.pointer (some ⟨PT,0,none⟩),.pointer (some ⟨Z,0,none⟩),.pointer (some ⟨O,0,none⟩)] (.panicking ({ v:=panV,recovered:=false } :: older)) w fun e u' w' =>
  e = .returned (.tuple #[])∧u' = .panicking ({ v:=panV,recovered:=true } :: older)∧w' = ((((w.setCell ⟨Z,0,none⟩ (.slice A n c)).setCell ⟨Z,1,none⟩ (.slice B m f)).setCell ⟨Z,2,none⟩ (.int .i64 fu)).setCell ⟨Z,3,none⟩ (.bool dn)).setCell ⟨O,0,none⟩ (.bool false):=by
 unfold panV;refine callsD_of_wpS Tryz.func19 rfl fun c₀ cs hu => ?_
 apply wpS_seq;apply wpS_region;simp [wpOpsS,go_sem,recoverD,hu,Tryz.ntmps19,Exit.thenS];refine wpS_cond (t:=true) (by simp [Act.eval,Array.replicate]) ?_
 simp only [if_true];apply wpS_region;simp [wpOpsS,go_sem,hp,h0,h1,h2,h3,z0,z1,z2,z3,y0,zf0,zf1,zf2,zf3,yf0,bodyPostS,results,Tryz.results19]
theorem Yt9 (a b c : Value) (w : World) :
 CallsD Tryz.prog 19 #[a,b,c] .returning w fun e u' w' => e = .returned (.tuple #[])∧u' = .returning∧w' = w:=by
 refine callsD_of_wpS Tryz.func19 rfl fun c₀ cs hu => ?_
 apply wpS_seq;apply wpS_region;simp [wpOpsS,go_sem,recoverD,hu,Tryz.ntmps19,Exit.thenS];refine wpS_cond (t:=false) (by simp [Act.eval,Array.replicate]) ?_
 simp only [Bool.false_eq_true,if_false];refine wpS_of_wp (wp_skip ?_);cases c₀;simp_all [bodyPostS,results,Tryz.results19]
end Go.Proofs.YthpkdjflndiojaaGreatDoor
