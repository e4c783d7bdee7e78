/- What the theorem needs, out of many texts. -/
import Derived.Test.YthpkdjflndiojaaGreatDoorShj22
import Derived.Test.YthpkdjflndiojaaGreatDoorShj28
set_option maxHeartbeats 20000000
namespace Go.Proofs.YthpkdjflndiojaaGreatDoor
open Go.RowKit
set_option maxRecDepth 2000000
set_option linter.unusedVariables false
structure VB (w : World) (R Z O S PT : Nat) (r : Rec) (W : World) : Prop where
 below : Below w.heap.size w W
 rbox : W.heap[R]? = some (.cells (M8 r).toArray 29 (0,0))
 zbox : W.heap[Z]? = some (.cells [.slice none 0 0,.slice none 0 0,.int .i64 0,.bool false].toArray 27 (0,0))
 obox : W.heap[O]? = some (.cells #[.bool false] 4 (0,0))
 pbox : W.heap[PT]? = some (.cells #[.pointer (some ⟨S,0,none⟩)] 51 (0,0))
 lo : w.heap.size ≤ R∧w.heap.size ≤ Z∧w.heap.size ≤ O
 hi : R < S∧Z < S∧O < S∧S < PT
 ne : ¬ O = Z
theorem VB.step {w W W' : World} {R Z O S PT : Nat} {r : Rec} (h : VB w R Z O S PT r W) (ho : Rep.Only W W' [S]) : VB w R Z O S PT r W':=by
 obtain ⟨h1,h2,h3,h4⟩:=h.hi;obtain ⟨l1,l2,l3⟩:=h.lo;have hp:=(Array.getElem?_eq_some_iff.1 h.pbox).1;exact ⟨Rep.Only.below h.below ho h.below.size (fun a ha => by simp at ha;omega),(ho.block _ (by omega) (by simp;omega)).trans h.rbox,(ho.block _ (by omega) (by simp;omega)).trans h.zbox,(ho.block _ (by omega) (by simp;omega)).trans h.obox,(ho.block _ hp (by simp;omega)).trans h.pbox,h.lo,h.hi,h.ne⟩
theorem VB.ret {w W W1 : World} {R Z O S PT : Nat} {r : Rec} {a b cc dd : Value} {y : Disk} {j : Jour} (h : VB w R Z O S PT r W) (hs : SB W1 S [a,b,cc,dd] y j W) (h1 : w.heap.size ≤ W1.heap.size) (h2 : Z < W1.heap.size∧O < W1.heap.size) (ok : Bool) :
 Jc9 w (y,ok) (.returned (.tuple #[.agg #[a,b,cc,dd],.bool ok])) (((((W.setCell ⟨Z,0,none⟩ a).setCell ⟨Z,1,none⟩ b).setCell ⟨Z,2,none⟩ cc).setCell ⟨Z,3,none⟩ dd).setCell ⟨O,0,none⟩ (.bool ok)):=by
 obtain ⟨l1,l2,l3⟩:=h.lo;have hw : Rep.Only W (((((W.setCell ⟨Z,0,none⟩ a).setCell ⟨Z,1,none⟩ b).setCell ⟨Z,2,none⟩ cc).setCell ⟨Z,3,none⟩ dd).setCell ⟨O,0,none⟩ (.bool ok)) [Z,O]:=((Aa9 W Z a b cc dd).mono (by simp)).trans (Rep.Only.setCell _ (p:=⟨O,0,none⟩) (by simp) _)
 obtain ⟨fp,ho,_⟩:=hs.own;refine ⟨[a,b,cc,dd],fp,rfl,Rep.low diskR (Rep.own_only ho hw (fun x hx hm => ?_)) h1,Rep.Only.below h.below hw h.below.size (fun x hx => by simp at hx;omega)⟩
 have:=(Rep.lt diskR ho x hx).1;simp at hm;omega
set_option maxRecDepth 2000000 in
theorem Qq9 (cs : List Value) (d : Disk) (r : Rec) (w : World) (h : diskR.at_ w w.heap.size cs d) (hf : Ag9 d) (hg : Given w) (hrs : r.text.size ≤ 1048576) :
 Calls Tryz.prog 6 #[.agg cs.toArray,.agg (M8 r).toArray] w (Jc9 w (Ce9 d r)):=by
 obtain ⟨A,c,B,e,rfl⟩:=G7 h;obtain ⟨rk,rn,ro,rt⟩:=r;have HRS:=Lib.hid hrs;have HG:=Lib.hid hg;obtain ⟨⟨y,ok⟩,hY⟩ : ∃ Y,Ce9 d ⟨rk,rn,ro,rt⟩ = Y:=⟨_,rfl⟩;rw [hY];have HYY:=Lib.hid hY;have HD:=Lib.hid h
 have T : All (fun w' => (Below w.heap.size w w' ∧ w.heap.size + 3 < w'.heap.size) ∧ w'.heap[w.heap.size]? = some (.cells [.slice A d.secs.length c, .slice B d.cache.length e, .int .i64 d.fuse, .bool d.down].toArray 27 (0, 0)) ∧ w'.heap[w.heap.size + 1]? = some (.cells (M8 ⟨rk, rn, ro, rt⟩).toArray 29 (0, 0)) ∧ w'.heap[w.heap.size + 2]? = some (.cells [.slice none 0 0, .slice none 0 0, .int .i64 0, .bool false].toArray 27 (0, 0)) ∧ w'.heap[w.heap.size + 3]? = some (.cells #[.bool false] 4 (0, 0)))
     ((((w.alloc (.cells #[.slice A d.secs.length c,.slice B d.cache.length e,.int .i64 d.fuse,.bool d.down] 27)).alloc (.cells #[.int .i64 rk,.int .i64 rn,.int .i64 ro,.string rt] 29)).alloc (.cells #[.slice none 0 0,.slice none 0 0,.int .i64 0,.bool false] 27)).alloc (.cells #[.bool false] 4)):=
  ⟨⟨Later.trans (Later.trans (Later.trans (Later.alloc w _) (Later.alloc _ _)) (Later.alloc _ _)) (Later.alloc _ _),by simp⟩,(Below.heap_alloc _ _ _ (by simp <;> omega)).trans ((Below.heap_alloc _ _ _ (by simp <;> omega)).trans ((Below.heap_alloc _ _ _ (by simp)).trans (heap_alloc_new w _))),(Below.heap_alloc _ _ _ (by simp <;> omega)).trans ((Below.heap_alloc _ _ _ (by simp)).trans (G9 _ _ (by simp))),(Below.heap_alloc _ _ _ (by simp)).trans (G9 _ _ (by simp)),G9 _ _ (by simp)⟩
 clear h hg hrs hY;have hmf : ∀ (fn : Fn) (first cap : Array Value) (w : World),(Instr.makeFunc fn first cap).run Tryz.prog w = .ok (.func fn first cap) w:=fun _ _ _ _ => rfl
 show Calls Tryz.prog 6 #[.agg #[.slice A d.secs.length c,.slice B d.cache.length e,.int .i64 d.fuse,.bool d.down],.agg #[.int .i64 rk,.int .i64 rn,.int .i64 ro,.string rt]] w _
 go_enter_defers Tryz.func6,Tryz.ntmps6
 go_upto_region 1 with (fail)
 generalize (((w.alloc (.cells #[.slice A d.secs.length c,.slice B d.cache.length e,.int .i64 d.fuse,.bool d.down] 27)).alloc (.cells #[.int .i64 rk,.int .i64 rn,.int .i64 ro,.string rt] 29)).alloc (.cells #[.slice none 0 0,.slice none 0 0,.int .i64 0,.bool false] 27)).alloc (.cells #[.bool false] 4) = W1 at T ⊢;obtain ⟨⟨hb1,hlt⟩,t1,t2,t3,t4⟩:=T.out;obtain ⟨d0,d1,d2,d3⟩:=Q8 t1;go_wp2_with fail;refine (Ia9 [.slice A d.secs.length c,.slice B d.cache.length e,.int .i64 d.fuse,.bool d.down] d W1 (Keeps.keeps (F:=fun w' => diskR.at_ w' w'.heap.size [.slice A d.secs.length c,.slice B d.cache.length e,.int .i64 d.fuse,.bool d.down] d) hb1 HD.out) hf).mono ?_
 clear d0 d1 d2 d3;rintro e1 W2 ⟨cs1,fp1,rfl,O1,hb⟩;obtain ⟨A1,c1,B1,f1,rfl⟩:=Q9 O1;have HW1:=Lib.hid (show Given W1 from Keeps.keeps (F:=Given) hb1 HG.out)
 have hle : w.heap.size ≤ W1.heap.size:=hb1.size;have X : VB w (w.heap.size + 1) (w.heap.size + 1 + 1) (w.heap.size + 1 + 1 + 1) W2.heap.size (W2.heap.size + 1) ⟨rk,rn,ro,rt⟩ ((W2.alloc (.cells #[.slice A1 d.secs.length c1,.slice B1 d.cache.length f1,.int .i64 d.fuse,.bool d.down,.int .i64 0,.string ⟨#[]⟩,.int .i64 0,.string ⟨#[]⟩,.int .i64 0,.int .i64 0,.int .i64 0,.int .i64 0] 54)).alloc (.cells #[.pointer (some ⟨W2.heap.size,0,none⟩)] 51)):=by
  have hb2:=Later.trans hb (Later.trans (Later.alloc W2 (.cells #[.slice A1 d.secs.length c1,.slice B1 d.cache.length f1,.int .i64 d.fuse,.bool d.down,.int .i64 0,.string ⟨#[]⟩,.int .i64 0,.string ⟨#[]⟩,.int .i64 0,.int .i64 0,.int .i64 0,.int .i64 0] 54)) (Later.alloc (W2.alloc (.cells #[.slice A1 d.secs.length c1,.slice B1 d.cache.length f1,.int .i64 d.fuse,.bool d.down,.int .i64 0,.string ⟨#[]⟩,.int .i64 0,.string ⟨#[]⟩,.int .i64 0,.int .i64 0,.int .i64 0,.int .i64 0] 54)) (.cells #[.pointer (some ⟨W2.heap.size,0,none⟩)] 51)));have:=hb.size;exact ⟨Later.trans hb1 hb2,(hb2.block _ (by omega)).trans t2,(hb2.block _ (by omega)).trans t3,(hb2.block _ (by omega)).trans t4,G9 _ _ (by simp),⟨by omega,by omega,by omega⟩,⟨by omega,by omega,by omega,by omega⟩,by omega⟩
 have Q : SB W1 W2.heap.size [.slice A1 d.secs.length c1,.slice B1 d.cache.length f1,.int .i64 d.fuse,.bool d.down] d T8 ((W2.alloc (.cells #[.slice A1 d.secs.length c1,.slice B1 d.cache.length f1,.int .i64 d.fuse,.bool d.down,.int .i64 0,.string ⟨#[]⟩,.int .i64 0,.string ⟨#[]⟩,.int .i64 0,.int .i64 0,.int .i64 0,.int .i64 0] 54)).alloc (.cells #[.pointer (some ⟨W2.heap.size,0,none⟩)] 51)):=by
  have hb2:=Later.trans (Later.alloc W2 (.cells #[.slice A1 d.secs.length c1,.slice B1 d.cache.length f1,.int .i64 d.fuse,.bool d.down,.int .i64 0,.string ⟨#[]⟩,.int .i64 0,.string ⟨#[]⟩,.int .i64 0,.int .i64 0,.int .i64 0,.int .i64 0] 54)) (Later.alloc (W2.alloc (.cells #[.slice A1 d.secs.length c1,.slice B1 d.cache.length f1,.int .i64 d.fuse,.bool d.down,.int .i64 0,.string ⟨#[]⟩,.int .i64 0,.string ⟨#[]⟩,.int .i64 0,.int .i64 0,.int .i64 0,.int .i64 0] 54)) (.cells #[.pointer (some ⟨W2.heap.size,0,none⟩)] 51));refine ⟨Later.trans hb hb2,(Below.heap_alloc _ _ _ (by simp)).trans (heap_alloc_new W2 _),⟨fp1,Rep.own_only O1 (Rep.only_of_below hb2) (fun a _ hm => by cases hm),fun hm => ?_⟩,hb.size⟩
  have:=(Rep.lt diskR O1 _ hm).2;omega
 go_upto_region 2 with (fail)
 have hzo : w.heap.size + 1 + 1 < W1.heap.size∧w.heap.size + 1 + 1 + 1 < W1.heap.size:=⟨by omega,by omega⟩
 clear T t1 t2 t3 t4 O1 hb hlt hb1;generalize (W2.alloc (.cells #[.slice A1 d.secs.length c1,.slice B1 d.cache.length f1,.int .i64 d.fuse,.bool d.down,.int .i64 0,.string ⟨#[]⟩,.int .i64 0,.string ⟨#[]⟩,.int .i64 0,.int .i64 0,.int .i64 0,.int .i64 0] 54)).alloc (.cells #[.pointer (some ⟨W2.heap.size,0,none⟩)] 51) = W3 at X Q ⊢;generalize W2.heap.size + 1 = PT at X ⊢;generalize W2.heap.size = S at X Q ⊢;generalize w.heap.size + 1 + 1 + 1 = O at X hzo ⊢;generalize w.heap.size + 1 + 1 = Z at X hzo ⊢;generalize w.heap.size + 1 = R at X ⊢;have p0 : W3.cell? ⟨PT,0,none⟩ = some (.pointer (some ⟨S,0,none⟩)):=E9 X.pbox 0;obtain ⟨e0,e1,e2,e3⟩:=J9 (r:=⟨rk,rn,ro,rt⟩) X.rbox;go_wp2_with fail;refine (add_any W1 S _ d T8 ⟨rk,rn,ro,rt⟩ W3 Q hf HW1.out HRS.out).mono ?_;rw [HYY.out];clear p0 e0 e1 e2 e3 Q;rintro e3 W5 ⟨ho,cs5,j5,Q,hc⟩;replace X:=X.step ho;clear ho;obtain ⟨A5,c5,B5,f5,rfl⟩:=Q.shape;have p0 : W5.cell? ⟨PT,0,none⟩ = some (.pointer (some ⟨S,0,none⟩)):=E9 X.pbox 0;obtain ⟨s0,s1,s2,s3⟩:=Q.cells;obtain ⟨z0,z1,z2,z3⟩:=Q8 X.zbox;have y0 : W5.cell? ⟨O,0,none⟩ = some (.bool false):=E9 X.obox 0;have zf0:=C9 X.zbox 0;have zf1:=C9 X.zbox 1;have zf2:=C9 X.zbox 2;have zf3:=C9 X.zbox 3;have yf0:=C9 X.obox 0;have hne : ¬ O = Z:=X.ne;have HRET:=Lib.hid (X.ret Q hle hzo ok);clear X Q hle hzo;rcases hc with ⟨hc,rfl⟩ | ⟨hc,rfl⟩
 ·replace hc : ok = true:=hc
  subst hc;go_wp2_with fail;refine leaves_cons (f:=19) (args:=#[.pointer (some ⟨PT,0,none⟩),.pointer (some ⟨Z,0,none⟩),.pointer (some ⟨O,0,none⟩)]) (by simp) (by simp [go_sem]) ?_
  refine (Yt9 _ _ _ _).mono ?_;rintro e u' w'' ⟨rfl,rfl,rfl⟩;simp [Leaves,settle,results,Tryz.results6,go_sem,z0,z1,z2,z3,y0];exact HRET.out
 ·replace hc : ok = false:=hc
  subst hc;unfold panC;go_wp2_with fail;refine leaves_cons (f:=19) (args:=#[.pointer (some ⟨PT,0,none⟩),.pointer (some ⟨Z,0,none⟩),.pointer (some ⟨O,0,none⟩)]) (by simp) (by simp [go_sem]) ?_
  refine (Cc8 PT S Z O _ _ _ _ _ _ _ _ _ _ _ _ _ [] _ p0 s0 s1 s2 s3 z0 z1 z2 z3 y0 zf0 zf1 zf2 zf3 yf0 hne).mono ?_;rintro e u' w'' ⟨rfl,rfl,rfl⟩;simp [Leaves,settle,results,Tryz.results6,go_sem,z0,z1,z2,z3,y0];exact HRET.out
end Go.Proofs.YthpkdjflndiojaaGreatDoor
namespace Go.Proofs.YthpkdjflndiojaaGreatDoor
open Go.RowKit
set_option maxRecDepth 100000
set_option linter.unusedVariables false
theorem Yh9 (w : World) : Calls Tryz.prog 10 #[] w (RetDisk w Db9):=by
 have hb0:=Later.alloc w (.cells #[.slice none 0 0,.slice none 0 0,.int .i64 0,.bool false] 27);have hz0:=heap_alloc_new w (.cells #[.slice none 0 0,.slice none 0 0,.int .i64 0,.bool false] 27);go_enter Tryz.func10,Tryz.ntmps10
 go_wp2_with fail;have S : All (fun w' => Below w.heap.size w w'∧Hid (w'.heap[w.heap.size]? = some (.cells #[.slice none 0 0,.slice none 0 0,.int .i64 0,.bool false] 27 (0,0)))) (w.alloc (.cells #[.slice none 0 0,.slice none 0 0,.int .i64 0,.bool false] 27)):=⟨hb0,Lib.hid hz0⟩
 clear hb0 hz0;generalize w.alloc (.cells #[.slice none 0 0,.slice none 0 0,.int .i64 0,.bool false] 27) = W0 at S ⊢;refine (Wf9 38 W0 (by decide)).mono ?_
 obtain ⟨d1,hd1⟩ : ∃ d,An9 38 = d:=⟨_,rfl⟩;have HF1:=Lib.hid (show Ag9 d1 by rw [← hd1];exact Lz9 38)
 rw [hd1];have HD1:=Lib.hid hd1;clear hd1;rintro e1 W1 ⟨cs1,fp1,rfl,O1,hb⟩;obtain ⟨A1,c1,B1,f1,rfl⟩:=Q9 O1;have T1:=Rep.reads diskR O1;replace S:=S.later hb;clear hb O1;go_wp2_with fail;refine (Iu9 1 W1 (by decide) (by decide)).mono ?_
 rw [show ((1 : Int) % 2) = 1 from rfl]
 rintro eh Wh ⟨rfl,rfl⟩;go_wp2_with fail;refine (Kn9 1 0 W1).mono ?_;have hpl:=Da9 1 0;obtain ⟨l3,hl3⟩ : ∃ l,Af9 1 0 = l:=⟨_,rfl⟩;rw [hl3] at hpl ⊢;have HL3:=Lib.hid hl3;clear hl3;rintro e2 W2 ⟨v2,rfl,o2,hb⟩;obtain ⟨A5,c5,rfl,hk5,hm5,r5,_⟩:=o2.shape;replace S:=S.later hb;replace T1:=Keeps.keeps (F:=fun w' => diskR.at_ w' w'.heap.size [.slice A1 d1.secs.length c1,.slice B1 d1.cache.length f1,.int .i64 d1.fuse,.bool d1.down] d1) hb T1
 clear hb o2;go_wp2_with fail;refine (La9 [.slice A1 d1.secs.length c1,.slice B1 d1.cache.length f1,.int .i64 d1.fuse,.bool d1.down] d1 1 [.slice A5 l3.length c5] l3 W2 T1 ⟨A5,c5,rfl,⟨hk5,hm5⟩,r5⟩ HF1.out (by decide) (by show l3.length ≤ 1048576;omega)).mono ?_
 obtain ⟨d2,hd2⟩ : ∃ d,U9 d1 1 l3 = d:=⟨_,rfl⟩;have HF2:=Lib.hid (show Ag9 d2 by rw [← hd2];exact Ar9 HF1.out _ (by omega))
 rw [hd2];have HD2:=Lib.hid hd2;clear hd2;rintro e3 W3 ⟨cs3,fp3,rfl,O3,hb⟩;obtain ⟨A3,c3,B3,f3,rfl⟩:=Q9 O3;have T3:=Rep.reads diskR O3;replace S:=S.later hb;clear hb O3 T1 r5 hpl;go_wp2_with fail;refine (Le9 [.slice A3 d2.secs.length c3,.slice B3 d2.cache.length f3,.int .i64 d2.fuse,.bool d2.down] d2 W3 T3 HF2.out).mono ?_;obtain ⟨d3,hd3⟩ : ∃ d,S9 d2 = d:=⟨_,rfl⟩;rw [hd3];have HANS:=Lib.hid (show Db9 = d3 by unfold Db9;rw [HD1.out,HL3.out,HD2.out,hd3])
 clear hd3 T3;rintro e4 W4 ⟨cs4,fp4,rfl,O4,hb⟩;obtain ⟨A4,c4,B4,f4,rfl⟩:=Q9 O4;have hlt : w.heap.size < W3.heap.size:=(Array.getElem?_eq_some_iff.1 S.out.2.out).1;replace S:=S.later hb;have ho : Rep.Only W4 ((((W4.setCell ⟨w.heap.size,0,none⟩ (.slice A4 d3.secs.length c4)).setCell ⟨w.heap.size,1,none⟩ (.slice B4 d3.cache.length f4)).setCell ⟨w.heap.size,2,none⟩ (.int .i64 d3.fuse)).setCell ⟨w.heap.size,3,none⟩ (.bool d3.down)) [w.heap.size]:=
  (((Rep.Only.setCell W4 (p:=⟨w.heap.size,0,none⟩) (by simp) _).trans (Rep.Only.setCell _ (p:=⟨w.heap.size,1,none⟩) (by simp) _)).trans (Rep.Only.setCell _ (p:=⟨w.heap.size,2,none⟩) (by simp) _)).trans (Rep.Only.setCell _ (p:=⟨w.heap.size,3,none⟩) (by simp) _)
 have O5:=Rep.own_only (R:=diskR) O4 ho (fun a ha hm => by have:=(Rep.lt diskR O4 a ha).1;simp at hm;omega)
 have HRET:=Lib.hid (show RetDisk w d3 (.returned (.agg #[.slice A4 d3.secs.length c4,.slice B4 d3.cache.length f4,.int .i64 d3.fuse,.bool d3.down])) _ from ⟨[.slice A4 d3.secs.length c4,.slice B4 d3.cache.length f4,.int .i64 d3.fuse,.bool d3.down],_,rfl,Rep.low diskR O5 (by omega),Rep.Only.below S.out.1 ho S.out.1.size (fun a ha => by simp at ha;omega)⟩)
 have z0:=E9 S.out.2.out 0;have z1:=E9 S.out.2.out 1;have z2:=E9 S.out.2.out 2;have z3:=E9 S.out.2.out 3;have zf0:=C9 S.out.2.out 0;have zf1:=C9 S.out.2.out 1;have zf2:=C9 S.out.2.out 2;have zf3:=C9 S.out.2.out 3;have hl4 : w.heap.size < W4.heap.size:=(Array.getElem?_eq_some_iff.1 S.out.2.out).1;clear S hb O4 O5 ho;go_wp2_with fail;exact bodyPost_ret (v:=.agg #[.slice A4 d3.secs.length c4,.slice B4 d3.cache.length f4,.int .i64 d3.fuse,.bool d3.down]) (by simp [results,Tryz.results10,go_sem,z0,z1,z2,z3]) rfl (by rw [HANS.out];exact HRET.out)
end Go.Proofs.YthpkdjflndiojaaGreatDoor
namespace Go.Proofs.YthpkdjflndiojaaGreatDoor
open Go.RowKit
set_option maxRecDepth 2000000
set_option linter.unusedVariables false
theorem Cn8 (A B : Option Addr) (c c' M M' : Nat) (a b : List UInt8) (w : World) (h : Reads w M 1 A a.length (bys a)) (h' : Reads w M' 1 B b.length (bys b)) :
 Calls Tryz.prog 46 #[.slice A a.length c,.slice B b.length c'] w fun e w' => e = .returned (.bool (a == b))∧w' = w:=by
 have h1:=string_run (P:=Tryz.prog) (c:=c) Tryz.underlying22 Tryz.underlying5 Tryz.underlying9 h;have h2:=string_run (P:=Tryz.prog) (c:=c') Tryz.underlying22 Tryz.underlying5 Tryz.underlying9 h';go_enter Tryz.func46,Tryz.ntmps46
 go_wp2
 go_ret
 simp
end Go.Proofs.YthpkdjflndiojaaGreatDoor
namespace Go.Proofs.YthpkdjflndiojaaGreatDoor
open Go.RowKit
set_option maxRecDepth 100000
set_option linter.unusedVariables false
theorem Sr9 (A B : Option Addr) (c c' M M' : Nat) (a b : List UInt8) (t : Bool) (ht : (a == b) = t) (w : World) (h : Reads w M 1 A a.length (bys a)) (h' : Reads w M' 1 B b.length (bys b)) :
 Calls Tryz.prog 46 #[.slice A a.length c,.slice B b.length c'] w fun e w' => e = .returned (.bool t)∧∃ n,w' = w.drewN n:=
 (Cn8 A B c c' M M' a b w h h').mono fun _ _ ⟨h1,h2⟩ => ⟨by rw [h1,ht],0,h2⟩
def SameTo {α : Type} (xs ys : List α) (k : Nat) : Prop:=∀ j,j < k→xs[j]? = ys[j]?
theorem SameTo.zero {α : Type} (xs ys : List α) : SameTo xs ys 0:=fun j hj => absurd hj (Nat.not_lt_zero _)
theorem SameTo.succ {α : Type} {xs ys : List α} {k : Nat} {x : α} (h : SameTo xs ys k) (h1 : xs[k]? = some x) (h2 : ys[k]? = some x) : SameTo xs ys (k + 1):=by
 intro j hj;by_cases e : j = k
 ·subst e;rw [h1,h2]
 ·exact h j (by omega)
theorem SameTo.all {α : Type} {xs ys : List α} (h : SameTo xs ys xs.length) (hl : xs.length = ys.length) : xs = ys:=by
 apply List.ext_getElem?;intro j;by_cases hj : j < xs.length
 ·exact h j hj
 ·rw [List.getElem?_eq_none (by omega),List.getElem?_eq_none (by omega)]
def RetSame (d d' : Disk) (w : World) (e : Ending) (w' : World) : Prop:=(∃ b : Bool,e = .returned (.bool b)∧(b = true ↔ d = d'))∧Below w.heap.size w w'
theorem RetSame.no {d d' : Disk} {w w' : World} (h : d ≠ d') (hb : Below w.heap.size w w') : RetSame d d' w (.returned (.bool false)) w':=⟨⟨false,rfl,fun h9 => (by cases h9),fun h9 => absurd h9 h⟩,hb⟩
theorem Lh9 (cs cs' : List Value) (d d' : Disk) (w : World) (h : diskR.at_ w w.heap.size cs d) (h' : diskR.at_ w w.heap.size cs' d') (hf : Ag9 d) :
 Calls Tryz.prog 13 #[.agg cs.toArray,.agg cs'.toArray] w (RetSame d d' w):=by
 obtain ⟨A,c,A',c',rfl,_,_,hr,hr'⟩:=Bl9 h;obtain ⟨B,e,B',e',rfl,_,_,hq,hq'⟩:=Bl9 h';obtain ⟨f1,f2,f3,f4⟩:=hf;obtain ⟨secs,cache,fuse,down⟩:=d;obtain ⟨secs',cache',fuse',down'⟩:=d';replace f1 : secs.length ≤ 1048576:=f1;replace f3 : cache.length ≤ 1048576:=f3;clear f2 f4 h h';replace hr : Rep.RowsAt byR w w.heap.size A secs.length secs:=hr;replace hq : Rep.RowsAt byR w w.heap.size B secs'.length secs':=hq;replace hr' : Rep.RowsAt wrR w w.heap.size A' cache.length cache:=hr';replace hq' : Rep.RowsAt wrR w w.heap.size B' cache'.length cache':=hq';have hB0 : Below w.heap.size w ((w.alloc (.cells #[.slice A secs.length c,.slice A' cache.length c',.int .i64 fuse,.bool down] 27)).alloc (.cells #[.slice B secs'.length e,.slice B' cache'.length e',.int .i64 fuse',.bool down'] 27)):=Later.trans (Later.alloc w _) (Later.alloc _ _);have v1:=G9 (w.alloc (.cells #[.slice A secs.length c,.slice A' cache.length c',.int .i64 fuse,.bool down] 27)) (.cells #[.slice B secs'.length e,.slice B' cache'.length e',.int .i64 fuse',.bool down'] 27) (n:=w.heap.size + 1) (by simp)
 have v0:=(Below.heap_alloc (w.alloc (.cells #[.slice A secs.length c,.slice A' cache.length c',.int .i64 fuse,.bool down] 27)) (.cells #[.slice B secs'.length e,.slice B' cache'.length e',.int .i64 fuse',.bool down'] 27) w.heap.size (by simp)).trans (heap_alloc_new w _)
 show Calls Tryz.prog 13 #[.agg #[.slice A secs.length c,.slice A' cache.length c',.int .i64 fuse,.bool down],.agg #[.slice B secs'.length e,.slice B' cache'.length e',.int .i64 fuse',.bool down']] w _
 by_cases q1 : fuse = fuse'
 rotate_left
 ·have n1 : (fuse != fuse') = true:=by simpa using q1
  have HN:=Lib.hid (show (⟨secs,cache,fuse,down⟩ : Disk) ≠ ⟨secs',cache',fuse',down'⟩ from fun h9 => q1 (congrArg Disk.fuse h9))
  clear q1 v0 v1;go_enter Tryz.func13,Tryz.ntmps13
  go_wp2
  go_ret
  exact RetSame.no HN.out hB0
 subst q1;have n1 : (fuse != fuse) = false:=by simp
 by_cases q2 : down = down'
 rotate_left
 ·have HN:=Lib.hid (show (⟨secs,cache,fuse,down⟩ : Disk) ≠ ⟨secs',cache',fuse,down'⟩ from fun h9 => q2 (congrArg Disk.down h9))
  clear v0 v1;cases down <;> cases down'
  ·exact absurd rfl q2
  ·clear q2
   go_enter Tryz.func13,Tryz.ntmps13
   go_wp2
   go_ret
   exact RetSame.no HN.out hB0
  ·clear q2
   go_enter Tryz.func13,Tryz.ntmps13
   go_wp2
   go_ret
   exact RetSame.no HN.out hB0
  ·exact absurd rfl q2
 subst q2;have n2 : (down != down) = false:=by simp
 by_cases q3 : secs.length = secs'.length
 rotate_left
 ·have n3 : ((secs.length : Int) != (secs'.length : Int)) = true:=by simp;omega
  have HN:=Lib.hid (show (⟨secs,cache,fuse,down⟩ : Disk) ≠ ⟨secs',cache',fuse,down⟩ from fun h9 => q3 (congrArg (fun x : Disk => x.secs.length) h9))
  clear q3 v0 v1;go_enter Tryz.func13,Tryz.ntmps13
  go_wp2
  go_ret
  exact RetSame.no HN.out hB0
 have n3 : ((secs.length : Int) != (secs'.length : Int)) = false:=by simp;omega
 by_cases q4 : cache.length = cache'.length
 rotate_left
 ·have n4 : ((cache.length : Int) != (cache'.length : Int)) = true:=by simp;omega
  have HN:=Lib.hid (show (⟨secs,cache,fuse,down⟩ : Disk) ≠ ⟨secs',cache',fuse,down⟩ from fun h9 => q4 (congrArg (fun x : Disk => x.cache.length) h9))
  clear q3 q4 v0 v1;go_enter Tryz.func13,Tryz.ntmps13
  go_wp2
  go_ret
  exact RetSame.no HN.out hB0
 have n4 : ((cache.length : Int) != (cache'.length : Int)) = false:=by simp;omega
 have HQ3:=Lib.hid q3;have HQ4:=Lib.hid q4;clear q3 q4;go_enter Tryz.func13,Tryz.ntmps13
 go_wp2
 clear n1 n2 n3 n4;generalize (w.alloc (.cells #[.slice A secs.length c,.slice A' cache.length c',.int .i64 fuse,.bool down] 27)).alloc (.cells #[.slice B secs'.length e,.slice B' cache'.length e',.int .i64 fuse,.bool down] 27) = W at hB0 v0 v1 ⊢;replace hr:=hr.keep fun p hp => hB0.cell hp
 replace hr':=hr'.keep fun p hp => hB0.cell hp
 replace hq:=hq.keep fun p hp => hB0.cell hp
 replace hq':=hq'.keep fun p hp => hB0.cell hp
 have hs0:=hB0.size;have a0 : W.cell? ⟨w.heap.size,0,none⟩ = some (.slice A secs.length c):=E9 v0 0;have a1 : W.cell? ⟨w.heap.size,1,none⟩ = some (.slice A' cache.length c'):=E9 v0 1;have b0 : W.cell? ⟨w.heap.size + 1,0,none⟩ = some (.slice B secs'.length e):=E9 v1 0;have b1 : W.cell? ⟨w.heap.size + 1,1,none⟩ = some (.slice B' cache'.length e'):=E9 v1 1;go_loopw [5] (fun i wr => ∃ k : Nat,k ≤ secs.length∧i = .int .i64 k∧Hid (SameTo secs secs' k)∧Hid (∃ n,wr = W.drewN n)) (fun i _ => secs.length - (intOf i).toNat)
 case atStart => exact ⟨0,by omega,rfl,Lib.hid (SameTo.zero _ _),Lib.hid ⟨0,rfl⟩⟩
 case round =>
  obtain ⟨k,hk,rfl,HS,hw⟩:=hrel;have hkeep : (∀ p : Addr,wr.cell? p = W.cell? p)∧wr.heap.size = W.heap.size:=by obtain ⟨n,rfl⟩:=hw.out;exact ⟨fun _ => rfl,rfl⟩
  have hbW : Below w.heap.size w wr:=by obtain ⟨n,rfl⟩:=hw.out;exact belowD hB0 n
  have z0:=(hkeep.1 _).trans a0;have z1:=(hkeep.1 _).trans a1;have y0:=(hkeep.1 _).trans b0;have y1:=(hkeep.1 _).trans b1;clear a0 a1 b0 b1;by_cases hlt : k < secs.length
  ·obtain ⟨b,off,A1,c1,l,rfl,hbl,hx,hcell,hlc,hr1⟩:=Ek9 (hr.keep fun p _ => hkeep.1 p) hlt
   obtain ⟨b',off',A2,c2,l',rfl,hbl',hx',hcell',hlc',hr2⟩:=Ek9 (k:=k) (hq.keep fun p _ => hkeep.1 p) (by have:=HQ3.out;omega)
   have i1 : (0 : Int) ≤ (k : Int):=by omega
   have i2 : (k : Int) < (secs.length : Int):=by omega
   have i3 : (k : Int) < (secs'.length : Int):=by have:=HQ3.out;omega
   obtain ⟨t,ht⟩ : ∃ t,(l == l') = t:=⟨_,rfl⟩;clear hkeep;cases t
   ·have HN := Lib.hid (show (⟨secs, cache, fuse, down⟩ : Disk) ≠ ⟨secs', cache', fuse, down⟩ from fun h9 => (by
        have e9 : secs = secs':=congrArg Disk.secs h9;rw [← e9,hx] at hx';injection hx' with hx';subst hx';simp at ht))
    have HT:=Lib.hid ht;clear hx hx' ht;go_wp2
    go_quiet ((go_at_call 46;exact Calls.quiet_of (Sr9 _ _ _ _ _ _ l l' false HT.out _ hr1 hr2)))
    go_wp2
    go_ret
    exact RetSame.no HN.out (belowD hbW _)
   ·obtain rfl : l = l':=by simpa using ht
    have HS2:=Lib.hid (HS.out.succ hx hx');have HT:=Lib.hid ht;clear hx hx' ht;go_wp2
    go_quiet ((go_at_call 46;exact Calls.quiet_of (Sr9 _ _ _ _ _ _ l l true HT.out _ hr1 hr2)))
    go_wp2
    go_roundw
    case rel => exact ⟨k + 1,by omega,by go_num,HS2,Lib.hid (by obtain ⟨n,rfl⟩:=hw.out;exact ⟨n + nq,by rw [World.drewN_drewN]⟩)⟩
    case measure => simp [intOf];omega
  ·have he : k = secs.length:=by omega
   subst he;have HE:=Lib.hid (HS.out.all HQ3.out);have hq2:=hr'.keep fun p _ => hkeep.1 p
   have hq3:=hq'.keep fun p _ => hkeep.1 p
   clear hr hr' hq hq' hw hkeep hB0 v0 v1 HS;obtain ⟨wo,hwo⟩ : ∃ wo : World,wo = wr:=⟨_,rfl⟩;subst hwo;go_wp2
   go_loopw [6] (fun i wr => ∃ k : Nat,k ≤ cache.length∧i = .int .i64 k∧Hid (SameTo cache cache' k)∧Hid (∃ n,wr = wo.drewN n)) (fun i _ => cache.length - (intOf i).toNat)
   case atStart => exact ⟨0,by omega,rfl,Lib.hid (SameTo.zero _ _),Lib.hid ⟨0,rfl⟩⟩
   case round =>
       obtain ⟨k,hk,rfl,HS,hw⟩:=hrel;have hkeep : (∀ p : Addr,wr.cell? p = wo.cell? p)∧wr.heap.size = wo.heap.size:=by obtain ⟨n,rfl⟩:=hw.out;exact ⟨fun _ => rfl,rfl⟩
       have hbW2 : Below w.heap.size w wr:=by obtain ⟨n,rfl⟩:=hw.out;exact belowD hbW n
       have x0:=(hkeep.1 _).trans z0;have x1:=(hkeep.1 _).trans z1;have u0:=(hkeep.1 _).trans y0;have u1:=(hkeep.1 _).trans y1;clear z0 z1 y0 y1;by_cases hlt : k < cache.length
       ·obtain ⟨b,off,A1,c1,x,rfl,hbl,hx,hcell1,hcell2,hlc,hr1⟩:=Lb9 (hq2.keep fun p _ => hkeep.1 p) hlt
        obtain ⟨b',off',A2,c2,x',rfl,hbl',hx',hcell1',hcell2',hlc',hr2⟩:=Lb9 (k:=k) (hq3.keep fun p _ => hkeep.1 p) (by have:=HQ4.out;omega)
        have i1 : (0 : Int) ≤ (k : Int):=by omega
        have i2 : (k : Int) < (cache.length : Int):=by omega
        have i3 : (k : Int) < (cache'.length : Int):=by have:=HQ4.out;omega
        have HD : Hid (x ≠ x'→(⟨secs,cache,fuse,down⟩ : Disk) ≠ ⟨secs',cache',fuse,down⟩):=Lib.hid (fun hne h9 => (by
         have e9 : cache = cache':=congrArg Disk.cache h9;rw [← e9,hx] at hx';injection hx' with hx';exact hne hx'))
        have HX:=Lib.hid (And.intro hx hx');obtain ⟨xn,xb⟩:=x;obtain ⟨xn',xb'⟩:=x';clear hkeep hx hx';by_cases hnn : xn = xn'
        ·subst hnn
         have hxx : (xn != xn) = false:=by simp
         obtain ⟨t,ht⟩ : ∃ t,(xb == xb') = t:=⟨_,rfl⟩;have HT:=Lib.hid ht;cases t
         ·have HN:=Lib.hid (HD.out (fun h9 => by have h8:=congrArg Wr.b h9;replace h8 : xb = xb':=h8;subst h8;simp at ht))
          clear ht;go_wp2
          go_quiet ((go_at_call 46;exact Calls.quiet_of (Sr9 _ _ _ _ _ _ xb xb' false HT.out _ hr1 hr2)))
          go_wp2
          go_ret
          exact RetSame.no HN.out (belowD hbW2 _)
         ·obtain rfl : xb = xb':=by simpa using ht
          have HS2:=Lib.hid (HS.out.succ HX.out.1 HX.out.2);clear ht;go_wp2
          go_quiet ((go_at_call 46;exact Calls.quiet_of (Sr9 _ _ _ _ _ _ xb xb true HT.out _ hr1 hr2)))
          go_wp2
          go_roundw
          case rel => exact ⟨k + 1,by omega,by go_num,HS2,Lib.hid (by obtain ⟨n,rfl⟩:=hw.out;exact ⟨n + nq,by rw [World.drewN_drewN]⟩)⟩
          case measure => simp [intOf];omega
        ·have hxx : (xn != xn') = true:=by simpa using hnn
         have HN:=Lib.hid (HD.out (fun h9 => hnn (congrArg Wr.n h9)))
         clear hnn;go_wp2
         go_quiet (fail)
         go_wp2
         go_ret
         exact RetSame.no HN.out (belowD hbW2 _)
       ·have he : k = cache.length:=by omega
        subst he;have HE2:=Lib.hid (HS.out.all HQ4.out);clear hkeep;go_wp2
        go_ret
        exact ⟨⟨true,rfl,fun _ => by rw [HE.out,HE2.out],fun _ => rfl⟩,hbW2⟩
theorem Ns9 {P : Program} {e : TypeId} {fs : Array Field} {n off : Nat} {xs : Array Value} (w : World) (hu : P.underlying e = some (.struct fs)) (hn : P.cellsOf e = n) : (part e xs off).run P w = .ok (.agg (xs.extract off (off + n))) w:=by
 obtain ⟨i,hi⟩:=info_of_underlying hu;subst hn;simp [part,isAgg,run_underlying hu,run_sizeOf w hi]
theorem Kj9 (d : Nat) (x : Known) (w : World) : (Op.equalIn (d + 2) 35 (.agg (T9 x).toArray) (.agg (T9 x).toArray)).run Tryz.prog w = .ok true w:=by
 rw [run_equalIn_struct w (d + 1) _ _ _ Tryz.knownStruct Tryz.knownStood];obtain ⟨f1,f2,f3,f4,f5,f6,hfs,h1,h2,h3,h4,h5,h6⟩:=six Tryz.knownFields;rw [hfs];rw [Ba9 (d + 1) _ _ f1 _ _ _ (.int .i64 x.gen) (.int .i64 x.gen) (x.gen == x.gen) w h1 (run_part_plain w Tryz.intKey rfl) (run_part_plain w Tryz.intKey rfl) (run_equalIn_int w _ _ _ _ _ _ Tryz.underlying3)];rw [Ba9 (d + 1) _ _ f2 _ _ _ (.string x.text) (.string x.text) (x.text.toList == x.text.toList) w h2 (run_part_plain w Tryz.strKey rfl) (run_part_plain w Tryz.strKey rfl) (run_equalIn_string w _ _ _ _ Tryz.underlying9)];rw [Ba9 (d + 1) _ _ f3 _ _ _ (.int .i64 x.pGen) (.int .i64 x.pGen) (x.pGen == x.pGen) w h3 (run_part_plain w Tryz.intKey rfl) (run_part_plain w Tryz.intKey rfl) (run_equalIn_int w _ _ _ _ _ _ Tryz.underlying3)];rw [Ba9 (d + 1) _ _ f4 _ _ _ (.string x.pText) (.string x.pText) (x.pText.toList == x.pText.toList) w h4 (run_part_plain w Tryz.strKey rfl) (run_part_plain w Tryz.strKey rfl) (run_equalIn_string w _ _ _ _ Tryz.underlying9)];rw [Ba9 (d + 1) _ _ f5 _ _ _ (.int .i64 x.epoch) (.int .i64 x.epoch) (x.epoch == x.epoch) w h5 (run_part_plain w Tryz.intKey rfl) (run_part_plain w Tryz.intKey rfl) (run_equalIn_int w _ _ _ _ _ _ Tryz.underlying3)];rw [Ba9 (d + 1) _ _ f6 _ _ _ (.int .i64 x.owner) (.int .i64 x.owner) (x.owner == x.owner) w h6 (run_part_plain w Tryz.intKey rfl) (run_part_plain w Tryz.intKey rfl) (run_equalIn_int w _ _ _ _ _ _ Tryz.underlying3)];simp [Op.eqFields,Sem.run_pure]
theorem Tryz.jourStruct : Tryz.prog.underlying 37 = some (.struct (Tryz.prog.fieldsOf 37)):=by kernel_rfl
theorem Tryz.jourStood : Tryz.prog.stoodInHeld 37 = false:=by kernel_rfl
theorem Tryz.jourGuard : Tryz.prog.eqGuardType Tryz.prog.depth 37 = false:=by kernel_rfl
theorem Tryz.jourFields : ((Tryz.prog.fieldsOf 37).toList.map fun f => (f.type, f.offset, decide (f.name = "_"))) = [(35, 0, false), (3, 6, false), (3, 7, false)] := by kernel_rfl
theorem three {α : Type} {g : Field→α} {fs : List Field} {a b c : α} (h : fs.map g = [a,b,c]) : ∃ f1 f2 f3,fs = [f1,f2,f3]∧g f1 = a∧g f2 = b∧g f3 = c:=by
 match fs,h with
 | [f1, f2, f3], h =>
   simp only [List.map_cons,List.map_nil,List.cons.injEq,and_true] at h;exact ⟨f1,f2,f3,rfl,h⟩
theorem Bg8 (x : Jour) (w : World) : (Op.equalIn 10000 37 (.agg (Y7 x).toArray) (.agg (Y7 x).toArray)).run Tryz.prog w = .ok true w:=by
 rw [run_equalIn_struct w 9999 _ _ _ Tryz.jourStruct Tryz.jourStood];obtain ⟨f1,f2,f3,hfs,h1,h2,h3⟩:=three Tryz.jourFields;rw [hfs];have hp : (part 35 (Y7 x).toArray 0).run Tryz.prog w = .ok (.agg (T9 x.k).toArray) w:=by
  rw [Ns9 (n:=6) w Tryz.knownStruct (by kernel_rfl)]
  first | rfl | simp [Y7,T9]
 rw [Ba9 9999 _ _ f1 _ _ _ (.agg (T9 x.k).toArray) (.agg (T9 x.k).toArray) true w h1 hp hp (Kj9 9997 x.k w)];rw [Ba9 9999 _ _ f2 _ _ _ (.int .i64 x.g) (.int .i64 x.g) (x.g == x.g) w h2 (run_part_plain w Tryz.intKey rfl) (run_part_plain w Tryz.intKey rfl) (run_equalIn_int w _ _ _ _ _ _ Tryz.underlying3)];rw [Ba9 9999 _ _ f3 _ _ _ (.int .i64 x.place) (.int .i64 x.place) (x.place == x.place) w h3 (run_part_plain w Tryz.intKey rfl) (run_part_plain w Tryz.intKey rfl) (run_equalIn_int w _ _ _ _ _ _ Tryz.underlying3)];simp [Op.eqFields,Sem.run_pure]
theorem Xx9 (op : BinOp) (a b : Operand) (x y : Jour) (w : World) : (eqGuard op 37 a b (.agg (Y7 x).toArray) (.agg (Y7 y).toArray)).run Tryz.prog w = .ok () w:=run_eqGuard_agg w op _ a b _ _ Tryz.jourGuard
end Go.Proofs.YthpkdjflndiojaaGreatDoor
