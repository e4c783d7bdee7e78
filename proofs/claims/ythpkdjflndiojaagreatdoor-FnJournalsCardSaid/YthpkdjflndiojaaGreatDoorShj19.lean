/- What the theorem needs, out of many texts. -/
import Derived.Test.YthpkdjflndiojaaGreatDoorShj18
import Derived.Deep.CutRange
import Derived.Deep.CutBlock
import Derived.Lib.ConvBytes
set_option maxHeartbeats 20000000
namespace Go.Proofs.YthpkdjflndiojaaGreatDoor
open Go.RowKit
set_option maxRecDepth 2000000
set_option linter.unusedVariables false
structure PB (w : World) (cs : List Value) (k : Known) (W : World) : Prop where
 below : Below w.heap.size w W
 dbox : W.heap[w.heap.size]? = some (.cells cs.toArray 27 (0,0))
 rbox : W.heap[w.heap.size + 1]? = some (.cells (T9 knownZero).toArray 35 (0,0))
 kbox : W.heap[w.heap.size + 2]? = some (.cells (T9 k).toArray 35 (0,0))
section
variable {w W W' : World} {cs : List Value} {k : Known}
theorem PB.lt (h : PB w cs k W) : w.heap.size + 2 < W.heap.size:=(Array.getElem?_eq_some_iff.1 h.kbox).1
theorem PB.later (h : PB w cs k W) (hb : Below W.heap.size W W') : PB w cs k W':=by
 have hl:=h.lt;exact ⟨Later.trans h.below hb,(hb.block _ (by omega)).trans h.dbox,(hb.block _ (by omega)).trans h.rbox,(hb.block _ hl).trans h.kbox⟩
instance PB.keeps (w : World) (cs : List Value) (k : Known) : Keeps (fun W => PB w cs k W):=⟨fun h x => x.later h⟩
theorem PB.beside {E : Nat} (h : PB w cs k W) (ho : Rep.Only W W' [E]) (hE : w.heap.size + 2 < E) : PB w cs k W':=by
 have hl:=h.lt;exact ⟨Rep.Only.below h.below ho h.below.size (fun a ha => by simp at ha;omega),(ho.block _ (by omega) (by simp;omega)).trans h.dbox,(ho.block _ (by omega) (by simp;omega)).trans h.rbox,(ho.block _ hl (by simp;omega)).trans h.kbox⟩
theorem PB.putK (h : PB w cs k W) (a : Int) (b : ByteArray) (p : Int) (q : ByteArray) (e f : Int) : PB w cs ⟨a,b,p,q,e,f⟩ ((((((W.setCell ⟨w.heap.size + 2,0,none⟩ (.int .i64 a)).setCell ⟨w.heap.size + 2,1,none⟩ (.string b)).setCell ⟨w.heap.size + 2,2,none⟩ (.int .i64 p)).setCell ⟨w.heap.size + 2,3,none⟩ (.string q)).setCell ⟨w.heap.size + 2,4,none⟩ (.int .i64 e)).setCell ⟨w.heap.size + 2,5,none⟩ (.int .i64 f)):=by
 have ho:=Ke9 W (w.heap.size + 2) a b p q e f;have hl:=h.lt;exact ⟨Rep.Only.below h.below ho h.below.size (fun a ha => by simp at ha;omega),(ho.block _ (by omega) (by simp)).trans h.dbox,(ho.block _ (by omega) (by simp)).trans h.rbox,Ai8 h.kbox a b p q e f⟩
end
def RetRep (w : World) (p : Known × Nat) (e : Ending) (w' : World) : Prop:=e = .returned (.tuple #[.agg (T9 p.1).toArray,.int .i64 p.2])∧Below w.heap.size w w'
theorem PB.ret {w W : World} {cs : List Value} {k0 : Known} (h : PB w cs k0 W) (a : Int) (b : ByteArray) (p : Int) (q : ByteArray) (e f : Int) : Below w.heap.size w ((((((W.setCell ⟨w.heap.size + 1,0,none⟩ (.int .i64 a)).setCell ⟨w.heap.size + 1,1,none⟩ (.string b)).setCell ⟨w.heap.size + 1,2,none⟩ (.int .i64 p)).setCell ⟨w.heap.size + 1,3,none⟩ (.string q)).setCell ⟨w.heap.size + 1,4,none⟩ (.int .i64 e)).setCell ⟨w.heap.size + 1,5,none⟩ (.int .i64 f)):=
 Rep.Only.below h.below (Ke9 W (w.heap.size + 1) a b p q e f) h.below.size (fun a ha => by simp at ha;omega)
theorem RetRep.lit {w w' : World} {a : Int} {b : ByteArray} {p : Int} {q : ByteArray} {e f : Int} {m : Nat} {en : Ending} (h : RetRep w (⟨a,b,p,q,e,f⟩,m) en w') : en = .returned (.tuple #[.agg #[.int .i64 a,.string b,.int .i64 p,.string q,.int .i64 e,.int .i64 f],.int .i64 m])∧Below w.heap.size w w':=h
theorem RetGet.four {w w' : World} {a b k n o : Int} {t : ByteArray} {y : Bool} {e : Ending} (h : RetGet w ((a,b,⟨k,n,o,t⟩),y) e w') : e = .returned (.tuple #[.int .i64 a,.int .i64 b,.agg #[.int .i64 k,.int .i64 n,.int .i64 o,.string t],.bool y])∧Below w.heap.size w w':=h
theorem RetKB.lit6 {w w' : World} {a : Int} {b : ByteArray} {p : Int} {q : ByteArray} {e f : Int} {y : Bool} {en : Ending} (h : RetKB w (⟨a,b,p,q,e,f⟩,y) en w') : en = .returned (.tuple #[.agg #[.int .i64 a,.string b,.int .i64 p,.string q,.int .i64 e,.int .i64 f],.bool y])∧Below w.heap.size w w':=h
theorem Q8 {w : World} {g : Nat} {a b c d : Value} (h : w.heap[g]? = some (.cells [a,b,c,d].toArray 27 (0,0))) : w.cell? ⟨g,0,none⟩ = some a∧w.cell? ⟨g,1,none⟩ = some b∧w.cell? ⟨g,2,none⟩ = some c∧w.cell? ⟨g,3,none⟩ = some d:=⟨E9 h 0,E9 h 1,E9 h 2,E9 h 3⟩
set_option maxRecDepth 100000 in
theorem Us9 (cs : List Value) (d : Disk) (g : Int) (w : World) (h : diskR.at_ w w.heap.size cs d) (hf : Ag9 d) (hg : Given w) :
 Calls Tryz.prog 33 #[.agg cs.toArray,.int .i64 g] w (RetRep w (U8 d g)):=by
 obtain ⟨A,c,B,e,rfl⟩:=G7 h;have HD:=Lib.hid h;have HG:=Lib.hid hg;have P0 : PB w [.slice A d.secs.length c,.slice B d.cache.length e,.int .i64 d.fuse,.bool d.down] knownZero (((w.alloc (.cells #[.slice A d.secs.length c,.slice B d.cache.length e,.int .i64 d.fuse,.bool d.down] 27)).alloc (.cells #[.int .i64 0,.string ⟨#[]⟩,.int .i64 0,.string ⟨#[]⟩,.int .i64 0,.int .i64 0] 35)).alloc (.cells #[.int .i64 0,.string ⟨#[]⟩,.int .i64 0,.string ⟨#[]⟩,.int .i64 0,.int .i64 0] 35)):=
  ⟨Later.trans (Later.trans (Later.alloc w _) (Later.alloc _ _)) (Later.alloc _ _),(Below.heap_alloc _ _ _ (by simp;omega)).trans ((Below.heap_alloc _ _ _ (by simp)).trans (heap_alloc_new w _)),(Below.heap_alloc _ _ _ (by simp)).trans (G9 _ _ (by simp)),G9 _ _ (by simp)⟩
 clear h hg;show Calls Tryz.prog 33 #[.agg #[.slice A d.secs.length c,.slice B d.cache.length e,.int .i64 d.fuse,.bool d.down],.int .i64 g] w _
 obtain ⟨⟨⟨Ka,Kb,Kp,Kq,Ke,Kf⟩,M⟩,hp⟩ : ∃ p,U8 d g = p:=⟨_,rfl⟩;rw [hp];have HP:=Lib.hid hp;clear hp;obtain ⟨b1,h1⟩ : ∃ b,inI g 1 60000 = b:=⟨_,rfl⟩;unfold RetRep;go_enter Tryz.func33,Tryz.ntmps33
 go_upto_region 2 with (fail)
 generalize ((w.alloc (.cells #[.slice A d.secs.length c,.slice B d.cache.length e,.int .i64 d.fuse,.bool d.down] 27)).alloc (.cells #[.int .i64 0,.string ⟨#[]⟩,.int .i64 0,.string ⟨#[]⟩,.int .i64 0,.int .i64 0] 35)).alloc (.cells #[.int .i64 0,.string ⟨#[]⟩,.int .i64 0,.string ⟨#[]⟩,.int .i64 0,.int .i64 0] 35) = W0 at P0 ⊢;cases b1
 ·have hq : U8 d g = (knownZero,0):=by unfold U8;rw [h1];rfl
  rw [HP.out] at hq;injection hq with hq1 hq2;injection hq1 with e1 e2 e3 e4 e5 e6;subst e1 e2 e3 e4 e5 e6 hq2;obtain ⟨z0,z1,z2,z3,z4,z5⟩:=I9 P0.rbox;obtain ⟨k0,k1,k2,k3,k4,k5⟩:=I9 P0.kbox;have zf0:=C9 P0.rbox 0;have zf1:=C9 P0.rbox 1;have zf2:=C9 P0.rbox 2;have zf3:=C9 P0.rbox 3;have zf4:=C9 P0.rbox 4;have zf5:=C9 P0.rbox 5;have hl:=P0.lt;have hret:=P0.ret 0 ⟨#[]⟩ 0 ⟨#[]⟩ 0 0;clear P0;go_wp2_with (go_at_call 62;refine (M7 (by assumption) _).mono ?_;rintro e w' ⟨rfl,rfl⟩)
  exact bodyPost_ret (v:=.tuple #[.agg #[.int .i64 0,.string ⟨#[]⟩,.int .i64 0,.string ⟨#[]⟩,.int .i64 0,.int .i64 0],.int .i64 0]) (by simp [results,Tryz.results33,go_sem,z0,z1,z2,z3,z4,z5,knownZero]) rfl ⟨rfl,hret⟩
 ·have hq : Z8 d g 18 0 knownZero = (⟨Ka,Kb,Kp,Kq,Ke,Kf⟩,M):=by have h9:=HP.out;unfold U8 at h9;rw [h1] at h9;exact h9
  have hgg : 1 ≤ g∧g ≤ 60000:=of_decide_eq_true h1;have HQ:=Lib.hid hq;clear hq;go_wp2_with (go_at_call 62;refine (M7 (by assumption) _).mono ?_;rintro e w' ⟨rfl,rfl⟩)
  clear h1 HP;go_loopw [7] (fun i wr => ∃ (j : Nat) (k : Known),j ≤ 18∧i = .int .i64 j∧Hid (Z8 d g (18 - j) j k = (⟨Ka,Kb,Kp,Kq,Ke,Kf⟩,M))∧PB w [.slice A d.secs.length c,.slice B d.cache.length e,.int .i64 d.fuse,.bool d.down] k wr) (fun i _ => 18 - (intOf i).toNat)
  case atStart => exact ⟨0,knownZero,by omega,rfl,HQ,P0⟩
  case round =>
     clear P0 HQ;obtain ⟨j,⟨ka,kb,kp,kq,ke,kf⟩,hj,rfl,hrep,P⟩:=hrel;by_cases hlt : j < 18
     ·obtain ⟨⟨⟨ga,gp,⟨rk,rn,ro,rt⟩⟩,ok⟩,hget⟩ : ∃ p,Gb9 (P9 d (atP g j)) = p:=⟨_,rfl⟩
      have HGET:=Lib.hid hget;clear hget;go_upto_region 7 with (fail)
      go_cut [8,9,10,11] from 19 to 58 (fun v8 v9 v10 v11 W' => ∃ E,v8 = .int .i64 ga∧v9 = .int .i64 gp∧v10 = .pointer (some ⟨E,0,none⟩)∧v11 = .bool ok∧PB w [.slice A d.secs.length c,.slice B d.cache.length e,.int .i64 d.fuse,.bool d.down] ⟨ka,kb,kp,kq,ke,kf⟩ W'∧Hid (W'.heap[E]? = some (.cells (M8 ⟨rk,rn,ro,rt⟩).toArray 29 (0,0)))∧w.heap.size + 2 < E)
      case first =>
        rename_i J K1 hJ hK
        have S : All (fun w' => PB w [.slice A d.secs.length c,.slice B d.cache.length e,.int .i64 d.fuse,.bool d.down] ⟨ka,kb,kp,kq,ke,kf⟩ w') wr:=⟨P⟩
        clear P;refine Ad9 15 (fun w' => w'.heap[w.heap.size]? = some (.cells [.slice A d.secs.length c,.slice B d.cache.length e,.int .i64 d.fuse,.bool d.down].toArray 27 (0,0))) (by kernel_rfl) ?_
        replace S:=S.drew;refine Y9 [0,1,2] (fuel:=13) (by kernel_rfl) S.out.dbox ?_
        iterate 3 (refine LexR.cons rfl ?_ (fun w' hw => ?_) ?_;rotate_left;focus (obtain ⟨d0,d1,d2,d3⟩:=Q8 hw;clear hw;go_simp;(try exact rfl));(try go_frame))
        refine LexR.nil ?_;generalize wr.drew = V0 at S ⊢;refine As9 (i:=3) (j:=11) (by kernel_rfl) ?_ ?_
        ·skip
         refine K9 rfl ?_;try go_frame
         go_wp2_with fail;refine (Lq9 g (j : Int) V0 (by omega) (by omega)).mono ?_
         rintro e V1 ⟨rfl,rfl⟩;go_wp2_with fail;refine ⟨by first | exact S.out.dbox | exact fun _ => S.out.dbox,?_⟩
         refine As9 (i:=4) (j:=11) (by kernel_rfl) ?_ ?_
         ·skip
          refine K9 rfl ?_;try go_frame
          go_wp2_with fail;refine (Fi9 [.slice A d.secs.length c,.slice B d.cache.length e,.int .i64 d.fuse,.bool d.down] d (atP g (j : Int)) V0 (Keeps.keeps (F:=fun w' => diskR.at_ w' w'.heap.size [.slice A d.secs.length c,.slice B d.cache.length e,.int .i64 d.fuse,.bool d.down] d) S.out.below HD.out) hf (Ie9 hgg.1 hgg.2 (by omega) (by omega))).mono ?_
          rintro e V2 ⟨A4,c4,fp4,rfl,O4,hb⟩;replace S:=S.later hb;obtain ⟨A5,c5,he5,hk4,r4⟩:=Rep.reads byR O4;injection he5 with he5 _;injection he5 with he5 _ he6;subst he5 he6;clear hb O4;go_wp2_with fail;refine ⟨by first | exact S.out.dbox | exact fun _ => S.out.dbox,?_⟩
          refine As9 (i:=5) (j:=11) (by kernel_rfl) ?_ ?_
          ·skip
           refine K9 rfl ?_;try go_frame
           go_wp2_with fail;refine (Ji9 A4 c4 (P9 d (atP g (j : Int))) V2 r4 (Az9 hf _) hk4.1 (Keeps.keeps (F:=Given) S.out.below HG.out)).mono ?_;rw [HGET.out];rintro e V3 hret;obtain ⟨rfl,hb⟩:=hret.four;replace S:=S.later hb;clear hret hb r4;go_wp2_with fail;refine ⟨by first | exact S.out.dbox | exact fun _ => S.out.dbox,?_⟩
           refine Y9 [6,7,8,9,10] (fuel:=5) (by kernel_rfl) S.out.dbox ?_
           iterate 5 (refine LexR.cons rfl ?_ (fun w' hw => ?_) ?_;rotate_left;focus (clear hw;go_simp;(try exact rfl));(try go_frame))
           refine LexR.nil (F8 [11,12,13,14,15] (by kernel_rfl) (LexW.cons rfl ?_))
           try go_frame
           go_wp2_with fail;have hE : (V3.alloc (.cells #[.int .i64 0,.int .i64 0,.int .i64 0,.string ⟨#[]⟩] 29)).heap[V3.heap.size]? = some (.cells (M8 N8).toArray 29 (0,0)):=heap_alloc_new V3 _;have hDE : w.heap.size + 2 < V3.heap.size:=S.out.lt;replace S:=S.alloc (.cells #[.int .i64 0,.int .i64 0,.int .i64 0,.string ⟨#[]⟩] 29);generalize V3.alloc (.cells #[.int .i64 0,.int .i64 0,.int .i64 0,.string ⟨#[]⟩] 29) = V4 at S hE ⊢;generalize V3.heap.size = E at hE hDE ⊢;refine ⟨by first | exact S.out.dbox | exact fun _ => S.out.dbox,LexW.cons rfl ?_⟩
           try go_frame
           go_wp2_with fail;refine ⟨by first | exact S.out.dbox | exact fun _ => S.out.dbox,LexW.cons rfl ?_⟩
           try go_frame
           go_wp2_with fail;refine ⟨by first | exact S.out.dbox | exact fun _ => S.out.dbox,LexW.cons rfl ?_⟩
           try go_frame
           obtain ⟨y0,y1,y2,y3⟩:=J9 (r:=N8) hE;have yf0:=C9 hE 0;have yf1:=C9 hE 1;have yf2:=C9 hE 2;have yf3:=C9 hE 3;have hyl:=(Array.getElem?_eq_some_iff.1 hE).1;have HE2:=Lib.hid (Cx9 (r0:=N8) hE rk rn ro rt);have P2:=S.out.beside (U7 V4 E (.int .i64 rk) (.int .i64 rn) (.int .i64 ro) (.string rt)) hDE;clear hE S;go_wp2_with fail;generalize ((((V4.setCell ⟨E,0,none⟩ (.int .i64 rk)).setCell ⟨E,1,none⟩ (.int .i64 rn)).setCell ⟨E,2,none⟩ (.int .i64 ro)).setCell ⟨E,3,none⟩ (.string rt)) = VZ at HE2 P2 ⊢;clear y0 y1 y2 y3 yf0 yf1 yf2 yf3 hyl;refine ⟨by first | exact P2.dbox | exact fun _ => P2.dbox,LexW.cons rfl ?_⟩
           try go_frame
           go_wp2_with fail;refine ⟨fun h => absurd rfl h,LexW.nil (hK _ _ (Met.intro (hJ _ _ ?_)))⟩
           (repeat apply Exists.intro)
           refine ⟨?_,rfl⟩;exact ⟨E,rfl,rfl,rfl,rfl,P2,HE2,hDE⟩
          ·skip
           refine K9 rfl ?_;try go_frame
           go_wp2_with fail;have hE : (V2.alloc (.cells #[.int .i64 0,.int .i64 0,.int .i64 0,.string ⟨#[]⟩] 29)).heap[V2.heap.size]? = some (.cells (M8 N8).toArray 29 (0,0)):=heap_alloc_new V2 _;have hDE : w.heap.size + 2 < V2.heap.size:=S.out.lt;replace r4:=(r4.below (Later.alloc V2 (.cells #[.int .i64 0,.int .i64 0,.int .i64 0,.string ⟨#[]⟩] 29))).more (Later.alloc V2 (.cells #[.int .i64 0,.int .i64 0,.int .i64 0,.string ⟨#[]⟩] 29)).size;replace S:=S.alloc (.cells #[.int .i64 0,.int .i64 0,.int .i64 0,.string ⟨#[]⟩] 29);generalize V2.alloc (.cells #[.int .i64 0,.int .i64 0,.int .i64 0,.string ⟨#[]⟩] 29) = V3 at S hE r4 ⊢;generalize V2.heap.size = E at hE hDE ⊢;refine ⟨by first | exact S.out.dbox | exact fun _ => S.out.dbox,?_⟩
           refine R9 (i:=5) (by kernel_rfl) ?_
           refine K9 rfl ?_;try go_frame
           go_wp2_with fail;refine (Ji9 A4 c4 (P9 d (atP g (j : Int))) V3 r4 (Az9 hf _) hk4.1 (Keeps.keeps (F:=Given) S.out.below HG.out)).mono ?_;rw [HGET.out];rintro e V4 hret;obtain ⟨rfl,hb⟩:=hret.four;replace S:=S.later hb;replace hE:=(hb.block _ (Array.getElem?_eq_some_iff.1 hE).1).trans hE;clear hret hb r4;go_wp2_with fail;refine ⟨by first | exact S.out.dbox | exact fun _ => S.out.dbox,?_⟩
           refine Y9 [6,7,8,9,10] (fuel:=4) (by kernel_rfl) S.out.dbox ?_
           iterate 5 (refine LexR.cons rfl ?_ (fun w' hw => ?_) ?_;rotate_left;focus (clear hw;go_simp;(try exact rfl));(try go_frame))
           refine LexR.nil (F8 [12,13,14,15] (by kernel_rfl) (LexW.cons rfl ?_))
           try go_frame
           go_wp2_with fail;refine ⟨by first | exact S.out.dbox | exact fun _ => S.out.dbox,LexW.cons rfl ?_⟩
           try go_frame
           go_wp2_with fail;refine ⟨by first | exact S.out.dbox | exact fun _ => S.out.dbox,LexW.cons rfl ?_⟩
           try go_frame
           obtain ⟨y0,y1,y2,y3⟩:=J9 (r:=N8) hE;have yf0:=C9 hE 0;have yf1:=C9 hE 1;have yf2:=C9 hE 2;have yf3:=C9 hE 3;have hyl:=(Array.getElem?_eq_some_iff.1 hE).1;have HE2:=Lib.hid (Cx9 (r0:=N8) hE rk rn ro rt);have P2:=S.out.beside (U7 V4 E (.int .i64 rk) (.int .i64 rn) (.int .i64 ro) (.string rt)) hDE;clear hE S;go_wp2_with fail;generalize ((((V4.setCell ⟨E,0,none⟩ (.int .i64 rk)).setCell ⟨E,1,none⟩ (.int .i64 rn)).setCell ⟨E,2,none⟩ (.int .i64 ro)).setCell ⟨E,3,none⟩ (.string rt)) = VZ at HE2 P2 ⊢;clear y0 y1 y2 y3 yf0 yf1 yf2 yf3 hyl;refine ⟨by first | exact P2.dbox | exact fun _ => P2.dbox,LexW.cons rfl ?_⟩
           try go_frame
           go_wp2_with fail;refine ⟨fun h => absurd rfl h,LexW.nil (hK _ _ (Met.intro (hJ _ _ ?_)))⟩
           (repeat apply Exists.intro)
           refine ⟨?_,rfl⟩;exact ⟨E,rfl,rfl,rfl,rfl,P2,HE2,hDE⟩
         ·skip
          refine K9 rfl ?_;try go_frame
          go_wp2_with fail;have hE : (V0.alloc (.cells #[.int .i64 0,.int .i64 0,.int .i64 0,.string ⟨#[]⟩] 29)).heap[V0.heap.size]? = some (.cells (M8 N8).toArray 29 (0,0)):=heap_alloc_new V0 _;have hDE : w.heap.size + 2 < V0.heap.size:=S.out.lt;replace S:=S.alloc (.cells #[.int .i64 0,.int .i64 0,.int .i64 0,.string ⟨#[]⟩] 29);generalize V0.alloc (.cells #[.int .i64 0,.int .i64 0,.int .i64 0,.string ⟨#[]⟩] 29) = V2 at S hE ⊢;generalize V0.heap.size = E at hE hDE ⊢;refine ⟨by first | exact S.out.dbox | exact fun _ => S.out.dbox,?_⟩
          refine R9 (i:=4) (by kernel_rfl) ?_
          refine K9 rfl ?_;try go_frame
          go_wp2_with fail;refine (Fi9 [.slice A d.secs.length c,.slice B d.cache.length e,.int .i64 d.fuse,.bool d.down] d (atP g (j : Int)) V2 (Keeps.keeps (F:=fun w' => diskR.at_ w' w'.heap.size [.slice A d.secs.length c,.slice B d.cache.length e,.int .i64 d.fuse,.bool d.down] d) S.out.below HD.out) hf (Ie9 hgg.1 hgg.2 (by omega) (by omega))).mono ?_
          rintro e V3 ⟨A4,c4,fp4,rfl,O4,hb⟩;replace S:=S.later hb;replace hE:=(hb.block _ (Array.getElem?_eq_some_iff.1 hE).1).trans hE;obtain ⟨A5,c5,he5,hk4,r4⟩:=Rep.reads byR O4;injection he5 with he5 _;injection he5 with he5 _ he6;subst he5 he6;clear hb O4;go_wp2_with fail;refine ⟨by first | exact S.out.dbox | exact fun _ => S.out.dbox,?_⟩
          refine R9 (i:=5) (by kernel_rfl) ?_
          refine K9 rfl ?_;try go_frame
          go_wp2_with fail;refine (Ji9 A4 c4 (P9 d (atP g (j : Int))) V3 r4 (Az9 hf _) hk4.1 (Keeps.keeps (F:=Given) S.out.below HG.out)).mono ?_;rw [HGET.out];rintro e V4 hret;obtain ⟨rfl,hb⟩:=hret.four;replace S:=S.later hb;replace hE:=(hb.block _ (Array.getElem?_eq_some_iff.1 hE).1).trans hE;clear hret hb r4;go_wp2_with fail;refine ⟨by first | exact S.out.dbox | exact fun _ => S.out.dbox,?_⟩
          refine Y9 [6,7,8,9,10] (fuel:=4) (by kernel_rfl) S.out.dbox ?_
          iterate 5 (refine LexR.cons rfl ?_ (fun w' hw => ?_) ?_;rotate_left;focus (clear hw;go_simp;(try exact rfl));(try go_frame))
          refine LexR.nil (F8 [12,13,14,15] (by kernel_rfl) (LexW.cons rfl ?_))
          try go_frame
          go_wp2_with fail;refine ⟨by first | exact S.out.dbox | exact fun _ => S.out.dbox,LexW.cons rfl ?_⟩
          try go_frame
          go_wp2_with fail;refine ⟨by first | exact S.out.dbox | exact fun _ => S.out.dbox,LexW.cons rfl ?_⟩
          try go_frame
          obtain ⟨y0,y1,y2,y3⟩:=J9 (r:=N8) hE;have yf0:=C9 hE 0;have yf1:=C9 hE 1;have yf2:=C9 hE 2;have yf3:=C9 hE 3;have hyl:=(Array.getElem?_eq_some_iff.1 hE).1;have HE2:=Lib.hid (Cx9 (r0:=N8) hE rk rn ro rt);have P2:=S.out.beside (U7 V4 E (.int .i64 rk) (.int .i64 rn) (.int .i64 ro) (.string rt)) hDE;clear hE S;go_wp2_with fail;generalize ((((V4.setCell ⟨E,0,none⟩ (.int .i64 rk)).setCell ⟨E,1,none⟩ (.int .i64 rn)).setCell ⟨E,2,none⟩ (.int .i64 ro)).setCell ⟨E,3,none⟩ (.string rt)) = VZ at HE2 P2 ⊢;clear y0 y1 y2 y3 yf0 yf1 yf2 yf3 hyl;refine ⟨by first | exact P2.dbox | exact fun _ => P2.dbox,LexW.cons rfl ?_⟩
          try go_frame
          go_wp2_with fail;refine ⟨fun h => absurd rfl h,LexW.nil (hK _ _ (Met.intro (hJ _ _ ?_)))⟩
          (repeat apply Exists.intro)
          refine ⟨?_,rfl⟩;exact ⟨E,rfl,rfl,rfl,rfl,P2,HE2,hDE⟩
        ·skip
         refine K9 rfl ?_;try go_frame
         go_wp2_with fail;have hE : (V0.alloc (.cells #[.int .i64 0,.int .i64 0,.int .i64 0,.string ⟨#[]⟩] 29)).heap[V0.heap.size]? = some (.cells (M8 N8).toArray 29 (0,0)):=heap_alloc_new V0 _;have hDE : w.heap.size + 2 < V0.heap.size:=S.out.lt;replace S:=S.alloc (.cells #[.int .i64 0,.int .i64 0,.int .i64 0,.string ⟨#[]⟩] 29);generalize V0.alloc (.cells #[.int .i64 0,.int .i64 0,.int .i64 0,.string ⟨#[]⟩] 29) = V1 at S hE ⊢;generalize V0.heap.size = E at hE hDE ⊢;refine ⟨by first | exact S.out.dbox | exact fun _ => S.out.dbox,?_⟩
         refine R9 (i:=3) (by kernel_rfl) ?_
         refine K9 rfl ?_;try go_frame
         go_wp2_with fail;refine (Lq9 g (j : Int) V1 (by omega) (by omega)).mono ?_
         rintro e V2 ⟨rfl,rfl⟩;go_wp2_with fail;refine ⟨by first | exact S.out.dbox | exact fun _ => S.out.dbox,?_⟩
         refine R9 (i:=4) (by kernel_rfl) ?_
         refine K9 rfl ?_;try go_frame
         go_wp2_with fail;refine (Fi9 [.slice A d.secs.length c,.slice B d.cache.length e,.int .i64 d.fuse,.bool d.down] d (atP g (j : Int)) V1 (Keeps.keeps (F:=fun w' => diskR.at_ w' w'.heap.size [.slice A d.secs.length c,.slice B d.cache.length e,.int .i64 d.fuse,.bool d.down] d) S.out.below HD.out) hf (Ie9 hgg.1 hgg.2 (by omega) (by omega))).mono ?_
         rintro e V3 ⟨A4,c4,fp4,rfl,O4,hb⟩;replace S:=S.later hb;replace hE:=(hb.block _ (Array.getElem?_eq_some_iff.1 hE).1).trans hE;obtain ⟨A5,c5,he5,hk4,r4⟩:=Rep.reads byR O4;injection he5 with he5 _;injection he5 with he5 _ he6;subst he5 he6;clear hb O4;go_wp2_with fail;refine ⟨by first | exact S.out.dbox | exact fun _ => S.out.dbox,?_⟩
         refine R9 (i:=5) (by kernel_rfl) ?_
         refine K9 rfl ?_;try go_frame
         go_wp2_with fail;refine (Ji9 A4 c4 (P9 d (atP g (j : Int))) V3 r4 (Az9 hf _) hk4.1 (Keeps.keeps (F:=Given) S.out.below HG.out)).mono ?_;rw [HGET.out];rintro e V4 hret;obtain ⟨rfl,hb⟩:=hret.four;replace S:=S.later hb;replace hE:=(hb.block _ (Array.getElem?_eq_some_iff.1 hE).1).trans hE;clear hret hb r4;go_wp2_with fail;refine ⟨by first | exact S.out.dbox | exact fun _ => S.out.dbox,?_⟩
         refine Y9 [6,7,8,9,10] (fuel:=4) (by kernel_rfl) S.out.dbox ?_
         iterate 5 (refine LexR.cons rfl ?_ (fun w' hw => ?_) ?_;rotate_left;focus (clear hw;go_simp;(try exact rfl));(try go_frame))
         refine LexR.nil (F8 [12,13,14,15] (by kernel_rfl) (LexW.cons rfl ?_))
         try go_frame
         go_wp2_with fail;refine ⟨by first | exact S.out.dbox | exact fun _ => S.out.dbox,LexW.cons rfl ?_⟩
         try go_frame
         go_wp2_with fail;refine ⟨by first | exact S.out.dbox | exact fun _ => S.out.dbox,LexW.cons rfl ?_⟩
         try go_frame
         obtain ⟨y0,y1,y2,y3⟩:=J9 (r:=N8) hE;have yf0:=C9 hE 0;have yf1:=C9 hE 1;have yf2:=C9 hE 2;have yf3:=C9 hE 3;have hyl:=(Array.getElem?_eq_some_iff.1 hE).1;have HE2:=Lib.hid (Cx9 (r0:=N8) hE rk rn ro rt);have P2:=S.out.beside (U7 V4 E (.int .i64 rk) (.int .i64 rn) (.int .i64 ro) (.string rt)) hDE;clear hE S;go_wp2_with fail;generalize ((((V4.setCell ⟨E,0,none⟩ (.int .i64 rk)).setCell ⟨E,1,none⟩ (.int .i64 rn)).setCell ⟨E,2,none⟩ (.int .i64 ro)).setCell ⟨E,3,none⟩ (.string rt)) = VZ at HE2 P2 ⊢;clear y0 y1 y2 y3 yf0 yf1 yf2 yf3 hyl;refine ⟨by first | exact P2.dbox | exact fun _ => P2.dbox,LexW.cons rfl ?_⟩
         try go_frame
         go_wp2_with fail;refine ⟨fun h => absurd rfl h,LexW.nil (hK _ _ (Met.intro (hJ _ _ ?_)))⟩
         (repeat apply Exists.intro)
         refine ⟨?_,rfl⟩;exact ⟨E,rfl,rfl,rfl,rfl,P2,HE2,hDE⟩
      case rest =>
        clear P;obtain ⟨E,rfl,rfl,rfl,rfl,P,hE,hDE⟩:=hcut;obtain ⟨m,hm⟩ : ∃ m,18 - j = m + 1:=⟨17 - j,by omega⟩
        have hrep2:=hrep.out;rw [hm] at hrep2;have HREP:=Lib.hid hrep2;have HM:=Lib.hid hm;clear hrep2 hrep hm;cases ok
        ·skip
         have hq:=HREP.out;rw [(Gw9 (n:=m) (k:=⟨ka,kb,kp,kq,ke,kf⟩) (show Cr9 d g j = false by unfold Cr9;rw [HGET.out];rfl))] at hq
         injection hq with hq1 hq2;injection hq1 with e1 e2 e3 e4 e5 e6;subst e1 e2 e3 e4 e5 e6 hq2;obtain ⟨z0,z1,z2,z3,z4,z5⟩:=I9 P.rbox;obtain ⟨k0,k1,k2,k3,k4,k5⟩:=I9 P.kbox;have zf0:=C9 P.rbox 0;have zf1:=C9 P.rbox 1;have zf2:=C9 P.rbox 2;have zf3:=C9 P.rbox 3;have zf4:=C9 P.rbox 4;have zf5:=C9 P.rbox 5;have hl:=P.lt;have hret:=P.ret ka kb kp kq ke kf;clear P;go_wp2_with fail;exact bodyPost_ret (v:=.tuple #[.agg #[.int .i64 ka,.string kb,.int .i64 kp,.string kq,.int .i64 ke,.int .i64 kf],.int .i64 j]) (by simp [results,Tryz.results33,go_sem,z0,z1,z2,z3,z4,z5,knownZero]) rfl ⟨rfl,hret⟩
        ·by_cases hga : ga = g
         ·by_cases hgp : gp = (j : Int)
          ·have HS : Cr9 d g j = true:=by unfold Cr9;rw [HGET.out];simp [hga,hgp]
           have HR : Ay9 d g j = ⟨rk,rn,ro,rt⟩:=by unfold Ay9;rw [HGET.out]
           have n1 : (ga != g) = false:=by simp [hga]
           have n2 : (gp != (j : Int)) = false:=by simp [hgp]
           obtain ⟨⟨⟨na,nb,np,nq,ne,nf⟩,yes⟩,hap⟩ : ∃ p,K8 ⟨ka,kb,kp,kq,ke,kf⟩ ⟨rk,rn,ro,rt⟩ = p:=⟨_,rfl⟩;have HAP:=Lib.hid hap;have HSS:=Lib.hid HS;have HRR:=Lib.hid HR;clear hga hgp HS HR hap;obtain ⟨k0,k1,k2,k3,k4,k5⟩:=I9 P.kbox;obtain ⟨e0,e1,e2,e3⟩:=J9 (r:=⟨rk,rn,ro,rt⟩) hE.out;go_wp2_with fail;refine (Qm9 ⟨ka,kb,kp,kq,ke,kf⟩ ⟨rk,rn,ro,rt⟩ wc).mono ?_;rw [HAP.out];rintro e W9 hret;obtain ⟨rfl,hb⟩:=hret.lit6;replace P:=P.later hb;clear hret hb k0 k1 k2 k3 k4 k5 e0 e1 e2 e3 hE n1 n2;have HN:=heap_alloc_new W9 (.cells #[.int .i64 na,.string nb,.int .i64 np,.string nq,.int .i64 ne,.int .i64 nf] 35);have hNl : W9.heap.size < (W9.alloc (.cells #[.int .i64 na,.string nb,.int .i64 np,.string nq,.int .i64 ne,.int .i64 nf] 35)).heap.size:=by simp
           replace P:=P.later (Later.alloc W9 (.cells #[.int .i64 na,.string nb,.int .i64 np,.string nq,.int .i64 ne,.int .i64 nf] 35));go_upto_region 11 with (fail)
           generalize W9.alloc (.cells #[.int .i64 na,.string nb,.int .i64 np,.string nq,.int .i64 ne,.int .i64 nf] 35) = WA at HN hNl P ⊢;generalize W9.heap.size = EN at HN hNl ⊢;cases yes
           ·skip
            have hq:=HREP.out;rw [(Om9 (n:=m) (k:=⟨ka,kb,kp,kq,ke,kf⟩) (show (K8 ⟨ka,kb,kp,kq,ke,kf⟩ (Ay9 d g j)).2 = false by rw [HRR.out,HAP.out]))] at hq
            injection hq with hq1 hq2;injection hq1 with e1 e2 e3 e4 e5 e6;subst e1 e2 e3 e4 e5 e6 hq2;obtain ⟨z0,z1,z2,z3,z4,z5⟩:=I9 P.rbox;obtain ⟨k0,k1,k2,k3,k4,k5⟩:=I9 P.kbox;have zf0:=C9 P.rbox 0;have zf1:=C9 P.rbox 1;have zf2:=C9 P.rbox 2;have zf3:=C9 P.rbox 3;have zf4:=C9 P.rbox 4;have zf5:=C9 P.rbox 5;have hl:=P.lt;have hret:=P.ret ka kb kp kq ke kf;clear P;go_wp2_with fail;exact bodyPost_ret (v:=.tuple #[.agg #[.int .i64 ka,.string kb,.int .i64 kp,.string kq,.int .i64 ke,.int .i64 kf],.int .i64 j]) (by simp [results,Tryz.results33,go_sem,z0,z1,z2,z3,z4,z5,knownZero]) rfl ⟨rfl,hret⟩
           ·have HREP2 := Lib.hid (show Z8 d g (18 - (j + 1)) (j + 1) ⟨na, nb, np, nq, ne, nf⟩ = (⟨Ka, Kb, Kp, Kq, Ke, Kf⟩, M) by
               have h9:=HREP.out;rw [Gx9 HSS.out (by rw [HRR.out,HAP.out]),HRR.out,HAP.out] at h9
               rw [show 18 - (j + 1) = m by have:=HM.out;omega]
               exact h9)
            obtain ⟨k0,k1,k2,k3,k4,k5⟩:=I9 P.kbox;obtain ⟨n0,n1,n2,n3,n4,n5⟩:=I9 (r:=⟨na,nb,np,nq,ne,nf⟩) HN;have kf0:=C9 P.kbox 0;have kf1:=C9 P.kbox 1;have kf2:=C9 P.kbox 2;have kf3:=C9 P.kbox 3;have kf4:=C9 P.kbox 4;have kf5:=C9 P.kbox 5;have hl:=P.lt;have P2:=P.putK na nb np nq ne nf;clear P HN;go_wp2_with fail;go_roundw
            case rel => exact ⟨j + 1,⟨na,nb,np,nq,ne,nf⟩,by omega,by go_num,HREP2,P2⟩
            case measure => simp [intOf];omega
          ·have n1 : (ga != g) = false:=by simp [hga]
           have n2 : (gp != (j : Int)) = true:=by simpa using hgp
           have hq:=HREP.out;rw [(Gw9 (n:=m) (k:=⟨ka,kb,kp,kq,ke,kf⟩) (show Cr9 d g j = false by unfold Cr9;rw [HGET.out];simp [hgp]))] at hq
           injection hq with hq1 hq2;injection hq1 with e1 e2 e3 e4 e5 e6;subst e1 e2 e3 e4 e5 e6 hq2;obtain ⟨z0,z1,z2,z3,z4,z5⟩:=I9 P.rbox;obtain ⟨k0,k1,k2,k3,k4,k5⟩:=I9 P.kbox;have zf0:=C9 P.rbox 0;have zf1:=C9 P.rbox 1;have zf2:=C9 P.rbox 2;have zf3:=C9 P.rbox 3;have zf4:=C9 P.rbox 4;have zf5:=C9 P.rbox 5;have hl:=P.lt;have hret:=P.ret ka kb kp kq ke kf;clear P;go_wp2_with fail;exact bodyPost_ret (v:=.tuple #[.agg #[.int .i64 ka,.string kb,.int .i64 kp,.string kq,.int .i64 ke,.int .i64 kf],.int .i64 j]) (by simp [results,Tryz.results33,go_sem,z0,z1,z2,z3,z4,z5,knownZero]) rfl ⟨rfl,hret⟩
         ·have n1 : (ga != g) = true:=by simpa using hga
          have hq:=HREP.out;rw [(Gw9 (n:=m) (k:=⟨ka,kb,kp,kq,ke,kf⟩) (show Cr9 d g j = false by unfold Cr9;rw [HGET.out];simp [hga]))] at hq
          injection hq with hq1 hq2;injection hq1 with e1 e2 e3 e4 e5 e6;subst e1 e2 e3 e4 e5 e6 hq2;obtain ⟨z0,z1,z2,z3,z4,z5⟩:=I9 P.rbox;obtain ⟨k0,k1,k2,k3,k4,k5⟩:=I9 P.kbox;have zf0:=C9 P.rbox 0;have zf1:=C9 P.rbox 1;have zf2:=C9 P.rbox 2;have zf3:=C9 P.rbox 3;have zf4:=C9 P.rbox 4;have zf5:=C9 P.rbox 5;have hl:=P.lt;have hret:=P.ret ka kb kp kq ke kf;clear P;go_wp2_with fail;exact bodyPost_ret (v:=.tuple #[.agg #[.int .i64 ka,.string kb,.int .i64 kp,.string kq,.int .i64 ke,.int .i64 kf],.int .i64 j]) (by simp [results,Tryz.results33,go_sem,z0,z1,z2,z3,z4,z5,knownZero]) rfl ⟨rfl,hret⟩
     ·have he : j = 18:=by omega
      subst he;have hq:=hrep.out;rw [(show Z8 d g 0 18 ⟨ka,kb,kp,kq,ke,kf⟩ = (⟨ka,kb,kp,kq,ke,kf⟩,18) from rfl)] at hq
      injection hq with hq1 hq2;injection hq1 with e1 e2 e3 e4 e5 e6;subst e1 e2 e3 e4 e5 e6 hq2;obtain ⟨z0,z1,z2,z3,z4,z5⟩:=I9 P.rbox;obtain ⟨k0,k1,k2,k3,k4,k5⟩:=I9 P.kbox;have zf0:=C9 P.rbox 0;have zf1:=C9 P.rbox 1;have zf2:=C9 P.rbox 2;have zf3:=C9 P.rbox 3;have zf4:=C9 P.rbox 4;have zf5:=C9 P.rbox 5;have hl:=P.lt;have hret:=P.ret ka kb kp kq ke kf;clear P;go_wp2_with fail;exact bodyPost_ret (v:=.tuple #[.agg #[.int .i64 ka,.string kb,.int .i64 kp,.string kq,.int .i64 ke,.int .i64 kf],.int .i64 18]) (by simp [results,Tryz.results33,go_sem,z0,z1,z2,z3,z4,z5,knownZero]) rfl ⟨rfl,hret⟩
def Y7 (j : Jour) : List Value:=[.int .i64 j.k.gen,.string j.k.text,.int .i64 j.k.pGen,.string j.k.pText,.int .i64 j.k.epoch,.int .i64 j.k.owner,.int .i64 j.g,.int .i64 j.place]
theorem G8 {w : World} {g t : Nat} {r : Jour} (h : w.heap[g]? = some (.cells (Y7 r).toArray t (0,0))) : w.cell? ⟨g,0,none⟩ = some (.int .i64 r.k.gen)∧w.cell? ⟨g,1,none⟩ = some (.string r.k.text)∧w.cell? ⟨g,2,none⟩ = some (.int .i64 r.k.pGen)∧w.cell? ⟨g,3,none⟩ = some (.string r.k.pText)∧w.cell? ⟨g,4,none⟩ = some (.int .i64 r.k.epoch)∧w.cell? ⟨g,5,none⟩ = some (.int .i64 r.k.owner)∧w.cell? ⟨g,6,none⟩ = some (.int .i64 r.g)∧w.cell? ⟨g,7,none⟩ = some (.int .i64 r.place):=⟨E9 h 0,E9 h 1,E9 h 2,E9 h 3,E9 h 4,E9 h 5,E9 h 6,E9 h 7⟩
theorem Ha9 (w : World) (D : Nat) (a : Int) (b : ByteArray) (p : Int) (q : ByteArray) (e f : Int) (g m : Int) : Rep.Only w ((((((((w.setCell ⟨D,0,none⟩ (.int .i64 a)).setCell ⟨D,1,none⟩ (.string b)).setCell ⟨D,2,none⟩ (.int .i64 p)).setCell ⟨D,3,none⟩ (.string q)).setCell ⟨D,4,none⟩ (.int .i64 e)).setCell ⟨D,5,none⟩ (.int .i64 f)).setCell ⟨D,6,none⟩ (.int .i64 g)).setCell ⟨D,7,none⟩ (.int .i64 m)) [D]:=
 ((((((((Rep.Only.setCell w (p:=⟨D,0,none⟩) (by simp) _).trans (Rep.Only.setCell _ (p:=⟨D,1,none⟩) (by simp) _)).trans (Rep.Only.setCell _ (p:=⟨D,2,none⟩) (by simp) _)).trans (Rep.Only.setCell _ (p:=⟨D,3,none⟩) (by simp) _)).trans (Rep.Only.setCell _ (p:=⟨D,4,none⟩) (by simp) _)).trans (Rep.Only.setCell _ (p:=⟨D,5,none⟩) (by simp) _)).trans (Rep.Only.setCell _ (p:=⟨D,6,none⟩) (by simp) _)).trans (Rep.Only.setCell _ (p:=⟨D,7,none⟩) (by simp) _))
theorem Ok9 {W : World} {R : Nat} {j0 : Jour} (h : W.heap[R]? = some (.cells (Y7 j0).toArray 37 (0,0))) (a : Int) (b : ByteArray) (p : Int) (q : ByteArray) (e f : Int) (g m : Int) : ((((((((W.setCell ⟨R,0,none⟩ (.int .i64 a)).setCell ⟨R,1,none⟩ (.string b)).setCell ⟨R,2,none⟩ (.int .i64 p)).setCell ⟨R,3,none⟩ (.string q)).setCell ⟨R,4,none⟩ (.int .i64 e)).setCell ⟨R,5,none⟩ (.int .i64 f)).setCell ⟨R,6,none⟩ (.int .i64 g)).setCell ⟨R,7,none⟩ (.int .i64 m)).heap[R]? = some (.cells (Y7 ⟨⟨a,b,p,q,e,f⟩,g,m⟩).toArray 37 (0,0)):=by
 obtain ⟨⟨a0,b0,p0,q0,e0,f0⟩,g0,m0⟩:=j0;have h0 : (W.setCell ⟨R,0,none⟩ (.int .i64 a)).heap[R]? = some (.cells (Y7 ⟨⟨a,b0,p0,q0,e0,f0⟩,g0,m0⟩).toArray 37 (0,0)):=N9 h 0 (.int .i64 a);have h1 : ((W.setCell ⟨R,0,none⟩ (.int .i64 a)).setCell ⟨R,1,none⟩ (.string b)).heap[R]? = some (.cells (Y7 ⟨⟨a,b,p0,q0,e0,f0⟩,g0,m0⟩).toArray 37 (0,0)):=N9 h0 1 (.string b);have h2 : (((W.setCell ⟨R,0,none⟩ (.int .i64 a)).setCell ⟨R,1,none⟩ (.string b)).setCell ⟨R,2,none⟩ (.int .i64 p)).heap[R]? = some (.cells (Y7 ⟨⟨a,b,p,q0,e0,f0⟩,g0,m0⟩).toArray 37 (0,0)):=N9 h1 2 (.int .i64 p);have h3 : ((((W.setCell ⟨R,0,none⟩ (.int .i64 a)).setCell ⟨R,1,none⟩ (.string b)).setCell ⟨R,2,none⟩ (.int .i64 p)).setCell ⟨R,3,none⟩ (.string q)).heap[R]? = some (.cells (Y7 ⟨⟨a,b,p,q,e0,f0⟩,g0,m0⟩).toArray 37 (0,0)):=N9 h2 3 (.string q);have h4 : (((((W.setCell ⟨R,0,none⟩ (.int .i64 a)).setCell ⟨R,1,none⟩ (.string b)).setCell ⟨R,2,none⟩ (.int .i64 p)).setCell ⟨R,3,none⟩ (.string q)).setCell ⟨R,4,none⟩ (.int .i64 e)).heap[R]? = some (.cells (Y7 ⟨⟨a,b,p,q,e,f0⟩,g0,m0⟩).toArray 37 (0,0)):=N9 h3 4 (.int .i64 e);have h5 : ((((((W.setCell ⟨R,0,none⟩ (.int .i64 a)).setCell ⟨R,1,none⟩ (.string b)).setCell ⟨R,2,none⟩ (.int .i64 p)).setCell ⟨R,3,none⟩ (.string q)).setCell ⟨R,4,none⟩ (.int .i64 e)).setCell ⟨R,5,none⟩ (.int .i64 f)).heap[R]? = some (.cells (Y7 ⟨⟨a,b,p,q,e,f⟩,g0,m0⟩).toArray 37 (0,0)):=N9 h4 5 (.int .i64 f);have h6 : (((((((W.setCell ⟨R,0,none⟩ (.int .i64 a)).setCell ⟨R,1,none⟩ (.string b)).setCell ⟨R,2,none⟩ (.int .i64 p)).setCell ⟨R,3,none⟩ (.string q)).setCell ⟨R,4,none⟩ (.int .i64 e)).setCell ⟨R,5,none⟩ (.int .i64 f)).setCell ⟨R,6,none⟩ (.int .i64 g)).heap[R]? = some (.cells (Y7 ⟨⟨a,b,p,q,e,f⟩,g,m0⟩).toArray 37 (0,0)):=N9 h5 6 (.int .i64 g);have h7 : ((((((((W.setCell ⟨R,0,none⟩ (.int .i64 a)).setCell ⟨R,1,none⟩ (.string b)).setCell ⟨R,2,none⟩ (.int .i64 p)).setCell ⟨R,3,none⟩ (.string q)).setCell ⟨R,4,none⟩ (.int .i64 e)).setCell ⟨R,5,none⟩ (.int .i64 f)).setCell ⟨R,6,none⟩ (.int .i64 g)).setCell ⟨R,7,none⟩ (.int .i64 m)).heap[R]? = some (.cells (Y7 ⟨⟨a,b,p,q,e,f⟩,g,m⟩).toArray 37 (0,0)):=N9 h6 7 (.int .i64 m);exact h7
theorem Gs9 {l : List UInt8} {x y : Int} (h : E8 l = ((x,y),true)) : (1 ≤ x∧x ≤ 60000)∧(0 ≤ y∧y ≤ 18):=by
 unfold E8 at h;split at h
 ·rename_i hc
  injection h with h _;injection h with h1 h2;subst h1 h2;obtain ⟨h6,hh⟩:=hc;unfold Af9 at hh;split at hh
  ·rename_i hr
   exact ⟨of_decide_eq_true hr.1,of_decide_eq_true hr.2⟩
  ·rw [← hh] at h6
   cases h6
 ·injection h with _ h;cases h
noncomputable def Bg9 (d : Disk) (b : Jour) (i : Nat) : Jour:=
 if (E8 (P9 d i)).2 = true∧(E8 (P9 d i)).1.1 % 2 = (i : Int)∧b.g < (E8 (P9 d i)).1.1∧(E8 (P9 d i)).1.2 ≤ ((U8 d (E8 (P9 d i)).1.1).2 : Int)
 then ⟨(U8 d (E8 (P9 d i)).1.1).1,(E8 (P9 d i)).1.1,((U8 d (E8 (P9 d i)).1.1).2 : Int)⟩ else b
theorem Dx9 {d : Disk} {b : Jour} {i : Nat} {x y : Int} {ok : Bool} (h : E8 (P9 d (i : Int)) = ((x,y),ok)) (hn : ¬ (ok = true∧x % 2 = (i : Int)∧b.g < x∧y ≤ ((U8 d x).2 : Int))) : Bg9 d b i = b:=by
 unfold Bg9;rw [h];exact if_neg hn
theorem Ej9 {d : Disk} {b : Jour} {i : Nat} {x y : Int} {k : Known} {m : Nat} (h : E8 (P9 d (i : Int)) = ((x,y),true)) (hr : U8 d x = (k,m)) (h2 : x % 2 = (i : Int)) (h3 : b.g < x) (h4 : y ≤ (m : Int)) : Bg9 d b i = ⟨k,x,m⟩:=by
 unfold Bg9;rw [h,hr];exact if_pos ⟨rfl,h2,h3,h4⟩
noncomputable def Be9 (d : Disk) : Nat→Jour
 | 0 => T8
 | i + 1 => Bg9 d (Be9 d i) i
noncomputable def R7 (d : Disk) : Jour × Bool:=if Bz9 d = true∧d.secs.length = 38 then (Be9 d 2,decide (0 < (Be9 d 2).g)) else (T8,false)
structure JB (w : World) (cs : List Value) (j : Jour) (W : World) : Prop where
 below : Below w.heap.size w W
 dbox : W.heap[w.heap.size]? = some (.cells cs.toArray 27 (0,0))
 rbox : W.heap[w.heap.size + 1]? = some (.cells (Y7 T8).toArray 37 (0,0))
 jbox : W.heap[w.heap.size + 2]? = some (.cells (Y7 j).toArray 37 (0,0))
section
variable {w W W' : World} {cs : List Value} {j : Jour}
theorem JB.lt (h : JB w cs j W) : w.heap.size + 2 < W.heap.size:=(Array.getElem?_eq_some_iff.1 h.jbox).1
theorem JB.later (h : JB w cs j W) (hb : Below W.heap.size W W') : JB w cs j W':=by
 have hl:=h.lt;exact ⟨Later.trans h.below hb,(hb.block _ (by omega)).trans h.dbox,(hb.block _ (by omega)).trans h.rbox,(hb.block _ hl).trans h.jbox⟩
instance JB.keeps (w : World) (cs : List Value) (j : Jour) : Keeps (fun W => JB w cs j W):=⟨fun h x => x.later h⟩
theorem JB.putJ (h : JB w cs j W) (a : Int) (b : ByteArray) (p : Int) (q : ByteArray) (e f : Int) (g m : Int) : JB w cs ⟨⟨a,b,p,q,e,f⟩,g,m⟩ ((((((((W.setCell ⟨w.heap.size + 2,0,none⟩ (.int .i64 a)).setCell ⟨w.heap.size + 2,1,none⟩ (.string b)).setCell ⟨w.heap.size + 2,2,none⟩ (.int .i64 p)).setCell ⟨w.heap.size + 2,3,none⟩ (.string q)).setCell ⟨w.heap.size + 2,4,none⟩ (.int .i64 e)).setCell ⟨w.heap.size + 2,5,none⟩ (.int .i64 f)).setCell ⟨w.heap.size + 2,6,none⟩ (.int .i64 g)).setCell ⟨w.heap.size + 2,7,none⟩ (.int .i64 m)):=by
 have ho:=Ha9 W (w.heap.size + 2) a b p q e f g m;have hl:=h.lt;exact ⟨Rep.Only.below h.below ho h.below.size (fun a ha => by simp at ha;omega),(ho.block _ (by omega) (by simp)).trans h.dbox,(ho.block _ (by omega) (by simp)).trans h.rbox,Ok9 h.jbox a b p q e f g m⟩
theorem JB.ret (h : JB w cs j W) (a : Int) (b : ByteArray) (p : Int) (q : ByteArray) (e f : Int) (g m : Int) : Below w.heap.size w ((((((((W.setCell ⟨w.heap.size + 1,0,none⟩ (.int .i64 a)).setCell ⟨w.heap.size + 1,1,none⟩ (.string b)).setCell ⟨w.heap.size + 1,2,none⟩ (.int .i64 p)).setCell ⟨w.heap.size + 1,3,none⟩ (.string q)).setCell ⟨w.heap.size + 1,4,none⟩ (.int .i64 e)).setCell ⟨w.heap.size + 1,5,none⟩ (.int .i64 f)).setCell ⟨w.heap.size + 1,6,none⟩ (.int .i64 g)).setCell ⟨w.heap.size + 1,7,none⟩ (.int .i64 m)):=
 Rep.Only.below h.below (Ha9 W (w.heap.size + 1) a b p q e f g m) h.below.size (fun a ha => by simp at ha;omega)
end
def RetJ (w : World) (p : Jour × Bool) (e : Ending) (w' : World) : Prop:=e = .returned (.tuple #[.agg (Y7 p.1).toArray,.bool p.2])∧Below w.heap.size w w'
set_option maxRecDepth 2000000 in
theorem Dj9 (cs : List Value) (d : Disk) (w : World) (h : diskR.at_ w w.heap.size cs d) (hf : Ag9 d) (hg : Given w) :
 Calls Tryz.prog 9 #[.agg cs.toArray] w (RetJ w (R7 d)):=by
 obtain ⟨A,c,B,e,rfl⟩:=G7 h;have HD:=Lib.hid h;have HG:=Lib.hid hg;have P0 : JB w [.slice A d.secs.length c,.slice B d.cache.length e,.int .i64 d.fuse,.bool d.down] T8 (((w.alloc (.cells #[.slice A d.secs.length c,.slice B d.cache.length e,.int .i64 d.fuse,.bool d.down] 27)).alloc (.cells #[.int .i64 0,.string ⟨#[]⟩,.int .i64 0,.string ⟨#[]⟩,.int .i64 0,.int .i64 0,.int .i64 0,.int .i64 0] 37)).alloc (.cells #[.int .i64 0,.string ⟨#[]⟩,.int .i64 0,.string ⟨#[]⟩,.int .i64 0,.int .i64 0,.int .i64 0,.int .i64 0] 37)):=
  ⟨Later.trans (Later.trans (Later.alloc w _) (Later.alloc _ _)) (Later.alloc _ _),(Below.heap_alloc _ _ _ (by simp;omega)).trans ((Below.heap_alloc _ _ _ (by simp)).trans (heap_alloc_new w _)),(Below.heap_alloc _ _ _ (by simp)).trans (G9 _ _ (by simp)),G9 _ _ (by simp)⟩
 clear h hg;show Calls Tryz.prog 9 #[.agg #[.slice A d.secs.length c,.slice B d.cache.length e,.int .i64 d.fuse,.bool d.down]] w _
 obtain ⟨⟨⟨⟨Ka,Kb,Kp,Kq,Ke,Kf⟩,Kg,Km⟩,M⟩,hp⟩ : ∃ p,R7 d = p:=⟨_,rfl⟩;rw [hp];have HP:=Lib.hid hp;clear hp;unfold RetJ;go_enter Tryz.func9,Tryz.ntmps9
 go_upto_region 2 with (fail)
 generalize ((w.alloc (.cells #[.slice A d.secs.length c,.slice B d.cache.length e,.int .i64 d.fuse,.bool d.down] 27)).alloc (.cells #[.int .i64 0,.string ⟨#[]⟩,.int .i64 0,.string ⟨#[]⟩,.int .i64 0,.int .i64 0,.int .i64 0,.int .i64 0] 37)).alloc (.cells #[.int .i64 0,.string ⟨#[]⟩,.int .i64 0,.string ⟨#[]⟩,.int .i64 0,.int .i64 0,.int .i64 0,.int .i64 0] 37) = W0 at P0 ⊢;obtain ⟨d0,d1,d2,d3⟩:=Q8 P0.dbox;go_wp2_with fail;refine (We9 [.slice A d.secs.length c,.slice B d.cache.length e,.int .i64 d.fuse,.bool d.down] d W0 (Keeps.keeps (F:=fun w' => diskR.at_ w' w'.heap.size [.slice A d.secs.length c,.slice B d.cache.length e,.int .i64 d.fuse,.bool d.down] d) P0.below HD.out) hf).mono ?_
 clear d0 d1 d2 d3;obtain ⟨b1,h1⟩ : ∃ b,Bz9 d = b:=⟨_,rfl⟩;rw [h1];have H1:=Lib.hid h1;clear h1;rintro e1 W1 ⟨rfl,hb⟩;replace P0:=P0.later hb;clear hb;cases b1
 ·skip
  have hq:=HP.out;rw [show R7 d = (T8,false) from if_neg (fun h9 => by rw [H1.out] at h9;cases h9.1)] at hq
  injection hq with hq1 hq2;injection hq1 with hq1 e7 e8;injection hq1 with e1 e2 e3 e4 e5 e6;subst e1 e2 e3 e4 e5 e6 e7 e8 hq2;obtain ⟨z0,z1,z2,z3,z4,z5,z6,z7⟩:=G8 P0.rbox;obtain ⟨k0,k1,k2,k3,k4,k5,k6,k7⟩:=G8 P0.jbox;have zf0:=C9 P0.rbox 0;have zf1:=C9 P0.rbox 1;have zf2:=C9 P0.rbox 2;have zf3:=C9 P0.rbox 3;have zf4:=C9 P0.rbox 4;have zf5:=C9 P0.rbox 5;have zf6:=C9 P0.rbox 6;have zf7:=C9 P0.rbox 7;have hl:=P0.lt;have hret:=P0.ret 0 ⟨#[]⟩ 0 ⟨#[]⟩ 0 0 0 0;clear P0;go_wp2_with fail;exact bodyPost_ret (v:=.tuple #[.agg #[.int .i64 0,.string ⟨#[]⟩,.int .i64 0,.string ⟨#[]⟩,.int .i64 0,.int .i64 0,.int .i64 0,.int .i64 0],.bool false]) (by simp [results,Tryz.results9,go_sem,z0,z1,z2,z3,z4,z5,z6,z7,T8,knownZero]) rfl ⟨rfl,hret⟩
 ·by_cases h38 : d.secs.length = 38
  ·have n38 : ((d.secs.length : Int) != 38) = false:=by rw [h38];rfl
   have H38:=Lib.hid h38;clear h38
   have HQ := Lib.hid (show (Be9 d 2, decide (0 < (Be9 d 2).g)) = ((⟨⟨Ka, Kb, Kp, Kq, Ke, Kf⟩, Kg, Km⟩, M) : Jour × Bool) by
       have h9:=HP.out;rw [show R7 d = (Be9 d 2,decide (0 < (Be9 d 2).g)) from if_pos ⟨H1.out,H38.out⟩] at h9
       exact h9)
   clear HP;obtain ⟨d0,d1,d2,d3⟩:=Q8 P0.dbox;go_wp2_with fail;clear d0 d1 d2 d3 n38;go_loopw [5] (fun i wr => ∃ (j : Nat) (b : Jour),j ≤ 2∧i = .int .i64 j∧Hid (Be9 d j = b)∧JB w [.slice A d.secs.length c,.slice B d.cache.length e,.int .i64 d.fuse,.bool d.down] b wr) (fun i _ => 2 - (intOf i).toNat)
   case atStart => exact ⟨0,T8,by omega,rfl,Lib.hid rfl,P0⟩
   case round =>
       clear P0;obtain ⟨j,⟨⟨ba,bb,bp,bq,be,bf⟩,bg,bm⟩,hj,rfl,hbest,P0⟩:=hrel;by_cases hlt : j < 2
       ·obtain ⟨d0,d1,d2,d3⟩:=Q8 P0.dbox
        go_wp2_with fail;refine (Fi9 [.slice A d.secs.length c,.slice B d.cache.length e,.int .i64 d.fuse,.bool d.down] d (j : Int) wr (Keeps.keeps (F:=fun w' => diskR.at_ w' w'.heap.size [.slice A d.secs.length c,.slice B d.cache.length e,.int .i64 d.fuse,.bool d.down] d) P0.below HD.out) hf (WalkArith.wf_i64 (by omega))).mono ?_
        rintro e2 W2 ⟨A4,c4,fp4,rfl,O4,hb⟩;clear d0 d1 d2 d3;replace P0:=P0.later hb;obtain ⟨A5,c5,he5,hk4,r4⟩:=Rep.reads byR O4;injection he5 with he5 _;injection he5 with he5 _ he6;subst he5 he6;clear hb O4;obtain ⟨⟨⟨hg1,hn1⟩,ok⟩,hget⟩ : ∃ p,E8 (P9 d (j : Int)) = p:=⟨_,rfl⟩;have HGET:=Lib.hid hget;clear hget;go_wp2_with fail;refine (Tr9 A4 c4 (P9 d (j : Int)) W2 r4 (by have:=Az9 hf (j : Int);unfold Sh9 at this;omega)).mono ?_
        rw [HGET.out];rintro e3 W3 ⟨rfl,hb⟩;replace P0:=P0.later hb;clear hb r4;obtain ⟨j0,j1,j2,j3,j4,j5,j6,j7⟩:=G8 P0.jbox;cases ok
        ·skip
         have HB2 := Lib.hid (show Be9 d (j + 1) = ⟨⟨ba, bb, bp, bq, be, bf⟩, bg, bm⟩ by
            show Bg9 d (Be9 d j) j = _
            rw [hbest.out];exact Dx9 HGET.out (fun h9 => by cases h9.1))
         go_wp2_with fail;go_roundw
         case rel => exact ⟨j + 1,⟨⟨ba,bb,bp,bq,be,bf⟩,bg,bm⟩,by omega,by go_num,HB2,P0⟩
         case measure => simp [intOf];omega
        ·obtain ⟨⟨hx1,hx2⟩,hy1,hy2⟩:=Gs9 HGET.out
         have ht : hg1.tmod 2 = hg1 % 2:=Int.tmod_eq_emod_of_nonneg (by omega)
         have hm0 : 0 ≤ hg1 % 2:=by omega
         have hm1 : hg1 % 2 ≤ 1:=by omega
         by_cases hpar : hg1 % 2 = (j : Int)
         ·have np : (hg1 % 2 != (j : Int)) = false:=by simp [hpar]
          by_cases hgt : bg < hg1
          ·have HPAR:=Lib.hid hpar
           have hle : ¬ hg1 ≤ bg:=by omega
           clear hpar;obtain ⟨d0,d1,d2,d3⟩:=Q8 P0.dbox;obtain ⟨⟨⟨na,nb,nx,nq,ne,nf⟩,m⟩,hrp⟩ : ∃ p,U8 d hg1 = p:=⟨_,rfl⟩;have HRP:=Lib.hid hrp;clear hrp;go_wp2_with fail;refine (Us9 [.slice A d.secs.length c,.slice B d.cache.length e,.int .i64 d.fuse,.bool d.down] d hg1 W3 (Keeps.keeps (F:=fun w' => diskR.at_ w' w'.heap.size [.slice A d.secs.length c,.slice B d.cache.length e,.int .i64 d.fuse,.bool d.down] d) P0.below HD.out) hf (Keeps.keeps (F:=Given) P0.below HG.out)).mono ?_
           rw [HRP.out];rintro e4 W4 hret;obtain ⟨rfl,hb⟩:=hret.lit;replace P0:=P0.later hb;clear hret hb d0 d1 d2 d3 j0 j1 j2 j3 j4 j5 j6 j7 np;have HN:=heap_alloc_new W4 (.cells #[.int .i64 na,.string nb,.int .i64 nx,.string nq,.int .i64 ne,.int .i64 nf] 35);have hNl : W4.heap.size < (W4.alloc (.cells #[.int .i64 na,.string nb,.int .i64 nx,.string nq,.int .i64 ne,.int .i64 nf] 35)).heap.size:=by simp
           replace P0:=P0.later (Later.alloc W4 (.cells #[.int .i64 na,.string nb,.int .i64 nx,.string nq,.int .i64 ne,.int .i64 nf] 35));go_upto_region 10 with (fail)
           generalize W4.alloc (.cells #[.int .i64 na,.string nb,.int .i64 nx,.string nq,.int .i64 ne,.int .i64 nf] 35) = W5 at HN hNl P0 ⊢;generalize W4.heap.size = DN at HN hNl ⊢;by_cases hge : hn1 ≤ (m : Int)
           ·have hge2 : (m : Int) ≥ hn1:=hge
            have HB2 := Lib.hid (show Be9 d (j + 1) = ⟨⟨na, nb, nx, nq, ne, nf⟩, hg1, m⟩ by
               show Bg9 d (Be9 d j) j = _
               rw [hbest.out];exact Ej9 HGET.out HRP.out HPAR.out hgt hge)
            obtain ⟨n0,n1,n2,n3,n4,n5⟩:=I9 (r:=⟨na,nb,nx,nq,ne,nf⟩) HN;obtain ⟨j0,j1,j2,j3,j4,j5,j6,j7⟩:=G8 P0.jbox;have jf0:=C9 P0.jbox 0;have jf1:=C9 P0.jbox 1;have jf2:=C9 P0.jbox 2;have jf3:=C9 P0.jbox 3;have jf4:=C9 P0.jbox 4;have jf5:=C9 P0.jbox 5;have jf6:=C9 P0.jbox 6;have jf7:=C9 P0.jbox 7;have hl:=P0.lt;have P2:=P0.putJ na nb nx nq ne nf hg1 m;clear P0 HN;go_wp2_with fail;go_roundw
            case rel => exact ⟨j + 1,⟨⟨na,nb,nx,nq,ne,nf⟩,hg1,m⟩,by omega,by go_num,HB2,P2⟩
            case measure => simp [intOf];omega
           ·have hlt2 : (m : Int) < hn1:=by omega
            clear HN
            have HB2 := Lib.hid (show Be9 d (j + 1) = ⟨⟨ba, bb, bp, bq, be, bf⟩, bg, bm⟩ by
               show Bg9 d (Be9 d j) j = _
               rw [hbest.out];exact Dx9 HGET.out (fun h9 => hge (by have:=h9.2.2.2;rw [HRP.out] at this;exact this)))
            go_wp2_with fail;go_roundw
            case rel => exact ⟨j + 1,⟨⟨ba,bb,bp,bq,be,bf⟩,bg,bm⟩,by omega,by go_num,HB2,P0⟩
            case measure => simp [intOf];omega
          ·have hle : hg1 ≤ bg:=by omega
           have HB2 := Lib.hid (show Be9 d (j + 1) = ⟨⟨ba, bb, bp, bq, be, bf⟩, bg, bm⟩ by
                show Bg9 d (Be9 d j) j = _
                rw [hbest.out];exact Dx9 HGET.out (fun h9 => hgt h9.2.2.1))
           go_wp2_with fail;go_roundw
           case rel => exact ⟨j + 1,⟨⟨ba,bb,bp,bq,be,bf⟩,bg,bm⟩,by omega,by go_num,HB2,P0⟩
           case measure => simp [intOf];omega
         ·have np : (hg1 % 2 != (j : Int)) = true:=by simpa using hpar
          have HB2 := Lib.hid (show Be9 d (j + 1) = ⟨⟨ba, bb, bp, bq, be, bf⟩, bg, bm⟩ by
              show Bg9 d (Be9 d j) j = _
              rw [hbest.out];exact Dx9 HGET.out (fun h9 => hpar h9.2.1))
          go_wp2_with fail;go_roundw
          case rel => exact ⟨j + 1,⟨⟨ba,bb,bp,bq,be,bf⟩,bg,bm⟩,by omega,by go_num,HB2,P0⟩
          case measure => simp [intOf];omega
       ·have he : j = 2:=by omega
        subst he;have HQ2:=HQ.out;rw [hbest.out] at HQ2;injection HQ2 with hq1 hq2;injection hq1 with hq1 e7 e8;injection hq1 with e1 e2 e3 e4 e5 e6;subst e1 e2 e3 e4 e5 e6 e7 e8 hq2;clear HQ hlt hj;go_wp2_with fail;refine M9 100 [0,1,2,3] [4,5] (fun w' => w'.heap[w.heap.size + 2]? = some (.cells (Y7 ⟨⟨ba,bb,bp,bq,be,bf⟩,bg,bm⟩).toArray 37 (0,0))) (by kernel_rfl) (by kernel_rfl) P0.jbox ?_
        replace P0:=P0.later (Later.drew wr);iterate 4 (refine LexR.cons rfl ?_ (fun w' hw => ?_) ?_;rotate_left;focus (obtain ⟨j0,j1,j2,j3,j4,j5,j6,j7⟩:=G8 (r:=⟨⟨ba,bb,bp,bq,be,bf⟩,bg,bm⟩) hw;clear hw;go_simp;(try exact rfl));(try go_frame))
        refine LexR.nil (LexW.cons rfl ?_);try go_frame
        generalize wr.drew = W6 at P0 ⊢;obtain ⟨z0,z1,z2,z3,z4,z5,z6,z7⟩:=G8 P0.rbox;have zf0:=C9 P0.rbox 0;have zf1:=C9 P0.rbox 1;have zf2:=C9 P0.rbox 2;have zf3:=C9 P0.rbox 3;have zf4:=C9 P0.rbox 4;have zf5:=C9 P0.rbox 5;have zf6:=C9 P0.rbox 6;have zf7:=C9 P0.rbox 7;have hl:=P0.lt;have hret:=P0.ret ba bb bp bq be bf bg bm;have hbx:=Ok9 P0.rbox ba bb bp bq be bf bg bm;have hj2:=((Ha9 W6 (w.heap.size + 1) ba bb bp bq be bf bg bm).block (w.heap.size + 2) hl (by simp)).trans P0.jbox
        clear P0;go_wp2_with fail;generalize ((((((((W6.setCell ⟨w.heap.size + 1,0,none⟩ (.int .i64 ba)).setCell ⟨w.heap.size + 1,1,none⟩ (.string bb)).setCell ⟨w.heap.size + 1,2,none⟩ (.int .i64 bp)).setCell ⟨w.heap.size + 1,3,none⟩ (.string bq)).setCell ⟨w.heap.size + 1,4,none⟩ (.int .i64 be)).setCell ⟨w.heap.size + 1,5,none⟩ (.int .i64 bf)).setCell ⟨w.heap.size + 1,6,none⟩ (.int .i64 bg)).setCell ⟨w.heap.size + 1,7,none⟩ (.int .i64 bm)) = W7 at hret hbx hj2 ⊢;refine ⟨fun _ => hj2,LexW.cons rfl ?_⟩
        clear z0 z1 z2 z3 z4 z5 z6 z7 zf0 zf1 zf2 zf3 zf4 zf5 zf6 zf7;try go_frame
        go_wp2_with fail;refine ⟨fun _ => hj2,LexW.nil ?_⟩
        obtain ⟨z0,z1,z2,z3,z4,z5,z6,z7⟩:=G8 (r:=⟨⟨ba,bb,bp,bq,be,bf⟩,bg,bm⟩) hbx;clear hbx hj2;go_wp2_with fail;exact bodyPost_ret (v:=.tuple #[.agg #[.int .i64 ba,.string bb,.int .i64 bp,.string bq,.int .i64 be,.int .i64 bf,.int .i64 bg,.int .i64 bm],.bool (decide (0 < bg))]) (by simp [results,Tryz.results9,go_sem,z0,z1,z2,z3,z4,z5,z6,z7]) rfl ⟨rfl,hret⟩
  ·have n38 : ((d.secs.length : Int) != 38) = true:=by simp;omega
   have H38:=Lib.hid h38;clear h38;obtain ⟨d0,d1,d2,d3⟩:=Q8 P0.dbox;have hq:=HP.out;rw [show R7 d = (T8,false) from if_neg (fun h9 => H38.out h9.2)] at hq
   injection hq with hq1 hq2;injection hq1 with hq1 e7 e8;injection hq1 with e1 e2 e3 e4 e5 e6;subst e1 e2 e3 e4 e5 e6 e7 e8 hq2;obtain ⟨z0,z1,z2,z3,z4,z5,z6,z7⟩:=G8 P0.rbox;obtain ⟨k0,k1,k2,k3,k4,k5,k6,k7⟩:=G8 P0.jbox;have zf0:=C9 P0.rbox 0;have zf1:=C9 P0.rbox 1;have zf2:=C9 P0.rbox 2;have zf3:=C9 P0.rbox 3;have zf4:=C9 P0.rbox 4;have zf5:=C9 P0.rbox 5;have zf6:=C9 P0.rbox 6;have zf7:=C9 P0.rbox 7;have hl:=P0.lt;have hret:=P0.ret 0 ⟨#[]⟩ 0 ⟨#[]⟩ 0 0 0 0;clear P0;go_wp2_with fail;exact bodyPost_ret (v:=.tuple #[.agg #[.int .i64 0,.string ⟨#[]⟩,.int .i64 0,.string ⟨#[]⟩,.int .i64 0,.int .i64 0,.int .i64 0,.int .i64 0],.bool false]) (by simp [results,Tryz.results9,go_sem,z0,z1,z2,z3,z4,z5,z6,z7,T8,knownZero]) rfl ⟨rfl,hret⟩
end Go.Proofs.YthpkdjflndiojaaGreatDoor
