/- What the theorem needs, out of many texts. -/
import Derived.Test.YthpkdjflndiojaaGreatDoorShj10
import Derived.Test.YthpkdjflndiojaaGreatDoorShj12
import Derived.Test.YthpkdjflndiojaaGreatDoorShj16
import Derived.Test.YthpkdjflndiojaaGreatDoorShj17
set_option maxHeartbeats 20000000
namespace Go.Proofs.YthpkdjflndiojaaGreatDoor
open Go.RowKit Go.Maps
set_option maxRecDepth 2000000
set_option linter.unusedVariables false
set_option maxRecDepth 100000 in
theorem Sm9 (cs : List Value) (d : Disk) (w : World) (h : diskR.at_ w w.heap.size cs d) (hf : Ag9 d) :
 Calls Tryz.prog 34 #[.agg cs.toArray] w (RetDisk w (S9 d)):=by
 obtain ⟨Ad,cd,Bd,ed,rfl⟩:=G7 h;have Td:=h;clear h;have HBw:=Below.refl w.heap.size w;obtain ⟨y,hy⟩ : ∃ y,Bz9 d = y:=⟨_,rfl⟩;have HOK:=Lib.hid hy;clear hy;have f1:=hf.1;have f3:=hf.2.2.1;go_enter Tryz.func34,Tryz.ntmps34
 go_wp2_with fail;have ho:=Rep.only_alloc w (.cells #[.slice Ad d.secs.length cd,.slice Bd d.cache.length ed,.int .i64 d.fuse,.bool d.down] 27);have hv:=heap_alloc_new w (.cells #[.slice Ad d.secs.length cd,.slice Bd d.cache.length ed,.int .i64 d.fuse,.bool d.down] 27);have hs : (w.alloc (.cells #[.slice Ad d.secs.length cd,.slice Bd d.cache.length ed,.int .i64 d.fuse,.bool d.down] 27)).heap.size = w.heap.size + 1:=by simp
 generalize hgW : w.alloc (.cells #[.slice Ad d.secs.length cd,.slice Bd d.cache.length ed,.int .i64 d.fuse,.bool d.down] 27) = W1 at ho hv hs ⊢;clear hgW;have SW1 : w.heap.size ≤ W1.heap.size:=ho.size;have HBW1:=Rep.Only.below HBw ho (by omega) (fun a ha => by cases ha)
 replace Td:=Rep.at_only Td ho (by omega) (fun a ha => by cases ha)
 clear HBw;have Vd:=Lib.hid hv;clear hv ho;have ZW1 : w.heap.size < W1.heap.size:=by omega
 have EW1:=Lib.hid hs;clear hs;have ho:=Rep.only_alloc W1 (.cells #[.slice none 0 0,.slice none 0 0,.int .i64 0,.bool false] 27);have hv:=G9 W1 (.cells #[.slice none 0 0,.slice none 0 0,.int .i64 0,.bool false] 27) (n:=w.heap.size + 1) (by have:=EW1.out;omega)
 have hs : (W1.alloc (.cells #[.slice none 0 0,.slice none 0 0,.int .i64 0,.bool false] 27)).heap.size = W1.heap.size + 1:=by simp
 generalize hgW : W1.alloc (.cells #[.slice none 0 0,.slice none 0 0,.int .i64 0,.bool false] 27) = W2 at ho hv hs ⊢;clear hgW;have SW2 : W1.heap.size ≤ W2.heap.size:=ho.size;have HBW2:=Rep.Only.below HBW1 ho (by omega) (fun a ha => by cases ha)
 replace Td:=Rep.at_only Td ho (by omega) (fun a ha => by cases ha)
 replace Vd:=Rep.var_only Vd ho (by omega) (fun hb => by cases hb)
 clear HBW1;have Vr:=Lib.hid hv;clear hv ho;have ZW2 : W1.heap.size < W2.heap.size:=by omega
 have YW2 : w.heap.size + 1 < W2.heap.size:=by have:=EW1.out;omega
 have EW2:=Lib.hid hs;clear hs;refine (Ia9 [.slice Ad d.secs.length cd,.slice Bd d.cache.length ed,.int .i64 d.fuse,.bool d.down] d W2 (Rep.more diskR Td (by omega)) hf).mono ?_
 rintro e W3 ⟨cs,fp4,rfl,Oo,hb⟩;obtain ⟨A5,c6,B7,d8,rfl⟩:=Q9 Oo;have ho:=Rep.only_of_below hb;have L9:=Lib.hid (Rep.lt diskR Oo);clear hb;have SW3 : W2.heap.size ≤ W3.heap.size:=ho.size;have HBW3:=Rep.Only.below HBW2 ho (by omega) (fun a ha => by cases ha)
 replace Td:=Rep.at_only Td ho (by omega) (fun a ha => by cases ha)
 replace Vd:=Rep.var_only Vd ho (by omega) (fun hb => by cases hb)
 replace Vr:=Rep.var_only Vr ho (by omega) (fun hb => by cases hb)
 clear HBW2;clear ho;have qd_0 : W3.cell? ⟨w.heap.size,0,none⟩ = some (.slice Ad d.secs.length cd):=E9 Vd.out 0;have qd_1 : W3.cell? ⟨w.heap.size,1,none⟩ = some (.slice Bd d.cache.length ed):=E9 Vd.out 1;have qd_2 : W3.cell? ⟨w.heap.size,2,none⟩ = some (.int .i64 d.fuse):=E9 Vd.out 2;have qd_3 : W3.cell? ⟨w.heap.size,3,none⟩ = some (.bool d.down):=E9 Vd.out 3;have ld : w.heap.size < W3.heap.size:=by omega
 go_wp2_with fail;clear qd_0 qd_1 qd_2 qd_3 ld;have ho:=Rep.only_alloc W3 (.cells #[.slice A5 d.secs.length c6,.slice B7 d.cache.length d8,.int .i64 d.fuse,.bool d.down] 27);have hv:=heap_alloc_new W3 (.cells #[.slice A5 d.secs.length c6,.slice B7 d.cache.length d8,.int .i64 d.fuse,.bool d.down] 27);have hs : (W3.alloc (.cells #[.slice A5 d.secs.length c6,.slice B7 d.cache.length d8,.int .i64 d.fuse,.bool d.down] 27)).heap.size = W3.heap.size + 1:=by simp
 generalize hgW : W3.alloc (.cells #[.slice A5 d.secs.length c6,.slice B7 d.cache.length d8,.int .i64 d.fuse,.bool d.down] 27) = W10 at ho hv hs ⊢;clear hgW;have SW10 : W3.heap.size ≤ W10.heap.size:=ho.size;have HBW10:=Rep.Only.below HBW3 ho (by omega) (fun a ha => by cases ha)
 replace Td:=Rep.at_only Td ho (by omega) (fun a ha => by cases ha)
 replace Oo:=Rep.own_only Oo ho (fun a ha hb => by cases hb)
 replace Vd:=Rep.var_only Vd ho (by omega) (fun hb => by cases hb)
 replace Vr:=Rep.var_only Vr ho (by omega) (fun hb => by cases hb)
 clear HBW3;have Vo:=Lib.hid hv;clear hv ho;have ZW10 : W3.heap.size < W10.heap.size:=by omega
 have EW10:=Lib.hid hs;clear hs;refine (Hv9 [.slice Ad d.secs.length cd,.slice Bd d.cache.length ed,.int .i64 d.fuse,.bool d.down] d W10 (Rep.more diskR Td (by omega)) hf).mono ?_
 rintro e W11 ⟨rfl,hb⟩;rw [HOK.out];have ho:=Rep.only_of_below hb;clear hb;have SW11 : W10.heap.size ≤ W11.heap.size:=ho.size;have HBW11:=Rep.Only.below HBW10 ho (by omega) (fun a ha => by cases ha)
 replace Td:=Rep.at_only Td ho (by omega) (fun a ha => by cases ha)
 replace Oo:=Rep.own_only Oo ho (fun a ha hb => by cases hb)
 replace Vd:=Rep.var_only Vd ho (by omega) (fun hb => by cases hb)
 replace Vr:=Rep.var_only Vr ho (by omega) (fun hb => by cases hb)
 replace Vo:=Rep.var_only Vo ho (by omega) (fun hb => by cases hb)
 clear HBW10;clear ho;cases y with
 | false =>
   have HR:=Lib.hid (Bp9 (fun hh => Er9 HOK.out hh.1))
   have qo_0 : W11.cell? ⟨W3.heap.size,0,none⟩ = some (.slice A5 d.secs.length c6):=E9 Vo.out 0;have qo_1 : W11.cell? ⟨W3.heap.size,1,none⟩ = some (.slice B7 d.cache.length d8):=E9 Vo.out 1;have qo_2 : W11.cell? ⟨W3.heap.size,2,none⟩ = some (.int .i64 d.fuse):=E9 Vo.out 2;have qo_3 : W11.cell? ⟨W3.heap.size,3,none⟩ = some (.bool d.down):=E9 Vo.out 3;have lo : W3.heap.size < W11.heap.size:=by omega
   have qd_0 : W11.cell? ⟨w.heap.size,0,none⟩ = some (.slice Ad d.secs.length cd):=E9 Vd.out 0;have qd_1 : W11.cell? ⟨w.heap.size,1,none⟩ = some (.slice Bd d.cache.length ed):=E9 Vd.out 1;have qd_2 : W11.cell? ⟨w.heap.size,2,none⟩ = some (.int .i64 d.fuse):=E9 Vd.out 2;have qd_3 : W11.cell? ⟨w.heap.size,3,none⟩ = some (.bool d.down):=E9 Vd.out 3;have ld : w.heap.size < W11.heap.size:=by omega
   have qr_0 : W11.cell? ⟨w.heap.size + 1,0,none⟩ = some (.slice none 0 0):=E9 Vr.out 0;have qr_1 : W11.cell? ⟨w.heap.size + 1,1,none⟩ = some (.slice none 0 0):=E9 Vr.out 1;have qr_2 : W11.cell? ⟨w.heap.size + 1,2,none⟩ = some (.int .i64 0):=E9 Vr.out 2;have qr_3 : W11.cell? ⟨w.heap.size + 1,3,none⟩ = some (.bool false):=E9 Vr.out 3;have lr : w.heap.size + 1 < W11.heap.size:=by omega
   have fr_0:=C9 Vr.out 0;have fr_1:=C9 Vr.out 1;have fr_2:=C9 Vr.out 2;have fr_3:=C9 Vr.out 3;go_wp2_with fail;refine bodyPost_ret (v:=.agg #[.slice A5 d.secs.length c6,.slice B7 d.cache.length d8,.int .i64 d.fuse,.bool d.down]) (by simp [results,Tryz.results34,go_sem,qr_0,qr_1,qr_2,qr_3]) rfl ⟨_,fp4,rfl,?_,?_⟩
   ·rw [HR.out];refine diskR.low (base:=W2.heap.size) ?_ (by omega)
    repeat (refine Rep.setLow ?_ (by first | (simp;done) | (simp;omega)) _)
    exact Oo
   ·repeat (refine Below.setCell ?_ (by first | (simp;done) | (simp;omega)) _)
    exact HBW11
 | true =>
   have hg:=Cv9 HOK.out;rcases hdn : d.down with _ | _
   rotate_left
   ·have HR:=Lib.hid (Bp9 (d:=d) (fun hh => by have:=hh.2;rw [hdn] at this;cases this))
    have qo_0 : W11.cell? ⟨W3.heap.size,0,none⟩ = some (.slice A5 d.secs.length c6):=E9 Vo.out 0;have qo_1 : W11.cell? ⟨W3.heap.size,1,none⟩ = some (.slice B7 d.cache.length d8):=E9 Vo.out 1;have qo_2 : W11.cell? ⟨W3.heap.size,2,none⟩ = some (.int .i64 d.fuse):=E9 Vo.out 2;have qo_3 : W11.cell? ⟨W3.heap.size,3,none⟩ = some (.bool d.down):=E9 Vo.out 3;have lo : W3.heap.size < W11.heap.size:=by omega
    have qd_0 : W11.cell? ⟨w.heap.size,0,none⟩ = some (.slice Ad d.secs.length cd):=E9 Vd.out 0;have qd_1 : W11.cell? ⟨w.heap.size,1,none⟩ = some (.slice Bd d.cache.length ed):=E9 Vd.out 1;have qd_2 : W11.cell? ⟨w.heap.size,2,none⟩ = some (.int .i64 d.fuse):=E9 Vd.out 2;have qd_3 : W11.cell? ⟨w.heap.size,3,none⟩ = some (.bool d.down):=E9 Vd.out 3;have ld : w.heap.size < W11.heap.size:=by omega
    have qr_0 : W11.cell? ⟨w.heap.size + 1,0,none⟩ = some (.slice none 0 0):=E9 Vr.out 0;have qr_1 : W11.cell? ⟨w.heap.size + 1,1,none⟩ = some (.slice none 0 0):=E9 Vr.out 1;have qr_2 : W11.cell? ⟨w.heap.size + 1,2,none⟩ = some (.int .i64 0):=E9 Vr.out 2;have qr_3 : W11.cell? ⟨w.heap.size + 1,3,none⟩ = some (.bool false):=E9 Vr.out 3;have lr : w.heap.size + 1 < W11.heap.size:=by omega
    have fr_0:=C9 Vr.out 0;have fr_1:=C9 Vr.out 1;have fr_2:=C9 Vr.out 2;have fr_3:=C9 Vr.out 3;go_wp2_with fail;refine bodyPost_ret (v:=.agg #[.slice A5 d.secs.length c6,.slice B7 d.cache.length d8,.int .i64 d.fuse,.bool d.down]) (by simp [results,Tryz.results34,go_sem,qr_0,qr_1,qr_2,qr_3,hdn]) rfl ⟨_,fp4,rfl,?_,?_⟩
    ·rw [HR.out];refine diskR.low (base:=W2.heap.size) ?_ (by omega)
     repeat (refine Rep.setLow ?_ (by first | (simp;done) | (simp;omega)) _)
     exact Oo
    ·repeat (refine Below.setCell ?_ (by first | (simp;done) | (simp;omega)) _)
     exact HBW11
   have HG : Hid (Cw9 d):=Lib.hid ⟨hg,hdn⟩;have hfu1 : -1 ≤ d.fuse:=hg.2.2.2.1;have hfu2 : d.fuse ≤ 1000:=hg.2.2.2.2;have h30 : d.cache.length ≤ 30:=hg.1.2.2;obtain ⟨u1,u2,ff,fc,hcs,ho1,ho2,hfp,hnd⟩:=Hi9 Oo;have e1 : u1 = .slice A5 d.secs.length c6:=by injection hcs with h1 _;exact h1.symm
   have e2 : u2 = .slice B7 d.cache.length d8:=by injection hcs with _ h2;injection h2 with h2 _;exact h2.symm
   subst e1 e2;clear hcs;have HN:=Lib.hid hnd;have HFP:=Lib.hid hfp;clear hnd hfp Oo;have LS:=Lib.hid (fun a ha => L9.out a (by rw [HFP.out];exact List.mem_append_left _ ha))
   have LC:=Lib.hid (fun a ha => L9.out a (by rw [HFP.out];exact List.mem_append_right _ ha))
   obtain ⟨sc,cells,fps,fcs,hff,hfc,hM⟩:=Mid.start ho1 ho2 (by rw [← HFP.out];exact HN.out)
   have LM:=Lib.hid (fun a (ha : a ∈ ((Value.slice A5 d.secs.length c6).ownBlock.toList ++ fps.flatten) ++ ((Value.slice B7 d.cache.length d8).ownBlock.toList ++ fcs.flatten)) => (show W2.heap.size ≤ a∧a < W3.heap.size from by rcases List.mem_append.1 ha with h | h;exact LS.out a (by rw [hff];exact h);exact LC.out a (by rw [hfc];exact h)))
   have hl1 : 1 ≤ d.secs.length:=hg.1.1;have f40 : d.secs.length ≤ 40:=hg.1.2.1;have HKO : Hid (Ue9 d):=Lib.hid (fun x hx => ⟨(hg.2.2.1 x hx).1,(hg.2.2.1 x hx).2.1⟩)
   obtain ⟨gs,hgs,hgs1,_⟩:=hM.block hl1;subst hgs;have hrd : Reads W11 W11.heap.size 2 B7 d.cache.length cells:=Reads.of_own hM.crow;have HE:=Lib.hid (fun i x (hx : d.cache[i]? = some x) => (show wrR.at_ W11 W11.heap.size (Rep.seg 2 i cells) x from by obtain ⟨f,hf⟩:=Rep.getElem?_of_lt (xs:=fcs) rfl (show i < fcs.length by rw [hM.clen];exact (List.getElem?_eq_some_iff.1 hx).1);exact Rep.reads wrR (hM.cache i x f hx hf)))
   have HW:=Lib.hid (Sl9 hg);clear hg hff hfc;have qo_0 : W11.cell? ⟨W3.heap.size,0,none⟩ = some (.slice (some ⟨gs,0,none⟩) d.secs.length c6):=E9 Vo.out 0;have qo_1 : W11.cell? ⟨W3.heap.size,1,none⟩ = some (.slice B7 d.cache.length d8):=E9 Vo.out 1;have qo_2 : W11.cell? ⟨W3.heap.size,2,none⟩ = some (.int .i64 d.fuse):=E9 Vo.out 2;have qo_3 : W11.cell? ⟨W3.heap.size,3,none⟩ = some (.bool d.down):=E9 Vo.out 3;have lo : W3.heap.size < W11.heap.size:=by omega
   have qd_0 : W11.cell? ⟨w.heap.size,0,none⟩ = some (.slice Ad d.secs.length cd):=E9 Vd.out 0;have qd_1 : W11.cell? ⟨w.heap.size,1,none⟩ = some (.slice Bd d.cache.length ed):=E9 Vd.out 1;have qd_2 : W11.cell? ⟨w.heap.size,2,none⟩ = some (.int .i64 d.fuse):=E9 Vd.out 2;have qd_3 : W11.cell? ⟨w.heap.size,3,none⟩ = some (.bool d.down):=E9 Vd.out 3;have ld : w.heap.size < W11.heap.size:=by omega
   go_wp2_with fail;clear qo_0 qo_1 qo_2 qo_3 lo qd_0 qd_1 qd_2 qd_3 ld;have hD:=Ix9 (some ⟨gs,0,none⟩) B7 c6 d8 d cells W11 hrd HE.out f3 HW.out;rw [hdn] at hD;refine hD.mono ?_;have HDN:=Lib.hid hdn;clear hD hdn;rintro e W12 ⟨gd,mb,rfl,vd,hmd,hb,hgd1,hgd2,hgd3⟩;have ho:=Rep.only_of_below hb;replace hM:=hM.kept (fun a ha => hb.block a (by have:=(LM.out a ha).2;omega))
   replace ho1:=ho1.of_below hb;replace ho2:=ho2.of_below hb;clear hb hrd HE;have SW12 : W11.heap.size ≤ W12.heap.size:=ho.size;have HBW12:=Rep.Only.below HBW11 ho (by omega) (fun a ha => by cases ha)
   replace Td:=Rep.at_only Td ho (by omega) (fun a ha => by cases ha)
   replace Vd:=Rep.var_only Vd ho (by omega) (fun hb => by cases hb)
   replace Vr:=Rep.var_only Vr ho (by omega) (fun hb => by cases hb)
   replace Vo:=Rep.var_only Vo ho (by omega) (fun hb => by cases hb)
   clear HBW11;clear ho;have Vd2:=Lib.hid vd;clear vd;have hgl : gd < W12.heap.size:=World.block_lt_of_cell? _ ⟨gd,0,none⟩ (E9 Vd2.out 0);have hml:=hmd.lt;by_cases hz : d.fuse = 0
   ·have HR:=Lib.hid (Ch9 HG.out hz)
    have Vz : Hid (W12.heap[gd]? = some (.cells #[.slice (some ⟨gs,0,none⟩) d.secs.length c6,.slice B7 d.cache.length d8,.int .i64 0,.bool d.down,.map (some mb)] 111 (0,0))):=Lib.hid (by have:=Vd2.out;rw [hz] at this;exact this)
    clear hz;go_wp2_with fail;refine (Pv9 gd (.slice (some ⟨gs,0,none⟩) d.secs.length c6) (.slice B7 d.cache.length d8) (.map (some mb)) d.down W12 Vz.out).mono ?_;rintro e W13 ⟨rfl,Vd3,ho⟩;have LF:=Lib.hid (fun a (ha : a ∈ [gd]) => (by simp at ha;omega : W11.heap.size ≤ a∧a < W12.heap.size))
    replace ho1:=ho1.kept (fun a ha => ho.block a (by have:=(LS.out a ha).2;omega) (by have:=(LS.out a ha).2;simp;omega))
    replace ho2:=ho2.kept (fun a ha => ho.block a (by have:=(LC.out a ha).2;omega) (by have:=(LC.out a ha).2;simp;omega))
    have SW13 : W12.heap.size ≤ W13.heap.size:=ho.size;have HBW13:=Rep.Only.below HBW12 ho (by omega) (fun a ha => by have:=(LF.out a ha).1;omega)
    replace Td:=Rep.at_only Td ho (by omega) (fun a ha => by have:=(LF.out a ha).1;omega)
    replace Vd:=Rep.var_only Vd ho (by omega) (fun hb => by have:=LF.out _ hb;omega)
    replace Vr:=Rep.var_only Vr ho (by omega) (fun hb => by have:=LF.out _ hb;omega)
    replace Vo:=Rep.var_only Vo ho (by omega) (fun hb => by have:=LF.out _ hb;omega)
    clear HBW12;clear ho LF;have d0 : W13.cell? ⟨gd,0,none⟩ = some (.slice (some ⟨gs,0,none⟩) d.secs.length c6):=E9 Vd3.out 0;have d1 : W13.cell? ⟨gd,1,none⟩ = some (.slice B7 d.cache.length d8):=E9 Vd3.out 1;have d2 : W13.cell? ⟨gd,2,none⟩ = some (.int .i64 (-1)):=E9 Vd3.out 2;have d3 : W13.cell? ⟨gd,3,none⟩ = some (.bool true):=E9 Vd3.out 3;have qr_0 : W13.cell? ⟨w.heap.size + 1,0,none⟩ = some (.slice none 0 0):=E9 Vr.out 0;have qr_1 : W13.cell? ⟨w.heap.size + 1,1,none⟩ = some (.slice none 0 0):=E9 Vr.out 1;have qr_2 : W13.cell? ⟨w.heap.size + 1,2,none⟩ = some (.int .i64 0):=E9 Vr.out 2;have qr_3 : W13.cell? ⟨w.heap.size + 1,3,none⟩ = some (.bool false):=E9 Vr.out 3;have lr : w.heap.size + 1 < W13.heap.size:=by omega
    have fr_0:=C9 Vr.out 0;have fr_1:=C9 Vr.out 1;have fr_2:=C9 Vr.out 2;have fr_3:=C9 Vr.out 3;go_wp2_with fail;refine bodyPost_ret (v:=.agg #[.slice (some ⟨gs,0,none⟩) d.secs.length c6,.slice B7 d.cache.length d8,.int .i64 (-1),.bool true]) (by simp [results,Tryz.results34,go_sem,qr_0,qr_1,qr_2,qr_3]) rfl ⟨_,ff ++ fc,rfl,?_,?_⟩
    ·rw [HR.out];refine diskR.low (base:=W2.heap.size) ?_ (by omega)
     repeat (refine Rep.setLow ?_ (by first | (simp;done) | (simp;omega)) _)
     exact Ck9 (d:=⟨d.secs,d.cache,-1,true⟩) ho1 ho2 (by rw [← HFP.out];exact HN.out)
    ·repeat (refine Below.setCell ?_ (by first | (simp;done) | (simp;omega)) _)
     exact HBW13
   have HR:=Lib.hid (Av9 HG.out hz);have HZ:=Lib.hid hz;clear hz;go_wp2_with fail;refine (Tu9 gd mb d.cache.length W2.heap.size gs c6 B7 d8 d.fuse d.down d sc cells fps fcs _ W12 Vd2.out hmd hM (Po9 d _ (Nat.le_refl _)) HKO.out f1 (fun a ha => by have:=(LM.out a ha).2;constructor <;> omega) hgd3 HZ.out hfu1 hfu2).mono ?_
   rintro e W14 ⟨rfl,Vd3,hM3,ho⟩;have hgs2 : gs < W11.heap.size:=by have:=(LM.out gs (by simp [Value.ownBlock])).2;omega
   have LF:=Lib.hid (fun a (ha : a ∈ [gd,mb,gs]) => (by simp at ha;omega : W2.heap.size ≤ a∧a < W12.heap.size))
   have SW14 : W12.heap.size ≤ W14.heap.size:=ho.size;have HBW14:=Rep.Only.below HBW12 ho (by omega) (fun a ha => by have:=(LF.out a ha).1;omega)
   replace Td:=Rep.at_only Td ho (by omega) (fun a ha => by have:=(LF.out a ha).1;omega)
   replace Vd:=Rep.var_only Vd ho (by omega) (fun hb => by have:=LF.out _ hb;omega)
   replace Vr:=Rep.var_only Vr ho (by omega) (fun hb => by have:=LF.out _ hb;omega)
   clear HBW12;clear ho LF;obtain ⟨fp9,hfl,hmem⟩:=hM3.done (Po9 d _ (Nat.le_refl _));clear hM3 hmem hM;have d0 : W14.cell? ⟨gd,0,none⟩ = some (.slice (some ⟨gs,0,none⟩) d.secs.length c6):=E9 Vd3.out 0;have d1 : W14.cell? ⟨gd,1,none⟩ = some (.slice none 0 0):=E9 Vd3.out 1;have d2 : W14.cell? ⟨gd,2,none⟩ = some (.int .i64 (X9 d.fuse)):=E9 Vd3.out 2;have d3 : W14.cell? ⟨gd,3,none⟩ = some (.bool d.down):=E9 Vd3.out 3;have hl7:=J7 d (Am9 (key d.cache) d.cache.length);have qr_0 : W14.cell? ⟨w.heap.size + 1,0,none⟩ = some (.slice none 0 0):=E9 Vr.out 0;have qr_1 : W14.cell? ⟨w.heap.size + 1,1,none⟩ = some (.slice none 0 0):=E9 Vr.out 1;have qr_2 : W14.cell? ⟨w.heap.size + 1,2,none⟩ = some (.int .i64 0):=E9 Vr.out 2;have qr_3 : W14.cell? ⟨w.heap.size + 1,3,none⟩ = some (.bool false):=E9 Vr.out 3;have lr : w.heap.size + 1 < W14.heap.size:=by omega
   have fr_0:=C9 Vr.out 0;have fr_1:=C9 Vr.out 1;have fr_2:=C9 Vr.out 2;have fr_3:=C9 Vr.out 3;go_wp2_with fail;refine bodyPost_ret (v:=.agg #[.slice (some ⟨gs,0,none⟩) d.secs.length c6,.slice none 0 0,.int .i64 (X9 d.fuse),.bool d.down]) (by simp [results,Tryz.results34,go_sem,qr_0,qr_1,qr_2,qr_3]) rfl ⟨_,fp9 ++ [],rfl,?_,?_⟩
   ·rw [HR.out];refine diskR.low (base:=W2.heap.size) ?_ (by omega)
    repeat (refine Rep.setLow ?_ (by first | (simp;done) | (simp;omega)) _)
    exact Ck9 (d:=⟨J8 d (Am9 (key d.cache) d.cache.length),[],X9 d.fuse,d.down⟩) hfl (Av8 _ _ _) (by simpa using Rep.nodup secsR (w:=W14) (base:=W2.heap.size) (cs:=[.slice (some ⟨gs,0,none⟩) d.secs.length c6]) ⟨_,rfl,hfl⟩)
   ·repeat (refine Below.setCell ?_ (by first | (simp;done) | (simp;omega)) _)
    exact HBW14
def Cu9 (k : Int) : Int:=if 0 ≤ k∧k ≤ 1073741823 then k else 0
def Qi9 (kb : Int) (k : Nat) : Bool:=kb.toNat.testBit k
def Fr9 (cache : List Wr) (kb : Int) (k : Nat) (i : Int) : Bool:=Qi9 kb k && key cache k i
theorem idx_okB (d : Disk) (kb : Int) (k : Nat) (hk : k ≤ d.cache.length) : Me9 d (Am9 (Fr9 d.cache kb) k):=by
 intro i j h;obtain ⟨h1,h2⟩:=Lu9 h;obtain ⟨x,hx⟩:=Rep.getElem?_of_lt (xs:=d.cache) rfl (show j < d.cache.length by omega)
 unfold Fr9 at h2;rw [Kk9 hx] at h2;exact ⟨x,hx,by simp at h2;exact h2.2⟩
noncomputable def E7 (d : Disk) (keep : Int) : Disk:=
 @ite _ (Z9 d) (Classical.propDecidable _) ⟨J8 d (Am9 (Fr9 d.cache (Cu9 keep)) d.cache.length),[],-1,false⟩ d
theorem Wd9 {d : Disk} (keep : Int) (h : ¬ Z9 d) : E7 d keep = d:=by unfold E7;exact @if_neg _ (Classical.propDecidable _) h _ _ _
theorem Bh9 {d : Disk} (keep : Int) (h : Z9 d) : E7 d keep = ⟨J8 d (Am9 (Fr9 d.cache (Cu9 keep)) d.cache.length),[],-1,false⟩:=by
 unfold E7;exact @if_pos _ (Classical.propDecidable _) h _ _ _
end Go.Proofs.YthpkdjflndiojaaGreatDoor
namespace Go.Proofs.YthpkdjflndiojaaGreatDoor
open Go.Lib
end Go.Proofs.YthpkdjflndiojaaGreatDoor
namespace Go.Proofs.YthpkdjflndiojaaGreatDoor
open Go.RowKit Go.Maps
set_option maxRecDepth 2000000
set_option linter.unusedVariables false
theorem MapIs.mono {w : World} {mb m : Nat} {cells : List Value} {idx : Int→Option Nat} (h : MapIs w mb m cells idx) {m' : Nat} (hm : m ≤ m') : MapIs w mb m' cells idx:=by
 obtain ⟨D,ho,hD,hi⟩:=h;exact ⟨D,ho.mono hm,hD,hi⟩
end Go.Proofs.YthpkdjflndiojaaGreatDoor
namespace Go.Proofs.YthpkdjflndiojaaGreatDoor
open Go.RowKit
set_option maxRecDepth 2000000
set_option linter.unusedVariables false
theorem La9 (cs : List Value) (d : Disk) (n : Int) (cs2 : List Value) (b : List UInt8) (w : World) (h : diskR.at_ w w.heap.size cs d) (h2 : byR.at_ w w.heap.size cs2 b) (hf : Ag9 d) (hw : (Lit.int .i64 n).wf = true) (hb : Sh9 b) :
 Calls Tryz.prog 35 #[.agg cs.toArray,.int .i64 n,cs2.headD undef] w (RetDisk w (U9 d n b)):=Si9 cs cs2 d n b w h h2 hf hb hw
theorem Le9 (cs : List Value) (d : Disk) (w : World) (h : diskR.at_ w w.heap.size cs d) (hf : Ag9 d) :
 Calls Tryz.prog 34 #[.agg cs.toArray] w (RetDisk w (S9 d)):=Sm9 cs d w h hf
def atP (g p : Int) : Int:=2 + 18 * (g % 2) + p
theorem Ie9 {g p : Int} (h1 : 1 ≤ g) (h2 : g ≤ 60000) (h3 : 0 ≤ p) (h4 : p ≤ 18) : (Lit.int .i64 (atP g p)).wf = true:=by
 have e : 0 ≤ atP g p∧atP g p ≤ 1000:=by unfold atP;omega
 exact WalkArith.wf_i64 (by omega)
noncomputable def Cr9 (d : Disk) (g : Int) (i : Nat) : Bool:=(Gb9 (P9 d (atP g i))).2 && (((Gb9 (P9 d (atP g i))).1.1 == g) && ((Gb9 (P9 d (atP g i))).1.2.1 == (i : Int)))
noncomputable def Ay9 (d : Disk) (g : Int) (i : Nat) : Rec:=(Gb9 (P9 d (atP g i))).1.2.2
noncomputable def Z8 (d : Disk) (g : Int) : Nat→Nat→Known→Known × Nat
 | 0,i,k => (k,i)
 | n + 1,i,k => if Cr9 d g i = true∧(K8 k (Ay9 d g i)).2 = true then Z8 d g n (i + 1) (K8 k (Ay9 d g i)).1 else (k,i)
noncomputable def U8 (d : Disk) (g : Int) : Known × Nat:=if inI g 1 60000 = true then Z8 d g 18 0 knownZero else (knownZero,0)
theorem Gx9 {d : Disk} {g : Int} {n i : Nat} {k : Known} (h : Cr9 d g i = true) (h2 : (K8 k (Ay9 d g i)).2 = true) : Z8 d g (n + 1) i k = Z8 d g n (i + 1) (K8 k (Ay9 d g i)).1:=by
 show (if _ then _ else _) = _
 rw [if_pos ⟨h,h2⟩]
theorem Gw9 {d : Disk} {g : Int} {n i : Nat} {k : Known} (h : Cr9 d g i = false) : Z8 d g (n + 1) i k = (k,i):=by
 show (if _ then _ else _) = _
 rw [if_neg (fun h9 => by rw [h] at h9;cases h9.1)]
theorem Om9 {d : Disk} {g : Int} {n i : Nat} {k : Known} (h : (K8 k (Ay9 d g i)).2 = false) : Z8 d g (n + 1) i k = (k,i):=by
 show (if _ then _ else _) = _
 rw [if_neg (fun h9 => by rw [h] at h9;cases h9.2)]
structure Jour where
 k : Known
 g : Int
 place : Int
def T8 : Jour:=⟨knownZero,0,0⟩
theorem Lq9 (g p : Int) (w : World) (hg : 0 ≤ g∧g ≤ 1000000) (hp : 0 ≤ p∧p ≤ 1000000) : Calls Tryz.prog 26 #[.int .i64 g,.int .i64 p] w fun e w' => e = .returned (.int .i64 (atP g p))∧w = w':=by
 obtain ⟨g1,g2⟩:=hg;obtain ⟨p1,p2⟩:=hp;have h0 : 0 ≤ g % 2:=by omega
 have h1 : g % 2 ≤ 1:=by omega
 have ht : g.tmod 2 = g % 2:=Int.tmod_eq_emod_of_nonneg g1;go_enter Tryz.func26,Tryz.ntmps26
 go_wp2
 go_ret
 exact ⟨rfl,rfl⟩
end Go.Proofs.YthpkdjflndiojaaGreatDoor
namespace Go.Proofs.YthpkdjflndiojaaGreatDoor
open Go.RowKit
set_option maxRecDepth 100000
structure Cur (w : World) (lo g : Nat) (A : Option Addr) (n c : Nat) (code : List UInt8) : Prop where
 from_ : lo ≤ g
 rd : Reads w lo 1 A n (bys code)
 blk : ∃ (i : Nat) (h : Int),i ≤ n∧-9223372036854775808 ≤ h∧h ≤ 9223372036854775807∧w.heap[g]? = some (.cells #[.slice A n c,.int .i64 i,.int .i64 h] 86 (0,0))
theorem Dn9 {w : World} {g t : Nat} {cs : Array Value} (h : w.heap[g]? = some (.cells cs t (0,0))) (i : Nat) : w.cell? ⟨g,i,none⟩ = cs[i]?:=cell_of_row w g i cs t (0,0) h
theorem Kv9 {w : World} {g t : Nat} {cs : Array Value} (h : w.heap[g]? = some (.cells cs t (0,0))) (i : Nat) : w.frozen? ⟨g,i,none⟩ = false:=by simp [World.frozen?,h]
theorem Aa8 {w : World} {g t : Nat} {cs : Array Value} (h : w.heap[g]? = some (.cells cs t (0,0))) (i : Nat) (u : Value) : (w.setCell ⟨g,i,none⟩ u).heap[g]? = some (.cells (cs.setIfInBounds i u) t (0,0)):=by
 simp [World.setCell,Array.getElem?_modify,h]
theorem Rr9 (w : World) (g i : Nat) (u : Value) : w.grownBy (w.setCell ⟨g,i,none⟩ u) (some g):=
 ⟨rfl,rfl,rfl,by simp,fun k _ hk => heap_setCell_other w ⟨g,i,none⟩ k u (fun e => hk (by simp [e]))⟩
theorem Iv9 (w : World) (n : Nat) (row : Option Nat) : w.grownBy (w.drewN n) row:=⟨rfl,rfl,rfl,Nat.le_refl _,fun _ _ _ => rfl⟩
theorem Cur.keep {w w' : World} {lo g : Nat} {A : Option Addr} {n c : Nat} {code : List UInt8} (h : Cur w lo g A n c code) {row : Option Nat} (hg : w.grownBy w' row) (hne : some g ≠ row) (hr : ∀ k,row = some k→lo ≤ k) : Cur w' lo g A n c code:=by
 obtain ⟨hlo,hrd,i,hh,hi,h1,h2,hb⟩:=h;have hlt : g < w.heap.size:=World.block_lt_of_cell? w ⟨g,0,none⟩ (Dn9 hb 0);exact ⟨hlo,hrd.grown hg (by omega) hr,i,hh,hi,h1,h2,by rw [hg.block g hlt hne];exact hb⟩
theorem Cur.lt {w : World} {lo g : Nat} {A : Option Addr} {n c : Nat} {code : List UInt8} (h : Cur w lo g A n c code) : g < w.heap.size:=by
 obtain ⟨_,_,i,hh,_,_,_,hb⟩:=h;exact World.block_lt_of_cell? w ⟨g,0,none⟩ (Dn9 hb 0)
theorem Pq9 {w wr w2 : World} {g : Nat} {row : Option Nat} (h : w.grownBy wr (some g)) (h2 : wr.grownBy w2 row) (hr : ∀ k,row = some k→w.heap.size ≤ k) : w.grownBy w2 (some g):=
 ⟨h2.os.trans h.os,h2.tape.trans h.tape,h2.output.trans h.output,Nat.le_trans h.size h2.size,fun k hk hne =>
  (h2.block k (Nat.lt_of_lt_of_le hk h.size) (fun e => by have:=hr k e.symm;omega)).trans (h.block k hk hne)⟩
theorem Ae8 (x : Int) : -9223372036854775808 ≤ wrap64 x∧wrap64 x ≤ 9223372036854775807:=by unfold wrap64;omega
theorem Fq9 (lo g : Nat) (A : Option Addr) (n c : Nat) (code : List UInt8) (w : World) (h : Cur w lo g A n c code) (hn : n ≤ 140737488351232) :
 Calls Tryz.prog 83 #[.pointer (some ⟨g,0,none⟩)] w fun e w' => ∃ x : Int,0 ≤ x∧x ≤ 255∧e = .returned (.int .i64 x)∧Cur w' lo g A n c code∧w.grownBy w' (some g):=by
 obtain ⟨hlo,hrd,i,hh,hi,hb1,hb2,hblk⟩:=h;have hc0 : w.cell? ⟨g,0,none⟩ = some (.slice A n c):=Dn9 hblk 0;have hc1 : w.cell? ⟨g,1,none⟩ = some (.int .i64 i):=Dn9 hblk 1;have hc2 : w.cell? ⟨g,2,none⟩ = some (.int .i64 hh):=Dn9 hblk 2;have hf0:=Kv9 hblk 1;have hf2:=Kv9 hblk 2;have hlt0 : g < w.heap.size:=World.block_lt_of_cell? w ⟨g,0,none⟩ hc0;have HB:=Lib.hid hblk;clear hblk;go_enter Tryz.func83,Tryz.ntmps83
 go_wp2
 generalize hH : wrap64 (wrap64 (hh * 6364136223846793005) + 1442695040888963407) = H;have hH1 : -9223372036854775808 ≤ H∧H ≤ 9223372036854775807:=by rw [← hH];exact Ae8 _
 obtain ⟨hH2,hH3⟩:=hH1;clear hH;have hset:=Aa8 HB.out 2 (.int .i64 H);have hgr:=Rr9 w g 2 (.int .i64 H);generalize hW : w.setCell ⟨g,2,none⟩ (.int .i64 H) = W1;rw [hW] at hset hgr;clear hW;have hset' : W1.heap[g]? = some (.cells #[.slice A n c,.int .i64 i,.int .i64 H] 86 (0,0)):=hset;have hrd1:=hrd.grown hgr (by omega) (fun k hk => by injection hk with hk;omega)
 clear hc0 hc1 hc2 hf0 hf2 hrd hset HB;have hc0 : W1.cell? ⟨g,0,none⟩ = some (.slice A n c):=Dn9 hset' 0;have hc1 : W1.cell? ⟨g,1,none⟩ = some (.int .i64 i):=Dn9 hset' 1;have hc2 : W1.cell? ⟨g,2,none⟩ = some (.int .i64 H):=Dn9 hset' 2;have hf1:=Kv9 hset' 1;have HB:=Lib.hid hset';have HG:=Lib.hid hgr;have hand:=Km9;clear hset' hgr;by_cases hlt : i < n
 ·obtain ⟨b,off,u,rfl,_,_,hcell⟩:=hrd1.byte hlt
  have hu:=u.toNat_lt;have hu' : u.toNat < 256:=hu;clear hu;have i1 : (0 : Int) ≤ (i : Int):=by omega
  have i2 : (i : Int) < (n : Int):=by omega
  go_quiet (fail)
  generalize hx : bits BinOp.xor IntKind.i64 (H / 8589934592) (H / 140737488355328) % 256 = x0;have hx1 : 0 ≤ x0∧x0 < 256:=by rw [← hx];omega
  obtain ⟨hx2,hx3⟩:=hx1;clear hx;go_wp2
  go_quiet (fail)
  go_wp2
  go_quiet (fail)
  go_wp2
  go_ret
  refine ⟨(x0 + u.toNat) % 256,by omega,by omega,rfl,⟨hlo,(hrd1.drewN _).setCell hlo _,i + 1,H,by omega,hH2,hH3,?_⟩,HG.out.trans ((Iv9 _ _ _).trans (Rr9 _ _ _ _))⟩
  exact Aa8 (w:=W1.drewN _) HB.out 1 _
 ·go_quiet (fail)
  generalize hx : bits BinOp.xor IntKind.i64 (H / 8589934592) (H / 140737488355328) % 256 = x0;have hx1 : 0 ≤ x0∧x0 < 256:=by rw [← hx];omega
  obtain ⟨hx2,hx3⟩:=hx1;clear hx;go_wp2
  go_quiet (fail)
  go_wp2
  go_ret
  exact ⟨x0,by omega,by omega,rfl,⟨hlo,hrd1,i,H,by omega,hH2,hH3,HB.out⟩,HG.out.trans ((Iv9 _ _ _).trans (Iv9 _ _ _))⟩
theorem C8 (lo g : Nat) (A : Option Addr) (n c : Nat) (code : List UInt8) (m : Nat) (w : World) (h : Cur w lo g A n c code) (hn : n ≤ 140737488351232) (hm : m ≤ 1000000000) (hm0 : 0 < m) :
 Calls Tryz.prog 42 #[.pointer (some ⟨g,0,none⟩),.int .i64 m] w fun e w' => ∃ x : Nat,x < m∧e = .returned (.int .i64 x)∧Cur w' lo g A n c code∧w.grownBy w' (some g):=by
 by_cases h256 : m ≤ 256
 ·go_enter Tryz.func42,Tryz.ntmps42
  go_wp2_with fail;refine (Fq9 lo g A n c code w h hn).mono ?_;rintro e w1 ⟨x,hx0,hx1,rfl,hc,hg⟩;go_wp2_with fail;go_ret
  obtain ⟨xn,rfl⟩:=Int.eq_ofNat_of_zero_le hx0;exact ⟨xn % m,Nat.mod_lt _ hm0,rfl,hc,hg⟩
 ·go_enter Tryz.func42,Tryz.ntmps42
  go_wp2_with fail;refine (Fq9 lo g A n c code w h hn).mono ?_;rintro e w1 ⟨x,hx0,hx1,rfl,hc,hg⟩;go_wp2_with fail;refine (Fq9 lo g A n c code w1 hc hn).mono ?_;rintro e w2 ⟨y,hy0,hy1,rfl,hc2,hg2⟩;go_wp2_with fail;refine (Fq9 lo g A n c code w2 hc2 hn).mono ?_;rintro e w3 ⟨z,hz0,hz1,rfl,hc3,hg3⟩;obtain ⟨xn,rfl⟩:=Int.eq_ofNat_of_zero_le hx0;obtain ⟨yn,rfl⟩:=Int.eq_ofNat_of_zero_le hy0;obtain ⟨zn,rfl⟩:=Int.eq_ofNat_of_zero_le hz0;go_wp2_with fail;go_ret
  exact ⟨(xn * 65536 + yn * 256 + zn) % m,Nat.mod_lt _ hm0,rfl,hc3,hg.trans (hg2.trans hg3)⟩
theorem Tryz.info8d : (Tryz.prog.info? 5).map (fun i => (i.zero,i.size,i.bytes)) = some (some (.int .u8 0),1,1):=by kernel_rfl
theorem Cd8 {x : Int} (h0 : 0 ≤ x) (h1 : x ≤ 255) : Value.int .u8 x = .int .u8 (((UInt8.ofNat x.toNat).toNat : Nat) : Int):=by
 congr 1
 simp;omega
theorem Gh9 (lo g : Nat) (A : Option Addr) (n c : Nat) (code : List UInt8) (m : Nat) (w : World) (h : Cur w lo g A n c code) (hn : n ≤ 140737488351232) (hm : m ≤ 1000000) :
 Calls Tryz.prog 47 #[.pointer (some ⟨g,0,none⟩),.int .i64 m] w fun e w' => ∃ v l,l.length = m∧e = .returned v∧Owns w' w.heap.size 5 v l∧Cur w' lo g A n c code∧w.grownBy w' (some g):=by
 obtain ⟨i0,hi0,hz0,hz1,hz2⟩:=info_parts Tryz.info8d;have hglt:=h.lt;have hlg:=h.from_;have hg0 : w.grownBy (w.alloc (.cells #[] 5)) (some g):=World.grownBy_alloc w _ _;have hc0:=h.keep (World.grownBy_alloc w (.cells #[] 5) none) (by simp) (fun k hk => by cases hk)
 have hown0 : Owns (w.alloc (.cells #[] 5)) w.heap.size 5 (.slice (some ⟨w.heap.size,0,none⟩) 0 0) []:=World.ownsRow_lit w #[] 0 (Nat.le_refl _) (by simp) rfl
 go_enter Tryz.func47,Tryz.ntmps47
 go_wp2
 go_loopw [5,6] (fun v i wr => ∃ (k : Nat) (l : List UInt8),k ≤ m∧i = .int .i64 k∧l.length = k∧Owns wr w.heap.size 5 v l∧Cur wr lo g A n c code∧w.grownBy wr (some g)) (fun _ i _ => m - (intOf i).toNat)
 case atStart => exact ⟨0,[],by omega,rfl,rfl,hown0,hc0,hg0⟩
 case round =>
  obtain ⟨k,l,hk,rfl,hlk,hown,hc,hg⟩:=hrel;clear hown0 hc0 hg0;have hne : u5.ownBlock ≠ some g:=fun e => by have:=(hown.lt g e).1;omega
  have hcn : l.length = k:=hlk;clear hlk;by_cases hlt : k < m
  ·go_wp2_with fail
   refine (Fq9 lo g A n c code wr hc hn).mono ?_;rintro e w1 ⟨x,hx0,hx1,rfl,hc1,hg1⟩;have hown1 : Owns w1 w.heap.size 5 u5 l:=World.ownsRow.kept hown hg1 (.inr hne);have hgw1 : w.grownBy w1 (some g):=hg.trans hg1;have hx256 : x < 256:=by omega
   have HL:=Lib.hid hcn;have Hne:=Lib.hid hne;clear hg1 hown hc hg hcn hne
   go_wp2_with (first
        | (at_builtin
           have hnew:=Reads.of_own (World.ownsRow_lit (base:=0) (e:=5) (size:=1) w1 #[.int .u8 x] 1 (Nat.zero_le _) (by simp [maxLen]) rfl)
           refine wpList_append_any _ rfl (.tmp 13) (.tmp 17) _ rfl w.heap.size 5 i0 _ 1 1 Tryz.underlying22 hi0 hz0 hz1 hz2 rfl (by omega) u5 l.length (bys l) rfl (hown1.alloc _) _ _ 1 _ _ rfl hnew (by simp;rfl) (by have:=HL.out;simp only [maxLen];omega) (by have:=HL.out;omega) (Nat.le_trans hgw1.size (by simp)) ?_
           clear hnew;intro v2 w2 hown2 hg2 hat2))
   have hg3 : w1.grownBy (w1.alloc (.cells #[.int .u8 x] 5)) none:=World.grownBy_alloc _ _ _;have hrow : ∀ j,u5.ownBlock = some j→w.heap.size ≤ j:=fun j hj => (hown1.lt j hj).1
   have hc2 : Cur w2 lo g A n c code:=(hc1.keep hg3 (by simp) (fun k hk => by cases hk)).keep hg2 (fun e => Hne.out e.symm) (fun j hj => by have:=hrow j hj;omega)
   have hgw2 : w.grownBy w2 (some g):=Pq9 (Pq9 hgw1 hg3 (fun k hk => by cases hk)) hg2 hrow
   go_roundw
   case rel => exact ⟨k + 1,l ++ [UInt8.ofNat x.toNat],by omega,by go_num,by have:=HL.out;simp;omega,by unfold Owns;rw [bys_append,List.length_append,show bys [UInt8.ofNat x.toNat] = [.int .u8 x] by simp only [bys,List.map_cons,List.map_nil];rw [← Cd8 hx0 hx1]];exact hown2,hc2,hgw2⟩
   case measure => simp [intOf];omega
  ·have he : k = m:=by omega
   subst he;have HL:=Lib.hid hcn;clear hcn;go_wp2
   go_ret
   exact ⟨u5,l,HL.out,rfl,hown,hc,hg⟩
set_option maxRecDepth 100000 in
theorem Ro9 (A : Option Addr) (c : Nat) (code : List UInt8) (w : World) (h : Reads w w.heap.size 1 A code.length (bys code)) (hn : code.length ≤ 1048576) :
 Calls Tryz.prog 14 #[.slice A code.length c] w fun e w' => ∃ g,e = .returned (.pointer (some ⟨g,0,none⟩))∧Cur w' w.heap.size g A code.length c code∧Below w.heap.size w w':=by
 go_enter Tryz.func14,Tryz.ntmps14
 go_wp2
 go_loop [3,4] (fun h i => ∃ (k : Nat) (q : Int),k ≤ code.length∧i = .int .i64 k∧h = .int .i64 q∧0 ≤ q∧q < 1073741824) (fun _ i => code.length - (intOf i).toNat)
 case atStart => exact ⟨0,128871 + (code.length : Int),by omega,rfl,rfl,by omega,by omega⟩
 case round =>
  obtain ⟨k,q,hk,rfl,rfl,hq0,hq1⟩:=hrel;by_cases hlt : k < code.length
  ·by_cases h4 : (k : Int) < 4000
   ·obtain ⟨b,off,u,rfl,_,_,hcell⟩:=h.byte hlt
    have hu : u.toNat < 256:=u.toNat_lt;have hmask:=Bn8;go_wp2
    go_round
    case rel => exact ⟨k + 1,_,by omega,by go_num,rfl,by omega,by omega⟩
    case measure => simp [intOf];omega
   ·go_wp2
    go_ret
    exact ⟨w.heap.size,rfl,⟨Nat.le_refl _,h.alloc (Nat.le_refl _) _,0,q,by omega,by omega,by omega,heap_alloc_new w _⟩,(Below.refl _ _).alloc (Nat.le_refl _) _⟩
  ·go_wp2
   go_ret
   exact ⟨w.heap.size,rfl,⟨Nat.le_refl _,h.alloc (Nat.le_refl _) _,0,q,by omega,by omega,by omega,heap_alloc_new w _⟩,(Below.refl _ _).alloc (Nat.le_refl _) _⟩
theorem Ki9 (lo g : Nat) (A : Option Addr) (n c : Nat) (code : List UInt8) (m : Nat) (w : World) (h : Cur w lo g A n c code) (hn : n ≤ 140737488351232) (hm : m ≤ 1000000000) (hm0 : 0 < m) :
 Calls Tryz.prog 17 #[.pointer (some ⟨g,0,none⟩),.int .i64 m] w fun e w' => ∃ b : Bool,e = .returned (.bool b)∧Cur w' lo g A n c code∧w.grownBy w' (some g):=by
 go_enter Tryz.func17,Tryz.ntmps17
 go_wp2_with fail;refine (C8 lo g A n c code m w h hn hm hm0).mono ?_;rintro e w1 ⟨x,hx,rfl,hc,hg⟩;go_wp2_with fail;go_ret
 exact ⟨_,rfl,hc,hg⟩
theorem Rp9 (lo g L : Nat) (A : Option Addr) (n c : Nat) (code : List UInt8) (zs : List Int) (w : World) (h : Cur w lo g A n c code) (hn : n ≤ 140737488351232) (hz0 : 0 < zs.length) (hz : zs.length ≤ 1000)
 (hL : w.heap[L]? = some (.cells (zs.map (Value.int .i64)).toArray 3 (0,0))) (hne : L ≠ g) :
 Calls Tryz.prog 40 #[.pointer (some ⟨g,0,none⟩),.slice (some ⟨L,0,none⟩) zs.length zs.length] w fun e w' => ∃ z : Int,z ∈ zs∧e = .returned (.int .i64 z)∧Cur w' lo g A n c code∧w.grownBy w' (some g):=by
 have hLlt : L < w.heap.size:=(Array.getElem?_eq_some_iff.1 hL).1;have HL:=Lib.hid hL;clear hL;go_enter Tryz.func40,Tryz.ntmps40
 go_wp2_with fail;refine (C8 lo g A n c code zs.length w h hn (by omega) hz0).mono ?_
 rintro e w1 ⟨x,hx,rfl,hc,hg⟩;have hblk : w1.heap[L]? = some (.cells (zs.map (Value.int .i64)).toArray 3 (0,0)):=(hg.block L hLlt (by simpa using hne)).trans HL.out
 have hcell : w1.cell? ⟨L,x,none⟩ = some (.int .i64 zs[x]):=by
  rw [Dn9 hblk x];simp [hx]
 have hmem : zs[x] ∈ zs:=List.getElem_mem hx;generalize zs[x] = z at hcell hmem;have i1 : (0 : Int) ≤ (x : Int):=by omega
 have i2 : (x : Int) < (zs.length : Int):=by omega
 have HM:=Lib.hid hmem;clear hmem hblk;go_wp2_with fail;go_ret
 exact ⟨z,HM.out,rfl,hc,hg⟩
theorem Bd8 (lo g L : Nat) (A : Option Addr) (n c : Nat) (code : List UInt8) (ss : List ByteArray) (w : World) (h : Cur w lo g A n c code) (hn : n ≤ 140737488351232) (hz0 : 0 < ss.length) (hz : ss.length ≤ 1000)
 (hL : w.heap[L]? = some (.cells (ss.map Value.string).toArray 9 (0,0))) (hne : L ≠ g) :
 Calls Tryz.prog 89 #[.pointer (some ⟨g,0,none⟩),.slice (some ⟨L,0,none⟩) ss.length ss.length] w fun e w' => ∃ s : ByteArray,s ∈ ss∧e = .returned (.string s)∧Cur w' lo g A n c code∧w.grownBy w' (some g):=by
 have hLlt : L < w.heap.size:=(Array.getElem?_eq_some_iff.1 hL).1;have HL:=Lib.hid hL;clear hL;go_enter Tryz.func89,Tryz.ntmps89
 go_wp2_with fail;refine (C8 lo g A n c code ss.length w h hn (by omega) hz0).mono ?_
 rintro e w1 ⟨x,hx,rfl,hc,hg⟩;have hblk : w1.heap[L]? = some (.cells (ss.map Value.string).toArray 9 (0,0)):=(hg.block L hLlt (by simpa using hne)).trans HL.out
 have hcell : w1.cell? ⟨L,x,none⟩ = some (.string ss[x]):=by
  rw [Dn9 hblk x];simp [hx]
 have hmem : ss[x] ∈ ss:=List.getElem_mem hx;generalize ss[x] = z at hcell hmem;have i1 : (0 : Int) ≤ (x : Int):=by omega
 have i2 : (x : Int) < (ss.length : Int):=by omega
 have HM:=Lib.hid hmem;clear hmem hblk;go_wp2_with fail;go_ret
 exact ⟨z,HM.out,rfl,hc,hg⟩
theorem Cur.alloc {w : World} {lo g : Nat} {A : Option Addr} {n c : Nat} {code : List UInt8} (h : Cur w lo g A n c code) (o : Obj) : Cur (w.alloc o) lo g A n c code:=
 h.keep (World.grownBy_alloc w o none) (by simp) (fun k hk => by cases hk)
end Go.Proofs.YthpkdjflndiojaaGreatDoor
namespace Go.Proofs.YthpkdjflndiojaaGreatDoor
open Go.RowKit
set_option maxRecDepth 100000
set_option linter.unusedVariables false
theorem Cur.only {w w' : World} {lo g : Nat} {A : Option Addr} {n c : Nat} {code : List UInt8} (h : Cur w lo g A n c code) {fp : List Nat} (ho : Rep.Only w w' fp) (hg : g ∉ fp) (hf : ∀ a,a ∈ fp→lo ≤ a) : Cur w' lo g A n c code:=by
 have hlt:=h.lt;obtain ⟨hlo,hrd,i,hh,hi,h1,h2,hb⟩:=h;refine ⟨hlo,hrd.keep fun p hp => World.cell?_of_block (ho.block p.block (by omega) (fun e => by have:=hf _ e;omega)),i,hh,hi,h1,h2,?_⟩
 rw [ho.block g hlt hg];exact hb
theorem Cur.drew {w : World} {lo g : Nat} {A : Option Addr} {n c : Nat} {code : List UInt8} (h : Cur w lo g A n c code) : Cur w.drew lo g A n c code:=h.only (Rep.only_drew w) (by simp) (fun a ha => by cases ha)
theorem I7 {w w' : World} {g : Nat} (h : w.grownBy w' (some g)) : Rep.Only w w' [g]:=Rep.Only.of_grown h (fun a ha => by injection ha with ha;simp [ha])
def RetInt (w : World) (lo g : Nat) (A : Option Addr) (n c : Nat) (code : List UInt8) (zs : List Int) (e : Ending) (w' : World) : Prop:=
 ∃ z,z ∈ zs∧e = .returned (.int .i64 z)∧Cur w' lo g A n c code∧Rep.Only w w' [g]
theorem Cc9 (lo g : Nat) (A : Option Addr) (n c : Nat) (code : List UInt8) (zs : List Int) (w : World) (h : Cur w lo g A n c code) (hn : n ≤ 140737488351232) (hz0 : 0 < zs.length) (hz : zs.length ≤ 1000) :
 Calls Tryz.prog 40 #[.pointer (some ⟨g,0,none⟩),.slice (some ⟨w.heap.size,0,none⟩) zs.length zs.length] (w.alloc (.cells (zs.map (Value.int .i64)).toArray 3)) (RetInt w lo g A n c code zs):=by
 refine (Rp9 lo g w.heap.size A n c code zs _ (h.only (Rep.only_alloc w _) (by simp) (fun a ha => by cases ha)) hn hz0 hz (heap_alloc_new w _) (by have:=h.lt;omega)).mono ?_
 rintro e w' ⟨z,hm,rfl,hc,hg⟩;exact ⟨z,hm,rfl,hc,((Rep.only_alloc w _).mono (by simp) : Rep.Only w _ [g]).trans (I7 hg)⟩
def RetStr (w : World) (lo g : Nat) (A : Option Addr) (n c : Nat) (code : List UInt8) (ss : List ByteArray) (e : Ending) (w' : World) : Prop:=
 ∃ z,z ∈ ss∧e = .returned (.string z)∧Cur w' lo g A n c code∧Rep.Only w w' [g]
theorem Px9 (lo g : Nat) (A : Option Addr) (n c : Nat) (code : List UInt8) (ss : List ByteArray) (w : World) (h : Cur w lo g A n c code) (hn : n ≤ 140737488351232) (hz0 : 0 < ss.length) (hz : ss.length ≤ 1000) :
 Calls Tryz.prog 89 #[.pointer (some ⟨g,0,none⟩),.slice (some ⟨w.heap.size,0,none⟩) ss.length ss.length] (w.alloc (.cells (ss.map Value.string).toArray 9)) (RetStr w lo g A n c code ss):=by
 refine (Bd8 lo g w.heap.size A n c code ss _ (h.only (Rep.only_alloc w _) (by simp) (fun a ha => by cases ha)) hn hz0 hz (heap_alloc_new w _) (by have:=h.lt;omega)).mono ?_
 rintro e w' ⟨z,hm,rfl,hc,hg⟩;exact ⟨z,hm,rfl,hc,((Rep.only_alloc w _).mono (by simp) : Rep.Only w _ [g]).trans (I7 hg)⟩
section
variable {w V V2 : World} {lo g : Nat} {A : Option Addr} {n c : Nat} {code : List UInt8}
end
theorem Ke9 (w : World) (D : Nat) (a : Int) (b : ByteArray) (p : Int) (q : ByteArray) (e f : Int) : Rep.Only w ((((((w.setCell ⟨D,0,none⟩ (.int .i64 a)).setCell ⟨D,1,none⟩ (.string b)).setCell ⟨D,2,none⟩ (.int .i64 p)).setCell ⟨D,3,none⟩ (.string q)).setCell ⟨D,4,none⟩ (.int .i64 e)).setCell ⟨D,5,none⟩ (.int .i64 f)) [D]:=
 (((((Rep.Only.setCell w (p:=⟨D,0,none⟩) (by simp) _).trans (Rep.Only.setCell _ (p:=⟨D,1,none⟩) (by simp) _)).trans (Rep.Only.setCell _ (p:=⟨D,2,none⟩) (by simp) _)).trans (Rep.Only.setCell _ (p:=⟨D,3,none⟩) (by simp) _)).trans (Rep.Only.setCell _ (p:=⟨D,4,none⟩) (by simp) _)).trans (Rep.Only.setCell _ (p:=⟨D,5,none⟩) (by simp) _)
theorem Ai8 {W : World} {R : Nat} {k0 : Known} (h : W.heap[R]? = some (.cells (T9 k0).toArray 35 (0,0))) (a : Int) (b : ByteArray) (p : Int) (q : ByteArray) (e f : Int) : ((((((W.setCell ⟨R,0,none⟩ (.int .i64 a)).setCell ⟨R,1,none⟩ (.string b)).setCell ⟨R,2,none⟩ (.int .i64 p)).setCell ⟨R,3,none⟩ (.string q)).setCell ⟨R,4,none⟩ (.int .i64 e)).setCell ⟨R,5,none⟩ (.int .i64 f)).heap[R]? = some (.cells (T9 ⟨a,b,p,q,e,f⟩).toArray 35 (0,0)):=by
 obtain ⟨a0,b0,p0,q0,e0,f0⟩:=k0;exact N9 (N9 (N9 (N9 (N9 (N9 h 0 (.int .i64 a)) 1 (.string b)) 2 (.int .i64 p)) 3 (.string q)) 4 (.int .i64 e)) 5 (.int .i64 f)
theorem Cx9 {W : World} {R : Nat} {r0 : Rec} (h : W.heap[R]? = some (.cells (M8 r0).toArray 29 (0,0))) (a b c : Int) (d : ByteArray) : ((((W.setCell ⟨R,0,none⟩ (.int .i64 a)).setCell ⟨R,1,none⟩ (.int .i64 b)).setCell ⟨R,2,none⟩ (.int .i64 c)).setCell ⟨R,3,none⟩ (.string d)).heap[R]? = some (.cells (M8 ⟨a,b,c,d⟩).toArray 29 (0,0)):=by
 obtain ⟨a0,b0,c0,d0⟩:=r0;exact N9 (N9 (N9 (N9 h 0 (.int .i64 a)) 1 (.int .i64 b)) 2 (.int .i64 c)) 3 (.string d)
theorem U7 (w : World) (D : Nat) (a b c d : Value) : Rep.Only w ((((w.setCell ⟨D,0,none⟩ a).setCell ⟨D,1,none⟩ b).setCell ⟨D,2,none⟩ c).setCell ⟨D,3,none⟩ d) [D]:=
 (((Rep.Only.setCell w (p:=⟨D,0,none⟩) (by simp) a).trans (Rep.Only.setCell _ (p:=⟨D,1,none⟩) (by simp) b)).trans (Rep.Only.setCell _ (p:=⟨D,2,none⟩) (by simp) c)).trans (Rep.Only.setCell _ (p:=⟨D,3,none⟩) (by simp) d)
end Go.Proofs.YthpkdjflndiojaaGreatDoor
