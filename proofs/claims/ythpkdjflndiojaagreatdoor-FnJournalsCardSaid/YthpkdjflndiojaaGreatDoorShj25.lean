/- What the theorem needs, out of many texts. -/
import Derived.Test.YthpkdjflndiojaaGreatDoorShj21
set_option maxHeartbeats 20000000
namespace Go.Proofs.YthpkdjflndiojaaGreatDoor
open Go.RowKit Go.Maps
set_option maxRecDepth 2000000
set_option linter.unusedVariables false
set_option maxRecDepth 100000 in
theorem Xt9 (lo g : Nat) (A : Option Addr) (n c : Nat) (code : List UInt8) (w : World) (h : Cur w lo g A n c code) (hn : n ≤ 140737488351232) :
 Calls Tryz.prog 88 #[.pointer (some ⟨g,0,none⟩)] w (Ud9 w lo g A n c code Z9):=by
 have hglt:=h.lt;have hlg:=h.from_;go_enter Tryz.func88,Tryz.ntmps88
 go_wp2_with fail;have ho1:=Rep.only_alloc w (.cells #[.slice none 0 0,.slice none 0 0,.int .i64 0,.bool false] 27);have hv1:=heap_alloc_new w (.cells #[.slice none 0 0,.slice none 0 0,.int .i64 0,.bool false] 27);have hs1 : w.heap.size + 1 ≤ (w.alloc (.cells #[.slice none 0 0,.slice none 0 0,.int .i64 0,.bool false] 27)).heap.size:=by simp
 generalize hgW : w.alloc (.cells #[.slice none 0 0,.slice none 0 0,.int .i64 0,.bool false] 27) = W1 at ho1 hv1 hs1 ⊢;clear hgW;have hc1:=h.only ho1 (by simp) (fun a ha => by cases ha)
 have O1 : Rep.Only w W1 [g]:=ho1.mono (by simp)
 have V1:=Lib.hid hv1;clear ho1 hv1 h;refine (C8 lo g A n c code 5 W1 hc1 hn (by omega) (by omega)).mono ?_
 rintro e W2 ⟨x,hx,rfl,hc2,hg2⟩;have ho:=I7 hg2;have V2:=Rep.var_only V1 ho (by omega) (by simp;omega)
 have O2:=O1.then ho (fun a ha => .inl ha)
 have s2:=ho.size;clear hg2 ho hc1 V1 O1;go_wp2_with fail;refine (Ma9 (1 + (x : Int)) W2).mono ?_;rintro e W3 ⟨cs,fp,rfl,Oo,hb⟩;have hgood:=Lx9 (n:=1 + (x : Int)) (by omega) (by omega)
 generalize An9 (1 + (x : Int)) = d at Oo hgood;obtain ⟨A5,c6,B7,d8,rfl⟩:=Q9 Oo;have ho:=Rep.only_of_below hb;have hc3:=hc2.only ho (by simp) (fun a ha => by cases ha)
 have V3:=Rep.var_only V2 ho (by omega) (by simp)
 have O3:=O2.then ho (fun a ha => by cases ha)
 have s3:=ho.size;have L3:=Lib.hid (Rep.lt diskR Oo);clear hb ho hc2 V2 O2;go_wp2_with fail;have ho1:=Rep.only_alloc W3 (.cells #[.slice A5 d.secs.length c6,.slice B7 d.cache.length d8,.int .i64 d.fuse,.bool d.down] 27);have hv1:=heap_alloc_new W3 (.cells #[.slice A5 d.secs.length c6,.slice B7 d.cache.length d8,.int .i64 d.fuse,.bool d.down] 27);have hs1 : W3.heap.size + 1 ≤ (W3.alloc (.cells #[.slice A5 d.secs.length c6,.slice B7 d.cache.length d8,.int .i64 d.fuse,.bool d.down] 27)).heap.size:=by simp
 generalize hgW : W3.alloc (.cells #[.slice A5 d.secs.length c6,.slice B7 d.cache.length d8,.int .i64 d.fuse,.bool d.down] 27) = W4 at ho1 hv1 hs1 ⊢;clear hgW;have hc4:=hc3.only ho1 (by simp) (fun a ha => by cases ha)
 have O4:=O3.then ho1 (fun a ha => by cases ha)
 have V4:=Rep.var_only V3 ho1 (by omega) (by simp)
 have D4 : VarDisk W4 (w.heap.size + 1) W3.heap.size d fp:=⟨A5,c6,B7,d8,hv1,diskR.low (Rep.own_only Oo ho1 (fun a ha hb => by cases hb)) (by omega),fun hm => by have:=(L3.out _ hm).2;omega⟩
 clear ho1 hv1 hc3 O3 V3 Oo L3;refine (C8 lo g A n c code 8 W4 hc4 hn (by omega) (by omega)).mono ?_
 rintro e W5 ⟨y,hy,rfl,hc5,hg5⟩;have ho:=I7 hg5;have V5:=Rep.var_only V4 ho (by omega) (by simp;omega)
 have O5:=O4.then ho (fun a ha => .inl ha)
 have s5:=ho.size;have D5:=D4.only ho (by simp;omega) (fun a ha hb => by have:=(D4.fp a ha).1;simp at hb;omega)
 clear hg5 ho hc4 V4 O4 D4;have hD3 : w.heap.size + 1 ≤ W3.heap.size:=by omega
 have HS : W3.heap.size < W5.heap.size:=by omega
 generalize W3.heap.size = D at D5 hD3 HS ⊢;go_wp2_with fail;obtain ⟨W0,rfl⟩ : ∃ W0 : World,W0 = W5:=⟨_,rfl⟩;go_loopw [4] (fun i wr => ∃ (k : Nat) (d : Disk) (fp : List Nat),k ≤ 8∧i = .int .i64 k∧Z9 d∧VarDisk wr (w.heap.size + 1) D d fp∧Hid (wr.heap[w.heap.size]? = some (.cells #[.slice none 0 0,.slice none 0 0,.int .i64 0,.bool false] 27 (0,0)))∧Cur wr lo g A n c code∧Rep.Only w wr [g]) (fun i _ => (intOf i).toNat)
 case atStart => exact ⟨y,d,fp,by omega,rfl,hgood,D5,V5,hc5,O5⟩
 case round =>
  clear hgood D5 V5 hc5 O5 HS s2 s3 s5 hs1;obtain ⟨k,d,fp,hk,rfl,hgood,hD,hV,hc,hO⟩:=hrel;have hDlt:=hD.lt;have hfits:=Fm9 hgood;obtain ⟨⟨hl1,hl2,hl3⟩,hrest⟩:=hgood;have HG : Z9 d:=⟨⟨hl1,hl2,hl3⟩,hrest⟩;by_cases hlt : 0 < k
  ·have i1 : (0 : Int) < (k : Int):=by omega
   have i2 : (k : Int) > 0:=by omega
   obtain ⟨A5,c6,B7,d8,vv,Oo,hDn⟩:=hD;have L:=Lib.hid (Rep.lt diskR Oo);have e0 : wr.cell? ⟨D,0,none⟩ = some (.slice A5 d.secs.length c6):=E9 vv 0;have e1 : wr.cell? ⟨D,1,none⟩ = some (.slice B7 d.cache.length d8):=E9 vv 1;have e2 : wr.cell? ⟨D,2,none⟩ = some (.int .i64 d.fuse):=E9 vv 2;have e3 : wr.cell? ⟨D,3,none⟩ = some (.bool d.down):=E9 vv 3;have VV:=Lib.hid vv;have HDN:=Lib.hid hDn;clear vv hDn;go_wp2_with fail;refine M9 11 [0,1,2,3,4,6,7] [5,8,9,10,11] (fun w' => w'.cell? ⟨D,0,none⟩ = some (.slice A5 d.secs.length c6)∧w'.cell? ⟨D,1,none⟩ = some (.slice B7 d.cache.length d8)∧w'.cell? ⟨D,2,none⟩ = some (.int .i64 d.fuse)∧w'.cell? ⟨D,3,none⟩ = some (.bool d.down)) (by kernel_rfl) (by kernel_rfl) ⟨e0,e1,e2,e3⟩ ?_
   iterate 7 (refine LexR.cons rfl ?_ (fun w' hw => ?_) ?_;rotate_left;focus (obtain ⟨e1,e2,e3,e4⟩:=hw;go_simp;(try exact rfl));(try go_frame))
   refine LexR.nil (LexW.cons rfl ?_);try go_frame
   go_wp2_with fail
   have HS4 : ∀ (w' : World), Rep.Only wr w' [g] → (w'.cell? ⟨D, 0, none⟩ = some (.slice A5 d.secs.length c6) ∧ w'.cell? ⟨D, 1, none⟩ = some (.slice B7 d.cache.length d8) ∧ w'.cell? ⟨D, 2, none⟩ = some (.int .i64 d.fuse) ∧ w'.cell? ⟨D, 3, none⟩ = some (.bool d.down)) := fun w' ho =>
       ⟨(ho.cell hDlt (by simp;omega)).trans e0,(ho.cell hDlt (by simp;omega)).trans e1,(ho.cell hDlt (by simp;omega)).trans e2,(ho.cell hDlt (by simp;omega)).trans e3⟩
   have HS5:=Lib.hid HS4;clear HS4 e0 e1 e2 e3;refine (C8 lo g A n c code d.secs.length _ hc.drew hn (by omega) (by omega)).mono ?_
   rintro e wa ⟨x1,hx1,rfl,hca,hga⟩;have hoa : Rep.Only wr wa [g]:=((Rep.only_drew wr).mono (by simp)).trans (I7 hga)
   clear hga;go_wp2_with fail;refine ⟨fun _ => HS5.out _ hoa,LexW.cons rfl ?_⟩
   try go_frame
   go_wp2_with fail;refine (C8 lo g A n c code 5 _ hca hn (by omega) (by omega)).mono ?_
   rintro e wb ⟨x2,hx2,rfl,hcb,hgb⟩;have hob : Rep.Only wr wb [g]:=hoa.trans (I7 hgb);clear hgb hca hoa;go_wp2_with fail;refine ⟨fun _ => HS5.out _ hob,LexW.cons rfl ?_⟩
   try go_frame
   go_wp2_with fail;refine (Gh9 lo g A n c code x2 _ hcb hn (by omega)).mono ?_
   rintro e wc ⟨v,l,hl,rfl,hown,hcc,hgc⟩;have hoc : Rep.Only wr wc [g]:=hob.trans (I7 hgc);obtain ⟨A2,c2,rfl,hlc,hcm,hr2,_⟩:=hown.shape;have hl2 : l.length ≤ 1048576:=by omega
   clear hgc hob hcb hown hl;go_wp2_with fail;refine ⟨fun _ => HS5.out _ hoc,LexW.cons rfl ?_⟩
   try go_frame
   go_wp2_with fail;have Oc:=Rep.own_only Oo hoc (fun a ha hb => by have:=(L.out a ha).1;simp at hb;omega)
   refine (Dh9 _ [.slice A2 l.length c2] d (x1 : Int) l wc (Rep.reads diskR Oc) ⟨A2,c2,rfl,⟨hlc,hcm⟩,hr2⟩ hfits hl2 (wf_i64 (by omega) (by omega))).mono ?_
   rintro e we ⟨cs,fp2,rfl,Oe,hbe⟩;have hg2:=Ew9 HG (x1 : Int) l;generalize U9 d (x1 : Int) l = d2 at Oe hg2;obtain ⟨A6,c7,B8,d9,rfl⟩:=Q9 Oe;have hoe:=Rep.only_of_below hbe;have hce:=hcc.only hoe (by simp) (fun a ha => by cases ha)
   have hOe : Rep.Only wr we [g]:=hoc.trans (hoe.mono (by simp))
   have L2:=Lib.hid (Rep.lt diskR Oe);have sc:=hoc.size;have se:=hoe.size;clear hoe hcc hoc hbe hr2 Oc;go_wp2_with fail;refine ⟨fun _ => HS5.out _ hOe,LexW.cons rfl ?_⟩
   try go_frame
   have ve:=(hOe.block D hDlt (by simp;omega)).trans VV.out
   have f0:=C9 ve 0;have f1:=C9 ve 1;have f2:=C9 ve 2;have f3:=C9 ve 3;have e0 : we.cell? ⟨D,0,none⟩ = some (.slice A5 d.secs.length c6):=E9 ve 0;have e1 : we.cell? ⟨D,1,none⟩ = some (.slice B7 d.cache.length d8):=E9 ve 1;have e2 : we.cell? ⟨D,2,none⟩ = some (.int .i64 d.fuse):=E9 ve 2;have e3 : we.cell? ⟨D,3,none⟩ = some (.bool d.down):=E9 ve 3;have VE:=Lib.hid ve;have hDe : D < we.heap.size:=by omega
   clear ve;go_wp2_with fail;refine ⟨fun h => absurd rfl h,LexW.nil ?_⟩
   clear e0 e1 e2 e3 f0 f1 f2 f3 HS5;have D6:=VarDisk.put (base:=w.heap.size + 1) VE.out Oe (by omega) (by omega)
   have o6:=Em9 we D (.slice A6 d2.secs.length c7) (.slice B8 d2.cache.length d9) (.int .i64 d2.fuse) (.bool d2.down);generalize hgW : (((we.setCell ⟨D,0,none⟩ (.slice A6 d2.secs.length c7)).setCell ⟨D,1,none⟩ (.slice B8 d2.cache.length d9)).setCell ⟨D,2,none⟩ (.int .i64 d2.fuse)).setCell ⟨D,3,none⟩ (.bool d2.down) = wf at D6 o6 ⊢;clear hgW VE VV;have cf:=hce.only o6 (by simp;omega) (fun a ha => by simp at ha;omega)
   have O6 : Rep.Only w wf [g]:=(hO.trans hOe).then o6 (fun a ha => .inr (by simp at ha;omega))
   have V6:=Rep.var_only (Rep.var_only hV hOe (by omega) (by simp;omega)) o6 (by omega) (by simp;omega)
   have hsf:=o6.size;clear hV hO hOe hce o6 Oe Oo L L2 HDN HG hfits hrest;go_wp2_with fail;refine (Ki9 lo g A n c code 4 wf cf hn (by omega) (by omega)).mono ?_
   rintro e wg ⟨yes,rfl,hcg,hgg⟩;have og:=I7 hgg;have D7:=D6.only og (by simp;omega) (fun a ha hb => by have:=(D6.fp a ha).1;simp at hb;omega)
   have V7:=Rep.var_only V6 og (by omega) (by simp;omega)
   have O7:=O6.then og (fun a ha => .inl ha)
   have hsg:=og.size;have hd2 : D < wg.heap.size:=by omega
   clear hgg og D6 V6 O6 cf;obtain ⟨k,rfl⟩ : ∃ j,k = j + 1:=⟨k - 1,by omega⟩
   cases yes
   ·go_wp2_with fail
    go_roundw
    case rel => exact ⟨k,d2,fp2,by omega,by go_num,hg2,D7,V7,hcg,O7⟩
    case measure => simp [intOf]
   ·obtain ⟨A7,c8,B9,d10,VG,OG,HN,e0,e1,e2,e3,fr⟩:=D7.cells
    have L7:=Lib.hid (Rep.lt diskR OG);have hf7:=Fm9 hg2;clear D7 fr;go_wp2_with fail;refine (Di9 _ d2 wg (Rep.reads diskR OG) hf7).mono ?_;rintro e wh ⟨cs,fp3,rfl,Oh,hbh⟩;have hg3:=Cj9 hg2;generalize S9 d2 = d3 at Oh hg3;obtain ⟨A8,c9,B10,d11,rfl⟩:=Q9 Oh;have oh:=Rep.only_of_below hbh;have vh:=(oh.block D (by omega) (by simp)).trans VG.out
    have ch:=hcg.only oh (by simp) (fun a ha => by cases ha)
    have Vh:=Rep.var_only V7 oh (by omega) (by simp)
    have Oh':=O7.then oh (fun a ha => by cases ha)
    have hsh:=oh.size;have f0:=C9 vh 0;have f1:=C9 vh 1;have f2:=C9 vh 2;have f3:=C9 vh 3;have q0 : wh.cell? ⟨D,0,none⟩ = some (.slice A7 d2.secs.length c8):=E9 vh 0;have q1 : wh.cell? ⟨D,1,none⟩ = some (.slice B9 d2.cache.length d10):=E9 vh 1;have q2 : wh.cell? ⟨D,2,none⟩ = some (.int .i64 d2.fuse):=E9 vh 2;have q3 : wh.cell? ⟨D,3,none⟩ = some (.bool d2.down):=E9 vh 3;have VH:=Lib.hid vh;clear vh hbh e0 e1 e2 e3 OG O7 V7 hcg oh;go_wp2_with fail;have D8:=VarDisk.put (base:=w.heap.size + 1) VH.out Oh (by omega) (by omega)
    have o8:=Em9 wh D (.slice A8 d3.secs.length c9) (.slice B10 d3.cache.length d11) (.int .i64 d3.fuse) (.bool d3.down);generalize hgW : (((wh.setCell ⟨D,0,none⟩ (.slice A8 d3.secs.length c9)).setCell ⟨D,1,none⟩ (.slice B10 d3.cache.length d11)).setCell ⟨D,2,none⟩ (.int .i64 d3.fuse)).setCell ⟨D,3,none⟩ (.bool d3.down) = wi at D8 o8 ⊢;clear hgW;go_roundw
    case rel => exact ⟨k,d3,fp3,by omega,by go_num,hg3,D8,Rep.var_only Vh o8 (by omega) (by simp;omega),ch.only o8 (by simp;omega) (fun a ha => by simp at ha;omega),Oh'.then o8 (fun a ha => .inr (by simp at ha;omega))⟩
    case measure => simp [intOf]
  ·have i2 : ¬ ((k : Int) > 0):=by omega
   have i1 : (k : Int) ≤ 0:=by omega
   go_wp2_with fail;have ho1:=Rep.only_alloc wr (.cells #[.int .i64 (-1),.int .i64 (-1),.int .i64 0,.int .i64 1,.int .i64 2] 3);have hv1:=heap_alloc_new wr (.cells #[.int .i64 (-1),.int .i64 (-1),.int .i64 0,.int .i64 1,.int .i64 2] 3);have hs1 : wr.heap.size + 1 ≤ (wr.alloc (.cells #[.int .i64 (-1),.int .i64 (-1),.int .i64 0,.int .i64 1,.int .i64 2] 3)).heap.size:=by simp
   generalize hgW : wr.alloc (.cells #[.int .i64 (-1),.int .i64 (-1),.int .i64 0,.int .i64 1,.int .i64 2] 3) = wa at ho1 hv1 hs1 ⊢;clear hgW;refine (Rp9 lo g wr.heap.size A n c code [-1,-1,0,1,2] wa (hc.only ho1 (by simp) (fun a ha => by cases ha)) hn (by decide) (by decide) hv1 (by have:=hc.lt;omega)).mono ?_
   rintro e wb ⟨z,hz,rfl,hcb,hgb⟩
   have hz2 : -1 ≤ z ∧ z ≤ 2 := by
       simp only [List.mem_cons,List.not_mem_nil,or_false] at hz;omega
   obtain ⟨hz3,hz4⟩:=hz2;have og:=(ho1.mono (by simp) : Rep.Only wr wa [g]).trans (I7 hgb)
   have D7:=hD.only og (by simp;omega) (fun a ha hb => by have:=(hD.fp a ha).1;simp at hb;omega)
   have V7:=Rep.var_only hV og (by omega) (by simp;omega)
   have O7:=hO.then og (fun a ha => .inl ha)
   have hsg:=og.size;have hg3:=Bo8 HG hz3 (by omega)
   clear hz hgb og hD hV hO hc ho1 hv1;obtain ⟨A7,c8,B9,d10,VG,OG,HN,e0,e1,e2,e3,fr⟩:=D7.cells;have f2:=fr 2;clear D7 fr;go_upto_region 9 with (fail)
   have vs:=N9 VG.out 2 (.int .i64 z);have os:=Rep.Only.setCell wb (p:=⟨D,2,none⟩) (fp:=[D]) (by simp) (.int .i64 z)
   generalize hgW : wb.setCell ⟨D,2,none⟩ (.int .i64 z) = wc at vs os ⊢;clear hgW e0 e1 e2 e3 f2;obtain ⟨u1,u2,ff,fc,hcs,ho1,ho2,hfp,hnd⟩:=Hi9 (Rep.own_only OG os (fun a ha hb => HN.out (by simp at hb;exact hb ▸ ha)))
   have e1 : u1 = .slice A7 d.secs.length c8:=by injection hcs with h1 _;exact h1.symm
   have e2 : u2 = .slice B9 d.cache.length d10:=by injection hcs with _ h2;injection h2 with h2 _;exact h2.symm
   subst e1 e2;have OC:=Ck9 (d:=⟨d.secs,d.cache,z,d.down⟩) ho1 ho2 (hfp ▸ hnd);have s0 : wc.cell? ⟨D,0,none⟩ = some (.slice A7 d.secs.length c8):=E9 vs 0;have s1 : wc.cell? ⟨D,1,none⟩ = some (.slice B9 d.cache.length d10):=E9 vs 1;have s2 : wc.cell? ⟨D,2,none⟩ = some (.int .i64 z):=E9 vs 2;have s3 : wc.cell? ⟨D,3,none⟩ = some (.bool d.down):=E9 vs 3;have V8:=Rep.var_only V7 os (by omega) (by simp;omega)
   have q0 : wc.cell? ⟨w.heap.size,0,none⟩ = some (.slice none 0 0):=E9 V8.out 0;have q1 : wc.cell? ⟨w.heap.size,1,none⟩ = some (.slice none 0 0):=E9 V8.out 1;have q2 : wc.cell? ⟨w.heap.size,2,none⟩ = some (.int .i64 0):=E9 V8.out 2;have q3 : wc.cell? ⟨w.heap.size,3,none⟩ = some (.bool false):=E9 V8.out 3;have f0:=C9 V8.out 0;have f1:=C9 V8.out 1;have f2:=C9 V8.out 2;have f3:=C9 V8.out 3;have hsc:=os.size;have lr : w.heap.size < wc.heap.size:=by omega
   have ld : D < wc.heap.size:=by omega
   have o8:=Em9 wc w.heap.size (.slice A7 d.secs.length c8) (.slice B9 d.cache.length d10) (.int .i64 z) (.bool d.down);have cz:=(hcb.only os (by simp;omega) (fun a ha => by simp at ha;omega)).only o8 (by simp;omega) (fun a ha => by simp at ha;omega)
   have oz:=(O7.then os (fun a ha => .inr (by simp at ha;omega))).then o8 (fun a ha => .inr (by simp at ha;omega))
   have Oz:=Rep.own_only OC o8 (fun a ha hb => by have:=(Rep.lt diskR OC a ha).1;simp at hb;omega)
   have HE:=Lib.hid (And.intro cz (And.intro oz Oz));clear os vs cz oz Oz OC ho1 ho2 hfp hnd hcs V8 V7 O7 hcb o8 VG OG HN;go_wp2_with fail;refine bodyPost_ret (v:=.agg #[.slice A7 d.secs.length c8,.slice B9 d.cache.length d10,.int .i64 z,.bool d.down]) (by simp [results,Tryz.results88,go_sem,q0,q1,q2,q3]) rfl ⟨⟨d.secs,d.cache,z,d.down⟩,_,ff ++ fc,rfl,hg3,?_,HE.out.1,HE.out.2.1⟩
   exact diskR.low HE.out.2.2 (by omega)
def AnyCut (w : World) (lo g : Nat) (A : Option Addr) (n c : Nat) (code : List UInt8) (D : Nat) (wr : World) : Prop:=
 ∃ d fp,Bv9 d∧VarDisk wr (w.heap.size + 1) D d fp∧Hid (wr.heap[w.heap.size]? = some (.cells #[.slice none 0 0,.slice none 0 0,.int .i64 0,.bool false] 27 (0,0)))∧Cur wr lo g A n c code∧Rep.Only w wr [g]
theorem AnyCut.set {w wb : World} {lo g : Nat} {A : Option Addr} {n c : Nat} {code : List UInt8} {D i : Nat} {u : Value} {d' : Disk} {fp' : List Nat} (hany : Bv9 d') (hD : VarDisk (wb.setCell ⟨D,i,none⟩ u) (w.heap.size + 1) D d' fp')
 (hV : Hid (wb.heap[w.heap.size]? = some (.cells #[.slice none 0 0,.slice none 0 0,.int .i64 0,.bool false] 27 (0,0)))) (hc : Cur wb lo g A n c code) (hO : Rep.Only w wb [g]) (h1 : w.heap.size + 1 ≤ D) (h2 : g < w.heap.size) (h3 : lo ≤ g) (h4 : w.heap.size < wb.heap.size) : AnyCut w lo g A n c code D (wb.setCell ⟨D,i,none⟩ u):=by
 have os:=Rep.Only.setCell wb (p:=⟨D,i,none⟩) (fp:=[D]) (by simp) u
 exact ⟨d',fp',hany,hD,Rep.var_only hV os h4 (by simp;omega),hc.only os (by simp;omega) (fun a ha => by simp at ha;omega),hO.then os (fun a ha => .inr (by simp at ha;omega))⟩
def lenAt (D : Nat) (w : World) : Nat:=match w.cell? ⟨D,1,none⟩ with
 | some (.slice _ n _) => n
 | _ => 0
theorem Vm9 {D : Nat} {w : World} {A : Option Addr} {n c : Nat} (h : w.cell? ⟨D,1,none⟩ = some (.slice A n c)) : lenAt D w = n:=by simp [lenAt,h]
set_option maxRecDepth 100000 in
theorem Bc8 (lo g : Nat) (A : Option Addr) (n c : Nat) (code : List UInt8) (w : World) (h : Cur w lo g A n c code) (hn : n ≤ 140737488351232) :
 Calls Tryz.prog 49 #[.pointer (some ⟨g,0,none⟩)] w (Ud9 w lo g A n c code Bv9):=by
 have hglt:=h.lt;have hlg:=h.from_;go_enter Tryz.func49,Tryz.ntmps49
 go_wp2_with fail;have ho1:=Rep.only_alloc w (.cells #[.slice none 0 0,.slice none 0 0,.int .i64 0,.bool false] 27);have hv1:=heap_alloc_new w (.cells #[.slice none 0 0,.slice none 0 0,.int .i64 0,.bool false] 27);have hs1 : w.heap.size + 1 ≤ (w.alloc (.cells #[.slice none 0 0,.slice none 0 0,.int .i64 0,.bool false] 27)).heap.size:=by simp
 generalize hgW : w.alloc (.cells #[.slice none 0 0,.slice none 0 0,.int .i64 0,.bool false] 27) = W1 at ho1 hv1 hs1 ⊢;clear hgW;have hc1:=h.only ho1 (by simp) (fun a ha => by cases ha)
 have O1 : Rep.Only w W1 [g]:=ho1.mono (by simp)
 have V1:=Lib.hid hv1;clear ho1 hv1 h;refine (Xt9 lo g A n c code W1 hc1 hn).mono ?_;rintro e W2 ⟨d,cs,fp,rfl,hgood,Oo,hc2,ho⟩;obtain ⟨A5,c6,B7,d8,rfl⟩:=Q9 Oo;have hany:=Vt9 hgood;have hl1:=hgood.1.1;have hl30:=hgood.1.2.2;have V2:=Rep.var_only V1 ho (by omega) (by simp;omega)
 have O2:=O1.then ho (fun a ha => .inl ha)
 have s2:=ho.size;have L2:=Lib.hid (Rep.lt diskR Oo);clear ho hc1 V1 O1 hgood;go_wp2_with fail;have ho1:=Rep.only_alloc W2 (.cells #[.slice A5 d.secs.length c6,.slice B7 d.cache.length d8,.int .i64 d.fuse,.bool d.down] 27);have hv1:=heap_alloc_new W2 (.cells #[.slice A5 d.secs.length c6,.slice B7 d.cache.length d8,.int .i64 d.fuse,.bool d.down] 27);have hs2 : W2.heap.size + 1 ≤ (W2.alloc (.cells #[.slice A5 d.secs.length c6,.slice B7 d.cache.length d8,.int .i64 d.fuse,.bool d.down] 27)).heap.size:=by simp
 generalize hgW : W2.alloc (.cells #[.slice A5 d.secs.length c6,.slice B7 d.cache.length d8,.int .i64 d.fuse,.bool d.down] 27) = W4 at ho1 hv1 hs2 ⊢;clear hgW;have hc4:=hc2.only ho1 (by simp) (fun a ha => by cases ha)
 have O4:=O2.then ho1 (fun a ha => by cases ha)
 have V4:=Rep.var_only V2 ho1 (by omega) (by simp)
 have D4 : VarDisk W4 (w.heap.size + 1) W2.heap.size d fp:=⟨A5,c6,B7,d8,hv1,diskR.low (Rep.own_only Oo ho1 (fun a ha hb => by cases hb)) (by omega),fun hm => by have:=(L2.out _ hm).2;omega⟩
 clear ho1 hv1 hc2 O2 V2 Oo L2;refine (C8 lo g A n c code 12 W4 hc4 hn (by omega) (by omega)).mono ?_
 rintro e W5 ⟨x,hx,rfl,hc,hg5⟩;have ho:=I7 hg5;have hV:=Rep.var_only V4 ho (by omega) (by simp;omega)
 have hO:=O4.then ho (fun a ha => .inl ha)
 have s5:=ho.size;have hD:=D4.only ho (by simp;omega) (fun a ha hb => by have:=(D4.fp a ha).1;simp at hb;omega)
 clear hg5 ho hc4 V4 O4 D4;have hD3 : w.heap.size + 1 ≤ W2.heap.size:=by omega
 have HS : W2.heap.size < W5.heap.size:=by omega
 clear hs1 s2 hs2 s5;generalize W2.heap.size = D at hD hD3 HS ⊢;go_upto_block 0 with (fail)
 go_cut [] from 9 (fun wr => AnyCut w lo g A n c code D wr)
 case rest =>
  clear hany hl1 hl30 hV hO hD HS hc;have hcut':=hcut;clear hcut;obtain ⟨d,fp,hany,hD,hV,hc,hO⟩:=hcut';obtain ⟨A7,c8,B9,d10,VG,OG,HN,e0,e1,e2,e3,fr⟩:=hD.cells;have hDlt:=hD.lt;have hRlt : w.heap.size < wc.heap.size:=by omega
  have L:=Lib.hid (Rep.lt diskR OG);have q0 : wc.cell? ⟨w.heap.size,0,none⟩ = some (.slice none 0 0):=E9 hV.out 0;have q1 : wc.cell? ⟨w.heap.size,1,none⟩ = some (.slice none 0 0):=E9 hV.out 1;have q2 : wc.cell? ⟨w.heap.size,2,none⟩ = some (.int .i64 0):=E9 hV.out 2;have q3 : wc.cell? ⟨w.heap.size,3,none⟩ = some (.bool false):=E9 hV.out 3;have f0:=C9 hV.out 0;have f1:=C9 hV.out 1;have f2:=C9 hV.out 2;have f3:=C9 hV.out 3;have o8:=Em9 wc w.heap.size (.slice A7 d.secs.length c8) (.slice B9 d.cache.length d10) (.int .i64 d.fuse) (.bool d.down);have cz:=hc.only o8 (by simp;omega) (fun a ha => by simp at ha;omega)
  have oz:=hO.then o8 (fun a ha => .inr (by simp at ha;omega))
  have Oz:=Rep.own_only OG o8 (fun a ha hb => by have:=(L.out a ha).1;simp at hb;omega)
  have HE:=Lib.hid (And.intro cz (And.intro oz Oz));clear cz oz Oz OG hD hV hc hO o8 VG HN L fr;go_wp2_with fail;refine bodyPost_ret (v:=.agg #[.slice A7 d.secs.length c8,.slice B9 d.cache.length d10,.int .i64 d.fuse,.bool d.down]) (by simp [results,Tryz.results49,go_sem,q0,q1,q2,q3]) rfl ⟨d,_,fp,rfl,hany,?_,HE.out.1,HE.out.2.1⟩
  exact diskR.low HE.out.2.2 (by omega)
 case first =>
  obtain h0 | h1 | h2 | h3 | h4 | h5 | h6 : x = 0 ∨ x = 1 ∨ x = 2 ∨ x = 3 ∨ x = 4 ∨ x = 5 ∨ 6 ≤ x:=by omega
  ·subst h0
   clear hl1;go_wp2_with fail;refine (Cc9 lo g A n c code [-2,1000,1001] W5 hc hn (by decide) (by decide)).mono ?_
   rintro e wb ⟨z,hz,rfl,hcb,og⟩
   have hz2 : -2 ≤ z ∧ z ≤ 1001 := by
       simp only [List.mem_cons,List.not_mem_nil,or_false] at hz;omega
   have D7:=hD.only og (by simp;omega) (fun a ha hb => by have:=(hD.fp a ha).1;simp at hb;omega)
   have V7:=Rep.var_only hV og (by omega) (by simp;omega)
   have O7:=hO.then og (fun a ha => .inl ha)
   have hsg:=og.size;have HZ:=Lib.hid hz2;clear hz hz2 og hD hV hO hc;obtain ⟨A7,c8,B9,d10,VG,OG,HN,e0,e1,e2,e3,fr⟩:=D7.cells;have f2:=fr 2;clear fr VG OG HN e0 e1 e3;go_wp2_with fail;go_meet
   case rel =>
       obtain ⟨fp9,D9⟩:=D7.fuse z;exact AnyCut.set (Qp9 hany (by have:=HZ.out;omega) (by have:=HZ.out;omega)) D9 V7 hcb O7 hD3 hglt hlg (by omega)
  ·subst h1
   clear hl1;obtain ⟨A7,c8,B9,d10,VG,OG,HN,e0,e1,e2,e3,fr⟩:=hD.cells;have f3:=fr 3;clear fr VG OG HN e0 e1 e2;go_wp2_with fail;go_meet
   case rel =>
       obtain ⟨fp9,D9⟩:=hD.down true;exact AnyCut.set (Wx9 hany true) D9 hV hc hO hD3 hglt hlg (by omega)
  ·subst h2
   obtain ⟨A7,c8,B9,d10,f,f',VG,ho1,ho2,HN,HL⟩:=hD.open_;obtain ⟨gs,rfl,hgs⟩:=ho1.some_ (by omega)
   obtain ⟨⟨ug,hu0⟩,_⟩:=ho1.there 0 (by show 0 < d.secs.length * 1;omega)
   have hgl:=HL.out gs (.inl hgs);have e0 : W5.cell? ⟨D,0,none⟩ = some (.slice (some ⟨gs,0,none⟩) d.secs.length c8):=E9 VG.out 0;clear hu0;go_wp2_with fail;refine M9 8 [0,1,2,3] [4,5,6,7,8] (fun w' => w'.cell? ⟨D,0,none⟩ = some (.slice (some ⟨gs,0,none⟩) d.secs.length c8)) (by kernel_rfl) (by kernel_rfl) e0 ?_
   iterate 4 (refine LexR.cons rfl ?_ (fun w' hw => ?_) ?_;rotate_left;focus (go_simp;(try exact rfl));(try go_frame))
   refine LexR.nil (LexW.cons rfl ?_);try go_frame
   go_wp2_with fail;have HS5:=Lib.hid (show ∀ (w' : World),Rep.Only W5 w' [g]→w'.cell? ⟨D,0,none⟩ = some (.slice (some ⟨gs,0,none⟩) d.secs.length c8) from fun w' ho => (ho.cell HS (by simp;omega)).trans e0)
   clear e0;refine ⟨fun _ => HS5.out _ (((Rep.only_alloc W5 _).trans (Rep.only_drew _)).mono (by simp)),LexW.cons rfl ?_⟩
   try go_frame
   go_wp2_with fail;refine (Cc9 lo g A n c code [160,161] W5.drew hc.drew hn (by decide) (by decide)).mono ?_
   rintro e wb ⟨z,hz,rfl,hcb,og⟩
   obtain ⟨y, rfl, hy⟩ : ∃ y : Nat, z = (y : Int) ∧ y ≤ 161 := by
       simp only [List.mem_cons,List.not_mem_nil,or_false] at hz;rcases hz with rfl | rfl
       ·exact ⟨160,rfl,by omega⟩
       ·exact ⟨161,rfl,by omega⟩
   have ob : Rep.Only W5 wb [g]:=((Rep.only_drew W5).mono (by simp)).trans og
   clear hz og;go_wp2_with fail;refine ⟨fun _ => HS5.out _ ob,LexW.cons rfl ?_⟩
   try go_frame
   go_wp2_with fail;refine (Gh9 lo g A n c code y _ hcb hn (by omega)).mono ?_
   rintro e wx ⟨v,l,hl,rfl,hown,hcx,hgx⟩;have ox : Rep.Only W5 wx [g]:=ob.trans (I7 hgx);have hsb:=ob.size;have hll : l.length ≤ 1048576:=by omega
   have hsx:=ox.size;obtain ⟨A2,c2,rfl,_⟩:=hown.shape;clear hgx ob hcb hl;go_wp2_with fail;refine ⟨fun _ => HS5.out _ ox,LexW.cons rfl ?_⟩
   have i1 : (0 : Int) ≤ 0:=by omega
   have i2 : (0 : Int) < (d.secs.length : Int):=by omega
   try go_frame
   go_wp2_with fail;refine ⟨fun _ => HS5.out _ ox,LexW.cons rfl ?_⟩
   have ho1x:=ho1.kept (w':=wx) (fun a ha => ox.block a (HL.out a (.inl ha)).2 (by have:=(HL.out a (.inl ha)).1;simp;omega))
   have ho2x:=ho2.kept (w':=wx) (fun a ha => ox.block a (HL.out a (.inr ha)).2 (by have:=(HL.out a (.inr ha)).1;simp;omega))
   obtain ⟨⟨ug,hu0⟩,hu1,_⟩:=ho1x.there 0 (by show 0 < d.secs.length * 1;omega)
   clear ho1 ho2;try go_frame
   go_wp2_with fail;refine ⟨fun h => absurd rfl h,LexW.nil ?_⟩
   go_wp2_with fail;go_meet
   case rel =>
       have hfl : ∀ a,a ∈ f→a < wb.heap.size:=fun a ha => by have:=(HL.out a (.inl ha)).2;omega
       obtain ⟨f9,h9,hf9⟩:=Rep.OwnRows.store' (k:=0) (x:=l) (B:=wb.heap.size) ho1x [.slice A2 l.length c2] rfl (by omega) rfl ⟨_,rfl,hown,rfl⟩ (by omega) hfl
       have h9' : Rep.OwnRows byR 22 (wx.setCell ⟨gs,0,none⟩ (.slice A2 l.length c2)) (w.heap.size + 1) (.slice (some ⟨gs,0,none⟩) d.secs.length c8) (d.secs.set 0 l) f9:=h9;have os:=Rep.Only.setCell wx (p:=⟨gs,0,none⟩) (fp:=[gs]) (by simp) (.slice A2 l.length c2)
       have vx:=(os.block D (by omega) (by simp;intro e;exact HN.out.2.1 (e ▸ hgs))).trans ((ox.block D HS (by simp;omega)).trans VG.out)
       have hls : (d.secs.set 0 l).length = d.secs.length:=by simp
       have hlo : ∀ a,a ∈ (Value.slice A2 l.length c2).ownBlock.toList→wb.heap.size ≤ a:=fun a ha => (hown.lt a (by simpa using ha)).1
       refine ⟨⟨d.secs.set 0 l,d.cache,d.fuse,d.down⟩,f9 ++ f',Qo9 hany (by rw [hls];exact hany.1.1) (fun m hm => ?_),?_,Rep.var_only (Rep.var_only hV ox (by omega) (by simp;omega)) os (by omega) (by simp;omega),hcx.only os (by simp;omega) (fun a ha => by simp at ha;omega),(hO.then ox (fun a ha => .inl ha)).then os (fun a ha => .inr (by simp at ha;omega))⟩
       ·rcases List.mem_or_eq_of_mem_set hm with hm | hm
        ·exact hany.1.2.1 m hm
        ·rw [hm];exact hll
       ·refine VarDisk.close (d:=⟨d.secs.set 0 l,d.cache,d.fuse,d.down⟩) (A:=some ⟨gs,0,none⟩) (c:=c8) (B:=B9) (e:=d10) (by simp only [hls];exact vx) (by simp only [hls];exact h9') (ho2x.kept fun a ha => os.block a (ho2x.lt a ha).2 (by simp;intro e;exact HN.out.1 gs hgs (e ▸ ha))) ⟨?_,?_,HN.out.2.2⟩
        ·intro a ha hb
         rcases hf9 a ha with h | h
         ·exact HN.out.1 a h hb
         ·have h1:=hlo a h
          have h2:=(HL.out a (.inr hb)).2;omega
        ·intro ha
         rcases hf9 D ha with h | h
         ·exact HN.out.2.1 h
         ·have h1:=hlo D h
          omega
  ·subst h3
   obtain ⟨m0,hm0,hm1,hm2,hm3⟩:=info_parts Tryz.info42;obtain ⟨A7,c8,B9,d10,f,f',VG,ho1,ho2,HN,HL⟩:=hD.open_;have e0 : W5.cell? ⟨D,1,none⟩ = some (.slice B9 d.cache.length d10):=E9 VG.out 1;have hc40:=hany.2.2;go_wp2_with fail;refine M9 9 [0,1,2] [3,4,5,6,7,8,9] (fun w' => w'.cell? ⟨D,1,none⟩ = some (.slice B9 d.cache.length d10)) (by kernel_rfl) (by kernel_rfl) e0 ?_
   iterate 3 (refine LexR.cons rfl ?_ (fun w' hw => ?_) ?_;rotate_left;focus (go_simp;(try exact rfl));(try go_frame))
   refine LexR.nil (LexW.cons rfl ?_);try go_frame
   go_wp2_with fail;have HS5:=Lib.hid (show ∀ (w' : World),Rep.Only W5 w' [g]→w'.cell? ⟨D,1,none⟩ = some (.slice B9 d.cache.length d10) from fun w' ho => (ho.cell HS (by simp;omega)).trans e0)
   clear e0;refine ⟨fun _ => HS5.out _ (((Rep.only_alloc W5 _).trans (Rep.only_drew _)).mono (by simp)),LexW.cons rfl ?_⟩
   try go_frame
   go_wp2_with fail;refine (Cc9 lo g A n c code [-1,9,0] W5.drew hc.drew hn (by decide) (by decide)).mono ?_
   rintro e wb ⟨z,hz,rfl,hcb,og⟩
   have hz2 : -1 ≤ z ∧ z ≤ 9 := by
       simp only [List.mem_cons,List.not_mem_nil,or_false] at hz;omega
   have HZ:=Lib.hid hz2;have ob : Rep.Only W5 wb [g]:=((Rep.only_drew W5).mono (by simp)).trans og
   have hsb:=ob.size;clear hz hz2 og;go_wp2_with fail;refine ⟨fun _ => HS5.out _ ob,LexW.cons rfl ?_⟩
   try go_frame
   go_wp2_with fail;refine ⟨fun _ => HS5.out _ ob,LexW.cons rfl ?_⟩
   try go_frame
   go_wp2_with fail;have oa : Rep.Only W5 (wb.alloc (.cells #[.int .i64 z,.slice none 0 0] 84)) [g]:=ob.trans ((Rep.only_alloc wb _).mono (by simp))
   have ho1a:=ho1.kept (fun a ha => oa.block a (HL.out a (.inl ha)).2 (by have:=(HL.out a (.inl ha)).1;simp;omega))
   have ho2a:=ho2.kept (fun a ha => oa.block a (HL.out a (.inr ha)).2 (by have:=(HL.out a (.inr ha)).1;simp;omega))
   have hel : wrR.own (wb.alloc (.cells #[.int .i64 z,.slice none 0 0] 84)) (w.heap.size + 1) [.int .i64 z,.slice none 0 0] ⟨z,[]⟩ []:=Mg9 (x:=⟨z,[]⟩) (v:=.slice none 0 0) ⟨by simp [bys],.inl ⟨rfl,rfl⟩⟩
   have hnew:=T7 wb #[.int .i64 z,.slice none 0 0] 2 1 84 (g:=wb.heap.size) rfl rfl (by simp [maxLen])
   refine ⟨fun _ => HS5.out _ oa,LexW.cons rfl ?_⟩
   try go_frame
   refine Rep.wpList_push _ rfl (.tmp 30) (.tmp 35) _ rfl wrR (w.heap.size + 1) 84 m0 _ 32 Tryz.underlying25 hm0 hm1 hm2 hm3 rfl (by decide) (.slice B9 d.cache.length d10) d.cache f' rfl ho2a _ 1 _ ⟨z,[]⟩ [] rfl hnew (Ln9 rfl rfl) hel (fun a ha ha' => by cases ha) (by simp only [maxLen];omega) (by omega) (by simp;omega) ?_
   intro A4 c4 w4 fp4 hown5 hg4 hf4 hv4;have o4 : Rep.Only W5 w4 (g :: f'):=(oa.mono (by simp)).trans (Rep.Only.of_grown hg4 (fun a ha => by have:=(hv4 a ha).2;simp [this]))
   have hfp4 : ∀ a, a ∈ fp4 → a ∈ f' ∨ W5.heap.size ≤ a := fun a ha => by
       rcases hf4 a ha with h | h | h
       ·exact .inl h
       ·cases h
       ·exact .inr (by simp at h;omega)
   have hc4:=(((hcb.only (Rep.only_alloc wb _) (by simp) (fun a ha => by cases ha))).keep hg4 (fun e => by have:=(HL.out g (.inr (hv4 g e.symm).2)).1;omega) (fun k hk => by have:=(hv4 k hk).1;omega))
   have hDn : D ∉ g :: f' := by
       intro hm;rw [List.mem_cons] at hm;rcases hm with hm | hm
       ·omega
       ·exact HN.out.2.2 hm
   have V4:=(o4.block D HS hDn).trans VG.out;have D9:=VarDisk.pushed VG ho1 HN HL o4 (by omega) (by omega) hown5 hfp4
   have VR4 := Rep.var_only hV o4 (by omega) (by
       intro hm;rw [List.mem_cons] at hm;rcases hm with hm | hm
       ·omega
       ·have:=(HL.out _ (.inr hm)).1;omega)
   have OW4 : Rep.Only w w4 [g] := hO.then o4 (fun a ha => by
       rw [List.mem_cons] at ha;rcases ha with ha | ha
       ·exact .inl (by simp [ha])
       ·exact .inr (by have:=(HL.out a (.inr ha)).1;omega))
   have hS6 : w4.cell? ⟨D,1,none⟩ = some (.slice B9 d.cache.length d10):=E9 V4 1;have f1:=C9 V4 1;have HS6:=Lib.hid hS6;have hz4:=o4.size;clear hown5 hg4 hf4 hv4 o4 hfp4 hDn V4 hel hnew oa ho1a ho2a ho1 ho2 HS5 hS6;refine ⟨fun _ => HS6.out,LexW.cons rfl ?_⟩
   try go_frame
   go_wp2_with fail;refine ⟨fun _ => HS6.out,LexW.cons rfl ?_⟩
   have e0:=HS6.out;try go_frame
   go_wp2_with fail;refine ⟨fun h => absurd rfl h,LexW.nil ?_⟩
   clear e0;go_wp2_with fail;go_meet
   case rel => exact AnyCut.set (Ww9 (x:=⟨z,[]⟩) hany (by omega) (wf_i64 (n:=z) (by have:=HZ.out;omega) (by have:=HZ.out;omega)) (by simp)) D9 VR4 hc4 OW4 hD3 hglt hlg (by omega)
  ·have n0 : ((x : Int) == 0) = false:=by simp;omega
   have n1 : ((x : Int) == 1) = false:=by simp;omega
   have n2 : ((x : Int) == 2) = false:=by simp;omega
   have n3 : ((x : Int) == 3) = false:=by simp;omega
   have n4 : ((x : Int) == 4) = true:=by simp;omega
   clear h4;obtain ⟨m0,hm0,hm1,hm2,hm3⟩:=info_parts Tryz.info42;go_wp2_with fail;go_loopw [] (fun wr => ∃ (d : Disk) (fp : List Nat),d.cache.length ≤ 31∧Bv9 d∧VarDisk wr (w.heap.size + 1) D d fp∧Hid (wr.heap[w.heap.size]? = some (.cells #[.slice none 0 0,.slice none 0 0,.int .i64 0,.bool false] 27 (0,0)))∧Cur wr lo g A n c code∧Rep.Only w wr [g]) (fun wr => 31 - lenAt D wr)
   case atStart => exact ⟨d,fp,by omega,hany,hD,hV,hc,hO⟩
   case round =>
       clear hl30 hl1 hV hO hD hc HS hany;obtain ⟨d,fp,hl31,hany,hD,hV,hc,hO⟩:=hrel;have HS:=hD.lt;obtain ⟨A7,c8,B9,d10,f,f',VG,ho1,ho2,HN,HL⟩:=hD.open_;have e0 : wr.cell? ⟨D,1,none⟩ = some (.slice B9 d.cache.length d10):=E9 VG.out 1;have HM:=Lib.hid (Vm9 e0);go_wp2_with fail;refine M9 100 [0,1,2,3] [4,5,6] (fun w' => w'.cell? ⟨D,1,none⟩ = some (.slice B9 d.cache.length d10)) (by kernel_rfl) (by kernel_rfl) e0 ?_
       iterate 4 (refine LexR.cons rfl ?_ (fun w' hw => ?_) ?_;rotate_left;focus (go_simp;(try exact rfl));(try go_frame))
       refine LexR.nil (LexW.cons rfl ?_);try go_frame
       go_wp2_with fail;have HS5:=Lib.hid (show ∀ (w' : World),Rep.Only wr w' [g]→w'.cell? ⟨D,1,none⟩ = some (.slice B9 d.cache.length d10) from fun w' ho => (ho.cell HS (by simp;omega)).trans e0)
       clear e0;refine ⟨fun _ => HS5.out _ (((Rep.only_alloc wr _).trans (Rep.only_drew _)).mono (by simp)),LexW.cons rfl ?_⟩
       try go_frame
       go_wp2_with fail;refine (Cc9 lo g A n c code [29,30,31] wr.drew hc.drew hn (by decide) (by decide)).mono ?_
       rintro e wb ⟨z,hz,rfl,hcb,og⟩
       have hz2 : z ≤ 31 := by
         simp only [List.mem_cons,List.not_mem_nil,or_false] at hz;omega
       have ob : Rep.Only wr wb [g]:=((Rep.only_drew wr).mono (by simp)).trans og
       have hsb:=ob.size;clear hz og;go_wp2_with fail;refine ⟨fun _ => HS5.out _ ob,LexW.cons rfl ?_⟩
       try go_frame
       have Db:=hD.only ob (by simp;omega) (fun a ha hb => by have:=(hD.fp a ha).1;simp at hb;omega)
       have Vb:=Rep.var_only hV ob (by omega) (by simp;omega)
       have Ob:=hO.then ob (fun a ha => .inl ha)
       have hSb:=HS5.out _ ob;by_cases hlt : (d.cache.length : Int) < z
       ·go_wp2_with fail
        refine ⟨fun _ => hSb,LexW.nil ?_⟩
        clear HS5 ho1 ho2 hSb;obtain ⟨A6,c7,B8,d9,f1,f2,VG1,ho1,ho2,HN1,HL1⟩:=Db.open_;have eD : wb.cell? ⟨D,1,none⟩ = some (.slice B8 d.cache.length d9):=E9 VG1.out 1;have hDb:=Db.lt
        go_wp2_with (at_builtin
                     have oa : Rep.Only wb (wb.alloc (.cells #[.int .i64 0,.slice none 0 0] 84)) [g]:=(Rep.only_alloc wb _).mono (by simp)
                     have ho2a:=ho2.alloc (.cells #[.int .i64 0,.slice none 0 0] 84);have hel : wrR.own (wb.alloc (.cells #[.int .i64 0,.slice none 0 0] 84)) (w.heap.size + 1) [.int .i64 0,.slice none 0 0] ⟨0,[]⟩ []:=Mg9 (x:=⟨0,[]⟩) (v:=.slice none 0 0) ⟨by simp [bys],.inl ⟨rfl,rfl⟩⟩
                     have hnew:=T7 wb #[.int .i64 0,.slice none 0 0] 2 1 84 (g:=wb.heap.size) rfl rfl (by simp [maxLen])
                     clear eD;go_must (refine Rep.wpList_push _ rfl (.tmp 48) (.tmp 50) _ rfl wrR (w.heap.size + 1) 84 m0 _ 32 Tryz.underlying25 hm0 hm1 hm2 hm3 rfl (by decide) (.slice B8 d.cache.length d9) d.cache f2 rfl ho2a _ 1 _ ⟨0,[]⟩ [] rfl hnew (Ln9 rfl rfl) hel (fun a ha ha' => by cases ha) (by simp only [maxLen];omega) (by omega) (by simp;omega) ?_)
                     intro A4 c4 w4 fp4 hown5 hg4 hf4 hv4;have o4 : Rep.Only wb w4 (g :: f2):=(oa.mono (by simp)).trans (Rep.Only.of_grown hg4 (fun a ha => by have:=(hv4 a ha).2;simp [this]))
                     have hfp4 : ∀ a, a ∈ fp4 → a ∈ f2 ∨ wb.heap.size ≤ a := fun a ha => by
                        rcases hf4 a ha with h | h | h
                        ·exact .inl h
                        ·cases h
                        ·exact .inr (by simp at h;omega)
                     have hc4:=(((hcb.only (Rep.only_alloc wb _) (by simp) (fun a ha => by cases ha))).keep hg4 (fun e => by have:=(HL1.out g (.inr (hv4 g e.symm).2)).1;omega) (fun k hk => by have:=(hv4 k hk).1;omega))
                     have hDn : D ∉ g :: f2 := by
                        intro hm;rw [List.mem_cons] at hm;rcases hm with hm | hm
                        ·omega
                        ·exact HN1.out.2.2 hm
                     have V4:=(o4.block D hDb hDn).trans VG1.out;have D9:=VarDisk.pushed VG1 ho1 HN1 HL1 o4 (by omega) (by omega) hown5 hfp4
                     have VR4 := Rep.var_only Vb o4 (by omega) (by
                        intro hm;rw [List.mem_cons] at hm;rcases hm with hm | hm
                        ·omega
                        ·have:=(HL1.out _ (.inr hm)).1;omega)
                     have OW4 : Rep.Only w w4 [g] := Ob.then o4 (fun a ha => by
                        rw [List.mem_cons] at ha;rcases ha with ha | ha
                        ·exact .inl (by simp [ha])
                        ·exact .inr (by have:=(HL1.out a (.inr ha)).1;omega))
                     have eD : w4.cell? ⟨D,1,none⟩ = some (.slice B8 d.cache.length d9):=E9 V4 1;have qD:=C9 V4 1;have HE4:=Lib.hid (N9 V4 1 (.slice A4 (d.cache.length + 1) c4));have hz4:=o4.size;clear hown5 hg4 hf4 hv4 o4 hfp4 hDn V4 hel hnew oa ho2a ho1 ho2)
        have hany2:=Ww9 (x:=⟨0,[]⟩) hany (by omega) (wf_i64 (n:=0) (by omega) (by omega)) (by simp)
        obtain ⟨d8,fp8,k1,k2,k3,k4,k5⟩:=AnyCut.set hany2 D9 VR4 hc4 OW4 hD3 hglt hlg (by omega)
        go_roundw
        case rel => exact ⟨⟨d.secs,d.cache ++ [⟨0,[]⟩],d.fuse,d.down⟩,_,by simp;omega,hany2,D9,k3,k4,k5⟩
        case measure =>
           have e1:=Vm9 (E9 HE4.out 1);have e2:=HM.out;rw [e1,e2];omega
       ·go_wp2_with fail
        first | refine LexW.nil ?_ | refine ⟨fun _ => hSb,LexW.nil ?_⟩
        go_wp2_with fail;go_meet
        case rel => exact ⟨d,fp,hany,Db,Vb,hcb,Ob⟩
  ·subst h5
   obtain ⟨A7,c8,B9,d10,f,f',VG,ho1,ho2,HN,HL⟩:=hD.open_;have ho:=Rep.only_alloc W5 (.cells #[] 22);have hn5 : Rep.OwnRows byR 22 (W5.alloc (.cells #[] 22)) W5.heap.size (.slice (some ⟨W5.heap.size,0,none⟩) 0 0) [] [W5.heap.size]:=⟨[],[],⟨(Rep.lit_empty W5 22 1 rfl).1,(Rep.lit_empty W5 22 1 rfl).2⟩,rfl,fun i x f hx => by simp at hx,rfl,by simp⟩
   have hs6 : W5.heap.size + 1 ≤ (W5.alloc (.cells #[] 22)).heap.size:=by simp
   have f0:=C9 VG.out 0;have e0 : W5.cell? ⟨D,0,none⟩ = some (.slice A7 d.secs.length c8):=E9 VG.out 0;clear ho hs6 hn5;go_wp2_with fail;go_meet
   case rel =>
       have o1:=Rep.Only.setCell W5 (p:=⟨D,0,none⟩) (fp:=[D]) (by simp) (.slice (some ⟨W5.heap.size,0,none⟩) 0 0)
       have v1:=N9 VG.out 0 (.slice (some ⟨W5.heap.size,0,none⟩) 0 0);have ho2x:=ho2.kept (fun a ha => o1.block a (ho2.lt a ha).2 (by simp;intro e;exact HN.out.2.2 (e ▸ ha)))
       have c1:=hc.only o1 (by simp;omega) (fun a ha => by simp at ha;omega)
       have V1:=Rep.var_only hV o1 (by omega) (by simp;omega)
       have O1:=hO.then o1 (fun a ha => .inr (by simp at ha;omega))
       have hz : W5.heap.size = (W5.setCell ⟨D,0,none⟩ (.slice (some ⟨W5.heap.size,0,none⟩) 0 0)).heap.size:=by simp
       have o2:=Rep.only_alloc (W5.setCell ⟨D,0,none⟩ (.slice (some ⟨W5.heap.size,0,none⟩) 0 0)) (.cells #[] 22);have hl:=Rep.lit_empty (W5.setCell ⟨D,0,none⟩ (.slice (some ⟨W5.heap.size,0,none⟩) 0 0)) 22 1 hz
       have hrow : Rep.OwnRows byR 22 ((W5.setCell ⟨D, 0, none⟩ (.slice (some ⟨W5.heap.size, 0, none⟩) 0 0)).alloc (.cells #[] 22)) (w.heap.size + 1) (.slice (some ⟨W5.heap.size, 0, none⟩) 0 0) [] [W5.heap.size] :=
         ⟨[],[],ownsRow_mono hl (by omega),rfl,fun i x f hx => by simp at hx,rfl,by simp⟩
       refine ⟨⟨[],d.cache,d.fuse,d.down⟩,[W5.heap.size] ++ f',Qo9 hany (by simp) (by simp),?_,Rep.var_only V1 o2 (by omega) (by simp),c1.only o2 (by simp) (fun a ha => by cases ha),O1.then o2 (fun a ha => by cases ha)⟩
       exact VarDisk.close (d:=⟨[],d.cache,d.fuse,d.down⟩) ((o2.block D (by omega) (by simp)).trans v1) hrow (ho2x.alloc _) ⟨fun a ha hb => by have:=(HL.out a (.inr hb)).2;simp at ha;omega,by simp;omega,HN.out.2.2⟩
  ·have n0 : ((x : Int) == 0) = false:=by simp;omega
   have n1 : ((x : Int) == 1) = false:=by simp;omega
   have n2 : ((x : Int) == 2) = false:=by simp;omega
   have n3 : ((x : Int) == 3) = false:=by simp;omega
   have n4 : ((x : Int) == 4) = false:=by simp;omega
   have n5 : ((x : Int) == 5) = false:=by simp;omega
   go_wp2_with fail;go_meet
   case rel => exact ⟨d,fp,hany,hD,hV,hc,hO⟩
end Go.Proofs.YthpkdjflndiojaaGreatDoor
