/- What the theorem needs, out of many texts. -/
import Derived.Test.YthpkdjflndiojaaGreatDoorShj24
import Derived.Test.YthpkdjflndiojaaGreatDoorShj25
set_option maxHeartbeats 20000000
namespace Go.Proofs.YthpkdjflndiojaaGreatDoor
open Go.RowKit
set_option maxRecDepth 100000
set_option linter.unusedVariables false
theorem AnyCut.sec {w wx : World} {lo g D gs c8 d10 i B c2 : Nat} {A B9 A2 : Option Addr} {n c : Nat} {code : List UInt8} {d : Disk} {f f' : List Nat} {l : List UInt8}
 (hany : Bv9 d) (hV : Hid (wx.heap[w.heap.size]? = some (.cells #[.slice none 0 0,.slice none 0 0,.int .i64 0,.bool false] 27 (0,0)))) (hcx : Cur wx lo g A n c code) (hO : Rep.Only w wx [g])
 (VG : wx.heap[D]? = some (.cells #[.slice (some ⟨gs,0,none⟩) d.secs.length c8,.slice B9 d.cache.length d10,.int .i64 d.fuse,.bool d.down] 27 (0,0)))
 (ho1 : Rep.OwnRows byR 22 wx (w.heap.size + 1) (.slice (some ⟨gs,0,none⟩) d.secs.length c8) d.secs f)
 (ho2 : Rep.OwnRows wrR 84 wx (w.heap.size + 1) (.slice B9 d.cache.length d10) d.cache f')
 (HN : (∀ a,a ∈ f→a ∉ f')∧D ∉ f∧D ∉ f') (hgs : gs ∈ f) (hB : ∀ a,a ∈ f ∨ a ∈ f'→w.heap.size + 1 ≤ a∧a < B) (hD : w.heap.size + 1 ≤ D∧D < B) (hsB : B ≤ wx.heap.size)
 (hown : Owns wx B 5 (.slice A2 l.length c2) l) (hl : l.length ≤ 1048576) (hi : i < d.secs.length) (hg : g < w.heap.size) (hlg : lo ≤ g) :
 AnyCut w lo g A n c code D (wx.setCell ⟨gs,i,none⟩ (.slice A2 l.length c2)):=by
 have hgB:=hB gs (.inl hgs);obtain ⟨f9,h9,hf9⟩:=Rep.OwnRows.store' (k:=i) (x:=l) (B:=B) ho1 [.slice A2 l.length c2] rfl hi rfl ⟨_,rfl,hown,rfl⟩ (by omega) (fun a ha => (hB a (.inl ha)).2)
 have e9 : Rep.setRow wx gs (i * byR.size) [.slice A2 l.length c2] = wx.setCell ⟨gs,i,none⟩ (.slice A2 l.length c2):=by
  show wx.setCell ⟨gs,i * 1,none⟩ (.slice A2 l.length c2) = _
  rw [Nat.mul_one]
 rw [e9] at h9;have os:=Rep.Only.setCell wx (p:=⟨gs,i,none⟩) (fp:=[gs]) (by simp) (.slice A2 l.length c2)
 have hgD : D ≠ gs:=fun e => HN.2.1 (e ▸ hgs)
 have vx:=(os.block D (by omega) (by simp;exact hgD)).trans VG
 have hls : (d.secs.set i l).length = d.secs.length:=by simp
 have hlo : ∀ a,a ∈ (Value.slice A2 l.length c2).ownBlock.toList→B ≤ a:=fun a ha => (hown.lt a (by simpa using ha)).1
 refine ⟨⟨d.secs.set i l,d.cache,d.fuse,d.down⟩,f9 ++ f',Qo9 hany (by rw [hls];exact hany.1.1) (fun m hm => ?_),?_,Rep.var_only hV os (by omega) (by simp;omega),hcx.only os (by simp;omega) (fun a ha => by simp at ha;omega),hO.then os (fun a ha => .inr (by simp at ha;omega))⟩
 ·rcases List.mem_or_eq_of_mem_set hm with hm | hm
  ·exact hany.1.2.1 m hm
  ·rw [hm];exact hl
 ·refine VarDisk.close (d:=⟨d.secs.set i l,d.cache,d.fuse,d.down⟩) (A:=some ⟨gs,0,none⟩) (c:=c8) (B:=B9) (e:=d10) (by simp only [hls];exact vx) (by simp only [hls];exact h9) (ho2.kept fun a ha => os.block a (ho2.lt a ha).2 (by simp;intro e;exact HN.1 gs hgs (e ▸ ha))) ⟨?_,?_,HN.2.2⟩
  ·intro a ha hb
   rcases hf9 a ha with h | h
   ·exact HN.1 a h hb
   ·have h1:=hlo a h
    have h2:=(hB a (.inr hb)).2;omega
  ·intro ha
   rcases hf9 D ha with h | h
   ·exact HN.2.1 h
   ·have h1:=hlo D h
    omega
set_option maxRecDepth 2000000 in
theorem Az8 (w0 : World) (g : Nat) (A : Option Addr) (n c : Nat) (code : List UInt8) (most : Nat) (w : World) (h : Cur w w0.heap.size g A n c code) (hn : n ≤ 140737488351232) (hb0 : Below w0.heap.size w0 w) (hgv : Given w0) (hm : most ≤ 40) :
 Calls Tryz.prog 15 #[.pointer (some ⟨g,0,none⟩),.int .i64 most] w (Ud9 w w0.heap.size g A n c code Bv9):=by
 have hglt:=h.lt;have hlg:=h.from_;go_enter Tryz.func15,Tryz.ntmps15
 have ho1:=Rep.only_alloc w (.cells #[.slice none 0 0,.slice none 0 0,.int .i64 0,.bool false] 27);have hv1:=heap_alloc_new w (.cells #[.slice none 0 0,.slice none 0 0,.int .i64 0,.bool false] 27);have hs1 : w.heap.size + 1 ≤ (w.alloc (.cells #[.slice none 0 0,.slice none 0 0,.int .i64 0,.bool false] 27)).heap.size:=by simp
 go_upto_region 1 with (fail)
 generalize hgW : w.alloc (.cells #[.slice none 0 0,.slice none 0 0,.int .i64 0,.bool false] 27) = W1 at ho1 hv1 hs1 ⊢;clear hgW;have hc1:=h.only ho1 (by simp) (fun a ha => by cases ha)
 have O1 : Rep.Only w W1 [g]:=ho1.mono (by simp)
 have hb1 : Below w0.heap.size w0 W1:=Rep.Only.below hb0 O1 hb0.size (fun a ha => by simp at ha;omega)
 have V1:=Lib.hid hv1;clear ho1 hv1 h hb0;go_wp2_with fail;refine (Pj9 w0 g A n c code most W1 hc1 hn hb1 hgv hm).mono ?_;rintro e W2 ⟨cs,d,fp,rfl,hinv,Oo,hc2,ho⟩;obtain ⟨A5,c6,B7,d8,rfl⟩:=Q9 Oo;have hgood : Z9 d∧d.secs.length = 38:=by obtain ⟨C,k,gg,p,u1,_⟩:=hinv;exact ⟨u1.good,u1.len⟩
 have hany:=Vt9 hgood.1;have HL38:=Lib.hid hgood.2;have V2:=Rep.var_only V1 ho (by omega) (by simp;omega)
 have O2:=O1.then ho (fun a ha => .inl ha)
 have s2:=ho.size;have L2:=Lib.hid (Rep.lt diskR Oo);clear ho hc1 V1 O1 hgood hinv hb1;have ho1:=Rep.only_alloc W2 (.cells #[.slice A5 d.secs.length c6,.slice B7 d.cache.length d8,.int .i64 d.fuse,.bool d.down] 27);have hv1:=heap_alloc_new W2 (.cells #[.slice A5 d.secs.length c6,.slice B7 d.cache.length d8,.int .i64 d.fuse,.bool d.down] 27);have hs2 : W2.heap.size + 1 ≤ (W2.alloc (.cells #[.slice A5 d.secs.length c6,.slice B7 d.cache.length d8,.int .i64 d.fuse,.bool d.down] 27)).heap.size:=by simp
 go_upto_region 2 with (fail)
 generalize hgW : W2.alloc (.cells #[.slice A5 d.secs.length c6,.slice B7 d.cache.length d8,.int .i64 d.fuse,.bool d.down] 27) = W4 at ho1 hv1 hs2 ⊢;clear hgW;have hc4:=hc2.only ho1 (by simp) (fun a ha => by cases ha)
 have O4:=O2.then ho1 (fun a ha => by cases ha)
 have V4:=Rep.var_only V2 ho1 (by omega) (by simp)
 have D4 : VarDisk W4 (w.heap.size + 1) W2.heap.size d fp:=⟨A5,c6,B7,d8,hv1,diskR.low (Rep.own_only Oo ho1 (fun a ha hb => by cases hb)) (by omega),fun hm => by have:=(L2.out _ hm).2;omega⟩
 clear ho1 hv1 hc2 O2 V2 Oo L2;go_wp2_with fail;refine (C8 w0.heap.size g A n c code 12 W4 hc4 hn (by omega) (by omega)).mono ?_
 rintro e W5 ⟨x,hx,rfl,hc,hg5⟩;have ho:=I7 hg5;have hV:=Rep.var_only V4 ho (by omega) (by simp;omega)
 have hO:=O4.then ho (fun a ha => .inl ha)
 have s5:=ho.size;have hD:=D4.only ho (by simp;omega) (fun a ha hb => by have:=(D4.fp a ha).1;simp at hb;omega)
 clear hg5 ho hc4 V4 O4 D4;have hD3 : w.heap.size + 1 ≤ W2.heap.size:=by omega
 have HS : W2.heap.size < W5.heap.size:=by omega
 clear hs1 s2 hs2 s5;generalize W2.heap.size = D at hD hD3 HS ⊢;by_cases h3 : x = 3
 ·subst h3
  clear hD hD3 HS;go_wp2_with fail;refine (Bc8 w0.heap.size g A n c code W5 hc hn).mono ?_;rintro e W6 ⟨d,cs6,fp6,rfl,hany6,O6,hc6,ho6⟩;obtain ⟨A7,c8,B9,d10,rfl⟩:=Q9 O6;have hV6:=Rep.var_only hV ho6 (by have:=hO.size;have:=(Array.getElem?_eq_some_iff.1 hV.out).1;omega) (by simp;omega)
  have hO6:=hO.then ho6 (fun a ha => .inl ha)
  have hlt5:=(Array.getElem?_eq_some_iff.1 hV.out).1;clear hV hO hc ho6;have hRlt:=(Array.getElem?_eq_some_iff.1 hV6.out).1;have q0 : W6.cell? ⟨w.heap.size,0,none⟩ = some (.slice none 0 0):=E9 hV6.out 0;have q1 : W6.cell? ⟨w.heap.size,1,none⟩ = some (.slice none 0 0):=E9 hV6.out 1;have q2 : W6.cell? ⟨w.heap.size,2,none⟩ = some (.int .i64 0):=E9 hV6.out 2;have q3 : W6.cell? ⟨w.heap.size,3,none⟩ = some (.bool false):=E9 hV6.out 3;have f0:=C9 hV6.out 0;have f1:=C9 hV6.out 1;have f2:=C9 hV6.out 2;have f3:=C9 hV6.out 3;have o8:=Em9 W6 w.heap.size (.slice A7 d.secs.length c8) (.slice B9 d.cache.length d10) (.int .i64 d.fuse) (.bool d.down);have cz:=hc6.only o8 (by simp;omega) (fun a ha => by simp at ha;omega)
  have oz:=hO6.then o8 (fun a ha => .inr (by simp at ha;omega))
  have Oz:=Rep.own_only O6 o8 (fun a ha hb => by have:=(Rep.lt diskR O6 a ha).1;simp at hb;omega)
  have HE:=Lib.hid (And.intro cz (And.intro oz Oz));clear cz oz Oz O6 hV6 hO6 hc6 o8;go_wp2_with fail;refine bodyPost_ret (v:=.agg #[.slice A7 d.secs.length c8,.slice B9 d.cache.length d10,.int .i64 d.fuse,.bool d.down]) (by simp [results,Tryz.results15,go_sem,q0,q1,q2,q3]) rfl ⟨d,_,fp6,rfl,hany6,?_,HE.out.1,HE.out.2.1⟩
  exact diskR.low HE.out.2.2 (by omega)
 go_upto_block 0 with (fail)
 go_cut [] from 11 (fun wr => AnyCut w w0.heap.size g A n c code D wr)
 case rest =>
  clear hany HL38 hV hO hD HS hc;have hcut':=hcut;clear hcut;obtain ⟨d,fp,hany,hD,hV,hc,hO⟩:=hcut';obtain ⟨A7,c8,B9,d10,VG,OG,HN,e0,e1,e2,e3,fr⟩:=hD.cells;have hDlt:=hD.lt;have hRlt : w.heap.size < wc.heap.size:=by omega
  have L:=Lib.hid (Rep.lt diskR OG);have q0 : wc.cell? ⟨w.heap.size,0,none⟩ = some (.slice none 0 0):=E9 hV.out 0;have q1 : wc.cell? ⟨w.heap.size,1,none⟩ = some (.slice none 0 0):=E9 hV.out 1;have q2 : wc.cell? ⟨w.heap.size,2,none⟩ = some (.int .i64 0):=E9 hV.out 2;have q3 : wc.cell? ⟨w.heap.size,3,none⟩ = some (.bool false):=E9 hV.out 3;have f0:=C9 hV.out 0;have f1:=C9 hV.out 1;have f2:=C9 hV.out 2;have f3:=C9 hV.out 3;have o8:=Em9 wc w.heap.size (.slice A7 d.secs.length c8) (.slice B9 d.cache.length d10) (.int .i64 d.fuse) (.bool d.down);have cz:=hc.only o8 (by simp;omega) (fun a ha => by simp at ha;omega)
  have oz:=hO.then o8 (fun a ha => .inr (by simp at ha;omega))
  have Oz:=Rep.own_only OG o8 (fun a ha hb => by have:=(L.out a ha).1;simp at hb;omega)
  have HE:=Lib.hid (And.intro cz (And.intro oz Oz));clear cz oz Oz OG hD hV hc hO o8 VG HN L fr;go_wp2_with fail;refine bodyPost_ret (v:=.agg #[.slice A7 d.secs.length c8,.slice B9 d.cache.length d10,.int .i64 d.fuse,.bool d.down]) (by simp [results,Tryz.results15,go_sem,q0,q1,q2,q3]) rfl ⟨d,_,fp,rfl,hany,?_,HE.out.1,HE.out.2.1⟩
  exact diskR.low HE.out.2.2 (by omega)
 case first =>
  obtain h0 | h1 | h2 | h4 | h5 | h6 | h7 : x = 0 ∨ x = 1 ∨ x = 2 ∨ x = 4 ∨ x = 5 ∨ x = 6 ∨ 7 ≤ x:=by omega
  ·subst h0
   obtain ⟨A7,c8,B9,d10,f,f',VG,ho1,ho2,HN,HL⟩:=hD.open_;obtain ⟨gs,rfl,hgs⟩:=ho1.some_ (by have:=HL38.out;omega)
   have hgl:=HL.out gs (.inl hgs);have e0 : W5.cell? ⟨D,0,none⟩ = some (.slice (some ⟨gs,0,none⟩) d.secs.length c8):=E9 VG.out 0;have HS5:=Lib.hid (show ∀ (w' : World),Rep.Only W5 w' [g]→w'.cell? ⟨D,0,none⟩ = some (.slice (some ⟨gs,0,none⟩) d.secs.length c8) from fun w' ho => (ho.cell HS (by simp;omega)).trans e0)
   have OD : Rep.Only W5 W5.drew [g]:=(Rep.only_drew W5).mono (by simp)
   go_wp2_with fail;refine M9 7 [0,1,2,4] [3,5,6,7] (fun w' => w'.cell? ⟨D,0,none⟩ = some (.slice (some ⟨gs,0,none⟩) d.secs.length c8)) (by kernel_rfl) (by kernel_rfl) e0 ?_
   iterate 4 (refine LexR.cons rfl ?_ (fun w' hw => ?_) ?_;rotate_left;focus (go_simp;(try exact rfl));(try go_frame))
   refine LexR.nil (LexW.cons rfl ?_);try go_frame
   clear e0;go_wp2_with fail;refine (C8 w0.heap.size g A n c code 2 W5.drew hc.drew hn (by omega) (by omega)).mono ?_
   rintro e wb ⟨y,hy,rfl,hcb,hgy⟩;have ob : Rep.Only W5 wb [g]:=OD.trans (I7 hgy);have Hy:=Lib.hid hy;clear hgy;go_wp2_with fail;refine ⟨by first | exact HS5.out _ ob | exact fun _ => HS5.out _ ob,LexW.cons rfl ?_⟩
   try go_frame
   go_wp2_with fail;refine (Gh9 w0.heap.size g A n c code 6 wb hcb hn (by omega)).mono ?_
   rintro e wx ⟨v,l,hl,rfl,hown,hcx,hgx⟩;have ox : Rep.Only W5 wx [g]:=ob.trans (I7 hgx);have hsb:=ob.size;have hll : l.length ≤ 1048576:=by omega
   clear hl;obtain ⟨A2,c2,rfl,_⟩:=hown.shape;have hsx : wb.heap.size ≤ wx.heap.size:=(I7 hgx).size;clear hgx
   go_wp2_with fail;refine ⟨by first | exact HS5.out _ ox | exact fun _ => HS5.out _ ox,LexW.cons rfl ?_⟩
   have:=Hy.out;have i1 : (0 : Int) ≤ (y : Int):=by omega
   have i2 : (y : Int) < (d.secs.length : Int):=by have:=HL38.out;omega
   try go_frame
   go_wp2_with fail;refine ⟨by first | exact HS5.out _ ox | exact fun _ => HS5.out _ ox,LexW.cons rfl ?_⟩
   have ho1x:=ho1.kept (w':=wx) (fun a ha => ox.block a (HL.out a (.inl ha)).2 (by have:=(HL.out a (.inl ha)).1;simp;omega))
   have ho2x:=ho2.kept (w':=wx) (fun a ha => ox.block a (HL.out a (.inr ha)).2 (by have:=(HL.out a (.inr ha)).1;simp;omega))
   obtain ⟨⟨ug,hu0⟩,hu1,_⟩:=ho1x.there y (by show y < d.secs.length * 1;have:=HL38.out;omega)
   try go_frame
   go_wp2_with fail;refine ⟨fun h => absurd rfl h,LexW.nil ?_⟩
   clear hu0 hu1;go_wp2_with fail;go_meet
   case rel =>
       have vgx:=(ox.block D HS (by simp;omega)).trans VG.out
       exact AnyCut.sec (i:=y) (B:=wb.heap.size) hany (Rep.var_only hV ox (by omega) (by simp;omega)) hcx (hO.then ox (fun a ha => .inl ha)) vgx ho1x ho2x HN.out hgs (fun a ha => by have:=HL.out a ha;omega) ⟨hD3,by omega⟩ (by assumption) hown hll (by have:=HL38.out;omega) hglt hlg
  ·subst h1
   obtain ⟨A7,c8,B9,d10,f,f',VG,ho1,ho2,HN,HL⟩:=hD.open_;obtain ⟨gs,rfl,hgs⟩:=ho1.some_ (by have:=HL38.out;omega)
   have hgl:=HL.out gs (.inl hgs);have e0 : W5.cell? ⟨D,0,none⟩ = some (.slice (some ⟨gs,0,none⟩) d.secs.length c8):=E9 VG.out 0;have HS5:=Lib.hid (show ∀ (w' : World),Rep.Only W5 w' [g]→w'.cell? ⟨D,0,none⟩ = some (.slice (some ⟨gs,0,none⟩) d.secs.length c8) from fun w' ho => (ho.cell HS (by simp;omega)).trans e0)
   have OD : Rep.Only W5 W5.drew [g]:=(Rep.only_drew W5).mono (by simp)
   go_wp2_with fail;refine Ad9 8 (fun w' => w'.cell? ⟨D,0,none⟩ = some (.slice (some ⟨gs,0,none⟩) d.secs.length c8)) (by kernel_rfl) ?_
   refine Y9 [0,1,2,5] (fuel:=5) (by kernel_rfl) (HS5.out _ OD) ?_
   iterate 4 (refine LexR.cons rfl ?_ (fun w' hw => ?_) ?_;rotate_left;focus (go_simp;(try exact rfl));(try go_frame))
   refine LexR.nil ?_;clear e0;refine R9 (i:=3) (by kernel_rfl) ?_
   refine K9 rfl ?_;try go_frame
   go_wp2_with fail;refine (C8 w0.heap.size g A n c code 36 W5.drew hc.drew hn (by omega) (by omega)).mono ?_
   rintro e wa ⟨y,hy,rfl,hca,hgy⟩;have oa : Rep.Only W5 wa [g]:=OD.trans (I7 hgy);have Hy:=Lib.hid hy;clear hgy;go_wp2_with fail;refine ⟨by first | exact HS5.out _ oa | exact fun _ => HS5.out _ oa,?_⟩
   refine Y9 [4] (fuel:=3) (by kernel_rfl) (HS5.out _ oa) ?_
   iterate 1 (refine LexR.cons rfl ?_ (fun w' hw => ?_) ?_;rotate_left;focus (go_simp;(try exact rfl));(try go_frame))
   refine LexR.nil (F8 [6,7,8] (by kernel_rfl) (LexW.cons rfl ?_))
   try go_frame
   go_wp2_with fail;refine (Gh9 w0.heap.size g A n c code 4 wa hca hn (by omega)).mono ?_
   rintro e wx ⟨v,l,hl,rfl,hown,hcx,hgx⟩;have ox : Rep.Only W5 wx [g]:=oa.trans (I7 hgx);have hsb:=oa.size;have hll : l.length ≤ 1048576:=by omega
   clear hl;obtain ⟨A2,c2,rfl,_⟩:=hown.shape;have hsx : wa.heap.size ≤ wx.heap.size:=(I7 hgx).size;clear hgx
   go_wp2_with fail;refine ⟨by first | exact HS5.out _ ox | exact fun _ => HS5.out _ ox,LexW.cons rfl ?_⟩
   have:=Hy.out;have i1 : (0 : Int) ≤ (2 + (y : Int)):=by omega
   have i2 : (2 + (y : Int)) < (d.secs.length : Int):=by have:=HL38.out;omega
   try go_frame
   go_wp2_with fail;refine ⟨by first | exact HS5.out _ ox | exact fun _ => HS5.out _ ox,LexW.cons rfl ?_⟩
   have ho1x:=ho1.kept (w':=wx) (fun a ha => ox.block a (HL.out a (.inl ha)).2 (by have:=(HL.out a (.inl ha)).1;simp;omega))
   have ho2x:=ho2.kept (w':=wx) (fun a ha => ox.block a (HL.out a (.inr ha)).2 (by have:=(HL.out a (.inr ha)).1;simp;omega))
   obtain ⟨⟨ug,hu0⟩,hu1,_⟩:=ho1x.there (2 + y) (by show (2 + y) < d.secs.length * 1;have:=HL38.out;omega)
   try go_frame
   go_wp2_with fail;refine ⟨fun h => absurd rfl h,LexW.nil ?_⟩
   clear hu0 hu1;go_wp2_with fail;go_meet
   case rel =>
       have vgx:=(ox.block D HS (by simp;omega)).trans VG.out
       exact AnyCut.sec (i:=(2 + y)) (B:=wa.heap.size) hany (Rep.var_only hV ox (by omega) (by simp;omega)) hcx (hO.then ox (fun a ha => .inl ha)) vgx ho1x ho2x HN.out hgs (fun a ha => by have:=HL.out a ha;omega) ⟨hD3,by omega⟩ (by assumption) hown hll (by have:=HL38.out;omega) hglt hlg
  ·subst h2
   obtain ⟨A7,c8,B9,d10,f,f',VG,ho1,ho2,HN,HL⟩:=hD.open_;obtain ⟨gs,rfl,hgs⟩:=ho1.some_ (by have:=HL38.out;omega)
   have hgl:=HL.out gs (.inl hgs);have e0 : W5.cell? ⟨D,0,none⟩ = some (.slice (some ⟨gs,0,none⟩) d.secs.length c8):=E9 VG.out 0;have HS5:=Lib.hid (show ∀ (w' : World),Rep.Only W5 w' [g]→w'.cell? ⟨D,0,none⟩ = some (.slice (some ⟨gs,0,none⟩) d.secs.length c8) from fun w' ho => (ho.cell HS (by simp;omega)).trans e0)
   have OD : Rep.Only W5 W5.drew [g]:=(Rep.only_drew W5).mono (by simp)
   go_wp2_with fail;refine M9 9 [0,1,2,5] [3,4,6,7,8,9] (fun w' => w'.cell? ⟨D,0,none⟩ = some (.slice (some ⟨gs,0,none⟩) d.secs.length c8)) (by kernel_rfl) (by kernel_rfl) e0 ?_
   iterate 4 (refine LexR.cons rfl ?_ (fun w' hw => ?_) ?_;rotate_left;focus (go_simp;(try exact rfl));(try go_frame))
   refine LexR.nil (LexW.cons rfl ?_);try go_frame
   clear e0;go_wp2_with fail;refine ⟨by first | exact HS5.out _ (((Rep.only_alloc W5 _).trans (Rep.only_drew _)).mono (by simp)) | exact fun _ => HS5.out _ (((Rep.only_alloc W5 _).trans (Rep.only_drew _)).mono (by simp)),LexW.cons rfl ?_⟩
   try go_frame
   go_wp2_with fail;refine (Cc9 w0.heap.size g A n c code [1,3,2,59999,60000] W5.drew hc.drew hn (by decide) (by decide)).mono ?_
   rintro e wa ⟨z,hz,rfl,hca,og⟩;have oa : Rep.Only W5 wa [g]:=OD.trans og;clear hz og;go_wp2_with fail;refine ⟨by first | exact HS5.out _ oa | exact fun _ => HS5.out _ oa,LexW.cons rfl ?_⟩
   try go_frame
   go_wp2_with fail;refine (C8 w0.heap.size g A n c code 4 wa hca hn (by omega) (by omega)).mono ?_
   rintro e wb ⟨y,hy,rfl,hcb,hgy⟩;have ob : Rep.Only W5 wb [g]:=oa.trans (I7 hgy);have Hy:=Lib.hid hy;clear hgy;go_wp2_with fail;refine ⟨by first | exact HS5.out _ ob | exact fun _ => HS5.out _ ob,LexW.cons rfl ?_⟩
   try go_frame
   go_wp2_with fail;refine (Gk9 z (y : Int) wb).mono ?_;have hhl:=Da9 z (y : Int);generalize Af9 z (y : Int) = l at hhl ⊢;rintro e wx ⟨v,rfl,hown,hbx⟩;have ox : Rep.Only W5 wx [g]:=ob.trans ((Rep.only_of_below hbx).mono (by simp))
   have hsb:=ob.size;have hsx : wb.heap.size ≤ wx.heap.size:=hbx.size;have hll : l.length ≤ 1048576:=by omega
   have hcx:=hcb.only (Rep.only_of_below hbx) (by simp) (fun a ha => by cases ha)
   obtain ⟨A2,c2,rfl,_⟩:=hown.shape;clear hbx;go_wp2_with fail;refine ⟨by first | exact HS5.out _ ox | exact fun _ => HS5.out _ ox,LexW.cons rfl ?_⟩
   have i1 : (0 : Int) ≤ (1 : Int):=by omega
   have i2 : (1 : Int) < (d.secs.length : Int):=by have:=HL38.out;omega
   try go_frame
   go_wp2_with fail;refine ⟨by first | exact HS5.out _ ox | exact fun _ => HS5.out _ ox,LexW.cons rfl ?_⟩
   have ho1x:=ho1.kept (w':=wx) (fun a ha => ox.block a (HL.out a (.inl ha)).2 (by have:=(HL.out a (.inl ha)).1;simp;omega))
   have ho2x:=ho2.kept (w':=wx) (fun a ha => ox.block a (HL.out a (.inr ha)).2 (by have:=(HL.out a (.inr ha)).1;simp;omega))
   obtain ⟨⟨ug,hu0⟩,hu1,_⟩:=ho1x.there 1 (by show 1 < d.secs.length * 1;have:=HL38.out;omega)
   try go_frame
   go_wp2_with fail;refine ⟨fun h => absurd rfl h,LexW.nil ?_⟩
   clear hu0 hu1;go_wp2_with fail;go_meet
   case rel =>
       have vgx:=(ox.block D HS (by simp;omega)).trans VG.out
       exact AnyCut.sec (i:=1) (B:=wb.heap.size) hany (Rep.var_only hV ox (by omega) (by simp;omega)) hcx (hO.then ox (fun a ha => .inl ha)) vgx ho1x ho2x HN.out hgs (fun a ha => by have:=HL.out a ha;omega) ⟨hD3,by omega⟩ (by assumption) hown hll (by have:=HL38.out;omega) hglt hlg
  ·subst h4
   obtain ⟨A7,c8,B9,d10,VG,OG,HN,e0,e1,e2,e3,fr⟩:=hD.cells;have f3:=fr 3;clear fr VG OG HN e0 e1 e2;go_wp2_with fail;go_meet
   case rel =>
       obtain ⟨fp9,D9⟩:=hD.down true;exact AnyCut.set (Wx9 hany true) D9 hV hc hO hD3 hglt hlg (by omega)
  ·subst h5
   go_wp2_with fail;refine (C8 w0.heap.size g A n c code 5 W5 hc hn (by omega) (by omega)).mono ?_
   rintro e wb ⟨z,hz,rfl,hcb,hgb⟩;have og:=I7 hgb;have HZ:=Lib.hid hz;have D7:=hD.only og (by simp;omega) (fun a ha hb => by have:=(hD.fp a ha).1;simp at hb;omega)
   have V7:=Rep.var_only hV og (by omega) (by simp;omega)
   have O7:=hO.then og (fun a ha => .inl ha)
   have hsb:=og.size;obtain ⟨A7,c8,B9,d10,VG,OG,HN,e0,e1,e2,e3,fr⟩:=D7.cells;have f2:=fr 2;clear fr VG OG HN e0 e1 e3 hz og hgb;go_wp2_with fail;go_meet
   case rel =>
       obtain ⟨fp9,D9⟩:=D7.fuse (z : Int);exact AnyCut.set (Qp9 hany (by have:=HZ.out;omega) (by have:=HZ.out;omega)) D9 V7 hcb O7 hD3 hglt hlg (by omega)
  ·subst h6
   go_wp2_with fail;refine (C8 w0.heap.size g A n c code 5 W5 hc hn (by omega) (by omega)).mono ?_
   rintro e wb ⟨z,hz,rfl,hcb,hgb⟩;have og:=I7 hgb;have HZ:=Lib.hid hz;have D7:=hD.only og (by simp;omega) (fun a ha hb => by have:=(hD.fp a ha).1;simp at hb;omega)
   have V7:=Rep.var_only hV og (by omega) (by simp;omega)
   have O7:=hO.then og (fun a ha => .inl ha)
   have hsb:=og.size;obtain ⟨A7,c8,B9,d10,VG,OG,HN,e0,e1,e2,e3,fr⟩:=D7.cells;have f2:=fr 2;clear fr VG OG HN e0 e1 e3 hz og hgb;go_wp2_with fail;go_meet
   case rel =>
       obtain ⟨fp9,D9⟩:=D7.fuse (z : Int);exact AnyCut.set (Qp9 hany (by have:=HZ.out;omega) (by have:=HZ.out;omega)) D9 V7 hcb O7 hD3 hglt hlg (by omega)
  ·have n0 : ((x : Int) == 0) = false:=by simp;omega
   have n1 : ((x : Int) == 1) = false:=by simp;omega
   have n2 : ((x : Int) == 2) = false:=by simp;omega
   have n3 : ((x : Int) == 3) = false:=by simp;omega
   have n4 : ((x : Int) == 4) = false:=by simp;omega
   have n5 : ((x : Int) == 5) = false:=by simp;omega
   have n6 : ((x : Int) == 6) = false:=by simp;omega
   go_wp2_with fail;go_meet
   case rel => exact ⟨d,fp,hany,hD,hV,hc,hO⟩
def RetDA (w : World) (e : Ending) (w' : World) : Prop:=
 ∃ cs x fp,∃ r : Rec,e = .returned (.tuple #[.agg cs.toArray,.agg #[.int .i64 r.kind,.int .i64 r.n,.int .i64 r.owner,.string r.text]])∧(Bv9 x∧r.text.size ≤ 100)∧diskR.own w' w.heap.size cs x fp∧Below w.heap.size w w'
theorem KB.retA {w w1 W : World} {g D : Nat} {A : Option Addr} {n c : Nat} {code : List UInt8} {a b cc dd : Value} {x : Disk} (h : KB w w1 g A n c code D [a,b,cc,dd] x W) (k m o : Int) (t : ByteArray) (hP : Bv9 x∧t.size ≤ 100) :
 RetDA w (.returned (.tuple #[.agg #[a,b,cc,dd],.agg #[.int .i64 k,.int .i64 m,.int .i64 o,.string t]])) ((((((((W.setCell ⟨w.heap.size,0,none⟩ a).setCell ⟨w.heap.size,1,none⟩ b).setCell ⟨w.heap.size,2,none⟩ cc).setCell ⟨w.heap.size,3,none⟩ dd).setCell ⟨w.heap.size + 1,0,none⟩ (.int .i64 k)).setCell ⟨w.heap.size + 1,1,none⟩ (.int .i64 m)).setCell ⟨w.heap.size + 1,2,none⟩ (.int .i64 o)).setCell ⟨w.heap.size + 1,3,none⟩ (.string t)):=by
 have h5:=h.hw;have hw:=((Aa9 W w.heap.size a b cc dd).mono (fp':=[w.heap.size,w.heap.size + 1]) (by simp)).trans ((U7 _ (w.heap.size + 1) (.int .i64 k) (.int .i64 m) (.int .i64 o) (.string t)).mono (by simp))
 obtain ⟨fp,o1,_,_⟩:=h.own;exact ⟨[a,b,cc,dd],x,fp,⟨k,m,o,t⟩,rfl,hP,Rep.low diskR (Rep.own_only o1 hw (fun y hy hm => by have:=(Rep.lt diskR o1 y hy).1;simp at hm;omega)) (by omega),Rep.Only.below h.below hw h.below.size (fun y hy => by simp at hy;omega)⟩
set_option maxRecDepth 2000000 in
theorem Py9 (A : Option Addr) (c : Nat) (code : List UInt8) (w : World) (h : Reads w w.heap.size 1 A code.length (bys code)) (hn : code.length ≤ 1048576) (hg : Given w) :
 Calls Tryz.prog 5 #[.slice A code.length c] w (RetDA w):=by
 have hb0 : Below w.heap.size w ((w.alloc (.cells #[.slice none 0 0,.slice none 0 0,.int .i64 0,.bool false] 27)).alloc (.cells #[.int .i64 0,.int .i64 0,.int .i64 0,.string ⟨#[]⟩] 29)):=Later.trans (Later.alloc w _) (Later.alloc _ _);have hz0 : ((w.alloc (.cells #[.slice none 0 0,.slice none 0 0,.int .i64 0,.bool false] 27)).alloc (.cells #[.int .i64 0,.int .i64 0,.int .i64 0,.string ⟨#[]⟩] 29)).heap[w.heap.size]? = some (.cells [.slice none 0 0,.slice none 0 0,.int .i64 0,.bool false].toArray 27 (0,0)):=(Below.heap_alloc _ _ _ (by simp)).trans (heap_alloc_new w _)
 have hr0 : ((w.alloc (.cells #[.slice none 0 0,.slice none 0 0,.int .i64 0,.bool false] 27)).alloc (.cells #[.int .i64 0,.int .i64 0,.int .i64 0,.string ⟨#[]⟩] 29)).heap[w.heap.size + 1]? = some (.cells (M8 N8).toArray 29 (0,0)):=G9 _ _ (by simp)
 have hs0 : w.heap.size + 1 < ((w.alloc (.cells #[.slice none 0 0,.slice none 0 0,.int .i64 0,.bool false] 27)).alloc (.cells #[.int .i64 0,.int .i64 0,.int .i64 0,.string ⟨#[]⟩] 29)).heap.size:=by simp
 have h1:=(h.below hb0).more hb0.size;have hg1 : Given ((w.alloc (.cells #[.slice none 0 0,.slice none 0 0,.int .i64 0,.bool false] 27)).alloc (.cells #[.int .i64 0,.int .i64 0,.int .i64 0,.string ⟨#[]⟩] 29)):=Keeps.keeps (F:=Given) hb0 hg;clear h hg;go_enter Tryz.func5,Tryz.ntmps5
 go_upto_region 1 with (fail)
 generalize ((w.alloc (.cells #[.slice none 0 0,.slice none 0 0,.int .i64 0,.bool false] 27)).alloc (.cells #[.int .i64 0,.int .i64 0,.int .i64 0,.string ⟨#[]⟩] 29)) = w1 at hb0 hz0 hr0 hs0 h1 hg1 ⊢;have HG:=Lib.hid hg1;go_wp2_with fail;refine (Ro9 A c code w1 h1 hn).mono ?_;rintro e W2 ⟨g,rfl,hcur,hb3⟩;clear h1 hg1;have hgl:=hcur.from_;go_wp2_with fail;refine (Az8 w1 g A code.length c code 22 W2 hcur (by omega) hb3 HG.out (by omega)).mono ?_
 rintro e W4 ⟨x,cs4,fp4,rfl,HI4,O4,hc4,ho4⟩;obtain ⟨A2,c2,B2,f2,rfl⟩:=Q9 O4;have HI:=Lib.hid HI4;have hb4 : Below w1.heap.size w1 W4:=Rep.Only.below hb3 ho4 hb3.size (fun a ha => by simp at ha;omega)
 have hg3:=hcur.lt;have hs3:=hb3.size;have J : KB w w1 g A code.length c code W4.heap.size [.slice A2 x.secs.length c2,.slice B2 x.cache.length f2,.int .i64 x.fuse,.bool x.down] x (W4.alloc (.cells #[.slice A2 x.secs.length c2,.slice B2 x.cache.length f2,.int .i64 x.fuse,.bool x.down] 27)):=by
  have hb5:=Later.trans hb4 (Later.alloc W4 (.cells #[.slice A2 x.secs.length c2,.slice B2 x.cache.length f2,.int .i64 x.fuse,.bool x.down] 27));have h4:=ho4.size;refine ⟨hc4.alloc _,Later.trans hb0 hb5,hb5,(hb5.block _ (by omega)).trans hz0,(hb5.block _ (by omega)).trans hr0,heap_alloc_new W4 _,⟨fp4,Rep.low diskR (Rep.own_only O4 (Rep.only_alloc W4 _) (fun a _ hm => by cases hm)) hs3,fun hm => ?_,fun hm => ?_⟩,⟨by omega,by have:=hc4.lt;omega⟩,hs0⟩
  ·have:=(Rep.lt diskR O4 _ hm).2
   omega
  ·have:=(Rep.lt diskR O4 _ hm).1
   omega
 go_upto_region 3 with (fail)
 clear hb0 hz0 hr0 hs0 hb3 hb4 hcur hc4 ho4 O4 HI4 hgl hg3 hs3;generalize W4.alloc (.cells #[.slice A2 x.secs.length c2,.slice B2 x.cache.length f2,.int .i64 x.fuse,.bool x.down] 27) = W5 at J ⊢;generalize W4.heap.size = D at J ⊢;go_wp2_with fail;refine (Ba8 w1.heap.size g A code.length c code W5 J.cur (by omega)).mono ?_
 rintro e2 V3 ⟨⟨rk,rn,ro,rt⟩,rfl,hts,hc3,ho3⟩;replace hts : rt.size ≤ 100:=hts;have HTS:=Lib.hid hts;replace J:=J.step hc3 ho3;clear hc3 ho3 hts;have HE:=heap_alloc_new V3 (.cells #[.int .i64 rk,.int .i64 rn,.int .i64 ro,.string rt] 29);have hDE : D < V3.heap.size∧g < V3.heap.size:=⟨J.lt,J.cur.lt⟩;have K:=J.alone (Later.alloc V3 (.cells #[.int .i64 rk,.int .i64 rn,.int .i64 ro,.string rt] 29));go_upto_region 4 with (fail)
 clear J;generalize V3.alloc (.cells #[.int .i64 rk,.int .i64 rn,.int .i64 ro,.string rt] 29) = V4 at HE K ⊢;generalize V3.heap.size = E at HE hDE K ⊢;obtain ⟨d0,d1,d2,d3⟩:=Q8 K.1.dbox;go_wp2_with fail;refine (Dj9 [.slice A2 x.secs.length c2,.slice B2 x.cache.length f2,.int .i64 x.fuse,.bool x.down] x V4 K.1.at HI.out.1 (Keeps.keeps (F:=Given) K.1.belowL HG.out)).mono ?_;clear d0 d1 d2 d3;obtain ⟨⟨⟨⟨ja,jb,jp,jq,je,jf⟩,jg,jm⟩,ok⟩,hp⟩ : ∃ p,R7 x = p:=⟨_,rfl⟩;rw [hp];have hjg:=Eo9 x;rw [hp] at hjg;have hja : 0 ≤ ja∧ja ≤ 60000:=hjg.1.gen;have hje : 0 ≤ je∧je ≤ 60000:=hjg.1.epoch;clear hp hjg;rintro e1 V1 hret;obtain ⟨rfl,hb⟩:=hret.lit8;have hEl0:=(Array.getElem?_eq_some_iff.1 HE).1;have HJ:=heap_alloc_new V1 (.cells #[.int .i64 ja,.string jb,.int .i64 jp,.string jq,.int .i64 je,.int .i64 jf,.int .i64 jg,.int .i64 jm] 37);have hbJ:=Later.trans hb (Later.alloc V1 (.cells #[.int .i64 ja,.string jb,.int .i64 jp,.string jq,.int .i64 je,.int .i64 jf,.int .i64 jg,.int .i64 jm] 37));have hEJ : E < V1.heap.size:=Nat.lt_of_lt_of_le hEl0 hb.size;have hgJ : g < V1.heap.size:=by omega
 replace HE:=(hbJ.block _ hEl0).trans HE;have KA : KB w w1 g A code.length c code D [.slice A2 x.secs.length c2,.slice B2 x.cache.length f2,.int .i64 x.fuse,.bool x.down] x (V1.alloc (.cells #[.int .i64 ja,.string jb,.int .i64 jp,.string jq,.int .i64 je,.int .i64 jf,.int .i64 jg,.int .i64 jm] 37))∧∃ fp,diskR.own (V1.alloc (.cells #[.int .i64 ja,.string jb,.int .i64 jp,.string jq,.int .i64 je,.int .i64 jf,.int .i64 jg,.int .i64 jm] 37)) w1.heap.size [.slice A2 x.secs.length c2,.slice B2 x.cache.length f2,.int .i64 x.fuse,.bool x.down] x fp∧D ∉ fp∧g ∉ fp∧E ∉ fp:=by
  refine ⟨K.1.later hbJ,?_⟩;obtain ⟨fp,o1,o2,o3,o4⟩:=K.2;exact ⟨fp,Rep.own_only o1 (Rep.only_of_below hbJ) (fun a _ hm => by cases hm),o2,o3,o4⟩
 clear hret hb hbJ K;go_upto_region 5 with (fail)
 generalize V1.alloc (.cells #[.int .i64 ja,.string jb,.int .i64 jp,.string jq,.int .i64 je,.int .i64 jf,.int .i64 jg,.int .i64 jm] 37) = V2 at HJ HE KA ⊢;generalize V1.heap.size = DJ at HJ hEJ hgJ ⊢;go_wp2_with fail;refine (Ki9 w1.heap.size g A code.length c code 4 V2 KA.1.cur (by omega) (by omega) (by omega)).mono ?_
 rintro e6 V6 ⟨y,rfl,hc6,hg6⟩;have ho6:=I7 hg6;have hDJ:=(Array.getElem?_eq_some_iff.1 HJ).1;replace HJ:=(ho6.block _ hDJ (by simp;omega)).trans HJ
 replace HE:=(ho6.block _ (by omega) (by simp;omega)).trans HE
 have K : KB w w1 g A code.length c code D [.slice A2 x.secs.length c2,.slice B2 x.cache.length f2,.int .i64 x.fuse,.bool x.down] x V6∧∃ fp,diskR.own V6 w1.heap.size [.slice A2 x.secs.length c2,.slice B2 x.cache.length f2,.int .i64 x.fuse,.bool x.down] x fp∧D ∉ fp∧g ∉ fp∧E ∉ fp:=by
  refine ⟨KA.1.step hc6 ho6,?_⟩;obtain ⟨fp,o1,o2,o3,o4⟩:=KA.2;exact ⟨fp,Rep.own_only o1 ho6 (fun a ha hm => by simp at hm;subst hm;exact o3 ha),o2,o3,o4⟩
 clear hc6 hg6 ho6 KA hEJ hgJ hEl0;have hEl:=(Array.getElem?_eq_some_iff.1 HE).1;obtain ⟨e0,e1,e2,e3⟩:=J9 (r:=⟨rk,rn,ro,rt⟩) HE;obtain ⟨j0,j1,j2,j3,j4,j5,j6,j7⟩:=G8 (r:=⟨⟨ja,jb,jp,jq,je,jf⟩,jg,jm⟩) HJ;have ef1:=C9 HE 1;clear HJ hDJ;have hsw : y = true ∨ (y = false∧(rk == 1) = true) ∨ (y = false∧(rk == 1) = false∧(rk == 2) = true) ∨ (y = false∧(rk == 1) = false∧(rk == 2) = false∧(rk == 3) = true) ∨ (y = false∧(rk == 1) = false∧(rk == 2) = false∧(rk == 3) = false):=by
  cases y <;> cases (rk == 1) <;> cases (rk == 2) <;> cases (rk == 3) <;> simp
 rcases hsw with rfl | ⟨rfl,t1⟩ | ⟨rfl,t1,t2⟩ | ⟨rfl,t1,t2,t3⟩ | ⟨rfl,t1,t2,t3⟩
 have HE2:=HE;have K2:=K.1;clear K;go_upto_region 13 with (fail)
 clear e0 e1 e2 e3 j0 j1 j2 j3 j4 j5 j6 j7 ef1 HE;obtain ⟨V5,h5⟩ : ∃ V5,V5 = V6:=⟨_,rfl⟩;rw [← h5] at HE2 K2 ⊢;clear h5;obtain ⟨v,hv⟩ : ∃ v,v = rn:=⟨_,rfl⟩;rw [← hv] at HE2;clear hv;rotate_left;have HE2 : (V6.setCell ⟨E,1,none⟩ (.int .i64 (ja + 1))).heap[E]? = some (.cells (M8 ⟨rk,ja + 1,ro,rt⟩).toArray 29 (0,0)):=N9 HE 1 (.int .i64 (ja + 1));have K2:=(K.1.beside hDE K.2 (Rep.Only.setCell V6 (p:=⟨E,1,none⟩) (by simp) (.int .i64 (ja + 1)))).1
 clear K;go_upto_region 13 with (fail)
 clear e0 e1 e2 e3 j0 j1 j2 j3 j4 j5 j6 j7 ef1 HE;generalize V6.setCell ⟨E,1,none⟩ (.int .i64 (ja + 1)) = V5 at HE2 K2 ⊢;obtain ⟨v,hv⟩ : ∃ v,v = ja + 1:=⟨_,rfl⟩;rw [← hv] at HE2;clear hv;rotate_left;have HE2 : (V6.setCell ⟨E,1,none⟩ (.int .i64 (jp))).heap[E]? = some (.cells (M8 ⟨rk,jp,ro,rt⟩).toArray 29 (0,0)):=N9 HE 1 (.int .i64 (jp));have K2:=(K.1.beside hDE K.2 (Rep.Only.setCell V6 (p:=⟨E,1,none⟩) (by simp) (.int .i64 (jp)))).1
 clear K;go_upto_region 13 with (fail)
 clear e0 e1 e2 e3 j0 j1 j2 j3 j4 j5 j6 j7 ef1 HE;generalize V6.setCell ⟨E,1,none⟩ (.int .i64 (jp)) = V5 at HE2 K2 ⊢;obtain ⟨v,hv⟩ : ∃ v,v = jp:=⟨_,rfl⟩;rw [← hv] at HE2;clear hv;rotate_left;have HE2 : (V6.setCell ⟨E,1,none⟩ (.int .i64 (je + 1))).heap[E]? = some (.cells (M8 ⟨rk,je + 1,ro,rt⟩).toArray 29 (0,0)):=N9 HE 1 (.int .i64 (je + 1));have K2:=(K.1.beside hDE K.2 (Rep.Only.setCell V6 (p:=⟨E,1,none⟩) (by simp) (.int .i64 (je + 1)))).1
 clear K;go_upto_region 13 with (fail)
 clear e0 e1 e2 e3 j0 j1 j2 j3 j4 j5 j6 j7 ef1 HE;generalize V6.setCell ⟨E,1,none⟩ (.int .i64 (je + 1)) = V5 at HE2 K2 ⊢;obtain ⟨v,hv⟩ : ∃ v,v = je + 1:=⟨_,rfl⟩;rw [← hv] at HE2;clear hv;rotate_left;have HE2:=HE;have K2:=K.1;clear K;go_upto_region 13 with (fail)
 clear e0 e1 e2 e3 j0 j1 j2 j3 j4 j5 j6 j7 ef1 HE;obtain ⟨V5,h5⟩ : ∃ V5,V5 = V6:=⟨_,rfl⟩;rw [← h5] at HE2 K2 ⊢;clear h5;obtain ⟨v,hv⟩ : ∃ v,v = rn:=⟨_,rfl⟩;rw [← hv] at HE2;clear hv;rotate_left;all_goals
  refine M9 100 [0,1] [2,3] (fun w' => w'.heap[D]? = some (.cells [.slice A2 x.secs.length c2,.slice B2 x.cache.length f2,.int .i64 x.fuse,.bool x.down].toArray 27 (0,0))∧w'.heap[E]? = some (.cells (M8 ⟨rk,v,ro,rt⟩).toArray 29 (0,0))) (by kernel_rfl) (by kernel_rfl) ⟨K2.dbox,HE2⟩ ?_
  replace HE2:=((Later.drew V5).block _ (Array.getElem?_eq_some_iff.1 HE2).1).trans HE2;replace K2:=K2.later (Later.drew V5);iterate 2 (refine LexR.cons rfl ?_ (fun w' hw => ?_) ?_;rotate_left;focus (obtain ⟨hw1,hw2⟩:=hw;obtain ⟨d0,d1,d2,d3⟩:=Q8 hw1;obtain ⟨e0,e1,e2,e3⟩:=J9 (r:=⟨rk,v,ro,rt⟩) hw2;clear hw1 hw2;go_simp;(try exact rfl));(try go_frame))
  refine LexR.nil (LexW.cons rfl ?_);try go_frame
  generalize V5.drew = V7 at HE2 K2 ⊢;obtain ⟨z0,z1,z2,z3⟩:=Q8 K2.zbox;obtain ⟨y0,y1,y2,y3⟩:=J9 (r:=N8) K2.rbox;have zf0:=C9 K2.zbox 0;have zf1:=C9 K2.zbox 1;have zf2:=C9 K2.zbox 2;have zf3:=C9 K2.zbox 3;have yf0:=C9 K2.rbox 0;have yf1:=C9 K2.rbox 1;have yf2:=C9 K2.rbox 2;have yf3:=C9 K2.rbox 3;have hlz : w.heap.size + 1 < V7.heap.size:=(Array.getElem?_eq_some_iff.1 K2.rbox).1;have HR:=Lib.hid (K2.retA rk v ro rt ⟨HI.out,HTS.out⟩);have hw:=K2.hw;have hdl:=K2.hD;have hS0:=And.intro K2.dbox HE2;have hD7:=K2.lt;have hE7:=(Array.getElem?_eq_some_iff.1 HE2).1;have hS1:=Aa9 V7 w.heap.size (.slice A2 x.secs.length c2) (.slice B2 x.cache.length f2) (.int .i64 x.fuse) (.bool x.down);have hS2:=U7 ((((V7.setCell ⟨w.heap.size,0,none⟩ (.slice A2 x.secs.length c2)).setCell ⟨w.heap.size,1,none⟩ (.slice B2 x.cache.length f2)).setCell ⟨w.heap.size,2,none⟩ (.int .i64 x.fuse)).setCell ⟨w.heap.size,3,none⟩ (.bool x.down)) (w.heap.size + 1) (.int .i64 rk) (.int .i64 v) (.int .i64 ro) (.string rt);have hT1:=And.intro ((hS1.block D hD7 (by simp;omega)).trans hS0.1) ((hS1.block E hE7 (by simp;omega)).trans hS0.2)
  have hT2:=And.intro ((hS2.block D (Nat.lt_of_lt_of_le hD7 hS1.size) (by simp;omega)).trans hT1.1) ((hS2.block E (Nat.lt_of_lt_of_le hE7 hS1.size) (by simp;omega)).trans hT1.2)
  have HT1:=Lib.hid hT1;have HT2:=Lib.hid hT2;clear K2 HE2 hS0 hS1 hS2 hT1 hT2 hD7 hE7 hw hdl hDE hEl;go_wp2_with fail;refine ⟨by first | exact HT1.out | exact fun _ => HT1.out,LexW.cons rfl ?_⟩
  try go_frame
  go_wp2_with fail;refine ⟨by first | exact HT2.out | exact fun _ => HT2.out,LexW.nil ?_⟩
  go_wp2_with fail;exact bodyPost_ret (v:=.tuple #[.agg #[.slice A2 x.secs.length c2,.slice B2 x.cache.length f2,.int .i64 x.fuse,.bool x.down],.agg #[.int .i64 rk,.int .i64 v,.int .i64 ro,.string rt]]) (by simp [results,Tryz.results5,go_sem,z0,z1,z2,z3,y0,y1,y2,y3]) rfl HR.out
theorem Mh9 (d : Disk) (b : Jour) (i : Nat) : Bg9 d b i = b ∨ ∃ x k m,U8 d x = (k,m)∧b.g < x∧Bg9 d b i = ⟨k,x,(m : Int)⟩:=by
 obtain ⟨⟨⟨x,y⟩,ok⟩,hg⟩ : ∃ p,E8 (P9 d (i : Int)) = p:=⟨_,rfl⟩;by_cases hc : ok = true∧x % 2 = (i : Int)∧b.g < x∧y ≤ ((U8 d x).2 : Int)
 ·obtain ⟨rfl,h2,h3,h4⟩:=hc
  exact .inr ⟨x,_,_,(Prod.eta _).symm,h3,Ej9 hg (Prod.eta _).symm h2 h3 h4⟩
 ·exact .inl (Dx9 hg hc)
theorem Uj9 (d : Disk) (b : Jour) (i : Nat) : b.g ≤ (Bg9 d b i).g:=by
 rcases Mh9 d b i with h | ⟨x,k,m,_,h,e⟩
 ·rw [h];exact Int.le_refl _
 ·rw [e];exact Int.le_of_lt h
theorem Mm9 {d : Disk} {j : Jour} (h : R7 d = (j,true)) : (Z9 d∧d.secs.length = 38)∧Bg9 d (Bg9 d T8 0) 1 = j∧0 < j.g:=by
 unfold R7 at h;split at h
 ·rename_i hc
  have h1 : Be9 d 2 = j:=congrArg Prod.fst h;have h2 : decide (0 < (Be9 d 2).g) = true:=congrArg Prod.snd h;rw [h1] at h2;exact ⟨⟨Cv9 hc.1,hc.2⟩,h1,of_decide_eq_true h2⟩
 ·have h2 : false = true:=congrArg Prod.snd h
  cases h2
theorem open_at {d : Disk} {j : Jour} (h : R7 d = (j,true)) : ∃ m : Nat,j.place = (m : Int)∧U8 d j.g = (j.k,m):=by
 obtain ⟨_,h1,h2⟩:=Mm9 h;rcases Mh9 d (Bg9 d T8 0) 1 with e | ⟨x,k,m,hr,_,e⟩
 ·rw [e] at h1
  rcases Mh9 d T8 0 with e | ⟨x,k,m,hr,_,e⟩
  ·rw [e] at h1
   subst h1;exact absurd h2 (by decide)
  ·rw [e] at h1
   subst h1;exact ⟨m,rfl,hr⟩
 ·rw [e] at h1
  subst h1;exact ⟨m,rfl,hr⟩
theorem Cy8 {d : Disk} {j : Jour} (h : R7 d = (j,true)) {x n : Int} (hx : 0 < x) (hh : E8 (P9 d (x % 2)) = ((x,n),true)) (hg : j.g < x) : ¬ n ≤ ((U8 d x).2 : Int):=by
 intro hn;obtain ⟨_,h1,_⟩:=Mm9 h;rcases (show x % 2 = ((0 : Nat) : Int) ∨ x % 2 = ((1 : Nat) : Int) by omega) with hi | hi
 ·rw [hi] at hh
  have e : Bg9 d T8 0 = _:=Ej9 hh (Prod.eta _).symm hi hx hn;have h2:=Uj9 d (Bg9 d T8 0) 1;rw [h1,e] at h2;have h3 : x ≤ j.g:=h2;omega
 ·rw [hi] at hh
  have h2:=Uj9 d (Bg9 d T8 0) 1;rw [h1] at h2;have e : Bg9 d (Bg9 d T8 0) 1 = _:=Ej9 hh (Prod.eta _).symm hi (by omega) hn
  rw [h1] at e;have h3 : j.g = x:=congrArg Jour.g e;omega
theorem Uq9 {d : Disk} {g : Int} : ∀ (n i : Nat) (k k' : Known) (p : Nat),Z8 d g n i k = (k',p)→p < i + n→¬ (Cr9 d g p = true∧(K8 k' (Ay9 d g p)).2 = true):=by
 intro n;induction n with
 | zero =>
   intro i k k' p h hp;have : i = p:=congrArg Prod.snd h;omega
 | succ n ih =>
   intro i k k' p h hp;by_cases hs : Cr9 d g i = true∧(K8 k (Ay9 d g i)).2 = true
   ·rw [Gx9 hs.1 hs.2] at h
    exact ih (i + 1) _ k' p h (by omega)
   ·have e : Z8 d g (n + 1) i k = (k,i):=if_neg hs
    rw [e] at h;have h1 : k = k':=congrArg Prod.fst h;have h2 : i = p:=congrArg Prod.snd h;subst h1 h2;exact hs
theorem De8 {d : Disk} {C : Eg9} {k : Known} {g f : Int} (h : Up d C 0 (fun _ => True) f) : ∀ i,i ≤ (V9 k).length →
 (∃ C' f',Up (S7 d g (V9 k) i) C' i (fun _ => True) f'∧∀ (j : Nat) r,j < i→(V9 k)[j]? = some r→C' (atP g j) = Ah9 g j r) ∨ Dn (S7 d g (V9 k) i) (fun _ => True):=by
 intro i;have hl:=Ca9 k;induction i with
 | zero => intro _;exact .inl ⟨C,f,h,fun j r hj => absurd hj (Nat.not_lt_zero _)⟩
 | succ i ih =>
   intro hi;obtain ⟨r,hr⟩ : ∃ r,(V9 k)[i]? = some r:=⟨_,List.getElem?_eq_getElem (by omega)⟩
   rw [He9 hr];rcases ih (by omega) with ⟨C',f',hu,hall⟩ | hdn
   ·rcases Fn9 (G:=fun _ => True) (s:=atP g i) (b:=Ah9 g i r) hu (by omega) (Ty9 (by omega)) (Hp9 _ _ _) (fun _ _ => trivial) (fun _ _ => trivial) with ⟨_,hu2⟩ | ⟨_,hdn⟩
    ·refine .inl ⟨_,_,hu2,fun j x hj hx => ?_⟩
     by_cases hji : i = j
     ·subst hji
      rw [hr] at hx;injection hx with hx;subst hx;exact Hk9 _ _ _
     ·rw [Bf9 (If9 (by omega) (by omega) (.inr hji))]
      exact hall j x (by omega) hx
    ·exact .inr hdn
   ·rw [hdn.write]
    exact .inr hdn
theorem Cs8 {d : Disk} {C : Eg9} {g f : Int} {p : Nat} {r : Rec} (h : Up d C 0 (fun _ => True) f) (hp : p < 18) (hx : (X8 d g p r).down = false) : P9 (X8 d g p r) = upd C (atP g p) (Ah9 g p r):=by
 unfold X8 at hx ⊢;rcases Fn9 (G:=fun _ => True) (s:=atP g p) (b:=Ah9 g p r) h (by omega) (Ty9 hp) (Hp9 _ _ _) (fun _ _ => trivial) (fun _ _ => trivial) with ⟨_,hu⟩ | ⟨_,hdn⟩
 ·rcases Hl9 hu with ⟨_,hu2⟩ | ⟨_,hdn⟩
  ·exact hu2.rd
  ·rw [hdn.dn] at hx;cases hx
 ·rw [hdn.sync,hdn.dn] at hx;cases hx
theorem lay_put {d : Disk} {C : Eg9} {k : Known} {g f : Int} {r : Rec} (h : Up d C 0 (fun _ => True) f) (hg : 1 ≤ g + 1) (hx : (X8 (Ct9 d ⟨k,g,18⟩) (g + 1) ((V9 k).length : Int) r).down = false) :
 ∃ C1,P9 (X8 (Ct9 d ⟨k,g,18⟩) (g + 1) ((V9 k).length : Int) r) = upd (upd C1 ((g + 1) % 2) (Af9 (g + 1) ((V9 k).length : Int))) (atP (g + 1) ((V9 k).length : Int)) (Ah9 (g + 1) ((V9 k).length : Int) r)∧∀ (j : Nat) r,(V9 k)[j]? = some r→C1 (atP (g + 1) j) = Ah9 (g + 1) j r:=by
 have hl:=Ca9 k;have hhl:=Da9 (g + 1) ((V9 k).length : Int);have hdown : ∀ y : Disk,Dn y (fun _ => True)→(X8 y (g + 1) ((V9 k).length : Int) r).down = true:=fun y hy => by unfold X8;rw [hy.write,hy.sync];exact hy.dn
 have e : Ct9 d ⟨k,g,18⟩ = S9 (U9 (S9 (S7 d (g + 1) (V9 k) (V9 k).length)) ((g + 1) % 2) (Af9 (g + 1) ((V9 k).length : Int))):=rfl;rw [e] at hx ⊢;rcases De8 (k:=k) (g:=g + 1) h _ (Nat.le_refl _) with ⟨C1,f1,hu1,hall⟩ | hdn
 ·rcases Hl9 hu1 with ⟨_,hu2⟩ | ⟨_,hdn⟩
  ·rcases Fn9 (G:=fun _ => True) (s:=(g + 1) % 2) (b:=Af9 (g + 1) ((V9 k).length : Int)) hu2 (by omega) (by omega) (by omega) (fun _ _ => trivial) (fun _ _ => trivial) with ⟨_,hu3⟩ | ⟨_,hdn⟩
   ·rcases Hl9 hu3 with ⟨_,hu4⟩ | ⟨_,hdn⟩
    ·have hu5 : Up _ _ 0 (fun _ => True) _:=⟨hu4.good,hu4.len,hu4.up,hu4.cache,hu4.rd,fun _ => trivial,hu4.fuse⟩
     exact ⟨C1,Cs8 hu5 (by omega) hx,fun j r hr => hall j r (List.getElem?_eq_some_iff.1 hr).1 hr⟩
    ·rw [hdown _ hdn] at hx;cases hx
   ·have hdn2 : Dn _ (fun _ => True):=hdn.mono (fun _ _ => trivial)
    rw [hdn2.sync,hdown _ hdn2] at hx;cases hx
  ·rw [hdn.write,hdn.sync,hdown _ hdn] at hx;cases hx
 ·rw [hdn.sync,hdn.write,hdn.sync,hdown _ hdn] at hx;cases hx
theorem Dm8 {d : Disk} (h : Z9 d) (g : Int) (xs : List Rec) : ∀ i,Z9 (S7 d g xs i):=by
 intro i;induction i with
 | zero => exact h
 | succ i ih =>
   show Z9 (match xs[i]? with | some r => U9 (S7 d g xs i) (atP g (i : Int)) (Ah9 g (i : Int) r) | none => S7 d g xs i)
   split
   ·exact Ew9 ih _ _
   ·exact ih
theorem Rg9 {d : Disk} (h : Z9 d) (g p : Int) (r : Rec) (hx : (X8 d g p r).down = false) : (X8 d g p r).cache = []:=by
 unfold X8 at hx ⊢;have hg:=Ew9 h (atP g p) (Ah9 g p r);generalize U9 d (atP g p) (Ah9 g p r) = y at *;by_cases hs : Cw9 y
 ·by_cases h0 : y.fuse = 0
  ·rw [Ch9 hs h0] at hx;cases hx
  ·rw [Av9 hs h0]
 ·rw [Bp9 hs] at hx
  exact absurd ⟨hg,hx⟩ hs
theorem add_ne {d x : Disk} {r : Rec} (h : Ce9 d r = (x,true)) : x ≠ d:=by
 intro hxd;subst hxd;obtain ⟨⟨⟨k,g,p⟩,ok⟩,hp⟩ : ∃ q,R7 x = q:=⟨_,rfl⟩;unfold Ce9 at h;rw [hp] at h;split at h
 rotate_left
 ·have:=congrArg Prod.snd h;cases this
 rename_i hc
 obtain ⟨hok,hap,hdn⟩:=hc;replace hok : ok = true:=hok;subst hok;replace hap : (K8 k r).2 = true:=hap;obtain ⟨⟨hd,h38⟩,_,hg0⟩:=Mm9 hp;replace hg0 : 0 < g:=hg0;have hjg:=Eo9 x;rw [hp] at hjg;obtain ⟨hk,⟨_,hg6⟩,hp0,hp8⟩:=hjg;replace hg6 : g ≤ 60000:=hg6;replace hp0 : 0 ≤ p:=hp0;replace hp8 : p ≤ 18:=hp8;have hrb : Ak9 r = true:=by
  cases hr : Ak9 r with
  | true => rfl
  | false => unfold K8 at hap;rw [hr,Bool.and_false] at hap;cases hap
 have hup : x.cache = []→Up x (P9 x) 0 (fun _ => True) x.fuse:=fun hc => ⟨hd,h38,hdn,by rw [hc];exact Nat.le_refl _,rfl,fun _ => trivial,rfl⟩
 by_cases h18 : p = 18
 ·subst h18
  rw [if_pos (show (18 : Int) = 18 from rfl)] at h
  split at h
  ·have:=congrArg Prod.snd h;cases this
  rename_i hne
  replace hne : g ≠ 60000:=hne;have e1 : X8 (Ct9 x ⟨k,g,18⟩) (g + 1) ((V9 k).length : Int) r = x:=congrArg Prod.fst h;have hx : (X8 (Ct9 x ⟨k,g,18⟩) (g + 1) ((V9 k).length : Int) r).down = false:=by rw [e1];exact hdn
  have hgl : Z9 (Ct9 x ⟨k,g,18⟩):=Cj9 (Ew9 (Cj9 (Dm8 hd _ _ _)) _ _);have hc:=Rg9 hgl _ _ _ hx;rw [e1] at hc;obtain ⟨C1,hr1,hall⟩:=lay_put (hup hc) (by omega) hx
  rw [e1] at hr1;have hl:=Ca9 k;have hhd : E8 (P9 x ((g + 1) % 2)) = ((g + 1,((V9 k).length : Int)),true):=by
   rw [hr1,Bf9 (fun e => Fz9 (i:=(V9 k).length) e.symm),Hk9]
   exact Tl9 ⟨by omega,by omega⟩ (by omega)
  refine Cy8 hp (by omega) hhd (by show g < g + 1;omega) ?_
  have hrp : U8 x (g + 1) = Z8 x (g + 1) (18 - (V9 k).length) (0 + (V9 k).length) k:=by
   unfold U8;rw [if_pos (by unfold inI;simp;omega)]
   refine Li9 ⟨by omega,by omega⟩ (V9 k) 0 18 knownZero k (fun j y hy => ?_) (Ka9 hk) (by omega) (by omega)
   have hj:=(List.getElem?_eq_some_iff.1 hy).1;rw [Nat.zero_add,hr1,Bf9 (If9 (by omega) (by omega) (.inr (by omega))),Bf9 Fz9]
   exact hall j y hy
  have hgd:=(Ih9 (d:=x) (g:=g + 1) (18 - (V9 k).length) (0 + (V9 k).length) k hk).2.1;rw [hrp];omega
 ·rw [if_neg (show ¬ (p = 18) from h18)] at h
  have e1 : X8 x g p r = x:=congrArg Prod.fst h;have hx : (X8 x g p r).down = false:=by rw [e1];exact hdn
  have hc:=Rg9 hd _ _ _ hx;rw [e1] at hc;obtain ⟨m,hm,hrm⟩:=open_at hp;replace hm : p = (m : Int):=hm;replace hrm : U8 x g = (k,m):=hrm;subst hm;have hr1:=Cs8 (g:=g) (r:=r) (hup hc) (show m < 18 by omega) hx
  rw [e1] at hr1;have hat : P9 x (atP g m) = Ah9 g m r:=by rw [hr1];exact Hk9 _ _ _
  have hget:=Oa9 (g:=g) (p:=(m : Int)) hrb (by omega) (by omega)
  unfold U8 at hrm;rw [if_pos (by unfold inI;simp;omega)] at hrm
  refine Uq9 18 0 knownZero k m hrm (by omega) ⟨?_,?_⟩
  ·unfold Cr9;rw [hat,hget];simp
  ·unfold Ay9;rw [hat,hget];exact hap
end Go.Proofs.YthpkdjflndiojaaGreatDoor
