/- What the theorem needs, out of many texts. -/
import Derived.Test.YthpkdjflndiojaaGreatDoorShj19
set_option maxHeartbeats 20000000
namespace Go.Proofs.YthpkdjflndiojaaGreatDoor
open Go.RowKit
set_option maxRecDepth 100000
set_option linter.unusedVariables false
def Firm {α : Type} (R : Rep α) (W : World) (E : List Nat) (cs : List Value) (x : α) : Prop:=∀ W',Rep.Only W W' E→R.at_ W' W'.heap.size cs x
section
variable {α : Type} {R : Rep α} {W W' : World} {E : List Nat} {cs : List Value} {x : α}
theorem Firm.at (h : Firm R W E cs x) : R.at_ W W.heap.size cs x:=h W (Rep.Only.refl W E)
theorem Firm.step (h : Firm R W E cs x) (ho : Rep.Only W W' E) : Firm R W' E cs x:=fun W2 h2 => h W2 (ho.trans h2)
theorem Firm.later (h : Firm R W E cs x) (hb : Below W.heap.size W W') : Firm R W' E cs x:=h.step ((Rep.only_of_below hb).mono (by simp))
theorem Firm.of_own {base : Nat} {fp : List Nat} (h : R.own W base cs x fp) (hE : ∀ a,a ∈ E→a ∉ fp) : Firm R W E cs x:=
 fun W' ho => R.reads (Rep.own_only h ho (fun a ha hb => hE a hb ha))
theorem Firm.of_at {B : Nat} (h : R.at_ W B cs x) (hB : B ≤ W.heap.size) (hE : ∀ a,a ∈ E→B ≤ a) : Firm R W E cs x:=
 fun W' ho => R.more (Rep.at_only h ho hB hE) (Nat.le_trans hB ho.size)
end
theorem Aa9 (w : World) (D : Nat) (a b c d : Value) : Rep.Only w ((((w.setCell ⟨D,0,none⟩ a).setCell ⟨D,1,none⟩ b).setCell ⟨D,2,none⟩ c).setCell ⟨D,3,none⟩ d) [D]:=
 (((Rep.Only.setCell w (p:=⟨D,0,none⟩) (by simp) _).trans (Rep.Only.setCell _ (p:=⟨D,1,none⟩) (by simp) _)).trans (Rep.Only.setCell _ (p:=⟨D,2,none⟩) (by simp) _)).trans (Rep.Only.setCell _ (p:=⟨D,3,none⟩) (by simp) _)
theorem Im9 {W : World} {R : Nat} {a0 b0 c0 d0 : Value} (h : W.heap[R]? = some (.cells [a0,b0,c0,d0].toArray 27 (0,0))) (a b c d : Value) : ((((W.setCell ⟨R,0,none⟩ a).setCell ⟨R,1,none⟩ b).setCell ⟨R,2,none⟩ c).setCell ⟨R,3,none⟩ d).heap[R]? = some (.cells [a,b,c,d].toArray 27 (0,0)):=
 N9 (N9 (N9 (N9 h 0 a) 1 b) 2 c) 3 d
noncomputable def S7 (d : Disk) (g : Int) (xs : List Rec) : Nat→Disk
 | 0 => d
 | i + 1 => match xs[i]? with
   | some r => U9 (S7 d g xs i) (atP g (i : Int)) (Ah9 g (i : Int) r)
   | none => S7 d g xs i
theorem He9 {d : Disk} {g : Int} {xs : List Rec} {i : Nat} {r : Rec} (h : xs[i]? = some r) : S7 d g xs (i + 1) = U9 (S7 d g xs i) (atP g (i : Int)) (Ah9 g (i : Int) r):=by
 show (match xs[i]? with | some r => _ | none => _) = _
 rw [h]
theorem Fv9 {d : Disk} (h : Ag9 d) (g : Int) (xs : List Rec) : ∀ i,Ag9 (S7 d g xs i):=by
 intro i;induction i with
 | zero => exact h
 | succ i ih =>
   cases hx : xs[i]? with
   | none => show Ag9 (match xs[i]? with | some r => _ | none => _);rw [hx];exact ih
   | some r => rw [He9 hx];exact Ar9 ih _ (by have:=Ex9 g (i : Int) r;omega)
noncomputable def Ct9 (d : Disk) (j : Jour) : Disk:=
 S9 (U9 (S9 (S7 d (j.g + 1) (V9 j.k) (V9 j.k).length)) ((j.g + 1) % 2) (Af9 (j.g + 1) ((V9 j.k).length : Int)))
theorem Mt9 {d : Disk} (h : Ag9 d) (j : Jour) : Ag9 (Ct9 d j):=
 Dm9 (Ar9 (Dm9 (Fv9 h _ _ _)) _ (by have:=Da9 (j.g + 1) ((V9 j.k).length : Int);omega))
structure LB (w : World) (PJ : Nat) (j : Jour) (A : Option Addr) (c : Nat) (xs : List Rec) (a b cc dd : Value) (x : Disk) (W : World) : Prop where
 below : Below w.heap.size w W
 jbox : W.heap[PJ]? = some (.cells (Y7 j).toArray 37 (0,0))
 dbox : W.heap[w.heap.size]? = some (.cells [a,b,cc,dd].toArray 27 (0,0))
 rbox : W.heap[w.heap.size + 1]? = some (.cells [.slice none 0 0,.slice none 0 0,.int .i64 0,.bool false].toArray 27 (0,0))
 firm : Firm diskR W [w.heap.size] [a,b,cc,dd] x
 recs : W.ownsRow (w.heap.size + 2) 29 4 (.slice A xs.length c) xs.length (Ac9 xs)
 pj : PJ < w.heap.size
 lt : w.heap.size + 1 < W.heap.size
section
variable {w W W' : World} {PJ : Nat} {j : Jour} {A : Option Addr} {c : Nat} {xs : List Rec} {a b cc dd a' b' cc' dd' : Value} {x x' : Disk}
theorem LB.later (h : LB w PJ j A c xs a b cc dd x W) (hb : Below W.heap.size W W') : LB w PJ j A c xs a b cc dd x W':=by
 have hl:=h.lt;have hp:=h.pj;exact ⟨Later.trans h.below hb,(hb.block _ (by omega)).trans h.jbox,(hb.block _ (by omega)).trans h.dbox,(hb.block _ (by omega)).trans h.rbox,h.firm.later hb,ownsRow_below h.recs hb (Nat.le_refl _),hp,Nat.lt_of_lt_of_le hl hb.size⟩
instance LB.keeps (w : World) (PJ : Nat) (j : Jour) (A : Option Addr) (c : Nat) (xs : List Rec) (a b cc dd : Value) (x : Disk) : Keeps (fun W => LB w PJ j A c xs a b cc dd x W):=⟨fun h x => x.later h⟩
theorem LB.drew (h : LB w PJ j A c xs a b cc dd x W) : LB w PJ j A c xs a b cc dd x W.drew:=h.later (Later.drew W)
theorem LB.put (h : LB w PJ j A c xs a b cc dd x W) {base : Nat} {fp : List Nat} (ho : diskR.own W base [a',b',cc',dd'] x' fp) (hb : w.heap.size < base) : LB w PJ j A c xs a' b' cc' dd' x' ((((W.setCell ⟨w.heap.size,0,none⟩ a').setCell ⟨w.heap.size,1,none⟩ b').setCell ⟨w.heap.size,2,none⟩ cc').setCell ⟨w.heap.size,3,none⟩ dd'):=by
 have hl:=h.lt;have hp:=h.pj;have hw:=Aa9 W w.heap.size a' b' cc' dd';refine ⟨Rep.Only.below h.below hw h.below.size (fun a ha => by simp at ha;omega),(hw.block _ (by omega) (by simp;omega)).trans h.jbox,Im9 h.dbox a' b' cc' dd',(hw.block _ (by omega) (by simp)).trans h.rbox,?_,?_,hp,Nat.lt_of_lt_of_le hl hw.size⟩
 ·refine Firm.step (Firm.of_own ho (fun a ha => ?_)) hw
  simp at ha;subst ha;intro hm;have:=(Rep.lt diskR ho _ hm).1;omega
 ·exact Rep.ownsRow_block h.recs (fun k hk => hw.block k (h.recs.lt k (by simpa using hk)).2 (by have:=(h.recs.lt k (by simpa using hk)).1;simp;omega))
end
def En8 (w : World) (PJ : Nat) (j' : Jour) (d : Disk) (e : Ending) (w' : World) : Prop:=
 ∃ cs fp,e = .returned (.agg cs.toArray)∧diskR.own w' w.heap.size cs d fp∧w'.heap[PJ]? = some (.cells (Y7 j').toArray 37 (0,0))∧Rep.Only w w' [PJ]
set_option maxRecDepth 2000000 in
theorem Xp9 (cs : List Value) (d : Disk) (j : Jour) (PJ : Nat) (w : World) (h : diskR.at_ w w.heap.size cs d) (hf : Ag9 d) (hg : Given w) (hj : w.heap[PJ]? = some (.cells (Y7 j).toArray 37 (0,0))) (hg0 : 0 ≤ j.g) (hg1 : j.g ≤ 59999) (hrs : ∀ r,r ∈ V9 j.k→r.text.size ≤ 1048576) :
 Calls Tryz.prog 23 #[.agg cs.toArray,.pointer (some ⟨PJ,0,none⟩)] w (En8 w PJ ⟨j.k,j.g + 1,((V9 j.k).length : Int)⟩ (Ct9 d j)):=by
 obtain ⟨A,c,B,e,rfl⟩:=G7 h;have hPJ : PJ < w.heap.size:=(Array.getElem?_eq_some_iff.1 hj).1;have HG:=Lib.hid hg;have hb0 : Below w.heap.size w ((w.alloc (.cells #[.slice A d.secs.length c,.slice B d.cache.length e,.int .i64 d.fuse,.bool d.down] 27)).alloc (.cells #[.slice none 0 0,.slice none 0 0,.int .i64 0,.bool false] 27)):=Later.trans (Later.alloc w _) (Later.alloc _ _);have hs0 : ((w.alloc (.cells #[.slice A d.secs.length c,.slice B d.cache.length e,.int .i64 d.fuse,.bool d.down] 27)).alloc (.cells #[.slice none 0 0,.slice none 0 0,.int .i64 0,.bool false] 27)).heap.size = w.heap.size + 2:=by simp
 have hd0 : ((w.alloc (.cells #[.slice A d.secs.length c,.slice B d.cache.length e,.int .i64 d.fuse,.bool d.down] 27)).alloc (.cells #[.slice none 0 0,.slice none 0 0,.int .i64 0,.bool false] 27)).heap[w.heap.size]? = some (.cells [.slice A d.secs.length c,.slice B d.cache.length e,.int .i64 d.fuse,.bool d.down].toArray 27 (0,0)):=(Below.heap_alloc _ _ _ (by simp)).trans (heap_alloc_new w _)
 have hr0 : ((w.alloc (.cells #[.slice A d.secs.length c,.slice B d.cache.length e,.int .i64 d.fuse,.bool d.down] 27)).alloc (.cells #[.slice none 0 0,.slice none 0 0,.int .i64 0,.bool false] 27)).heap[w.heap.size + 1]? = some (.cells [.slice none 0 0,.slice none 0 0,.int .i64 0,.bool false].toArray 27 (0,0)):=G9 _ _ (by simp)
 show Calls Tryz.prog 23 #[.agg #[.slice A d.secs.length c,.slice B d.cache.length e,.int .i64 d.fuse,.bool d.down],.pointer (some ⟨PJ,0,none⟩)] w _
 go_enter Tryz.func23,Tryz.ntmps23
 go_upto_region 1 with (fail)
 generalize (w.alloc (.cells #[.slice A d.secs.length c,.slice B d.cache.length e,.int .i64 d.fuse,.bool d.down] 27)).alloc (.cells #[.slice none 0 0,.slice none 0 0,.int .i64 0,.bool false] 27) = W0 at hb0 hs0 hd0 hr0 ⊢;have hj0:=(hb0.block _ hPJ).trans hj;have hfirm0 : Firm diskR W0 [w.heap.size] [.slice A d.secs.length c,.slice B d.cache.length e,.int .i64 d.fuse,.bool d.down] d:=Firm.of_at (B:=w.heap.size) (R:=diskR) (Rep.at_below h hb0) hb0.size (fun a ha => by simp at ha;omega)
 have HF0:=Lib.hid hfirm0;have HB0:=Lib.hid hb0;have HD0:=Lib.hid hd0;have HR0:=Lib.hid hr0;have HJ0:=Lib.hid hj0;have HS0:=Lib.hid hs0;clear hb0 hs0 hd0 hr0 hj hg h hfirm0;obtain ⟨j0,j1,j2,j3,j4,j5,j6,j7⟩:=G8 hj0;go_wp2_with fail;refine (Ut9 j.k W0).mono ?_;clear j0 j1 j2 j3 j4 j5 j6 j7 hj0;obtain ⟨xs,hxs⟩ : ∃ xs,V9 j.k = xs:=⟨_,rfl⟩;have hxl : xs.length ≤ 4:=by rw [← hxs];exact Ca9 _
 have HXS:=Lib.hid hxs;have HSM:=Lib.hid hrs;rw [hxs] at HSM;rw [hxs];clear hxs hrs;rintro e1 W1 ⟨A1,c1,rfl,o1,hb⟩;have L : LB w PJ j A1 c1 xs (.slice A d.secs.length c) (.slice B d.cache.length e) (.int .i64 d.fuse) (.bool d.down) d W1:=⟨Later.trans HB0.out hb,(hb.block _ (by have:=HS0.out;omega)).trans HJ0.out,(hb.block _ (by have:=HS0.out;omega)).trans HD0.out,(hb.block _ (by have:=HS0.out;omega)).trans HR0.out,HF0.out.later hb,by have:=HS0.out;rw [← this];exact o1,hPJ,by have:=hb.size;have:=HS0.out;omega⟩
 clear o1 hb HF0 HB0 HD0 HR0 HJ0 HS0;obtain ⟨j0,j1,j2,j3,j4,j5,j6,j7⟩:=G8 L.jbox;go_upto_region 3 with (fail)
 clear j0 j1 j2 j3 j4 j5 j6 j7;go_wp2_with fail;go_loopw [7] (fun i wr => ∃ (k : Nat) (va vb vc vd : Value),k ≤ xs.length∧i = .int .i64 k∧LB w PJ j A1 c1 xs va vb vc vd (S7 d (j.g + 1) xs k) wr) (fun i _ => xs.length - (intOf i).toNat)
 case atStart => exact ⟨0,.slice A d.secs.length c,.slice B d.cache.length e,.int .i64 d.fuse,.bool d.down,by omega,rfl,L⟩
 case round =>
  clear L;obtain ⟨k,va,vb,vc,vd,hk,rfl,L⟩:=hrel;by_cases hlt : k < xs.length
  ·obtain ⟨bb,off,⟨rk,rn,ro,rt⟩,rfl,hbl,hx,c0,c1',c2,c3⟩:=Re9 (Reads.of_own L.recs) hlt
   have HX:=Lib.hid hx;have HSZ:=Lib.hid (show rt.size ≤ 1048576 from HSM.out _ (List.mem_of_getElem? hx))
   clear hx;have i1 : (0 : Int) ≤ (k : Int):=by omega
   have i2 : (k : Int) < (xs.length : Int):=by omega
   go_wp2_with fail;have S : All (fun w' => LB w PJ j (some ⟨bb,off,none⟩) c1 xs va vb vc vd (S7 d (j.g + 1) xs k) w'∧w'.heap[w.heap.size]? = some (.cells [va,vb,vc,vd].toArray 27 (0,0))∧w'.cell? ⟨bb,off + k * 4,none⟩ = some (.int .i64 rk)∧w'.cell? ⟨bb,off + k * 4 + 1,none⟩ = some (.int .i64 rn)∧w'.cell? ⟨bb,off + k * 4 + 2,none⟩ = some (.int .i64 ro)∧w'.cell? ⟨bb,off + k * 4 + 3,none⟩ = some (.string rt)) wr:=⟨L,L.dbox,c0,c1',c2,c3⟩
   clear L c0 c1' c2 c3 hbl;refine M9 12 [0,1,2,4,5,6,7,8,9] [3,10,11,12] (fun w' => w'.heap[w.heap.size]? = some (.cells [va,vb,vc,vd].toArray 27 (0,0))∧w'.cell? ⟨bb,off + k * 4,none⟩ = some (.int .i64 rk)∧w'.cell? ⟨bb,off + k * 4 + 1,none⟩ = some (.int .i64 rn)∧w'.cell? ⟨bb,off + k * 4 + 2,none⟩ = some (.int .i64 ro)∧w'.cell? ⟨bb,off + k * 4 + 3,none⟩ = some (.string rt)) (by kernel_rfl) (by kernel_rfl) S.drew.out.2 ?_
   replace S:=S.drew;iterate 9 (refine LexR.cons rfl ?_ (fun w' hw => ?_) ?_;rotate_left;focus (obtain ⟨hw1,e1,e2,e3,e4⟩:=hw;obtain ⟨d0,d1,d2,d3⟩:=Q8 hw1;clear hw1;go_simp;(try exact rfl));(try go_frame))
   refine LexR.nil (LexW.cons rfl ?_);try go_frame
   generalize wr.drew = V0 at S ⊢;go_wp2_with fail;refine (Lq9 (j.g + 1) (k : Int) V0 (by omega) (by omega)).mono ?_
   rintro e2 V1 ⟨rfl,rfl⟩;go_wp2_with fail;refine ⟨fun _ => S.out.2,LexW.cons rfl ?_⟩
   try go_frame
   go_wp2_with fail;refine (Mj9 (j.g + 1) (k : Int) ⟨rk,rn,ro,rt⟩ V0 (Keeps.keeps (F:=Given) S.out.1.below HG.out) HSZ.out).mono ?_;have hpl:=Ex9 (j.g + 1) (k : Int) ⟨rk,rn,ro,rt⟩;obtain ⟨l3,hl3⟩ : ∃ l,Ah9 (j.g + 1) (k : Int) ⟨rk,rn,ro,rt⟩ = l:=⟨_,rfl⟩;rw [hl3] at hpl ⊢;have HL3:=Lib.hid hl3;clear hl3;rintro e3 V2 ⟨v2,rfl,o2,hb⟩;obtain ⟨A5,c5,rfl,hk5,hm5,r5,_⟩:=o2.shape;replace S:=S.later hb;clear hb o2;go_wp2_with fail;refine ⟨fun _ => S.out.2,LexW.cons rfl ?_⟩
   try go_frame
   go_wp2_with fail;have hfits:=Fv9 hf (j.g + 1) xs k;refine (Dh9 [va,vb,vc,vd] [.slice A5 l3.length c5] (S7 d (j.g + 1) xs k) (atP (j.g + 1) (k : Int)) l3 V2 S.out.1.firm.at ⟨A5,c5,rfl,⟨hk5,hm5⟩,r5⟩ hfits (by omega) (Ie9 (by omega) (by omega) (by omega) (by omega))).mono ?_
   rw [show U9 (S7 d (j.g + 1) xs k) (atP (j.g + 1) (k : Int)) l3 = S7 d (j.g + 1) xs (k + 1) by rw [He9 HX.out,HL3.out]]
   rintro e4 V3 ⟨cs3,fp3,rfl,O3,hb⟩;obtain ⟨A6,c6,B6,f6,rfl⟩:=Q9 O3;have hV2:=S.out.1.lt;have L3:=(S.out.1.later hb).put O3 (by omega)
   obtain ⟨d0,d1,d2,d3⟩:=Q8 (S.out.1.later hb).dbox;have df0:=C9 (S.out.1.later hb).dbox 0;have df1:=C9 (S.out.1.later hb).dbox 1;have df2:=C9 (S.out.1.later hb).dbox 2;have df3:=C9 (S.out.1.later hb).dbox 3;have hl3:=(S.out.1.later hb).lt;replace S:=S.later hb;clear hb O3 hfits r5 hpl;go_wp2_with fail;refine ⟨fun _ => S.out.2,LexW.cons rfl ?_⟩
   clear S;try go_frame
   go_wp2_with fail;refine ⟨fun h => absurd rfl h,LexW.nil ?_⟩
   clear d0 d1 d2 d3 df0 df1 df2 df3 hl3;go_wp2_with fail;go_roundw
   case rel => exact ⟨k + 1,_,_,_,_,by omega,by go_num,L3⟩
   case measure => simp [intOf];omega
  ·have he : k = xs.length:=by omega
   subst he;clear hlt hk;have HFL:=Lib.hid (Fv9 hf (j.g + 1) xs xs.length);obtain ⟨d0,d1,d2,d3⟩:=Q8 L.dbox;go_upto_region 7 with (fail)
   go_wp2_with fail;clear d0 d1 d2 d3;refine (Di9 [va,vb,vc,vd] (S7 d (j.g + 1) xs xs.length) wr L.firm.at HFL.out).mono ?_;rintro e2 W2 ⟨cs2,fp2,rfl,O2,hb⟩;obtain ⟨A6,c6,B6,f6,rfl⟩:=Q9 O2;have hV2:=L.lt;replace L:=L.later hb;have L2:=L.put O2 (by omega)
   obtain ⟨d0,d1,d2,d3⟩:=Q8 L.dbox;have df0:=C9 L.dbox 0;have df1:=C9 L.dbox 1;have df2:=C9 L.dbox 2;have df3:=C9 L.dbox 3;have hl2:=L.lt;clear hb O2 L;go_upto_region 8 with (fail)
   generalize ((((W2.setCell ⟨w.heap.size,0,none⟩ (.slice A6 (S9 (S7 d (j.g + 1) xs xs.length)).secs.length c6)).setCell ⟨w.heap.size,1,none⟩ (.slice B6 (S9 (S7 d (j.g + 1) xs xs.length)).cache.length f6)).setCell ⟨w.heap.size,2,none⟩ (.int .i64 (S9 (S7 d (j.g + 1) xs xs.length)).fuse)).setCell ⟨w.heap.size,3,none⟩ (.bool (S9 (S7 d (j.g + 1) xs xs.length)).down)) = W3 at L2 ⊢;clear d0 d1 d2 d3 df0 df1 df2 df3 hl2 hV2;obtain ⟨dx,hdx⟩ : ∃ x,S9 (S7 d (j.g + 1) xs xs.length) = x:=⟨_,rfl⟩;rw [hdx] at L2 ⊢;have HFX:=Lib.hid (show Ag9 dx by rw [← hdx];exact Dm9 HFL.out)
   have HDX:=Lib.hid hdx;clear hdx HFL;have S : All (fun w' => LB w PJ j A1 c1 xs (.slice A6 dx.secs.length c6) (.slice B6 dx.cache.length f6) (.int .i64 dx.fuse) (.bool dx.down) dx w'∧w'.heap[w.heap.size]? = some (.cells [.slice A6 dx.secs.length c6,.slice B6 dx.cache.length f6,.int .i64 dx.fuse,.bool dx.down].toArray 27 (0,0))) W3:=⟨L2,L2.dbox⟩
   clear L2;have ht : (j.g + 1).tmod 2 = (j.g + 1) % 2:=Int.tmod_eq_emod_of_nonneg (by omega)
   have hm0 : 0 ≤ (j.g + 1) % 2:=by omega
   have hm1 : (j.g + 1) % 2 ≤ 1:=by omega
   refine M9 9 [0,1,2,3,4,5] [6,7,8,9] (fun w' => w'.heap[w.heap.size]? = some (.cells [.slice A6 dx.secs.length c6,.slice B6 dx.cache.length f6,.int .i64 dx.fuse,.bool dx.down].toArray 27 (0,0))) (by kernel_rfl) (by kernel_rfl) S.drew.out.2 ?_
   replace S:=S.drew;iterate 6 (refine LexR.cons rfl ?_ (fun w' hw => ?_) ?_;rotate_left;focus (obtain ⟨d0,d1,d2,d3⟩:=Q8 hw;clear hw;go_simp;(try exact rfl));(try go_frame))
   refine LexR.nil (LexW.cons rfl ?_);try go_frame
   generalize W3.drew = V0 at S ⊢;go_wp2_with fail;refine (Gk9 (j.g + 1) (xs.length : Int) V0).mono ?_;have hpl:=Da9 (j.g + 1) (xs.length : Int);obtain ⟨l3,hl3⟩ : ∃ l,Af9 (j.g + 1) (xs.length : Int) = l:=⟨_,rfl⟩;rw [hl3] at hpl ⊢;have HL3:=Lib.hid hl3;clear hl3;rintro e3 V2 ⟨v2,rfl,o2,hb⟩;obtain ⟨A5,c5,rfl,hk5,hm5,r5,_⟩:=o2.shape;replace S:=S.later hb;clear hb o2;go_wp2_with fail;refine ⟨fun _ => S.out.2,LexW.cons rfl ?_⟩
   try go_frame
   go_wp2_with fail;refine (Dh9 [.slice A6 dx.secs.length c6,.slice B6 dx.cache.length f6,.int .i64 dx.fuse,.bool dx.down] [.slice A5 l3.length c5] dx ((j.g + 1) % 2) l3 V2 S.out.1.firm.at ⟨A5,c5,rfl,⟨hk5,hm5⟩,r5⟩ HFX.out (by omega) (WalkArith.wf_i64 (by omega))).mono ?_
   obtain ⟨dy,hdy⟩ : ∃ x,U9 dx ((j.g + 1) % 2) l3 = x:=⟨_,rfl⟩;rw [hdy];have HFY:=Lib.hid (show Ag9 dy by rw [← hdy];exact Ar9 HFX.out _ (by omega))
   have HDY:=Lib.hid hdy;clear hdy;rintro e4 V3 ⟨cs3,fp3,rfl,O3,hb⟩;obtain ⟨A7,c7,B7,f7,rfl⟩:=Q9 O3;have T3:=Rep.reads diskR O3;replace S:=S.later hb;clear hb O3 r5 hpl;go_wp2_with fail;refine ⟨fun _ => S.out.2,LexW.cons rfl ?_⟩
   try go_frame
   go_wp2_with fail;refine (Di9 [.slice A7 dy.secs.length c7,.slice B7 dy.cache.length f7,.int .i64 dy.fuse,.bool dy.down] dy V3 T3 HFY.out).mono ?_;obtain ⟨dz,hdz⟩ : ∃ x,S9 dy = x:=⟨_,rfl⟩;rw [hdz];have HQZ:=Lib.hid hdz;clear hdz T3;rintro e5 V4 ⟨cs4,fp4,rfl,O4,hb⟩;obtain ⟨A8,c8,B8,f8,rfl⟩:=Q9 O4;have hV3:=S.out.1.lt;replace S:=S.later hb;have L4:=S.out.1.put O4 (by omega)
   have hfp : ∀ a,a ∈ fp4→w.heap.size + 1 < a:=fun a ha => by have:=(Rep.lt diskR O4 a ha).1;omega
   have O5:=Rep.own_only (R:=diskR) O4 (Aa9 V4 w.heap.size (.slice A8 dz.secs.length c8) (.slice B8 dz.cache.length f8) (.int .i64 dz.fuse) (.bool dz.down)) (fun a ha hb => by have:=hfp a ha;simp at hb;omega)
   obtain ⟨d0,d1,d2,d3⟩:=Q8 S.out.1.dbox;have df0:=C9 S.out.1.dbox 0;have df1:=C9 S.out.1.dbox 1;have df2:=C9 S.out.1.dbox 2;have df3:=C9 S.out.1.dbox 3;have hl3:=S.out.1.lt;have HV3:=Lib.hid hV3;have HFP:=Lib.hid hfp;have HO5:=Lib.hid O5;clear hb O4 hV3 hfp O5;go_wp2_with fail;refine ⟨fun _ => S.out.2,LexW.cons rfl ?_⟩
   clear S;try go_frame
   go_wp2_with fail;refine ⟨fun h => absurd rfl h,LexW.nil ?_⟩
   clear d0 d1 d2 d3 df0 df1 df2 df3 hl3;generalize ((((V4.setCell ⟨w.heap.size,0,none⟩ (.slice A8 dz.secs.length c8)).setCell ⟨w.heap.size,1,none⟩ (.slice B8 dz.cache.length f8)).setCell ⟨w.heap.size,2,none⟩ (.int .i64 dz.fuse)).setCell ⟨w.heap.size,3,none⟩ (.bool dz.down)) = V5 at L4 HO5 ⊢;obtain ⟨j0,j1,j2,j3,j4,j5,j6,j7⟩:=G8 L4.jbox;have jf6:=C9 L4.jbox 6;have jf7:=C9 L4.jbox 7;have hPJ5 : PJ < V5.heap.size:=(Array.getElem?_eq_some_iff.1 L4.jbox).1;go_upto_region 11 with (fail)
   have ho6 : Rep.Only V5 ((V5.setCell ⟨PJ,6,none⟩ (.int .i64 (j.g + 1))).setCell ⟨PJ,7,none⟩ (.int .i64 (xs.length : Int))) [PJ]:=(Rep.Only.setCell V5 (p:=⟨PJ,6,none⟩) (by simp) _).trans (Rep.Only.setCell _ (p:=⟨PJ,7,none⟩) (by simp) _)
   have hj6 : ((V5.setCell ⟨PJ,6,none⟩ (.int .i64 (j.g + 1))).setCell ⟨PJ,7,none⟩ (.int .i64 (xs.length : Int))).heap[PJ]? = some (.cells (Y7 ⟨j.k,j.g + 1,(xs.length : Int)⟩).toArray 37 (0,0)):=N9 (N9 L4.jbox 6 _) 7 _;generalize (V5.setCell ⟨PJ,6,none⟩ (.int .i64 (j.g + 1))).setCell ⟨PJ,7,none⟩ (.int .i64 (xs.length : Int)) = V6 at ho6 hj6 ⊢;clear j0 j1 j2 j3 j4 j5 j6 j7 jf6 jf7 hPJ5;have hlt5:=L4.lt;have hd6:=(ho6.block _ (by omega) (by simp;omega)).trans L4.dbox
   have hr6:=(ho6.block _ (by omega) (by simp;omega)).trans L4.rbox
   have O6:=Rep.own_only (R:=diskR) HO5.out ho6 (fun a ha hb => by have:=HFP.out a ha;simp at hb;omega)
   have hw6 : Rep.Only w V6 [PJ]:=((Rep.only_of_below L4.below).mono (by simp)).then ho6 (fun a ha => .inl ha)
   have ho7:=Aa9 V6 (w.heap.size + 1) (.slice A8 dz.secs.length c8) (.slice B8 dz.cache.length f8) (.int .i64 dz.fuse) (.bool dz.down);have O7:=Rep.own_only (R:=diskR) O6 ho7 (fun a ha hb => by have:=HFP.out a ha;simp at hb;omega)
   have hj7:=(ho7.block _ (Array.getElem?_eq_some_iff.1 hj6).1 (by simp;omega)).trans hj6
   have hw7 : Rep.Only w _ [PJ]:=hw6.then ho7 (fun a ha => .inr (by simp at ha;omega))
   have hdx7:=Im9 hr6 (.slice A8 dz.secs.length c8) (.slice B8 dz.cache.length f8) (.int .i64 dz.fuse) (.bool dz.down)
   have hlast : Ct9 d j = dz := by
       unfold Ct9;rw [HXS.out,HDX.out,HL3.out,HDY.out,HQZ.out]
   have hbase : w.heap.size ≤ V3.heap.size:=by have:=HV3.out;omega
   obtain ⟨d0,d1,d2,d3⟩:=Q8 hd6;obtain ⟨z0,z1,z2,z3⟩:=Q8 hr6;have zf0:=C9 hr6 0;have zf1:=C9 hr6 1;have zf2:=C9 hr6 2;have zf3:=C9 hr6 3;have hl6 : w.heap.size + 1 < V6.heap.size:=(Array.getElem?_eq_some_iff.1 hr6).1;obtain ⟨y0,y1,y2,y3⟩:=Q8 hdx7;have HRET:=Lib.hid (show En8 w PJ ⟨j.k,j.g + 1,(xs.length : Int)⟩ dz (.returned (.agg #[.slice A8 dz.secs.length c8,.slice B8 dz.cache.length f8,.int .i64 dz.fuse,.bool dz.down])) _ from ⟨_,_,rfl,Rep.low diskR O7 hbase,hj7,hw7⟩)
   have HLAST:=Lib.hid hlast;clear L4 O6 O7 hj7 hw7 hdx7 hj6 ho6 ho7 hd6 hr6 hw6 hlast hbase HO5 HFP y0 y1 y2 y3;go_wp2_with fail;exact bodyPost_ret (v:=.agg #[.slice A8 dz.secs.length c8,.slice B8 dz.cache.length f8,.int .i64 dz.fuse,.bool dz.down]) (by simp [results,Tryz.results23,go_sem,z0,z1,z2,z3]) rfl (by rw [HLAST.out,HXS.out];exact HRET.out)
theorem db_back {p : List UInt8} {x : Db} (h : Dc9 p = some x) : dbL x = p:=by
 unfold Dc9 at h;split at h
 ·rename_i n r h58
  split at h
  ·rename_i a b c d h47
   obtain ⟨⟨oa,ob,oc,od⟩,rfl⟩:=Lp9 h
   have en : p = n ++ 58 :: r := by
       rcases Bd9 h58 with ⟨h0,_⟩ | ⟨r',e,_,h2⟩
       ·cases h0
       ·rcases Bd9 h2 with ⟨_,e2,_⟩ | ⟨r2,_,_,h3⟩
        ·rw [e,e2]
        ·exact absurd h3 (Il9 _ _)
   have er : r = a ++ 47 :: (b ++ 47 :: (c ++ 47 :: d)) := by
       rcases Bd9 h47 with ⟨h0,_⟩ | ⟨r1,e1,_,h1⟩
       ·cases h0
       rcases Bd9 h1 with ⟨h0,_⟩ | ⟨r2,e2,_,h2⟩
       ·cases h0
       rcases Bd9 h2 with ⟨h0,_⟩ | ⟨r3,e3,_,h3⟩
       ·cases h0
       rcases Bd9 h3 with ⟨_,e4,_⟩ | ⟨r4,_,_,h4⟩
       ·rw [e1,e2,e3,e4]
       ·exact absurd h4 (Il9 _ _)
   subst en er;unfold dbL;simp only [(Ob9 oa).1,(Ob9 ob).1,(Ob9 oc).1,(Ob9 od).1];simp
  ·cases h
 ·cases h
theorem Ls9 {n : Int} (h0 : 0 ≤ n) (h1 : n ≤ 20) : Bc9 (Lib.itoa n) 99 = true∧R8 (Lib.itoa n) 99 = n:=by
 obtain ⟨e1,e2⟩:=pn_itoa n;have k1 : Bc9 (Lib.itoa n) 65535 = true:=by rw [e1];exact decide_eq_true ⟨h0,by omega⟩
 have k2:=e2 h0 (by omega)
 obtain ⟨k3,k4⟩:=Ll9 k1 (by omega)
 exact ⟨k3,k4.trans k2⟩
theorem Jn9 {x : Db} (hx : dbB x = true) : Dc9 (dbL x) = some x∧59 ∉ dbL x∧(dbL x).length ≤ 32:=by
 obtain ⟨hn,_⟩:=Jo9 hx;obtain ⟨_,⟨s1,s1'⟩,⟨s2,s2'⟩,⟨s3,s3'⟩,⟨s4,s4'⟩⟩:=Oj9 hx;obtain ⟨a1,a2⟩:=Ls9 s1 s1';obtain ⟨b1,b2⟩:=Ls9 s2 s2';obtain ⟨c1,c2⟩:=Ls9 s3 s3';obtain ⟨d1,d2⟩:=Ls9 s4 s4';obtain ⟨fn,ln⟩:=Mo9 hn;have fa:=Gg9 a1;have fb:=Gg9 b1;have fc:=Gg9 c1;have fd:=Gg9 d1;have la:=Iq9 a1;have lb:=Iq9 b1;have lc:=Iq9 c1;have ld:=Iq9 d1;have e0 : dbL x = x.name.data.toList ++ 58 :: (Lib.itoa x.size ++ 47 :: (Lib.itoa x.queue ++ 47 :: (Lib.itoa x.wait ++ 47 :: Lib.itoa x.idle))):=by simp [dbL]
 have m1 : (58 : UInt8) ∉ Lib.itoa x.size ++ 47 :: (Lib.itoa x.queue ++ 47 :: (Lib.itoa x.wait ++ 47 :: Lib.itoa x.idle)):=by
  simp only [List.mem_append,List.mem_cons,not_or];exact ⟨fa.not (by decide),by decide,fb.not (by decide),by decide,fc.not (by decide),by decide,fd.not (by decide)⟩
 have e1 : O8 58 [] (dbL x) = [x.name.data.toList,Lib.itoa x.size ++ 47 :: (Lib.itoa x.queue ++ 47 :: (Lib.itoa x.wait ++ 47 :: Lib.itoa x.idle))]:=by
  rw [e0,At9 (fn.not (by decide)),Bw9 m1]
  simp
 have e2 : O8 47 [] (Lib.itoa x.size ++ 47 :: (Lib.itoa x.queue ++ 47 :: (Lib.itoa x.wait ++ 47 :: Lib.itoa x.idle))) = [Lib.itoa x.size,Lib.itoa x.queue,Lib.itoa x.wait,Lib.itoa x.idle]:=by
  rw [At9 (fa.not (by decide)),At9 (fb.not (by decide)),At9 (fc.not (by decide)),Bw9 (fd.not (by decide))]
  simp
 refine ⟨?_,?_,?_⟩
 ·unfold Dc9
  rw [e1];simp only [];rw [e2];simp only [];rw [Pd9 a1 b1 c1 d1,a2,b2,c2,d2]
 ·rw [e0]
  simp only [List.mem_append,List.mem_cons,not_or];exact ⟨fn.not (by decide),by decide,fa.not (by decide),by decide,fb.not (by decide),by decide,fc.not (by decide),by decide,fd.not (by decide)⟩
 ·rw [e0]
  simp at ln ⊢;omega
theorem Ek8 : ∀ (l : List (List UInt8)) (xs : List Db),Bi9 Dc9 l = some xs→xs.map dbL = l:=by
 intro l;induction l with
 | nil => intro xs h;cases h;rfl
 | cons p r ih =>
   intro xs h;obtain ⟨d,ys,hd,hy,rfl⟩:=all_cons h;rw [List.map_cons,db_back hd,ih ys hy]
theorem Ej8 : ∀ (xs : List Db),(∀ d,d ∈ xs→dbB d = true)→Bi9 Dc9 (xs.map dbL) = some xs:=by
 intro xs;induction xs with
 | nil => intro _;rfl
 | cons d r ih =>
   intro h;rw [List.map_cons];exact Ua9 (Jn9 (h d (by simp))).1 (ih fun z hz => h z (by simp [hz]))
theorem Hf9 (x y : List UInt8) (r : List (List UInt8)) (c : UInt8) : Lib.join (x :: y :: r) [c] = x ++ c :: Lib.join (y :: r) [c]:=by
 rw [Lib.join_cons,Lib.join_cons];simp [Lib.joinTail]
theorem Xd9 (c : UInt8) : ∀ (l : List (List UInt8)),l ≠ []→(∀ p,p ∈ l→c ∉ p)→O8 c [] (Lib.join l [c]) = l:=by
 intro l;induction l with
 | nil => intro h;exact absurd rfl h
 | cons x r ih =>
   intro _ h;cases r with
   | nil => rw [Lib.join_one,Bw9 (h x (by simp))];simp
   | cons y r =>
     rw [Hf9,At9 (h x (by simp)),ih (by simp) (fun p hp => h p (by simp only [List.mem_cons] at hp ⊢;exact .inr hp))]
     simp
theorem Ya9 (c : UInt8) : ∀ (n : Nat) (s : List UInt8),s.length ≤ n→Lib.join (O8 c [] s) [c] = s:=by
 intro n;induction n with
 | zero =>
   intro s h;obtain rfl : s = []:=List.eq_nil_of_length_eq_zero (by omega)
   rfl
 | succ n ih =>
   intro s hl;rcases Qe9 c s with h0 | ⟨x,r,rfl,h0⟩
   ·rw [Bw9 h0,Lib.join_one];simp
   ·rw [At9 h0,List.nil_append]
    have hr:=ih r (by simp at hl;omega)
    cases hs : O8 c [] r with
    | nil => exact absurd hs (Il9 _ _)
    | cons y l => rw [Hf9,← hs,hr]
theorem Xl9 {s : List UInt8} {xs : List Db} (h : Cb9 s = (xs,true)) : Bm9 xs = true∧Lib.join (xs.map dbL) [59] = s:=by
 unfold Cb9 at h;split at h
 ·injection h with _ h;cases h
 ·cases ha : Bi9 Dc9 (O8 59 [] s) with
  | none => rw [ha] at h;unfold Te9 at h;injection h with _ h;cases h
  | some ys =>
    rw [ha] at h;unfold Te9 at h;simp only [] at h;split at h
    ·rename_i hc
     injection h with h _;subst h;exact ⟨hc,by rw [Ek8 _ _ ha];exact Ya9 59 _ s (Nat.le_refl _)⟩
    ·injection h with _ h;cases h
theorem Vr9 {l : List (List UInt8)} (h : ∀ p,p ∈ l→p.length ≤ 32) (h3 : l.length ≤ 3) : (Lib.join l [59]).length ≤ 100:=by
 rcases l with _ | ⟨a,_ | ⟨b,_ | ⟨c,_ | ⟨d,l⟩⟩⟩⟩
 ·simp [Lib.join_nil]
 ·rw [Lib.join_one];have:=h a (by simp);omega
 ·rw [Hf9,Lib.join_one];have:=h a (by simp);have:=h b (by simp);simp;omega
 ·rw [Hf9,Hf9,Lib.join_one];have:=h a (by simp);have:=h b (by simp);have:=h c (by simp);simp;omega
 ·simp at h3
theorem Xk9 {xs : List Db} (h : Bm9 xs = true) : Cb9 (Lib.join (xs.map dbL) [59]) = (xs,true):=by
 obtain ⟨hd,hl⟩:=Iz9 h;have h1 : 1 ≤ xs.length:=(Ks9 h).1.1;have hp : ∀ p,p ∈ xs.map dbL→∃ d,d ∈ xs∧dbL d = p:=fun p hp => by simpa using hp
 have hlen:=Vr9 (l:=xs.map dbL) (fun p hp' => by obtain ⟨d,hm,rfl⟩:=hp p hp';exact (Jn9 (hd d hm)).2.2) (by simpa using hl)
 unfold Cb9;rw [if_neg (by omega),Xd9 59 _ (by intro e;have:=congrArg List.length e;simp at this;simp [this] at h1) (fun p hp' => by obtain ⟨d,hm,rfl⟩:=hp p hp';exact (Jn9 (hd d hm)).2.1)]
 exact Ov9 (Ej8 xs hd) h
theorem low_in {b : UInt8} (h : Vl9 b = true) : inB b = true:=by
 unfold Vl9 at h;have:=of_decide_eq_true h;unfold inB;simp;omega
theorem dig_in {b : UInt8} (h : Dv9 b = true) : inB b = true:=by
 have:=Gj9 h;unfold inB;simp;omega
theorem Od9 {n : Int} (h0 : 0 ≤ n) (h1 : n ≤ 20) : ∀ b,b ∈ Lib.itoa n→inB b = true:=by
 have h:=(Ls9 h0 h1).1;unfold Bc9 at h;have h5:=(of_decide_eq_true h).2.2.2.2.1;exact fun b hb => dig_in (List.all_eq_true.1 h5 b hb)
theorem dbL_in {x : Db} (hx : dbB x = true) : ∀ b,b ∈ dbL x→inB b = true:=by
 obtain ⟨hn,_⟩:=Jo9 hx;obtain ⟨_,⟨s1,s1'⟩,⟨s2,s2'⟩,⟨s3,s3'⟩,⟨s4,s4'⟩⟩:=Oj9 hx;unfold Eh9 at hn;rw [Bool.and_eq_true] at hn;intro b hb;simp only [dbL,List.mem_append,List.mem_singleton] at hb;rcases hb with (((((((hb | rfl) | hb) | rfl) | hb) | rfl) | hb) | rfl) | hb
 ·exact low_in (List.all_eq_true.1 hn.2 b hb)
 ·decide
 ·exact Od9 s1 s1' b hb
 ·decide
 ·exact Od9 s2 s2' b hb
 ·decide
 ·exact Od9 s3 s3' b hb
 ·decide
 ·exact Od9 s4 s4' b hb
theorem join_in (c : UInt8) (hc : inB c = true) : ∀ (l : List (List UInt8)),(∀ p,p ∈ l→∀ b,b ∈ p→inB b = true)→∀ b,b ∈ Lib.join l [c]→inB b = true:=by
 intro l;induction l with
 | nil => intro _ b hb;simp [Lib.join_nil] at hb
 | cons x r ih =>
   intro h b hb;cases r with
   | nil => rw [Lib.join_one] at hb;exact h x (by simp) b hb
   | cons y r =>
     rw [Hf9,List.mem_append,List.mem_cons] at hb;rcases hb with hb | rfl | hb
     ·exact h x (by simp) b hb
     ·exact hc
     ·exact ih (fun p hp => h p (by simp only [List.mem_cons] at hp ⊢;exact .inr hp)) b hb
theorem Vd9 {s : List UInt8} {xs : List Db} (h : Cb9 s = (xs,true)) : okB s = true:=by
 have hl : s.length ≤ 100:=by
  unfold Cb9 at h;split at h
  ·injection h with _ h;cases h
  ·omega
 obtain ⟨hc,rfl⟩:=Xl9 h;obtain ⟨hd,_⟩:=Iz9 hc;unfold okB;rw [Bool.and_eq_true];refine ⟨decide_eq_true hl,List.all_eq_true.2 (join_in 59 (by decide) _ fun p hp b hb => ?_)⟩
 obtain ⟨d,hm,rfl⟩:=List.mem_map.1 hp;exact dbL_in (hd d hm) b hb
theorem zz60 : (0 : Int) ≤ 0∧(0 : Int) ≤ 60000:=by decide
theorem zz1 : (0 : Int) ≤ 0∧(0 : Int) ≤ 1:=by decide
structure KG (k : Known) : Prop where
 gen : 0 ≤ k.gen∧k.gen ≤ 60000
 pGen : 0 ≤ k.pGen∧k.pGen ≤ 60000
 epoch : 0 ≤ k.epoch∧k.epoch ≤ 60000
 owner : 0 ≤ k.owner∧k.owner ≤ 1
 free : k.epoch = 0→k.owner = 0
 nil_ : k.gen = 0→Ey9 k.text = true
 txt : k.gen ≠ 0→Fe9 k.text = true
 pNil : k.pGen = 0→Ey9 k.pText = true
 pTxt : k.pGen ≠ 0→Fe9 k.pText = true
 ord : k.pGen = 0 ∨ k.gen < k.pGen
theorem Ag8 {x : Int} {n t : Bool} : K7 (x == 0) n t = true ↔ (x = 0→n = true)∧(x ≠ 0→t = true):=by
 unfold K7;by_cases h : x = 0
 ·subst h;simp
 ·have h2 : (x == 0) = false:=by simpa using h
  rw [h2];simp [h]
theorem Pm9 {k : Known} : Ax9 k = true ↔ KG k:=by
 unfold Ax9 inI;simp only [Bool.and_eq_true,Ag8,decide_eq_true_eq,Bool.or_eq_true,beq_iff_eq,Bool.not_eq_true',Bool.and_eq_false_iff,Bool.not_eq_false'];constructor
 ·rintro ⟨h1,h2,h3,h4,h5,⟨h6,h7⟩,⟨h8,h9⟩,h10⟩
  refine ⟨h1,h2,h3,h4,fun he => ?_,h6,h7,h8,h9,h10⟩
  rcases h5 with h5 | h5
  ·simp [he] at h5
  ·simpa using h5
 ·intro h
  refine ⟨h.gen,h.pGen,h.epoch,h.owner,?_,⟨h.nil_,h.txt⟩,⟨h.pNil,h.pTxt⟩,h.ord⟩;by_cases he : k.epoch = 0
  ·exact .inr (by simpa using h.free he)
  ·exact .inl (by simpa using he)
theorem Xn9 {s : ByteArray} (h : Ey9 s = true) : s = ⟨#[]⟩:=(Oz9 s).1 h
theorem Ei9 : KG knownZero:=⟨by decide,by decide,by decide,by decide,fun _ => rfl,fun _ => rfl,fun h => absurd rfl h,fun _ => rfl,fun h => absurd rfl h,.inl rfl⟩
theorem Dz9 {r : Rec} : Ak9 r = true ↔ (1 ≤ r.n∧r.n ≤ 60000)∧((r.kind = 1∧r.owner = 0∧Fe9 r.text = true) ∨ (r.kind = 2∧r.owner = 0∧Ey9 r.text = true) ∨ (r.kind = 3∧(0 ≤ r.owner∧r.owner ≤ 1)∧Ey9 r.text = true)):=by
 unfold Ak9;by_cases h1 : r.kind = 1
 ·simp [h1]
 ·by_cases h2 : r.kind = 2
  ·simp [h2]
  ·simp [h1,h2]
theorem Ug9 {s : ByteArray} (h : Fe9 s = true) : s.size ≤ 100:=by
 unfold Fe9 at h;have h2:=Jh9 (Vd9 (xs:=(Cb9 s.data.toList).1) (by rw [← h]))
 simpa using h2
theorem Vi9 {s : ByteArray} (h : Ey9 s = true) : s.size ≤ 100:=by rw [Xn9 h];decide
theorem Fu9 {k : Known} (h : KG k) : k.text.size ≤ 100∧k.pText.size ≤ 100:=by
 refine ⟨?_,?_⟩
 ·by_cases h0 : k.gen = 0
  ·exact Vi9 (h.nil_ h0)
  ·exact Ug9 (h.txt h0)
 ·by_cases h0 : k.pGen = 0
  ·exact Vi9 (h.pNil h0)
  ·exact Ug9 (h.pTxt h0)
theorem Dt9 {k : Known} {r : Rec} (hk : KG k) (hr : Ak9 r = true) : K8 k r = if r.kind = 1 then Lj9 k r else if r.kind = 2 then Np9 k r else Iw9 k r:=by
 unfold K8;rw [Pm9.2 hk,hr];rfl
theorem Ri9 {k : Known} {r : Rec} (hk : KG k) (hr : Ak9 r = true) (h1 : r.kind = 1) (h : k.gen < r.n) : KG ⟨k.gen,k.text,r.n,r.text,k.epoch,k.owner⟩:=by
 obtain ⟨hn,hc⟩:=Dz9.1 hr;have ht : Fe9 r.text = true:=by
  rcases hc with hc | hc | hc
  ·exact hc.2.2
  ·omega
  ·omega
 exact ⟨hk.gen,⟨by show 0 ≤ r.n;omega,hn.2⟩,hk.epoch,hk.owner,hk.free,hk.nil_,hk.txt,fun h0 => by replace h0 : r.n = 0:=h0;omega,fun _ => ht,.inr h⟩
theorem Ca8 {k : Known} {r : Rec} (hk : KG k) (hr : Ak9 r = true) (h : r.n = k.pGen) : KG ⟨k.pGen,k.pText,0,⟨#[]⟩,k.epoch,k.owner⟩:=
 ⟨hk.pGen,zz60,hk.epoch,hk.owner,hk.free,hk.pNil,hk.pTxt,fun _ => rfl,fun h => absurd rfl h,.inl rfl⟩
theorem Yi9 {k : Known} {r : Rec} (hk : KG k) (hr : Ak9 r = true) (h1 : r.kind ≠ 1) (h2 : r.kind ≠ 2) (h : k.epoch < r.n) : KG ⟨k.gen,k.text,k.pGen,k.pText,r.n,r.owner⟩:=by
 obtain ⟨hn,hc⟩:=Dz9.1 hr;have ho : 0 ≤ r.owner∧r.owner ≤ 1:=by
  rcases hc with hc | hc | hc
  ·exact absurd hc.1 h1
  ·exact absurd hc.1 h2
  ·exact hc.2.1
 exact ⟨hk.gen,hk.pGen,⟨by show 0 ≤ r.n;omega,hn.2⟩,ho,fun h0 => by replace h0 : r.n = 0:=h0;omega,hk.nil_,hk.txt,hk.pNil,hk.pTxt,hk.ord⟩
theorem Ei8 {k b : Known} {r : Rec} (h : K8 k r = (b,false)) : b = k:=by
 unfold K8 Lj9 Np9 Iw9 at h;split at h
 ·split at h
  ·split at h <;> injection h with h1 h2
   ·cases h2
   ·exact h1.symm
  ·split at h
   ·split at h <;> injection h with h1 h2
    ·cases h2
    ·exact h1.symm
   ·split at h <;> injection h with h1 h2
    ·cases h2
    ·exact h1.symm
 ·injection h with h1 _
  exact h1.symm
theorem Se9 {k b : Known} {r : Rec} (h : K8 k r = (b,true)) : KG k∧Ak9 r = true∧KG b∧k.gen ≤ b.gen∧k.epoch ≤ b.epoch∧(b = k→r.kind = 1∧r.n = k.pGen∧r.text = k.pText):=by
 by_cases hc : (Ax9 k && Ak9 r) = true
 ·rw [Bool.and_eq_true] at hc
  have hk:=Pm9.1 hc.1;have hr:=hc.2;have hn:=(Dz9.1 hr).1;rw [Dt9 hk hr] at h;refine ⟨hk,hr,?_⟩;by_cases h1 : r.kind = 1
  ·rw [if_pos h1] at h
   unfold Lj9 at h;split at h
   ·rename_i hlt
    injection h with h _;subst h;exact ⟨Ri9 hk hr h1 hlt,Int.le_refl _,Int.le_refl _,fun e => ⟨h1,congrArg Known.pGen e,congrArg Known.pText e⟩⟩
   ·injection h with _ h;cases h
  ·rw [if_neg h1] at h
   by_cases h2 : r.kind = 2
   ·rw [if_pos h2] at h
    unfold Np9 at h;split at h
    ·rename_i he
     injection h with h _;subst h;have hord : k.gen < k.pGen:=by rcases hk.ord with h0 | h0 <;> omega
     exact ⟨Ca8 hk hr he,by show k.gen ≤ k.pGen;omega,Int.le_refl _,fun e => by have:=congrArg Known.gen e;replace this : k.pGen = k.gen:=this;omega⟩
    ·injection h with _ h;cases h
   ·rw [if_neg h2] at h
    unfold Iw9 at h;split at h
    ·rename_i hlt
     injection h with h _;subst h;exact ⟨Yi9 hk hr h1 h2 hlt,Int.le_refl _,by show k.epoch ≤ r.n;omega,fun e => by have:=congrArg Known.epoch e;replace this : r.n = k.epoch:=this;omega⟩
    ·injection h with _ h;cases h
 ·unfold K8 at h
  rw [if_neg hc] at h;injection h with _ h;cases h
theorem Kw9 {k : Known} {r : Rec} (hk : KG k) : KG (K8 k r).1:=by
 cases h : K8 k r with
 | mk b ok =>
   cases ok with
   | false => rw [Ei8 h];exact hk
   | true => exact (Se9 h).2.2.1
noncomputable def Cd9 : Known→List Rec→Option Known
 | x,[] => some x
 | x,r :: l => if (K8 x r).2 = true∧Ak9 r = true then Cd9 (K8 x r).1 l else none
theorem Id9 : ∀ (l l' : List Rec) (x y : Known),Cd9 x l = some y→Cd9 x (l ++ l') = Cd9 y l':=by
 intro l;induction l with
 | nil => intro l' x y h;injection h with h;subst h;rfl
 | cons r l ih =>
   intro l' x y h;show (if (K8 x r).2 = true∧Ak9 r = true then Cd9 (K8 x r).1 (l ++ l') else none) = _
   unfold Cd9 at h;split at h
   ·rename_i hc
    rw [if_pos hc];exact ih l' _ y h
   ·cases h
theorem Ku9 {x y : Known} {r : Rec} {l : List Rec} (h : Cd9 x (r :: l) = some y) : (K8 x r).2 = true∧Ak9 r = true∧Cd9 (K8 x r).1 l = some y:=by
 unfold Cd9 at h;split at h
 ·rename_i hc
  exact ⟨hc.1,hc.2,h⟩
 ·cases h
theorem Fx9 {x y : Known} {r : Rec} {l : List Rec} {z : Option Known} (h : K8 x r = (y,true)) (hr : Ak9 r = true) (hz : Cd9 y l = z) : Cd9 x (r :: l) = z:=by
 unfold Cd9;rw [h,if_pos ⟨rfl,hr⟩];exact hz
theorem Ka9 {k : Known} (hk : KG k) : Cd9 knownZero (V9 k) = some k:=by
 have k1 : KG ⟨k.gen,k.text,0,⟨#[]⟩,0,0⟩:=⟨hk.gen,zz60,zz60,zz1,fun _ => rfl,hk.nil_,hk.txt,fun _ => rfl,fun h => absurd rfl h,.inl rfl⟩
 have k2 : KG ⟨k.gen,k.text,k.pGen,k.pText,0,0⟩:=⟨hk.gen,hk.pGen,zz60,zz1,fun _ => rfl,hk.nil_,hk.txt,hk.pNil,hk.pTxt,hk.ord⟩
 have a1 : Cd9 knownZero (if k.gen = 0 then [] else [⟨1,k.gen,0,k.text⟩,⟨2,k.gen,0,⟨#[]⟩⟩]) = some ⟨k.gen,k.text,0,⟨#[]⟩,0,0⟩:=by
  by_cases h0 : k.gen = 0
  ·rw [if_pos h0,h0,Xn9 (hk.nil_ h0)]
   rfl
  ·rw [if_neg h0]
   have hg:=hk.gen;have r1 : Ak9 ⟨1,k.gen,0,k.text⟩ = true:=Dz9.2 ⟨⟨by show 1 ≤ k.gen;omega,hg.2⟩,.inl ⟨rfl,rfl,hk.txt h0⟩⟩
   have r2 : Ak9 ⟨2,k.gen,0,⟨#[]⟩⟩ = true:=Dz9.2 ⟨⟨by show 1 ≤ k.gen;omega,hg.2⟩,.inr (.inl ⟨rfl,rfl,rfl⟩)⟩
   have hlt : knownZero.gen < k.gen:=by show 0 < k.gen;omega
   have s1 : K8 knownZero ⟨1, k.gen, 0, k.text⟩ = (⟨0, ⟨#[]⟩, k.gen, k.text, 0, 0⟩, true) := by
        rw [Dt9 Ei9 r1];show Lj9 knownZero ⟨1,k.gen,0,k.text⟩ = _
        exact if_pos hlt
   have g1 : KG ⟨0,⟨#[]⟩,k.gen,k.text,0,0⟩:=Ri9 (k:=knownZero) (r:=⟨1,k.gen,0,k.text⟩) Ei9 r1 rfl hlt
   have s2 : K8 ⟨0, ⟨#[]⟩, k.gen, k.text, 0, 0⟩ ⟨2, k.gen, 0, ⟨#[]⟩⟩ = (⟨k.gen, k.text, 0, ⟨#[]⟩, 0, 0⟩, true) := by
        rw [Dt9 g1 r2];show Np9 ⟨0,⟨#[]⟩,k.gen,k.text,0,0⟩ ⟨2,k.gen,0,⟨#[]⟩⟩ = _
        exact if_pos rfl
   exact Fx9 s1 r1 (Fx9 s2 r2 rfl)
 have a2 : Cd9 ⟨k.gen,k.text,0,⟨#[]⟩,0,0⟩ (if k.pGen = 0 then [] else [⟨1,k.pGen,0,k.pText⟩]) = some ⟨k.gen,k.text,k.pGen,k.pText,0,0⟩:=by
  by_cases h0 : k.pGen = 0
  ·rw [if_pos h0,h0,Xn9 (hk.pNil h0)]
   rfl
  ·rw [if_neg h0]
   have hg:=hk.pGen;have r1 : Ak9 ⟨1,k.pGen,0,k.pText⟩ = true:=Dz9.2 ⟨⟨by show 1 ≤ k.pGen;omega,hg.2⟩,.inl ⟨rfl,rfl,hk.pTxt h0⟩⟩
   have hlt : k.gen < k.pGen:=by rcases hk.ord with h | h;exact absurd h h0;exact h
   have s1 : K8 ⟨k.gen, k.text, 0, ⟨#[]⟩, 0, 0⟩ ⟨1, k.pGen, 0, k.pText⟩ = (⟨k.gen, k.text, k.pGen, k.pText, 0, 0⟩, true) := by
        rw [Dt9 k1 r1];show Lj9 ⟨k.gen,k.text,0,⟨#[]⟩,0,0⟩ ⟨1,k.pGen,0,k.pText⟩ = _
        exact if_pos hlt
   exact Fx9 s1 r1 rfl
 have a3 : Cd9 ⟨k.gen,k.text,k.pGen,k.pText,0,0⟩ (if k.epoch = 0 then [] else [⟨3,k.epoch,k.owner,⟨#[]⟩⟩]) = some k:=by
  by_cases h0 : k.epoch = 0
  ·rw [if_pos h0]
   obtain ⟨g,t,p,pt,e,o⟩:=k;replace h0 : e = 0:=h0;have ho : o = 0:=hk.free h0;subst h0 ho;rfl
  ·rw [if_neg h0]
   have hg:=hk.epoch;have r1 : Ak9 ⟨3,k.epoch,k.owner,⟨#[]⟩⟩ = true:=Dz9.2 ⟨⟨by show 1 ≤ k.epoch;omega,hg.2⟩,.inr (.inr ⟨rfl,hk.owner,rfl⟩)⟩
   have s1 : K8 ⟨k.gen, k.text, k.pGen, k.pText, 0, 0⟩ ⟨3, k.epoch, k.owner, ⟨#[]⟩⟩ = (k, true) := by
        rw [Dt9 k2 r1];show Iw9 ⟨k.gen,k.text,k.pGen,k.pText,0,0⟩ ⟨3,k.epoch,k.owner,⟨#[]⟩⟩ = _
        exact if_pos (by show (0 : Int) < k.epoch;omega)
   exact Fx9 s1 r1 rfl
 unfold V9 Aw9 Cp9 Jv9;rw [Id9 _ _ _ _ a1,Id9 _ _ _ _ a2];exact a3
theorem Tryz.knownStruct : Tryz.prog.underlying 35 = some (.struct (Tryz.prog.fieldsOf 35)):=by kernel_rfl
theorem Tryz.knownStood : Tryz.prog.stoodInHeld 35 = false:=by kernel_rfl
theorem Tryz.knownGuard : Tryz.prog.eqGuardType Tryz.prog.depth 35 = false:=by kernel_rfl
theorem Tryz.knownFields : ((Tryz.prog.fieldsOf 35).toList.map fun f => (f.type, f.offset, decide (f.name = "_"))) = [(3, 0, false), (9, 1, false), (3, 2, false), (9, 3, false), (3, 4, false), (3, 5, false)] := by kernel_rfl
theorem six {α : Type} {g : Field→α} {fs : List Field} {a b c d e f : α} (h : fs.map g = [a,b,c,d,e,f]) : ∃ f1 f2 f3 f4 f5 f6,fs = [f1,f2,f3,f4,f5,f6]∧g f1 = a∧g f2 = b∧g f3 = c∧g f4 = d∧g f5 = e∧g f6 = f:=by
 match fs,h with
 | [f1, f2, f3, f4, f5, f6], h =>
   simp only [List.map_cons,List.map_nil,List.cons.injEq,and_true] at h;exact ⟨f1,f2,f3,f4,f5,f6,rfl,h⟩
theorem Nk9 (op : BinOp) (a b : Operand) (x y : Known) (w : World) : (eqGuard op 35 a b (.agg (T9 x).toArray) (.agg (T9 y).toArray)).run Tryz.prog w = .ok () w:=run_eqGuard_agg w op _ a b _ _ Tryz.knownGuard
theorem Nd9 {k : Known} (h : k.text.size ≤ 100∧k.pText.size ≤ 100) : ∀ r,r ∈ V9 k→r.text.size ≤ 100:=by
 obtain ⟨ht,hp⟩:=h;intro r hr;unfold V9 at hr;rcases List.mem_append.1 hr with h1 | h1
 ·unfold Aw9 at h1
  split at h1
  ·cases h1
  ·simp only [List.mem_cons,List.not_mem_nil,or_false] at h1
   rcases h1 with rfl | rfl
   ·exact ht
   ·show (0 : Nat) ≤ 100;omega
 ·rcases List.mem_append.1 h1 with h1 | h1
  ·unfold Cp9 at h1
   split at h1
   ·cases h1
   ·simp only [List.mem_cons,List.not_mem_nil,or_false] at h1
    subst h1;exact hp
  ·unfold Jv9 at h1
   split at h1
   ·cases h1
   ·simp only [List.mem_cons,List.not_mem_nil,or_false] at h1
    subst h1;show (0 : Nat) ≤ 100;omega
theorem Ih9 {d : Disk} {g : Int} : ∀ (n i : Nat) (k : Known),KG k→KG (Z8 d g n i k).1∧i ≤ (Z8 d g n i k).2∧(Z8 d g n i k).2 ≤ i + n:=by
 intro n;induction n with
 | zero => intro i k h;exact ⟨h,Nat.le_refl _,Nat.le_refl _⟩
 | succ n ih =>
   intro i k h;by_cases hs : Cr9 d g i = true∧(K8 k (Ay9 d g i)).2 = true
   ·rw [Gx9 hs.1 hs.2]
    obtain ⟨h1,h2,h3⟩:=ih (i + 1) _ (Kw9 (r:=Ay9 d g i) h);exact ⟨h1,by omega,by omega⟩
   ·have e : Z8 d g (n + 1) i k = (k,i):=if_neg hs
    rw [e];exact ⟨h,Nat.le_refl _,by show i ≤ i + (n + 1);omega⟩
theorem Ur9 (d : Disk) (g : Int) : KG (U8 d g).1∧(U8 d g).2 ≤ 18:=by
 unfold U8;split
 ·obtain ⟨h1,_,h3⟩:=Ih9 (d:=d) (g:=g) 18 0 knownZero Ei9
  exact ⟨h1,by omega⟩
 ·exact ⟨Ei9,by show (0 : Nat) ≤ 18;omega⟩
def JG (j : Jour) : Prop:=KG j.k∧(0 ≤ j.g∧j.g ≤ 60000)∧(0 ≤ j.place∧j.place ≤ 18)
theorem Xc9 {d : Disk} {b : Jour} {i : Nat} (h : JG b) : JG (Bg9 d b i):=by
 unfold Bg9;split
 ·rename_i hc
  obtain ⟨hk,hm⟩:=Ur9 d (E8 (P9 d (i : Int))).1.1;have hr : 1 ≤ (E8 (P9 d (i : Int))).1.1∧(E8 (P9 d (i : Int))).1.1 ≤ 60000:=(Gs9 (l:=P9 d (i : Int)) (x:=(E8 (P9 d (i : Int))).1.1) (y:=(E8 (P9 d (i : Int))).1.2) (by rw [← hc.1])).1
  exact ⟨hk,⟨by show 0 ≤ (E8 (P9 d (i : Int))).1.1;omega,hr.2⟩,⟨by show (0 : Int) ≤ ((U8 d (E8 (P9 d (i : Int))).1.1).2 : Int);omega,by show ((U8 d (E8 (P9 d (i : Int))).1.1).2 : Int) ≤ 18;omega⟩⟩
 ·exact h
theorem Jx9 : JG T8:=⟨Ei9,⟨by decide,by decide⟩,⟨by decide,by decide⟩⟩
theorem Yu9 (d : Disk) : ∀ i,JG (Be9 d i):=by
 intro i;induction i with
 | zero => exact Jx9
 | succ i ih => exact Xc9 ih
theorem Eo9 (d : Disk) : JG (R7 d).1:=by
 unfold R7;split
 ·exact Yu9 d 2
 ·exact Jx9
end Go.Proofs.YthpkdjflndiojaaGreatDoor
