/- What the theorem needs, out of many texts. -/
import Derived.Test.YthpkdjflndiojaaGreatDoorShj20
set_option maxHeartbeats 20000000
namespace Go.Proofs.YthpkdjflndiojaaGreatDoor
open Go.RowKit
set_option maxRecDepth 2000000
set_option linter.unusedVariables false
theorem Firm.more {α : Type} {R : Rep α} {W W' : World} {E E' : List Nat} {cs : List Value} {x : α} (h : Firm R W E cs x) (hb : Below W.heap.size W W') (hE : ∀ a,a ∈ E'→a ∈ E ∨ W.heap.size ≤ a) : Firm R W' E' cs x:=
 fun W2 h2 => h W2 (((Rep.only_of_below hb).mono (by simp)).then h2 hE)
theorem RetJ.lit8 {w w' : World} {a : Int} {b : ByteArray} {p : Int} {q : ByteArray} {e f g m : Int} {y : Bool} {en : Ending} (h : RetJ w (⟨⟨a,b,p,q,e,f⟩,g,m⟩,y) en w') : en = .returned (.tuple #[.agg #[.int .i64 a,.string b,.int .i64 p,.string q,.int .i64 e,.int .i64 f,.int .i64 g,.int .i64 m],.bool y])∧Below w.heap.size w w':=h
theorem Aj8 {W : World} {R : Nat} {k0 : Known} {g m : Int} (h : W.heap[R]? = some (.cells (Y7 ⟨k0,g,m⟩).toArray 37 (0,0))) (a : Int) (b : ByteArray) (p : Int) (q : ByteArray) (e f : Int) : ((((((W.setCell ⟨R,0,none⟩ (.int .i64 a)).setCell ⟨R,1,none⟩ (.string b)).setCell ⟨R,2,none⟩ (.int .i64 p)).setCell ⟨R,3,none⟩ (.string q)).setCell ⟨R,4,none⟩ (.int .i64 e)).setCell ⟨R,5,none⟩ (.int .i64 f)).heap[R]? = some (.cells (Y7 ⟨⟨a,b,p,q,e,f⟩,g,m⟩).toArray 37 (0,0)):=by
 obtain ⟨a0,b0,p0,q0,e0,f0⟩:=k0;exact N9 (N9 (N9 (N9 (N9 (N9 h 0 (.int .i64 a)) 1 (.string b)) 2 (.int .i64 p)) 3 (.string q)) 4 (.int .i64 e)) 5 (.int .i64 f)
theorem Xi9 (w : World) (D : Nat) (a : Int) (b : ByteArray) (p : Int) (q : ByteArray) (e f : Int) : Rep.Only w ((((((w.setCell ⟨D,0,none⟩ (.int .i64 a)).setCell ⟨D,1,none⟩ (.string b)).setCell ⟨D,2,none⟩ (.int .i64 p)).setCell ⟨D,3,none⟩ (.string q)).setCell ⟨D,4,none⟩ (.int .i64 e)).setCell ⟨D,5,none⟩ (.int .i64 f)) [D]:=Ke9 w D a b p q e f
noncomputable def X8 (d : Disk) (g p : Int) (r : Rec) : Disk:=S9 (U9 d (atP g p) (Ah9 g p r))
theorem Ly9 {d : Disk} (h : Ag9 d) (g p : Int) (r : Rec) : Ag9 (X8 d g p r):=Dm9 (Ar9 h _ (by have:=Ex9 g p r;omega))
noncomputable def Ij9 (d : Disk) (j : Jour) (r : Rec) : Disk × Bool:=(X8 d j.g j.place r,!(X8 d j.g j.place r).down)
noncomputable def Ce9 (d : Disk) (r : Rec) : Disk × Bool:=
 if (R7 d).2 = true∧(K8 (R7 d).1.k r).2 = true∧d.down = false then
  if (R7 d).1.place = 18 then
     if (R7 d).1.g = 60000 then (d,false)
     else Ij9 (Ct9 d (R7 d).1) ⟨(R7 d).1.k,(R7 d).1.g + 1,((V9 (R7 d).1.k).length : Int)⟩ r
  else Ij9 d (R7 d).1 r
 else (d,false)
theorem Md9 {d : Disk} {r : Rec} {j : Jour} {n : Known} {ok yes : Bool} (hp : R7 d = (j,ok)) (ha : K8 j.k r = (n,yes)) (h : ¬ (ok = true∧yes = true∧d.down = false)) : Ce9 d r = (d,false):=by
 unfold Ce9;rw [hp];exact if_neg (fun h9 => h ⟨h9.1,by have:=h9.2.1;rw [show ((j,ok).1 : Jour).k = j.k from rfl,ha] at this;exact this,h9.2.2⟩)
theorem Sg9 {d : Disk} {r : Rec} {j : Jour} {n : Known} (hp : R7 d = (j,true)) (ha : K8 j.k r = (n,true)) (hd : d.down = false) (hm : j.place = 18) (hg : j.g = 60000) : Ce9 d r = (d,false):=by
 unfold Ce9;rw [hp];rw [if_pos ⟨rfl,by rw [show ((j,true).1 : Jour).k = j.k from rfl,ha],hd⟩]
 show (if j.place = 18 then _ else _) = _
 rw [if_pos hm];show (if j.g = 60000 then _ else _) = _
 rw [if_pos hg]
theorem Qr9 {d : Disk} {r : Rec} {j : Jour} {n : Known} (hp : R7 d = (j,true)) (ha : K8 j.k r = (n,true)) (hd : d.down = false) (hm : j.place = 18) (hg : j.g ≠ 60000) : Ce9 d r = Ij9 (Ct9 d j) ⟨j.k,j.g + 1,((V9 j.k).length : Int)⟩ r:=by
 unfold Ce9;rw [hp];rw [if_pos ⟨rfl,by rw [show ((j,true).1 : Jour).k = j.k from rfl,ha],hd⟩]
 show (if j.place = 18 then _ else _) = _
 rw [if_pos hm];show (if j.g = 60000 then _ else _) = _
 rw [if_neg hg]
theorem Nb9 {d : Disk} {r : Rec} {j : Jour} {n : Known} (hp : R7 d = (j,true)) (ha : K8 j.k r = (n,true)) (hd : d.down = false) (hm : j.place ≠ 18) : Ce9 d r = Ij9 d j r:=by
 unfold Ce9;rw [hp];rw [if_pos ⟨rfl,by rw [show ((j,true).1 : Jour).k = j.k from rfl,ha],hd⟩]
 show (if j.place = 18 then _ else _) = _
 rw [if_neg hm]
theorem Mn9 {d : Disk} {j : Jour} (h : R7 d = (j,true)) : 0 < j.g:=by
 unfold R7 at h;split at h
 ·injection h with h1 h2
  rw [h1] at h2;exact of_decide_eq_true h2
 ·injection h with _ h;cases h
structure AB (w : World) (dv : List Value) (r : Rec) (DO DJ : Nat) (a b cc dd : Value) (x : Disk) (j : Jour) (W : World) : Prop where
 below : Below w.heap.size w W
 dbox : W.heap[w.heap.size]? = some (.cells dv.toArray 27 (0,0))
 rbox : W.heap[w.heap.size + 1]? = some (.cells (M8 r).toArray 29 (0,0))
 zbox : W.heap[w.heap.size + 2]? = some (.cells [.slice none 0 0,.slice none 0 0,.int .i64 0,.bool false].toArray 27 (0,0))
 obox : W.heap[DO]? = some (.cells [a,b,cc,dd].toArray 27 (0,0))
 jbox : W.heap[DJ]? = some (.cells (Y7 j).toArray 37 (0,0))
 own : ∃ (base : Nat) (fp : List Nat),diskR.own W base [a,b,cc,dd] x fp∧w.heap.size + 2 < base∧DO ∉ fp∧DJ ∉ fp
 lto : w.heap.size + 2 < DO
 ltj : DO < DJ
section
variable {w W W' : World} {dv : List Value} {r : Rec} {DO DJ : Nat} {a b cc dd a' b' cc' dd' : Value} {x x' : Disk} {j j' : Jour}
theorem AB.lt (h : AB w dv r DO DJ a b cc dd x j W) : DJ < W.heap.size:=(Array.getElem?_eq_some_iff.1 h.jbox).1
theorem AB.at (h : AB w dv r DO DJ a b cc dd x j W) : diskR.at_ W W.heap.size [a,b,cc,dd] x:=by
 obtain ⟨base,fp,ho,_⟩:=h.own;exact Rep.reads diskR ho
theorem AB.still (h : AB w dv r DO DJ a b cc dd x j W) (ho : Rep.Only W W' [DO,DJ]) : ∃ (base : Nat) (fp : List Nat),diskR.own W' base [a,b,cc,dd] x fp∧w.heap.size + 2 < base∧DO ∉ fp∧DJ ∉ fp:=by
 obtain ⟨base,fp,h1,h2,h3,h4⟩:=h.own;refine ⟨base,fp,Rep.own_only h1 ho (fun a ha hb => ?_),h2,h3,h4⟩
 simp at hb;rcases hb with rfl | rfl
 ·exact h3 ha
 ·exact h4 ha
theorem AB.fin (h : AB w dv r DO DJ a b cc dd x j W) (u0 u1 u2 u3 : Value) : ∃ fp,diskR.own ((((W.setCell ⟨w.heap.size + 2,0,none⟩ u0).setCell ⟨w.heap.size + 2,1,none⟩ u1).setCell ⟨w.heap.size + 2,2,none⟩ u2).setCell ⟨w.heap.size + 2,3,none⟩ u3) w.heap.size [a,b,cc,dd] x fp∧Below w.heap.size w ((((W.setCell ⟨w.heap.size + 2,0,none⟩ u0).setCell ⟨w.heap.size + 2,1,none⟩ u1).setCell ⟨w.heap.size + 2,2,none⟩ u2).setCell ⟨w.heap.size + 2,3,none⟩ u3):=by
 obtain ⟨base,fp,h1,h2,h3,h4⟩:=h.own;have hw:=Aa9 W (w.heap.size + 2) u0 u1 u2 u3;exact ⟨fp,Rep.low diskR (Rep.own_only h1 hw (fun a ha hb => by have:=(Rep.lt diskR h1 a ha).1;simp at hb;omega)) (by omega),Rep.Only.below h.below hw h.below.size (fun a ha => by simp at ha;omega)⟩
theorem AB.step (h : AB w dv r DO DJ a b cc dd x j W) (ho : Rep.Only W W' [DO,DJ]) (hb : W'.heap[DO]? = some (.cells [a',b',cc',dd'].toArray 27 (0,0))) (hj : W'.heap[DJ]? = some (.cells (Y7 j').toArray 37 (0,0))) (hf : ∃ (base : Nat) (fp : List Nat),diskR.own W' base [a',b',cc',dd'] x' fp∧w.heap.size + 2 < base∧DO ∉ fp∧DJ ∉ fp) : AB w dv r DO DJ a' b' cc' dd' x' j' W':=by
 have h1:=h.lto;have h2:=h.ltj;have h3:=h.lt;exact ⟨Rep.Only.below h.below ho h.below.size (fun a ha => by simp at ha;omega),(ho.block _ (by omega) (by simp;omega)).trans h.dbox,(ho.block _ (by omega) (by simp;omega)).trans h.rbox,(ho.block _ (by omega) (by simp;omega)).trans h.zbox,hb,hj,hf,h1,h2⟩
theorem AB.later (h : AB w dv r DO DJ a b cc dd x j W) (hb : Below W.heap.size W W') : AB w dv r DO DJ a b cc dd x j W':=by
 have h2:=h.ltj;have h3:=h.lt;exact h.step ((Rep.only_of_below hb).mono (by simp)) ((hb.block _ (by omega)).trans h.obox) ((hb.block _ h3).trans h.jbox) (h.still ((Rep.only_of_below hb).mono (by simp)))
instance AB.keeps (w : World) (dv : List Value) (r : Rec) (DO DJ : Nat) (a b cc dd : Value) (x : Disk) (j : Jour) : Keeps (fun W => AB w dv r DO DJ a b cc dd x j W):=⟨fun h x => x.later h⟩
theorem AB.putO (h : AB w dv r DO DJ a b cc dd x j W) {base : Nat} {fp : List Nat} (ho : diskR.own W base [a',b',cc',dd'] x' fp) (hb : DJ < base) : AB w dv r DO DJ a' b' cc' dd' x' j ((((W.setCell ⟨DO,0,none⟩ a').setCell ⟨DO,1,none⟩ b').setCell ⟨DO,2,none⟩ cc').setCell ⟨DO,3,none⟩ dd'):=by
 have h1:=h.lto;have h2:=h.ltj;have h3:=h.lt;have hw:=Aa9 W DO a' b' cc' dd';refine h.step (hw.mono (by simp)) (Im9 h.obox a' b' cc' dd') ((hw.block _ h3 (by simp;omega)).trans h.jbox) ⟨base,fp,Rep.own_only ho hw (fun a ha hm => ?_),by omega,fun hm => ?_,fun hm => ?_⟩
 ·have:=(Rep.lt diskR ho _ ha).1
  simp at hm;omega
 ·have:=(Rep.lt diskR ho _ hm).1
  omega
 ·have:=(Rep.lt diskR ho _ hm).1
  omega
end
theorem AB.putJK {w W : World} {dv : List Value} {r : Rec} {DO DJ : Nat} {a b cc dd : Value} {x : Disk} {k0 : Known} {g m : Int} (h : AB w dv r DO DJ a b cc dd x ⟨k0,g,m⟩ W) (ka : Int) (kb : ByteArray) (kp : Int) (kq : ByteArray) (ke kf : Int) : AB w dv r DO DJ a b cc dd x ⟨⟨ka,kb,kp,kq,ke,kf⟩,g,m⟩ ((((((W.setCell ⟨DJ,0,none⟩ (.int .i64 ka)).setCell ⟨DJ,1,none⟩ (.string kb)).setCell ⟨DJ,2,none⟩ (.int .i64 kp)).setCell ⟨DJ,3,none⟩ (.string kq)).setCell ⟨DJ,4,none⟩ (.int .i64 ke)).setCell ⟨DJ,5,none⟩ (.int .i64 kf)):=by
 have h2:=h.ltj;have h3:=h.lt;have hw:=Xi9 W DJ ka kb kp kq ke kf;exact h.step (hw.mono (by simp)) ((hw.block _ (by omega) (by simp;omega)).trans h.obox) (Aj8 h.jbox ka kb kp kq ke kf) (h.still (hw.mono (by simp)))
def Jc9 (w : World) (p : Disk × Bool) (e : Ending) (w' : World) : Prop:=∃ cs fp,e = .returned (.tuple #[.agg cs.toArray,.bool p.2])∧diskR.own w' w.heap.size cs p.1 fp∧Below w.heap.size w w'
set_option maxRecDepth 2000000 in
theorem Go9 (cs : List Value) (d : Disk) (r : Rec) (w : World) (h : diskR.at_ w w.heap.size cs d) (hf : Ag9 d) (hg : Given w) (hrs : r.text.size ≤ 1048576) :
 Calls Tryz.prog 7 #[.agg cs.toArray,.agg (M8 r).toArray] w (Jc9 w (Ce9 d r)):=by
 obtain ⟨rk,rn,ro,rt⟩:=r;obtain ⟨A,c,B,e,rfl⟩:=G7 h;have HG:=Lib.hid hg;have HD:=Lib.hid h;have HRS:=Lib.hid hrs;have hb0 : Below w.heap.size w (((w.alloc (.cells #[.slice A d.secs.length c,.slice B d.cache.length e,.int .i64 d.fuse,.bool d.down] 27)).alloc (.cells #[.int .i64 rk,.int .i64 rn,.int .i64 ro,.string rt] 29)).alloc (.cells #[.slice none 0 0,.slice none 0 0,.int .i64 0,.bool false] 27)):=Later.trans (Later.trans (Later.alloc w _) (Later.alloc _ _)) (Later.alloc _ _);have hs0 : (((w.alloc (.cells #[.slice A d.secs.length c,.slice B d.cache.length e,.int .i64 d.fuse,.bool d.down] 27)).alloc (.cells #[.int .i64 rk,.int .i64 rn,.int .i64 ro,.string rt] 29)).alloc (.cells #[.slice none 0 0,.slice none 0 0,.int .i64 0,.bool false] 27)).heap.size = w.heap.size + 3:=by simp
 have hd0 : (((w.alloc (.cells #[.slice A d.secs.length c,.slice B d.cache.length e,.int .i64 d.fuse,.bool d.down] 27)).alloc (.cells #[.int .i64 rk,.int .i64 rn,.int .i64 ro,.string rt] 29)).alloc (.cells #[.slice none 0 0,.slice none 0 0,.int .i64 0,.bool false] 27)).heap[w.heap.size]? = some (.cells [.slice A d.secs.length c,.slice B d.cache.length e,.int .i64 d.fuse,.bool d.down].toArray 27 (0,0)):=(Below.heap_alloc _ _ _ (by simp;omega)).trans ((Below.heap_alloc _ _ _ (by simp)).trans (heap_alloc_new w _))
 have hr0 : (((w.alloc (.cells #[.slice A d.secs.length c,.slice B d.cache.length e,.int .i64 d.fuse,.bool d.down] 27)).alloc (.cells #[.int .i64 rk,.int .i64 rn,.int .i64 ro,.string rt] 29)).alloc (.cells #[.slice none 0 0,.slice none 0 0,.int .i64 0,.bool false] 27)).heap[w.heap.size + 1]? = some (.cells (M8 ⟨rk,rn,ro,rt⟩).toArray 29 (0,0)):=(Below.heap_alloc _ _ _ (by simp)).trans (G9 _ _ (by simp))
 have hz0 : (((w.alloc (.cells #[.slice A d.secs.length c,.slice B d.cache.length e,.int .i64 d.fuse,.bool d.down] 27)).alloc (.cells #[.int .i64 rk,.int .i64 rn,.int .i64 ro,.string rt] 29)).alloc (.cells #[.slice none 0 0,.slice none 0 0,.int .i64 0,.bool false] 27)).heap[w.heap.size + 2]? = some (.cells [.slice none 0 0,.slice none 0 0,.int .i64 0,.bool false].toArray 27 (0,0)):=G9 _ _ (by simp)
 clear h hg hrs;show Calls Tryz.prog 7 #[.agg #[.slice A d.secs.length c,.slice B d.cache.length e,.int .i64 d.fuse,.bool d.down],.agg #[.int .i64 rk,.int .i64 rn,.int .i64 ro,.string rt]] w _
 go_enter Tryz.func7,Tryz.ntmps7
 go_upto_region 1 with (fail)
 generalize ((w.alloc (.cells #[.slice A d.secs.length c,.slice B d.cache.length e,.int .i64 d.fuse,.bool d.down] 27)).alloc (.cells #[.int .i64 rk,.int .i64 rn,.int .i64 ro,.string rt] 29)).alloc (.cells #[.slice none 0 0,.slice none 0 0,.int .i64 0,.bool false] 27) = W0 at hb0 hs0 hd0 hr0 hz0 ⊢;have T : All (fun w' => (Below w.heap.size w w'∧w.heap.size + 2 < w'.heap.size)∧Hid (w'.heap[w.heap.size]? = some (.cells [.slice A d.secs.length c,.slice B d.cache.length e,.int .i64 d.fuse,.bool d.down].toArray 27 (0,0)))∧Hid (w'.heap[w.heap.size + 1]? = some (.cells (M8 ⟨rk,rn,ro,rt⟩).toArray 29 (0,0)))∧Hid (w'.heap[w.heap.size + 2]? = some (.cells [.slice none 0 0,.slice none 0 0,.int .i64 0,.bool false].toArray 27 (0,0)))) W0:=⟨⟨hb0,by omega⟩,Lib.hid hd0,Lib.hid hr0,Lib.hid hz0⟩
 clear hb0 hs0 hd0 hr0 hz0;obtain ⟨d0,d1,d2,d3⟩:=Q8 T.out.2.1.out;go_wp2_with fail;clear d0 d1 d2 d3;refine (Kh9 [.slice A d.secs.length c,.slice B d.cache.length e,.int .i64 d.fuse,.bool d.down] d W0 (Keeps.keeps (F:=fun w' => diskR.at_ w' w'.heap.size [.slice A d.secs.length c,.slice B d.cache.length e,.int .i64 d.fuse,.bool d.down] d) T.out.1.1 HD.out) hf).mono ?_
 rintro e1 W1 ⟨cs1,fp1,rfl,O1,hb⟩;obtain ⟨A1,c1,B1,f1,rfl⟩:=Q9 O1;have hW0:=T.out.1.2;replace T:=T.later hb;have hb1:=Later.alloc W1 (.cells #[.slice A1 d.secs.length c1,.slice B1 d.cache.length f1,.int .i64 d.fuse,.bool d.down] 27);have hF1 : diskR.own (W1.alloc (.cells #[.slice A1 d.secs.length c1,.slice B1 d.cache.length f1,.int .i64 d.fuse,.bool d.down] 27)) W0.heap.size [.slice A1 d.secs.length c1,.slice B1 d.cache.length f1,.int .i64 d.fuse,.bool d.down] d fp1:=Rep.own_below O1 hb1;have hfp1 : ∀ a,a ∈ fp1→w.heap.size + 2 < a∧a < W1.heap.size:=fun a ha => by have:=Rep.lt diskR O1 a ha;omega
 have HFP1:=Lib.hid hfp1;have hbs : w.heap.size + 2 < W0.heap.size:=hW0;have hO1:=heap_alloc_new W1 (.cells #[.slice A1 d.secs.length c1,.slice B1 d.cache.length f1,.int .i64 d.fuse,.bool d.down] 27);have hlo : w.heap.size + 2 < W1.heap.size:=T.out.1.2;replace T:=T.later hb1;clear hb hb1 hW0 hfp1;go_upto_region 2 with (fail)
 clear O1;generalize W1.alloc (.cells #[.slice A1 d.secs.length c1,.slice B1 d.cache.length f1,.int .i64 d.fuse,.bool d.down] 27) = W2 at hF1 hO1 T ⊢;generalize W1.heap.size = DO at hF1 hO1 hlo HFP1 ⊢;obtain ⟨⟨⟨⟨ja,jb,jp,jq,je,jf⟩,jg,jm⟩,ok⟩,hp⟩ : ∃ p,R7 d = p:=⟨_,rfl⟩;have hgd:=Eo9 d;rw [hp] at hgd;have HP:=Lib.hid hp;obtain ⟨hkg,⟨hg0,hg1⟩,hm0,hm1⟩:=hgd;replace hg0 : 0 ≤ jg:=hg0;replace hg1 : jg ≤ 60000:=hg1;replace hm0 : 0 ≤ jm:=hm0;replace hm1 : jm ≤ 18:=hm1;have HKG:=Lib.hid hkg;clear hp hkg;have HF1:=Lib.hid hF1;have HO1:=Lib.hid hO1;clear hF1 hO1;obtain ⟨d0,d1,d2,d3⟩:=Q8 T.out.2.1.out;go_wp2_with fail;clear d0 d1 d2 d3;refine (Dj9 [.slice A d.secs.length c,.slice B d.cache.length e,.int .i64 d.fuse,.bool d.down] d W2 (Keeps.keeps (F:=fun w' => diskR.at_ w' w'.heap.size [.slice A d.secs.length c,.slice B d.cache.length e,.int .i64 d.fuse,.bool d.down] d) T.out.1.1 HD.out) hf (Keeps.keeps (F:=Given) T.out.1.1 HG.out)).mono ?_
 rw [HP.out];rintro e2 W3 hret;obtain ⟨rfl,hb⟩:=hret.lit8;replace T:=T.later hb;have hDO2 : DO < W2.heap.size:=(Array.getElem?_eq_some_iff.1 HO1.out).1;have hDO3 : DO < W3.heap.size:=Nat.lt_of_lt_of_le hDO2 hb.size;have hb4:=Later.alloc W3 (.cells #[.int .i64 ja,.string jb,.int .i64 jp,.string jq,.int .i64 je,.int .i64 jf,.int .i64 jg,.int .i64 jm] 37);have P : AB w [.slice A d.secs.length c,.slice B d.cache.length e,.int .i64 d.fuse,.bool d.down] ⟨rk,rn,ro,rt⟩ DO W3.heap.size (.slice A1 d.secs.length c1) (.slice B1 d.cache.length f1) (.int .i64 d.fuse) (.bool d.down) d ⟨⟨ja,jb,jp,jq,je,jf⟩,jg,jm⟩ (W3.alloc (.cells #[.int .i64 ja,.string jb,.int .i64 jp,.string jq,.int .i64 je,.int .i64 jf,.int .i64 jg,.int .i64 jm] 37)):=
  ⟨(T.later hb4).out.1.1,(T.later hb4).out.2.1.out,(T.later hb4).out.2.2.1.out,(T.later hb4).out.2.2.2.out,(hb4.block _ hDO3).trans ((hb.block _ hDO2).trans HO1.out),heap_alloc_new W3 _,⟨_,fp1,Rep.own_below HF1.out (Later.trans hb hb4),hbs,fun hm => by have:=HFP1.out _ hm;omega,fun hm => by have:=HFP1.out _ hm;omega⟩,hlo,hDO3⟩
 clear hret hb hb4 T HF1 HO1 hDO2 hDO3;go_upto_region 3 with (fail)
 generalize W3.alloc (.cells #[.int .i64 ja,.string jb,.int .i64 jp,.string jq,.int .i64 je,.int .i64 jf,.int .i64 jg,.int .i64 jm] 37) = W4 at P ⊢;generalize W3.heap.size = DJ at P ⊢;obtain ⟨⟨⟨na,nb,np,nq,ne,nf⟩,yes⟩,hap⟩ : ∃ p,K8 ⟨ja,jb,jp,jq,je,jf⟩ ⟨rk,rn,ro,rt⟩ = p:=⟨_,rfl⟩;have HAP:=Lib.hid hap;clear hap;obtain ⟨j0,j1,j2,j3,j4,j5,j6,j7⟩:=G8 P.jbox;obtain ⟨r0,r1,r2,r3⟩:=J9 P.rbox;have hl1:=P.lto;have hl2:=P.ltj;have hl3:=P.lt;go_wp2_with fail;clear j0 j1 j2 j3 j4 j5 j6 j7 r0 r1 r2 r3 hl1 hl2 hl3;refine (Qm9 ⟨ja,jb,jp,jq,je,jf⟩ ⟨rk,rn,ro,rt⟩ W4).mono ?_;rw [HAP.out];rintro e3 W5 hret;obtain ⟨rfl,hb⟩:=hret.lit6;replace P:=P.later hb;have hDK : DJ < W5.heap.size:=P.lt;have hK:=heap_alloc_new W5 (.cells #[.int .i64 na,.string nb,.int .i64 np,.string nq,.int .i64 ne,.int .i64 nf] 35);replace P:=P.later (Later.alloc W5 (.cells #[.int .i64 na,.string nb,.int .i64 np,.string nq,.int .i64 ne,.int .i64 nf] 35));clear hret hb;go_upto_region 4 with (fail)
 generalize W5.alloc (.cells #[.int .i64 na,.string nb,.int .i64 np,.string nq,.int .i64 ne,.int .i64 nf] 35) = W6 at P hK ⊢;generalize W5.heap.size = DK at hK hDK ⊢;have HK:=Lib.hid hK;clear hK;by_cases hok : ok = true∧yes = true∧d.down = false
 ·obtain ⟨rfl,rfl,hdn⟩:=hok
  have HPOS:=Lib.hid (Mn9 HP.out);have HDN:=Lib.hid hdn;obtain ⟨d0,d1,d2,d3⟩:=Q8 P.dbox;rw [hdn] at d3;obtain ⟨j0,j1,j2,j3,j4,j5,j6,j7⟩:=G8 P.jbox;have hl1:=P.lto;have hl2:=P.ltj;have hl3:=P.lt;go_upto_if 38 with (fail)
  clear d0 d1 d2 d3 hl1 hl2 hl3 hdn;go_cut [6] from 11 (fun v W' => ∃ (va vb vc vd : Value) (x : Disk) (xg xm : Int),v = .pointer (some ⟨DO,0,none⟩)∧AB w [.slice A d.secs.length c,.slice B d.cache.length e,.int .i64 d.fuse,.bool d.down] ⟨rk,rn,ro,rt⟩ DO DJ va vb vc vd x ⟨⟨ja,jb,jp,jq,je,jf⟩,xg,xm⟩ W'∧Hid (W'.heap[DK]? = some (.cells (T9 ⟨na,nb,np,nq,ne,nf⟩).toArray 35 (0,0)))∧Hid (Ag9 x)∧Hid (Ce9 d ⟨rk,rn,ro,rt⟩ = Ij9 x ⟨⟨ja,jb,jp,jq,je,jf⟩,xg,xm⟩ ⟨rk,rn,ro,rt⟩)∧(1 ≤ xg∧xg ≤ 60000)∧(0 ≤ xm∧xm ≤ 18))
  case first =>
     by_cases hm18 : jm = 18
     ·have b18 : (jm == 18) = true:=by simpa using hm18
      by_cases hg60 : jg = 60000
      ·have b60 : (jg == 60000) = true:=by simpa using hg60
       have hval : Ce9 d ⟨rk,rn,ro,rt⟩ = (d,false):=Sg9 HP.out HAP.out HDN.out hm18 hg60;obtain ⟨fpr,hown,hbel⟩:=P.fin (.slice A1 d.secs.length c1) (.slice B1 d.cache.length f1) (.int .i64 d.fuse) (.bool d.down);have hret : Jc9 w (d,false) (.returned (.tuple #[.agg #[.slice A1 d.secs.length c1,.slice B1 d.cache.length f1,.int .i64 d.fuse,.bool d.down],.bool false])) _:=⟨[.slice A1 d.secs.length c1,.slice B1 d.cache.length f1,.int .i64 d.fuse,.bool d.down],fpr,rfl,hown,hbel⟩;have HV:=Lib.hid hval;have HRET:=Lib.hid hret;obtain ⟨u0,u1,u2,u3⟩:=Q8 P.obox;obtain ⟨z0,z1,z2,z3⟩:=Q8 P.zbox;have zf0:=C9 P.zbox 0;have zf1:=C9 P.zbox 1;have zf2:=C9 P.zbox 2;have zf3:=C9 P.zbox 3;have hl1:=P.lto;have hl2:=P.ltj;have hl3:=P.lt;clear P hval hret hown hbel;go_wp2_with fail;exact bodyPost_ret (v:=.tuple #[.agg #[.slice A1 d.secs.length c1,.slice B1 d.cache.length f1,.int .i64 d.fuse,.bool d.down],.bool false]) (by simp [results,Tryz.results7,go_sem,z0,z1,z2,z3]) rfl (by rw [HV.out];exact HRET.out)
      ·have b60 : (jg == 60000) = false:=by simpa using hg60
       have HVAL:=Lib.hid (Qr9 HP.out HAP.out HDN.out hm18 hg60);have hg59 : jg ≤ 59999:=by omega
       clear hm18 hg60;obtain ⟨u0,u1,u2,u3⟩:=Q8 P.obox;have hsm : ∀ r,r ∈ V9 ⟨ja,jb,jp,jq,je,jf⟩→r.text.size ≤ 1048576:=fun r hr => by have:=Nd9 (Fu9 HKG.out) r hr;omega
       have HSM:=Lib.hid hsm;clear hsm;have hl1:=P.lto;have hl2:=P.ltj;have hl3:=P.lt;go_wp2_with fail;clear u0 u1 u2 u3 j0 j1 j2 j3 j4 j5 j6 j7;refine (Xp9 [.slice A1 d.secs.length c1,.slice B1 d.cache.length f1,.int .i64 d.fuse,.bool d.down] d ⟨⟨ja,jb,jp,jq,je,jf⟩,jg,jm⟩ DJ W6 P.at hf (Keeps.keeps (F:=Given) P.below HG.out) P.jbox hg0 hg59 HSM.out).mono ?_;obtain ⟨dl,hdl⟩ : ∃ x,Ct9 d ⟨⟨ja,jb,jp,jq,je,jf⟩,jg,jm⟩ = x:=⟨_,rfl⟩;obtain ⟨nl,hnl⟩ : ∃ x,(V9 ⟨ja,jb,jp,jq,je,jf⟩).length = x:=⟨_,rfl⟩;have hn4 : nl ≤ 4:=by rw [← hnl];exact Ca9 _
       have HV2:=HVAL.out;rw [hdl] at HV2;rw [hdl];have HFL:=Lib.hid (show Ag9 dl by rw [← hdl];exact Mt9 hf _)
       clear hdl;replace HV2:=Lib.hid HV2;rintro e5 W7 ⟨cs7,fp7,rfl,O7,hj7,ho7⟩;replace hj7 : W7.heap[DJ]? = some (.cells (Y7 ⟨⟨ja,jb,jp,jq,je,jf⟩,jg + 1,((V9 ⟨ja,jb,jp,jq,je,jf⟩).length : Int)⟩).toArray 37 (0,0)):=hj7;replace HV2:=Lib.hid (show Ce9 d ⟨rk,rn,ro,rt⟩ = Ij9 dl ⟨⟨ja,jb,jp,jq,je,jf⟩,jg + 1,((V9 ⟨ja,jb,jp,jq,je,jf⟩).length : Int)⟩ ⟨rk,rn,ro,rt⟩ from HV2.out)
       rw [hnl] at hj7 HV2;clear hnl HVAL;obtain ⟨A7,c7,B7,f7,rfl⟩:=Q9 O7;have hK7:=(ho7.block DK (Array.getElem?_eq_some_iff.1 HK.out).1 (by simp;omega)).trans HK.out
       have P7:=P.step (ho7.mono (by simp)) ((ho7.block DO (by omega) (by simp;omega)).trans P.obox) hj7 (P.still (ho7.mono (by simp)))
       have P8:=P7.putO O7 hl3;have hK8:=((Aa9 W7 DO (.slice A7 dl.secs.length c7) (.slice B7 dl.cache.length f7) (.int .i64 dl.fuse) (.bool dl.down)).block DK (Array.getElem?_eq_some_iff.1 hK7).1 (by simp;omega)).trans hK7
       have HK8:=Lib.hid hK8;obtain ⟨u0,u1,u2,u3⟩:=Q8 P7.obox;have uf0:=C9 P7.obox 0;have uf1:=C9 P7.obox 1;have uf2:=C9 P7.obox 2;have uf3:=C9 P7.obox 3;have hl7:=P7.lt;clear P P7 O7 hj7 ho7 hK7 hK8;go_wp2_with fail;go_meet
       case rel => exact ⟨_,_,_,_,dl,jg + 1,(nl : Int),rfl,P8,HK8,HFL,HV2,⟨by omega,by omega⟩,⟨by omega,by omega⟩⟩
     ·have b18 : (jm == 18) = false:=by simpa using hm18
      have HVAL:=Lib.hid (Nb9 HP.out HAP.out HDN.out hm18);clear hm18;have hpos:=HPOS.out;replace hpos : 0 < jg:=hpos;go_wp2_with fail;go_meet
      case rel => exact ⟨_,_,_,_,d,jg,jm,rfl,P,HK,Lib.hid hf,HVAL,⟨by omega,by omega⟩,⟨by omega,by omega⟩⟩
  case rest =>
     clear P HK j0 j1 j2 j3 j4 j5 j6 j7 HPOS HDN;obtain ⟨va,vb,vc,vd,x,xg,xm,rfl,P,HK,HFX,HVAL,⟨xg1,xg2⟩,xm1,xm2⟩:=hcut;obtain ⟨k0,k1,k2,k3,k4,k5⟩:=I9 (r:=⟨na,nb,np,nq,ne,nf⟩) HK.out;obtain ⟨j0,j1,j2,j3,j4,j5,j6,j7⟩:=G8 P.jbox;have jf0:=C9 P.jbox 0;have jf1:=C9 P.jbox 1;have jf2:=C9 P.jbox 2;have jf3:=C9 P.jbox 3;have jf4:=C9 P.jbox 4;have jf5:=C9 P.jbox 5;have hl1:=P.lto;have hl2:=P.ltj;have hl3:=P.lt;have P2:=P.putJK na nb np nq ne nf;clear P;go_upto_region 11 with (fail)
     generalize ((((((wc.setCell ⟨DJ,0,none⟩ (.int .i64 na)).setCell ⟨DJ,1,none⟩ (.string nb)).setCell ⟨DJ,2,none⟩ (.int .i64 np)).setCell ⟨DJ,3,none⟩ (.string nq)).setCell ⟨DJ,4,none⟩ (.int .i64 ne)).setCell ⟨DJ,5,none⟩ (.int .i64 nf)) = WT at P2 ⊢;clear k0 k1 k2 k3 k4 k5 j0 j1 j2 j3 j4 j5 j6 j7 jf0 jf1 jf2 jf3 jf4 jf5 hl3;have S : All (fun w' => AB w [.slice A d.secs.length c,.slice B d.cache.length e,.int .i64 d.fuse,.bool d.down] ⟨rk,rn,ro,rt⟩ DO DJ va vb vc vd x ⟨⟨na,nb,np,nq,ne,nf⟩,xg,xm⟩ w'∧w'.heap[DO]? = some (.cells [va,vb,vc,vd].toArray 27 (0,0))∧w'.heap[DJ]? = some (.cells (Y7 ⟨⟨na,nb,np,nq,ne,nf⟩,xg,xm⟩).toArray 37 (0,0))∧w'.heap[w.heap.size + 1]? = some (.cells (M8 ⟨rk,rn,ro,rt⟩).toArray 29 (0,0))) WT:=⟨P2,P2.obox,P2.jbox,P2.rbox⟩
     clear P2;refine M9 14 [0,1,2,3,4,6,7,8,9,10] [5,11,12,13,14] (fun w' => w'.heap[DO]? = some (.cells [va,vb,vc,vd].toArray 27 (0,0))∧w'.heap[DJ]? = some (.cells (Y7 ⟨⟨na,nb,np,nq,ne,nf⟩,xg,xm⟩).toArray 37 (0,0))∧w'.heap[w.heap.size + 1]? = some (.cells (M8 ⟨rk,rn,ro,rt⟩).toArray 29 (0,0))) (by kernel_rfl) (by kernel_rfl) S.drew.out.2 ?_
     replace S:=S.drew;iterate 10 (refine LexR.cons rfl ?_ (fun w' hw => ?_) ?_;rotate_left;focus (obtain ⟨hw1,hw2,hw3⟩:=hw;obtain ⟨u0,u1,u2,u3⟩:=Q8 hw1;obtain ⟨j0,j1,j2,j3,j4,j5,j6,j7⟩:=G8 hw2;obtain ⟨r0,r1,r2,r3⟩:=J9 hw3;clear hw1 hw2 hw3;go_simp;(try exact rfl));(try go_frame))
     refine LexR.nil (LexW.cons rfl ?_);try go_frame
     generalize WT.drew = V0 at S ⊢;go_wp2_with fail;refine (Lq9 xg xm V0 (by omega) (by omega)).mono ?_
     rintro e7 V1 ⟨rfl,rfl⟩;go_wp2_with fail;refine ⟨fun _ => S.out.2,LexW.cons rfl ?_⟩
     try go_frame
     go_wp2_with fail;refine (Mj9 xg xm ⟨rk,rn,ro,rt⟩ V0 (Keeps.keeps (F:=Given) S.out.1.below HG.out) HRS.out).mono ?_;have hpl:=Ex9 xg xm ⟨rk,rn,ro,rt⟩;obtain ⟨l3,hl3⟩ : ∃ l,Ah9 xg xm ⟨rk,rn,ro,rt⟩ = l:=⟨_,rfl⟩;rw [hl3] at hpl ⊢;have HL3:=Lib.hid hl3;clear hl3;rintro e8 V2 ⟨v2,rfl,o2,hb⟩;obtain ⟨A5,c5,rfl,hk5,hm5,r5,_⟩:=o2.shape;replace S:=S.later hb;clear hb o2;go_wp2_with fail;refine ⟨fun _ => S.out.2,LexW.cons rfl ?_⟩
     try go_frame
     go_wp2_with fail;refine (Dh9 [va,vb,vc,vd] [.slice A5 l3.length c5] x (atP xg xm) l3 V2 S.out.1.at ⟨A5,c5,rfl,⟨hk5,hm5⟩,r5⟩ HFX.out (by omega) (Ie9 xg1 xg2 xm1 xm2)).mono ?_
     obtain ⟨dy,hdy⟩ : ∃ y,U9 x (atP xg xm) l3 = y:=⟨_,rfl⟩;rw [hdy];have HFY:=Lib.hid (show Ag9 dy by rw [← hdy];exact Ar9 HFX.out _ (by omega))
     have HDY:=Lib.hid hdy;clear hdy;rintro e9 V3 ⟨cs3,fp3,rfl,O3,hb⟩;obtain ⟨A7,c7,B7,f7,rfl⟩:=Q9 O3;have T3:=Rep.reads diskR O3;replace S:=S.later hb;clear hb O3 r5 hpl;go_wp2_with fail;refine ⟨fun _ => S.out.2,LexW.cons rfl ?_⟩
     try go_frame
     go_wp2_with fail;refine (Di9 [.slice A7 dy.secs.length c7,.slice B7 dy.cache.length f7,.int .i64 dy.fuse,.bool dy.down] dy V3 T3 HFY.out).mono ?_;obtain ⟨dz,hdz⟩ : ∃ y,S9 dy = y:=⟨_,rfl⟩;rw [hdz];have HQZ:=Lib.hid hdz;clear hdz T3;rintro e10 V4 ⟨cs4,fp4,rfl,O4,hb⟩;obtain ⟨A8,c8,B8,f8,rfl⟩:=Q9 O4;have hV3:=S.out.1.lt;replace S:=S.later hb;have P4:=S.out.1.putO O4 hV3;obtain ⟨u0,u1,u2,u3⟩:=Q8 S.out.1.obox;have uf0:=C9 S.out.1.obox 0;have uf1:=C9 S.out.1.obox 1;have uf2:=C9 S.out.1.obox 2;have uf3:=C9 S.out.1.obox 3;have hl4 : DO < V4.heap.size:=(Array.getElem?_eq_some_iff.1 S.out.1.obox).1;clear hb O4 hV3;go_wp2_with fail;refine ⟨fun _ => S.out.2,LexW.cons rfl ?_⟩
     clear S;try go_frame
     go_wp2_with fail;refine ⟨fun h => absurd rfl h,LexW.nil ?_⟩
     clear u0 u1 u2 u3 uf0 uf1 uf2 uf3 hl4;generalize ((((V4.setCell ⟨DO,0,none⟩ (.slice A8 dz.secs.length c8)).setCell ⟨DO,1,none⟩ (.slice B8 dz.cache.length f8)).setCell ⟨DO,2,none⟩ (.int .i64 dz.fuse)).setCell ⟨DO,3,none⟩ (.bool dz.down)) = V5 at P4 ⊢;have HANS:=Lib.hid (show Ce9 d ⟨rk,rn,ro,rt⟩ = (dz,!dz.down) by
      rw [HVAL.out];have e : X8 x xg xm ⟨rk,rn,ro,rt⟩ = dz:=by unfold X8;rw [HL3.out,HDY.out,HQZ.out]
      show (X8 x xg xm ⟨rk,rn,ro,rt⟩,!(X8 x xg xm ⟨rk,rn,ro,rt⟩).down) = _
      rw [e])
     go_wp2_with fail;have S : All (fun w' => AB w [.slice A d.secs.length c,.slice B d.cache.length e,.int .i64 d.fuse,.bool d.down] ⟨rk,rn,ro,rt⟩ DO DJ (.slice A8 dz.secs.length c8) (.slice B8 dz.cache.length f8) (.int .i64 dz.fuse) (.bool dz.down) dz ⟨⟨na,nb,np,nq,ne,nf⟩,xg,xm⟩ w'∧w'.heap[DO]? = some (.cells [.slice A8 dz.secs.length c8,.slice B8 dz.cache.length f8,.int .i64 dz.fuse,.bool dz.down].toArray 27 (0,0))) V5:=⟨P4,P4.obox⟩
     clear P4;refine M9 100 [0,1,2,3] [4,5] (fun w' => w'.heap[DO]? = some (.cells [.slice A8 dz.secs.length c8,.slice B8 dz.cache.length f8,.int .i64 dz.fuse,.bool dz.down].toArray 27 (0,0))) (by kernel_rfl) (by kernel_rfl) S.drew.out.2 ?_
     replace S:=S.drew;iterate 4 (refine LexR.cons rfl ?_ (fun w' hw => ?_) ?_;rotate_left;focus (obtain ⟨u0,u1,u2,u3⟩:=Q8 hw;clear hw;go_simp;(try exact rfl));(try go_frame))
     refine LexR.nil (LexW.cons rfl ?_);try go_frame
     generalize V5.drew = V6 at S ⊢;have ho7:=Aa9 V6 (w.heap.size + 2) (.slice A8 dz.secs.length c8) (.slice B8 dz.cache.length f8) (.int .i64 dz.fuse) (.bool dz.down);have hr7:=Im9 S.out.1.zbox (.slice A8 dz.secs.length c8) (.slice B8 dz.cache.length f8) (.int .i64 dz.fuse) (.bool dz.down);have hs7:=(ho7.block DO (by have:=S.out.1.lt;omega) (by simp;omega)).trans S.out.2
     obtain ⟨fpr,hown,hbel⟩:=S.out.1.fin (.slice A8 dz.secs.length c8) (.slice B8 dz.cache.length f8) (.int .i64 dz.fuse) (.bool dz.down);have HRET:=Lib.hid (show Jc9 w (dz,!dz.down) (.returned (.tuple #[.agg #[.slice A8 dz.secs.length c8,.slice B8 dz.cache.length f8,.int .i64 dz.fuse,.bool dz.down],.bool (!dz.down)])) _ from ⟨[.slice A8 dz.secs.length c8,.slice B8 dz.cache.length f8,.int .i64 dz.fuse,.bool dz.down],fpr,rfl,hown,hbel⟩)
     clear hown hbel;obtain ⟨z0,z1,z2,z3⟩:=Q8 S.out.1.zbox;have zf0:=C9 S.out.1.zbox 0;have zf1:=C9 S.out.1.zbox 1;have zf2:=C9 S.out.1.zbox 2;have zf3:=C9 S.out.1.zbox 3;have hl6 : w.heap.size + 2 < V6.heap.size:=(Array.getElem?_eq_some_iff.1 S.out.1.zbox).1;clear S ho7;go_wp2_with fail;generalize ((((V6.setCell ⟨w.heap.size + 2,0,none⟩ (.slice A8 dz.secs.length c8)).setCell ⟨w.heap.size + 2,1,none⟩ (.slice B8 dz.cache.length f8)).setCell ⟨w.heap.size + 2,2,none⟩ (.int .i64 dz.fuse)).setCell ⟨w.heap.size + 2,3,none⟩ (.bool dz.down)) = V7 at hr7 hs7 HRET ⊢;refine ⟨fun _ => hs7,LexW.cons rfl ?_⟩
     clear z0 z1 z2 z3 zf0 zf1 zf2 zf3;try go_frame
     go_wp2_with fail;refine ⟨fun _ => hs7,LexW.nil ?_⟩
     obtain ⟨z0,z1,z2,z3⟩:=Q8 hr7;clear hr7 hs7;go_wp2_with fail;exact bodyPost_ret (v:=.tuple #[.agg #[.slice A8 dz.secs.length c8,.slice B8 dz.cache.length f8,.int .i64 dz.fuse,.bool dz.down],.bool (!dz.down)]) (by simp [results,Tryz.results7,go_sem,z0,z1,z2,z3]) rfl (by rw [HANS.out];exact HRET.out)
 ·cases ok
  ·skip
   have hval : Ce9 d ⟨rk,rn,ro,rt⟩ = (d,false):=Md9 HP.out HAP.out hok;obtain ⟨fpr,hown,hbel⟩:=P.fin (.slice A1 d.secs.length c1) (.slice B1 d.cache.length f1) (.int .i64 d.fuse) (.bool d.down);have hret : Jc9 w (d,false) (.returned (.tuple #[.agg #[.slice A1 d.secs.length c1,.slice B1 d.cache.length f1,.int .i64 d.fuse,.bool d.down],.bool false])) _:=⟨[.slice A1 d.secs.length c1,.slice B1 d.cache.length f1,.int .i64 d.fuse,.bool d.down],fpr,rfl,hown,hbel⟩;have HV:=Lib.hid hval;have HRET:=Lib.hid hret;obtain ⟨u0,u1,u2,u3⟩:=Q8 P.obox;obtain ⟨z0,z1,z2,z3⟩:=Q8 P.zbox;have zf0:=C9 P.zbox 0;have zf1:=C9 P.zbox 1;have zf2:=C9 P.zbox 2;have zf3:=C9 P.zbox 3;have hl1:=P.lto;have hl2:=P.ltj;have hl3:=P.lt;clear P hval hret hown hbel;go_wp2_with fail;exact bodyPost_ret (v:=.tuple #[.agg #[.slice A1 d.secs.length c1,.slice B1 d.cache.length f1,.int .i64 d.fuse,.bool d.down],.bool false]) (by simp [results,Tryz.results7,go_sem,z0,z1,z2,z3]) rfl (by rw [HV.out];exact HRET.out)
  ·cases yes
   ·skip
    have hval : Ce9 d ⟨rk,rn,ro,rt⟩ = (d,false):=Md9 HP.out HAP.out hok;obtain ⟨fpr,hown,hbel⟩:=P.fin (.slice A1 d.secs.length c1) (.slice B1 d.cache.length f1) (.int .i64 d.fuse) (.bool d.down);have hret : Jc9 w (d,false) (.returned (.tuple #[.agg #[.slice A1 d.secs.length c1,.slice B1 d.cache.length f1,.int .i64 d.fuse,.bool d.down],.bool false])) _:=⟨[.slice A1 d.secs.length c1,.slice B1 d.cache.length f1,.int .i64 d.fuse,.bool d.down],fpr,rfl,hown,hbel⟩;have HV:=Lib.hid hval;have HRET:=Lib.hid hret;obtain ⟨u0,u1,u2,u3⟩:=Q8 P.obox;obtain ⟨z0,z1,z2,z3⟩:=Q8 P.zbox;have zf0:=C9 P.zbox 0;have zf1:=C9 P.zbox 1;have zf2:=C9 P.zbox 2;have zf3:=C9 P.zbox 3;have hl1:=P.lto;have hl2:=P.ltj;have hl3:=P.lt;clear P hval hret hown hbel;go_wp2_with fail;exact bodyPost_ret (v:=.tuple #[.agg #[.slice A1 d.secs.length c1,.slice B1 d.cache.length f1,.int .i64 d.fuse,.bool d.down],.bool false]) (by simp [results,Tryz.results7,go_sem,z0,z1,z2,z3]) rfl (by rw [HV.out];exact HRET.out)
   ·have hdn : d.down = true := by
        cases hd : d.down
        ·exact absurd ⟨rfl,rfl,hd⟩ hok
        ·rfl
    obtain ⟨d0,d1,d2,d3⟩:=Q8 P.dbox;rw [hdn] at d3;clear hdn;have hval : Ce9 d ⟨rk,rn,ro,rt⟩ = (d,false):=Md9 HP.out HAP.out hok;obtain ⟨fpr,hown,hbel⟩:=P.fin (.slice A1 d.secs.length c1) (.slice B1 d.cache.length f1) (.int .i64 d.fuse) (.bool d.down);have hret : Jc9 w (d,false) (.returned (.tuple #[.agg #[.slice A1 d.secs.length c1,.slice B1 d.cache.length f1,.int .i64 d.fuse,.bool d.down],.bool false])) _:=⟨[.slice A1 d.secs.length c1,.slice B1 d.cache.length f1,.int .i64 d.fuse,.bool d.down],fpr,rfl,hown,hbel⟩;have HV:=Lib.hid hval;have HRET:=Lib.hid hret;obtain ⟨u0,u1,u2,u3⟩:=Q8 P.obox;obtain ⟨z0,z1,z2,z3⟩:=Q8 P.zbox;have zf0:=C9 P.zbox 0;have zf1:=C9 P.zbox 1;have zf2:=C9 P.zbox 2;have zf3:=C9 P.zbox 3;have hl1:=P.lto;have hl2:=P.ltj;have hl3:=P.lt;clear P hval hret hown hbel;go_wp2_with fail;exact bodyPost_ret (v:=.tuple #[.agg #[.slice A1 d.secs.length c1,.slice B1 d.cache.length f1,.int .i64 d.fuse,.bool d.down],.bool false]) (by simp [results,Tryz.results7,go_sem,z0,z1,z2,z3]) rfl (by rw [HV.out];exact HRET.out)
end Go.Proofs.YthpkdjflndiojaaGreatDoor
namespace Go.Proofs.YthpkdjflndiojaaGreatDoor
open Go.RowKit Go.Maps
set_option maxRecDepth 2000000
set_option linter.unusedVariables false
theorem Vp9 {cache : List Wr} {x : Wr} {k : Nat} (hk : k < cache.length) (i : Int) : key (cache ++ [x]) k i = key cache k i:=by
 unfold key;rw [List.getElem?_append_left hk]
theorem Bk8 {cache : List Wr} {x : Wr} (i : Int) : ∀ k,k ≤ cache.length→Am9 (key (cache ++ [x])) k i = Am9 (key cache) k i:=by
 intro k;induction k with
 | zero => intro _;rfl
 | succ k ih =>
   intro hk;show (if key (cache ++ [x]) k i = true then some k else Am9 (key (cache ++ [x])) k i) = (if key cache k i = true then some k else Am9 (key cache) k i)
   rw [Vp9 (by omega),ih (by omega)]
theorem Bl8 {cache : List Wr} {x : Wr} (i : Int) : Am9 (key (cache ++ [x])) (cache.length + 1) i = if x.n = i then some cache.length else Am9 (key cache) cache.length i:=by
 show (if key (cache ++ [x]) cache.length i = true then some cache.length else Am9 (key (cache ++ [x])) cache.length i) = _
 rw [Bk8 i _ (Nat.le_refl _),show key (cache ++ [x]) cache.length i = (x.n == i) from Kk9 (by simp) i]
 by_cases h : x.n = i
 ·rw [if_pos h,if_pos (by simpa using h)]
 ·rw [if_neg h,if_neg (by simpa using h)]
theorem Ux9 (d : Disk) (n : Int) (b : List UInt8) (f : Int) (dn : Bool) (i : Int) : Bk9 ⟨d.secs,d.cache ++ [⟨n,b⟩],f,dn⟩ i (d.cache.length + 1) = if n = i then b else Bk9 d i d.cache.length:=by
 unfold Bk9;show (match Am9 (key (d.cache ++ [(⟨n,b⟩ : Wr)])) (d.cache.length + 1) i with | some j => ((d.cache ++ [(⟨n,b⟩ : Wr)]).getD j ⟨0,[]⟩).b | none => d.secs.getD i.toNat []) = _
 rw [Bl8 i];by_cases h : n = i
 ·rw [if_pos h,if_pos h]
  show ((d.cache ++ [(⟨n,b⟩ : Wr)]).getD d.cache.length ⟨0,[]⟩).b = b
  rw [List.getD_eq_getElem?_getD];simp
 ·rw [if_neg h,if_neg h]
  rcases he : Am9 (key d.cache) d.cache.length i with _ | j
  ·rfl
  ·have hj:=(Lu9 he).1
   show ((d.cache ++ [(⟨n,b⟩ : Wr)]).getD j ⟨0,[]⟩).b = (d.cache.getD j ⟨0,[]⟩).b
   rw [List.getD_eq_getElem?_getD,List.getD_eq_getElem?_getD,List.getElem?_append_left hj]
theorem Ft9 {d : Disk} {n : Int} {b : List UInt8} (h : Bj9 d n b) : Z9 (U9 d n b):=by
 obtain ⟨⟨⟨h1,h2,h3⟩,h4,h5,h6,h7⟩,hd,hn,hb,hc⟩:=h;have hw : Bj9 d n b:=⟨⟨⟨h1,h2,h3⟩,h4,h5,h6,h7⟩,hd,hn,hb,hc⟩;by_cases h0 : d.fuse = 0
 ·rw [Dg9 hw h0]
  exact ⟨⟨h1,h2,h3⟩,h4,h5,by show (-1 : Int) ≤ -1;omega,by show (-1 : Int) ≤ 1000;omega⟩
 ·rw [Aj9 hw h0]
  refine ⟨⟨h1,h2,by show (d.cache ++ [(⟨n,b⟩ : Wr)]).length ≤ 30;simp;omega⟩,h4,fun x hx => ?_,?_⟩
  ·replace hx : x ∈ d.cache ++ [(⟨n,b⟩ : Wr)]:=hx
   rw [List.mem_append] at hx;rcases hx with hx | hx
   ·exact h5 x hx
   ·simp at hx
    subst hx;exact ⟨hn.1,hn.2,hb⟩
  ·show -1 ≤ X9 d.fuse∧X9 d.fuse ≤ 1000
   unfold X9;split <;> omega
theorem Uo9 {d : Disk} (h : Z9 d) {idx : Int→Option Nat} (hi : Me9 d idx) {i : Nat} (hin : i < d.secs.length) : (In9 d idx i).length ≤ 160:=by
 unfold In9;rcases he : idx (i : Int) with _ | j
 ·show (d.secs.getD i []).length ≤ _
  rw [List.getD_eq_getElem?_getD,List.getElem?_eq_getElem hin];exact h.2.1 _ (List.getElem_mem hin)
 ·obtain ⟨y,hy,_⟩:=hi i j he
  show (d.cache.getD j ⟨0,[]⟩).b.length ≤ _
  rw [List.getD_eq_getElem?_getD,hy];exact (h.2.2.1 y (List.mem_of_getElem? hy)).2.2
theorem Pr9 {d : Disk} (h : Z9 d) {idx : Int→Option Nat} (hi : Me9 d idx) {f : Int} (dn : Bool) (h1 : -1 ≤ f) (h2 : f ≤ 1000) : Z9 ⟨J8 d idx,[],f,dn⟩:=by
 refine ⟨⟨by show 1 ≤ (J8 d idx).length;rw [J7];exact h.1.1,by show (J8 d idx).length ≤ 40;rw [J7];exact h.1.2.1,Nat.zero_le _⟩,fun b hb => ?_,fun x hx => (by cases hx),h1,h2⟩
 replace hb : b ∈ J8 d idx:=hb;unfold J8 at hb;rw [List.mem_map] at hb;obtain ⟨i,hi1,rfl⟩:=hb;exact Uo9 h hi (by simpa using hi1)
theorem Ru9 {d : Disk} {idx : Int→Option Nat} {i : Nat} (hin : i < d.secs.length) : (J8 d idx).getD i [] = In9 d idx i:=by
 unfold J8;rw [List.getD_eq_getElem?_getD,List.getElem?_map,List.getElem?_range hin];rfl
theorem Kc9 (s : List (List UInt8)) (f : Int) (dn : Bool) (i : Int) (k : Nat) (hk : k = 0) : Bk9 ⟨s,[],f,dn⟩ i k = s.getD i.toNat []:=by
 subst hk;rfl
theorem Xh9 {d : Disk} {i : Nat} (hin : i < d.secs.length) (f : Int) (dn : Bool) : Bk9 ⟨J8 d (Am9 (key d.cache) d.cache.length),[],f,dn⟩ (i : Int) 0 = Bk9 d (i : Int) d.cache.length:=by
 rw [Kc9 _ _ _ _ _ rfl];show (J8 d (Am9 (key d.cache) d.cache.length)).getD ((i : Int).toNat) [] = _
 rw [show ((i : Int).toNat) = i by simp,Ru9 hin]
 unfold In9 Bk9;rw [show ((i : Int).toNat) = i by simp]
 rcases Am9 (key d.cache) d.cache.length (i : Int) with _ | j <;> rfl
theorem Rt9 (s : List (List UInt8)) (f : Int) (dn : Bool) (p : Nat→Int→Bool) : J8 ⟨s,[],f,dn⟩ (Am9 p 0) = s:=by
 refine List.ext_getElem? fun i => ?_
 by_cases h : i < s.length
 ·have h1 : (J8 ⟨s, [], f, dn⟩ (Am9 p 0))[i]? = some (In9 ⟨s, [], f, dn⟩ (Am9 p 0) i) := by
   unfold J8;rw [List.getElem?_map,List.getElem?_range h];rfl
  rw [h1,List.getElem?_eq_getElem h];show some (s.getD i []) = _
  rw [List.getD_eq_getElem?_getD,List.getElem?_eq_getElem h];rfl
 ·rw [List.getElem?_eq_none (by rw [J7];show s.length ≤ i;omega),List.getElem?_eq_none (by omega)]
theorem wf_i64 {n : Int} (h1 : -9223372036854775808 ≤ n) (h2 : n ≤ 9223372036854775807) : (Lit.int .i64 n).wf = true:=by
 have e1 : IntKind.i64.min = -9223372036854775808:=by decide
 have e2 : IntKind.i64.max = 9223372036854775807:=by decide
 simp [Lit.wf,e1,e2];omega
theorem Fm9 {d : Disk} (h : Z9 d) : Ag9 d:=by
 obtain ⟨⟨h1,h2,h3⟩,h4,h5,_⟩:=h;exact ⟨by omega,fun l hl => by have:=h4 l hl;omega,by omega,fun x hx => by have:=(h5 x hx).2.2;omega⟩
theorem good_ok {d : Disk} (h : Z9 d) : Eq8 d:=by
 obtain ⟨⟨h1,h2,h3⟩,h4,h5,h6,h7⟩:=h;refine ⟨fun x hx => ?_,?_⟩
 ·have a:=(h5 x hx).1
  have b:=(h5 x hx).2.1;exact wf_i64 (by omega) (by omega)
 ·exact wf_i64 (by omega) (by omega)
theorem Ew9 {d : Disk} (h : Z9 d) (n : Int) (b : List UInt8) : Z9 (U9 d n b):=by
 by_cases hg : Bj9 d n b
 ·exact Ft9 hg
 ·rw [Ai9 hg];exact h
theorem Cj9 {d : Disk} (h : Z9 d) : Z9 (S9 d):=by
 by_cases hg : Cw9 d
 ·by_cases h0 : d.fuse = 0
  ·rw [Ch9 hg h0]
   exact ⟨h.1,h.2.1,h.2.2.1,by show (-1 : Int) ≤ -1;omega,by show (-1 : Int) ≤ 1000;omega⟩
  ·rw [Av9 hg h0]
   refine Pr9 h (Po9 d _ (Nat.le_refl _)) d.down ?_ ?_
   ·have:=h.2.2.2.1
    unfold X9;split <;> omega
   ·have:=h.2.2.2.2
    unfold X9;split <;> omega
 ·rw [Bp9 hg];exact h
theorem Gr9 {d : Disk} (h : Z9 d) (k : Int) : Z9 (E7 d k):=by
 rw [Bh9 k h];exact Pr9 h (idx_okB d _ _ (Nat.le_refl _)) false (by omega) (by omega)
theorem Bo8 {d : Disk} (h : Z9 d) {z : Int} (h1 : -1 ≤ z) (h2 : z ≤ 1000) : Z9 ⟨d.secs,d.cache,z,d.down⟩:=⟨h.1,h.2.1,h.2.2.1,h1,h2⟩
theorem Lx9 {n : Int} (h1 : 1 ≤ n) (h2 : n ≤ 40) : Z9 (An9 n):=by
 unfold An9;rw [if_pos ⟨h1,h2⟩];refine ⟨⟨?_,?_,?_⟩,?_,?_,?_,?_⟩
 ·simp;omega
 ·simp;omega
 ·simp
 ·intro b hb;simp at hb;simp [hb.2]
 ·intro x hx;cases hx
 ·show (-1 : Int) ≤ -1;omega
 ·show (-1 : Int) ≤ 1000;omega
def Ud9 (w : World) (lo g : Nat) (A : Option Addr) (n c : Nat) (code : List UInt8) (P : Disk→Prop) (e : Ending) (w' : World) : Prop:=
 ∃ d cs fp,e = .returned (.agg cs.toArray)∧P d∧diskR.own w' w.heap.size cs d fp∧Cur w' lo g A n c code∧Rep.Only w w' [g]
def VarDisk (w : World) (base D : Nat) (d : Disk) (fp : List Nat) : Prop:=
 ∃ A c B e, w.heap[D]? = some (.cells #[.slice A d.secs.length c, .slice B d.cache.length e, .int .i64 d.fuse, .bool d.down] 27 (0, 0)) ∧
   diskR.own w base [.slice A d.secs.length c,.slice B d.cache.length e,.int .i64 d.fuse,.bool d.down] d fp∧D ∉ fp
theorem VarDisk.only {w w' : World} {base D : Nat} {d : Disk} {fp f : List Nat} (h : VarDisk w base D d fp) (ho : Rep.Only w w' f) (hD : D ∉ f) (hd : ∀ a,a ∈ fp→a ∉ f) : VarDisk w' base D d fp:=by
 obtain ⟨A,c,B,e,hv,hx,hn⟩:=h;have hlt : D < w.heap.size:=(Array.getElem?_eq_some_iff.1 hv).1;exact ⟨A,c,B,e,(ho.block D hlt hD).trans hv,Rep.own_only hx ho hd,hn⟩
theorem VarDisk.lt {w : World} {base D : Nat} {d : Disk} {fp : List Nat} (h : VarDisk w base D d fp) : D < w.heap.size:=by
 obtain ⟨A,c,B,e,hv,_⟩:=h;exact (Array.getElem?_eq_some_iff.1 hv).1
theorem VarDisk.fp {w : World} {base D : Nat} {d : Disk} {fp : List Nat} (h : VarDisk w base D d fp) : ∀ a,a ∈ fp→base ≤ a∧a < w.heap.size∧a ≠ D:=by
 obtain ⟨A,c,B,e,hv,hx,hn⟩:=h;intro a ha;exact ⟨(Rep.lt diskR hx a ha).1,(Rep.lt diskR hx a ha).2,fun e => hn (e ▸ ha)⟩
theorem Em9 (w : World) (D : Nat) (a b c d : Value) : Rep.Only w ((((w.setCell ⟨D,0,none⟩ a).setCell ⟨D,1,none⟩ b).setCell ⟨D,2,none⟩ c).setCell ⟨D,3,none⟩ d) [D]:=
 (((Rep.Only.setCell w (by simp) _).trans (Rep.Only.setCell _ (by simp) _)).trans (Rep.Only.setCell _ (by simp) _)).trans (Rep.Only.setCell _ (by simp) _)
theorem Cw8 {w : World} {D t : Nat} {a b c d a' b' c' d' : Value} (h : w.heap[D]? = some (.cells #[a',b',c',d'] t (0,0))) :
 ((((w.setCell ⟨D,0,none⟩ a).setCell ⟨D,1,none⟩ b).setCell ⟨D,2,none⟩ c).setCell ⟨D,3,none⟩ d).heap[D]? = some (.cells #[a,b,c,d] t (0,0)):=
 N9 (N9 (N9 (N9 h 0 a) 1 b) 2 c) 3 d
theorem VarDisk.put {w : World} {base base' D : Nat} {d : Disk} {fp : List Nat} {A B : Option Addr} {c e : Nat} {a' b' c' d' : Value} (hv : w.heap[D]? = some (.cells #[a',b',c',d'] 27 (0,0)))
 (ho : diskR.own w base' [.slice A d.secs.length c,.slice B d.cache.length e,.int .i64 d.fuse,.bool d.down] d fp) (hb : base ≤ base') (hD : D < base') :
 VarDisk ((((w.setCell ⟨D,0,none⟩ (.slice A d.secs.length c)).setCell ⟨D,1,none⟩ (.slice B d.cache.length e)).setCell ⟨D,2,none⟩ (.int .i64 d.fuse)).setCell ⟨D,3,none⟩ (.bool d.down)) base D d fp:=
 ⟨A,c,B,e,Cw8 hv,diskR.low (Rep.own_only ho (Em9 _ _ _ _ _ _) (fun a ha hm => by have:=(Rep.lt diskR ho a ha).1;simp at hm;omega)) hb,fun hm => by have:=(Rep.lt diskR ho D hm).1;omega⟩
theorem VarDisk.cells {w : World} {base D : Nat} {d : Disk} {fp : List Nat} (h : VarDisk w base D d fp) :
 ∃ A c B e, Hid (w.heap[D]? = some (.cells #[.slice A d.secs.length c, .slice B d.cache.length e, .int .i64 d.fuse, .bool d.down] 27 (0, 0))) ∧
   diskR.own w base [.slice A d.secs.length c,.slice B d.cache.length e,.int .i64 d.fuse,.bool d.down] d fp∧Hid (D ∉ fp) ∧
   w.cell? ⟨D,0,none⟩ = some (.slice A d.secs.length c)∧w.cell? ⟨D,1,none⟩ = some (.slice B d.cache.length e)∧w.cell? ⟨D,2,none⟩ = some (.int .i64 d.fuse)∧w.cell? ⟨D,3,none⟩ = some (.bool d.down)∧(∀ i,w.frozen? ⟨D,i,none⟩ = false):=by
 obtain ⟨A,c,B,e,hv,hx,hn⟩:=h;exact ⟨A,c,B,e,Lib.hid hv,hx,Lib.hid hn,E9 hv 0,E9 hv 1,E9 hv 2,E9 hv 3,C9 hv⟩
theorem VarDisk.open_ {w : World} {base D : Nat} {d : Disk} {fp : List Nat} (h : VarDisk w base D d fp) :
 ∃ A c B e f f', Hid (w.heap[D]? = some (.cells #[.slice A d.secs.length c, .slice B d.cache.length e, .int .i64 d.fuse, .bool d.down] 27 (0, 0))) ∧
   Rep.OwnRows byR 22 w base (.slice A d.secs.length c) d.secs f∧Rep.OwnRows wrR 84 w base (.slice B d.cache.length e) d.cache f'∧Hid ((∀ a,a ∈ f→a ∉ f')∧D ∉ f∧D ∉ f')∧Hid (∀ a,a ∈ f ∨ a ∈ f'→base ≤ a∧a < w.heap.size):=by
 obtain ⟨A,c,B,e,hv,hx,hn⟩:=h;have hlt:=Rep.lt diskR hx;obtain ⟨u1,u2,ff,fc,hcs,ho1,ho2,hfp,hnd⟩:=Hi9 hx;have e1 : u1 = .slice A d.secs.length c:=by injection hcs with h1 _;exact h1.symm
 have e2 : u2 = .slice B d.cache.length e:=by injection hcs with _ h2;injection h2 with h2 _;exact h2.symm
 subst e1 e2 hfp;refine ⟨A,c,B,e,ff,fc,Lib.hid hv,ho1,ho2,Lib.hid ⟨fun a ha hb => (List.nodup_append.1 hnd).2.2 a ha a hb rfl,fun hm => hn (List.mem_append_left _ hm),fun hm => hn (List.mem_append_right _ hm)⟩,Lib.hid fun a ha => hlt a (List.mem_append.2 ha)⟩
theorem VarDisk.close {w : World} {base D : Nat} {d : Disk} {A B : Option Addr} {c e : Nat} {f f' : List Nat} (hv : w.heap[D]? = some (.cells #[.slice A d.secs.length c,.slice B d.cache.length e,.int .i64 d.fuse,.bool d.down] 27 (0,0)))
 (ho1 : Rep.OwnRows byR 22 w base (.slice A d.secs.length c) d.secs f) (ho2 : Rep.OwnRows wrR 84 w base (.slice B d.cache.length e) d.cache f') (hd : (∀ a,a ∈ f→a ∉ f')∧D ∉ f∧D ∉ f') : VarDisk w base D d (f ++ f'):=
 ⟨A,c,B,e,hv,Ck9 ho1 ho2 (Rep.nodup_append_of (Rep.nodup secsR (w:=w) (base:=base) (cs:=[.slice A d.secs.length c]) ⟨_,rfl,ho1⟩) (Rep.nodup cacheR (w:=w) (base:=base) (cs:=[.slice B d.cache.length e]) ⟨_,rfl,ho2⟩) hd.1),fun hm => by
  rw [List.mem_append] at hm;rcases hm with hm | hm
  ·exact hd.2.1 hm
  ·exact hd.2.2 hm⟩
theorem VarDisk.fuse {w : World} {base D : Nat} {d : Disk} {fp : List Nat} (h : VarDisk w base D d fp) (z : Int) : ∃ fp',VarDisk (w.setCell ⟨D,2,none⟩ (.int .i64 z)) base D ⟨d.secs,d.cache,z,d.down⟩ fp':=by
 obtain ⟨A,c,B,e,f,f',hv,h1,h2,hd,_⟩:=h.open_;exact ⟨_,VarDisk.close (d:=⟨d.secs,d.cache,z,d.down⟩) (N9 hv.out 2 _) (h1.kept fun a ha => heap_setCell_other _ _ _ _ (fun e => hd.out.2.1 ((show a = D from e) ▸ ha))) (h2.kept fun a ha => heap_setCell_other _ _ _ _ (fun e => hd.out.2.2 ((show a = D from e) ▸ ha))) hd.out⟩
theorem VarDisk.down {w : World} {base D : Nat} {d : Disk} {fp : List Nat} (h : VarDisk w base D d fp) (z : Bool) : ∃ fp',VarDisk (w.setCell ⟨D,3,none⟩ (.bool z)) base D ⟨d.secs,d.cache,d.fuse,z⟩ fp':=by
 obtain ⟨A,c,B,e,f,f',hv,h1,h2,hd,_⟩:=h.open_;exact ⟨_,VarDisk.close (d:=⟨d.secs,d.cache,d.fuse,z⟩) (N9 hv.out 3 _) (h1.kept fun a ha => heap_setCell_other _ _ _ _ (fun e => hd.out.2.1 ((show a = D from e) ▸ ha))) (h2.kept fun a ha => heap_setCell_other _ _ _ _ (fun e => hd.out.2.2 ((show a = D from e) ▸ ha))) hd.out⟩
def Bv9 (d : Disk) : Prop:=Ag9 d∧Eq8 d∧d.cache.length ≤ 40
theorem Vt9 {d : Disk} (h : Z9 d) : Bv9 d:=⟨Fm9 h,good_ok h,by have:=h.1.2.2;omega⟩
theorem Qp9 {d : Disk} (h : Bv9 d) {z : Int} (h1 : -9223372036854775808 ≤ z) (h2 : z ≤ 9223372036854775807) : Bv9 ⟨d.secs,d.cache,z,d.down⟩:=⟨h.1,⟨h.2.1.1,wf_i64 h1 h2⟩,h.2.2⟩
theorem Wx9 {d : Disk} (h : Bv9 d) (z : Bool) : Bv9 ⟨d.secs,d.cache,d.fuse,z⟩:=⟨h.1,⟨h.2.1.1,h.2.1.2⟩,h.2.2⟩
theorem Qo9 {d : Disk} (h : Bv9 d) {xs : List (List UInt8)} (h1 : xs.length ≤ 1048576) (h2 : ∀ l,l ∈ xs→l.length ≤ 1048576) : Bv9 ⟨xs,d.cache,d.fuse,d.down⟩:=⟨⟨h1,h2,h.1.2.2⟩,h.2⟩
theorem Ww9 {d : Disk} (h : Bv9 d) (hc : d.cache.length < 40) {x : Wr} (h1 : (Lit.int .i64 x.n).wf = true) (h2 : x.b.length ≤ 1048576) : Bv9 ⟨d.secs,d.cache ++ [x],d.fuse,d.down⟩:=by
 have hl : (d.cache ++ [x]).length = d.cache.length + 1:=by simp
 refine ⟨⟨h.1.1,h.1.2.1,by show (d.cache ++ [x]).length ≤ _;omega,fun y hy => ?_⟩,⟨fun y hy => ?_,h.2.1.2⟩,by show (d.cache ++ [x]).length ≤ _;omega⟩
 ·replace hy : y ∈ d.cache ++ [x]:=hy
  rw [List.mem_append] at hy;rcases hy with hy | hy
  ·exact h.1.2.2.2 y hy
  ·simp at hy;subst hy;exact h2
 ·replace hy : y ∈ d.cache ++ [x]:=hy
  rw [List.mem_append] at hy;rcases hy with hy | hy
  ·exact h.2.1.1 y hy
  ·simp at hy;subst hy;exact h1
theorem Rep.OwnRows.some_ {α : Type} {R : Rep α} {e : TypeId} {w : World} {base n c : Nat} {A : Option Addr} {xs : List α} {fp : List Nat} (h : Rep.OwnRows R e w base (.slice A n c) xs fp) (h0 : 0 < xs.length) : ∃ g,A = some ⟨g,0,none⟩∧g ∈ fp:=by
 obtain ⟨cells,fps,ho,hl,he,hfp,hn⟩:=h;obtain ⟨g,cap,hv,_,_⟩:=ho.form h0;injection hv with hv _ _;subst hv;exact ⟨g,rfl,by rw [hfp];simp [Value.ownBlock]⟩
theorem Rep.OwnRows.store' {α : Type} {R : Rep α} {e : TypeId} {w : World} {base g k n c B : Nat} {xs : List α} {fp : List Nat} (h : Rep.OwnRows R e w base (.slice (some ⟨g,0,none⟩) n c) xs fp) {x : α} (cs : List Value) {f : List Nat} (hn : xs.length = n) (hk : k < n)
 (hc : cs.length = R.size) (hx : R.own w B cs x f) (hB : base ≤ B) (hf : ∀ g',g' ∈ fp→g' < B) :
 ∃ fp',Rep.OwnRows R e (Rep.setRow w g (k * R.size) cs) base (.slice (some ⟨g,0,none⟩) n c) (xs.set k x) fp'∧∀ a,a ∈ fp'→a ∈ fp ∨ a ∈ f:=by
 subst hn;have hg : g ∈ fp:=by
  obtain ⟨_,_,_,_,_,hfp,_⟩:=h;rw [hfp];simp [Value.ownBlock]
 exact h.put (k:=k) (x:=x) (c:=cs) (f:=f) (w':=Rep.setRow w g (k * R.size) cs) hk (fun cells ho => Rep.setRow_put cs ho hk hc)
  (R.low (R.kept hx fun a ha => Rep.setRow_heap _ _ _ _ _ (fun e => by have:=(R.lt hx a ha).1;have:=hf g hg;omega)) hB)
  (fun a ha ha' => by have:=(R.lt hx a ha).1;have:=hf a ha';omega)
  (fun a ha hne => Rep.setRow_heap _ _ _ _ _ (fun e => hne (by rw [e];rfl)))
theorem VarDisk.pushed {W w4 : World} {base D g : Nat} {d : Disk} {A7 B9 A4 : Option Addr} {c8 d10 c4 : Nat} {f f' fp4 : List Nat} {y : Wr}
 (VG : Hid (W.heap[D]? = some (.cells #[.slice A7 d.secs.length c8,.slice B9 d.cache.length d10,.int .i64 d.fuse,.bool d.down] 27 (0,0))))
 (ho1 : Rep.OwnRows byR 22 W base (.slice A7 d.secs.length c8) d.secs f) (HN : Hid ((∀ a,a ∈ f→a ∉ f')∧D ∉ f∧D ∉ f')) (HL : Hid (∀ a,a ∈ f ∨ a ∈ f'→base ≤ a∧a < W.heap.size))
 (o4 : Rep.Only W w4 (g :: f')) (hg : g < base) (hgD : g ≠ D) (h4 : Rep.OwnRows wrR 84 w4 base (.slice A4 (d.cache.length + 1) c4) (d.cache ++ [y]) fp4) (hf4 : ∀ a,a ∈ fp4→a ∈ f' ∨ W.heap.size ≤ a) :
 VarDisk (w4.setCell ⟨D,1,none⟩ (.slice A4 (d.cache.length + 1) c4)) base D ⟨d.secs,d.cache ++ [y],d.fuse,d.down⟩ (f ++ fp4):=by
 have hlt : D < W.heap.size:=(Array.getElem?_eq_some_iff.1 VG.out).1;have hl : (d.cache ++ [y]).length = d.cache.length + 1:=by simp
 have hDn : D ∉ g :: f':=by
  intro hm;rw [List.mem_cons] at hm;rcases hm with hm | hm
  ·exact hgD hm.symm
  ·exact HN.out.2.2 hm
 have hD4 : D ∉ fp4:=fun hm => by
  rcases hf4 D hm with h | h
  ·exact HN.out.2.2 h
  ·omega
 have v4:=N9 ((o4.block D hlt hDn).trans VG.out) 1 (.slice A4 (d.cache.length + 1) c4);have h1:=ho1.kept (w':=w4) (fun a ha => o4.block a (HL.out a (.inl ha)).2 (fun hm => by
  rw [List.mem_cons] at hm;rcases hm with hm | hm
  ·have:=(HL.out a (.inl ha)).1;omega
  ·exact HN.out.1 a ha hm))
 refine VarDisk.close (d:=⟨d.secs,d.cache ++ [y],d.fuse,d.down⟩) (A:=A7) (c:=c8) (B:=A4) (e:=c4) (by simp only [hl];exact v4) (h1.kept fun a ha => heap_setCell_other _ _ _ _ (fun e => HN.out.2.1 ((show a = D from e) ▸ ha))) (by simp only [hl];exact h4.kept fun a ha => heap_setCell_other _ _ _ _ (fun e => hD4 ((show a = D from e) ▸ ha))) ⟨fun a ha hb => ?_,HN.out.2.1,hD4⟩
 rcases hf4 a hb with h | h
 ·exact HN.out.1 a ha h
 ·have:=(HL.out a (.inl ha)).2
  omega
theorem Su9 (d : Disk) (f : Int) (dn : Bool) (hg : Z9 d) (hf1 : -1 ≤ f) (hf2 : f ≤ 1000) (i : Int) (hi : Df9 d i) : P9 ⟨d.secs,d.cache,f,dn⟩ i = P9 d i:=by
 have h2 : Z9 ⟨d.secs,d.cache,f,dn⟩:=⟨hg.1,hg.2.1,hg.2.2.1,hf1,hf2⟩;have h3 : Df9 ⟨d.secs,d.cache,f,dn⟩ i:=hi;rw [Bb9 h2 h3,Bb9 hg hi];rfl
theorem Sv9 {d : Disk} {n : Int} {b : List UInt8} (hg : Bj9 d n b) (h0 : d.fuse ≠ 0) (i : Int) (hi : Df9 d i) : P9 (U9 d n b) i = if n = i then b else P9 d i:=by
 have hx:=Ft9 hg;have hin : Df9 (U9 d n b) i:=by
  rw [Aj9 hg h0];exact hi
 rw [Bb9 hx hin,Bb9 hg.1 hi,Aj9 hg h0];show Bk9 ⟨d.secs,d.cache ++ [⟨n,b⟩],X9 d.fuse,d.down⟩ i (d.cache ++ [(⟨n,b⟩ : Wr)]).length = _
 rw [show (d.cache ++ [(⟨n,b⟩ : Wr)]).length = d.cache.length + 1 by simp]
 exact Ux9 d n b _ _ i
theorem No9 {x : Disk} (hg : Z9 x) (hd : x.down = false) (h0 : x.fuse ≠ 0) : E7 (S9 x) 0 = ⟨J8 x (Am9 (key x.cache) x.cache.length),[],-1,false⟩:=by
 have hs : Cw9 x:=⟨hg,hd⟩;have h1:=Cj9 hg;rw [Bh9 0 h1];rw [Av9 hs h0];congr 1
 exact Rt9 _ _ _ _
theorem Oo9 {x : Disk} (hg : Z9 x) (hd : x.down = false) (h0 : x.fuse ≠ 0) (i : Int) (hi : Df9 x i) : P9 (E7 (S9 x) 0) i = P9 x i:=by
 have h1:=Gr9 (Cj9 hg) 0;rw [No9 hg hd h0] at h1 ⊢;obtain ⟨k,rfl⟩:=Int.eq_ofNat_of_zero_le hi.1;have hk : k < x.secs.length:=by have:=hi.2;omega
 have hin : Df9 ⟨J8 x (Am9 (key x.cache) x.cache.length),[],-1,false⟩ (k : Int):=⟨by omega,by show (k : Int) < ((J8 x _).length : Int);rw [J7];exact hi.2⟩
 rw [Bb9 h1 hin,Bb9 hg hi];exact Xh9 hk _ _
end Go.Proofs.YthpkdjflndiojaaGreatDoor
