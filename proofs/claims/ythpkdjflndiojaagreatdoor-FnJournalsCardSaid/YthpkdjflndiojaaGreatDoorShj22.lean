/- What the theorem needs, out of many texts. -/
import Derived.Test.YthpkdjflndiojaaGreatDoorShj20
set_option maxHeartbeats 20000000
namespace Go.Proofs.YthpkdjflndiojaaGreatDoor
open Go.RowKit
set_option maxRecDepth 100000
set_option linter.unusedVariables false
theorem Dv8 {xs : List Db} (h : Bm9 xs = false) : Fh9 xs = ⟨#[]⟩:=by unfold Fh9;rw [h];rfl
theorem Sc9 {xs : List Db} (h : Bm9 xs = true) : (Fh9 xs).data.toList = Lib.join (xs.map dbL) [59]:=by unfold Fh9;rw [h];rfl
theorem Mw9 (xs : List Db) : (Fh9 xs).size ≤ 100:=by
 cases h : Bm9 xs with
 | false => rw [Dv8 h];exact Nat.zero_le _
 | true =>
   have h1:=Sc9 h;obtain ⟨hd,hl⟩:=Iz9 h;have h2:=Vr9 (l:=xs.map dbL) (fun p hp => by obtain ⟨d,hm,rfl⟩:=List.mem_map.1 hp;exact (Jn9 (hd d hm)).2.2) (by simpa using hl)
   rw [← h1] at h2;simpa using h2
theorem Ve9 {xs : List Db} (h : Bm9 xs = true) : Cb9 (Fh9 xs).data.toList = (xs,true):=by rw [Sc9 h];exact Xk9 h
theorem Qb9 {w : World} {base : Nat} {cs : List Value} {d : Db} {fp : List Nat} (h : dbR.own w base cs d fp) : cs = dbC d∧fp = []:=by
 refine ⟨Wm9 (Rep.reads dbR h),?_⟩;obtain ⟨f1,g1,⟨_,rfl⟩,⟨f2,g2,⟨_,rfl⟩,⟨f3,g3,⟨_,rfl⟩,⟨f4,g4,⟨_,rfl⟩,⟨_,rfl⟩,rfl,_⟩,rfl,_⟩,rfl,_⟩,rfl,_⟩:=h;rfl
theorem Bw8 {w : World} {base g n cap k : Nat} {xs : List Db} {fp : List Nat} {x : Db} (h : Rep.OwnRows dbR 132 w base (.slice (some ⟨g,0,none⟩) n cap) xs fp) (hx : xs[k]? = some x) (x' : Db) (j : Nat) (u : Value) (hj : j < 5) (hu : (dbC x).set j u = dbC x') :
 Rep.OwnRows dbR 132 (w.setCell ⟨g,k * 5 + j,none⟩ u) base (.slice (some ⟨g,0,none⟩) n cap) (xs.set k x') fp:=by
 obtain ⟨c,f,hown,_,_,_,_,_,_,_,_,hset⟩:=h.open_ hx;obtain ⟨rfl,rfl⟩:=Qb9 hown;exact hset x' j u hj (by rw [hu];exact Qc9 _ _ x')
def FewDbs (m : Nat) (xs : List Db) : Prop:=xs.length ≤ m∧∀ x,x ∈ xs→x.name.size ≤ 100
theorem FewDbs.fits {m : Nat} {xs : List Db} (h : FewDbs m xs) (hm : m ≤ 1048576) : Jq9 xs:=⟨Nat.le_trans h.1 hm,fun x hx => by have:=h.2 x hx;omega⟩
theorem FewDbs.set {m k : Nat} {xs : List Db} {x : Db} (h : FewDbs m xs) (hx : x.name.size ≤ 100) : FewDbs m (xs.set k x):=
 ⟨by simpa using h.1,fun y hy => by rcases List.mem_or_eq_of_mem_set hy with hy | rfl;exact h.2 y hy;exact hx⟩
theorem FewDbs.more {m m' : Nat} {xs : List Db} (h : FewDbs m xs) (hm : m ≤ m') : FewDbs m' xs:=⟨Nat.le_trans h.1 hm,h.2⟩
def Qs9 (w : World) (lo g : Nat) (A : Option Addr) (n c : Nat) (code : List UInt8) (P : List Db→Prop) (e : Ending) (w' : World) : Prop:=
 ∃ A2 c2 xs fp,e = .returned (.slice A2 xs.length c2)∧P xs∧dbsR.own w' w.heap.size [.slice A2 xs.length c2] xs fp∧Cur w' lo g A n c code∧Rep.Only w w' [g]
def RetDb3 (w : World) (lo g : Nat) (A : Option Addr) (n c : Nat) (code : List UInt8) (e : Ending) (w' : World) : Prop:=
 ∃ x : Db,e = .returned (.agg #[.string x.name,.int .i64 x.size,.int .i64 x.queue,.int .i64 x.wait,.int .i64 x.idle])∧x.name.size ≤ 100∧Cur w' lo g A n c code∧Rep.Only w w' [g]
theorem Op9 (w : World) (D : Nat) (a b c d e : Value) : Rep.Only w (((((w.setCell ⟨D,0,none⟩ a).setCell ⟨D,1,none⟩ b).setCell ⟨D,2,none⟩ c).setCell ⟨D,3,none⟩ d).setCell ⟨D,4,none⟩ e) [D]:=
 ((((Rep.Only.setCell w (p:=⟨D,0,none⟩) (by simp) a).trans (Rep.Only.setCell _ (p:=⟨D,1,none⟩) (by simp) b)).trans (Rep.Only.setCell _ (p:=⟨D,2,none⟩) (by simp) c)).trans (Rep.Only.setCell _ (p:=⟨D,3,none⟩) (by simp) d)).trans (Rep.Only.setCell _ (p:=⟨D,4,none⟩) (by simp) e)
set_option maxRecDepth 100000 in
theorem Bb8 (lo g : Nat) (A : Option Addr) (n c : Nat) (code : List UInt8) (w : World) (h : Cur w lo g A n c code) (hn : n ≤ 140737488351232) :
 Calls Tryz.prog 107 #[.pointer (some ⟨g,0,none⟩)] w (RetDb3 w lo g A n c code):=by
 have hglt:=h.lt;have hlg:=h.from_;go_enter Tryz.func107,Tryz.ntmps107
 go_wp2_with fail;have ho1:=Rep.only_alloc w (.cells #[.string ⟨#[]⟩,.int .i64 0,.int .i64 0,.int .i64 0,.int .i64 0] 132);have hv1:=heap_alloc_new w (.cells #[.string ⟨#[]⟩,.int .i64 0,.int .i64 0,.int .i64 0,.int .i64 0] 132);have hs1 : (w.alloc (.cells #[.string ⟨#[]⟩,.int .i64 0,.int .i64 0,.int .i64 0,.int .i64 0] 132)).heap.size = w.heap.size + 1:=by simp
 generalize hgW : w.alloc (.cells #[.string ⟨#[]⟩,.int .i64 0,.int .i64 0,.int .i64 0,.int .i64 0] 132) = W1 at ho1 hv1 hs1 ⊢;clear hgW;have hc1:=h.only ho1 (by simp) (fun a ha => by cases ha)
 have O1 : Rep.Only w W1 [g]:=ho1.mono (by simp)
 have V1:=Lib.hid hv1;clear ho1 hv1 h;rw [← hs1];refine (Px9 lo g A n c code [⟨#[109,97,105,110]⟩,⟨#[109,97,105,110]⟩,⟨#[108,111,103,115]⟩,⟨#[120]⟩] W1 hc1 hn (by decide) (by decide)).mono ?_
 rintro e W2 ⟨x1,hx1,rfl,hc2,ho⟩;have X1 : x1.size ≤ 100:=by simp only [List.mem_cons,List.not_mem_nil,or_false] at hx1;rcases hx1 with rfl | rfl | rfl | rfl <;> decide
 have V2:=Rep.var_only V1 ho (by omega) (by simp;omega)
 have O2:=O1.then ho (fun a ha => .inl ha)
 have s2:=ho.size;clear ho hc1 V1 O1 hx1;go_wp2_with fail;refine (C8 lo g A n c code 3 W2 hc2 hn (by omega) (by omega)).mono ?_
 rintro e W3 ⟨x2,hx2,rfl,hc3,hg⟩;have ho:=I7 hg;have V3:=Rep.var_only V2 ho (by omega) (by simp;omega)
 have O3:=O2.then ho (fun a ha => .inl ha)
 have s3:=ho.size;clear ho hg hc2 V2 O2;go_wp2_with fail;refine (C8 lo g A n c code 5 W3 hc3 hn (by omega) (by omega)).mono ?_
 rintro e W4 ⟨x3,hx3,rfl,hc4,hg⟩;have ho:=I7 hg;have V4:=Rep.var_only V3 ho (by omega) (by simp;omega)
 have O4:=O3.then ho (fun a ha => .inl ha)
 have s4:=ho.size;clear ho hg hc3 V3 O3;go_wp2_with fail;refine (Cc9 lo g A n c code [1,2,5,20] W4 hc4 hn (by decide) (by decide)).mono ?_
 rintro e W5 ⟨x4,hx4,rfl,hc5,ho⟩;have V5:=Rep.var_only V4 ho (by omega) (by simp;omega)
 have O5:=O4.then ho (fun a ha => .inl ha)
 have s5:=ho.size;clear ho hx4 hc4 V4 O4;go_wp2_with fail;refine (Cc9 lo g A n c code [1,3,20] W5 hc5 hn (by decide) (by decide)).mono ?_
 rintro e W6 ⟨x5,hx5,rfl,hc6,ho⟩;have V6:=Rep.var_only V5 ho (by omega) (by simp;omega)
 have O6:=O5.then ho (fun a ha => .inl ha)
 have s6:=ho.size;clear ho hx5 hc5 V5 O5;have q0 : W6.cell? ⟨w.heap.size,0,none⟩ = some (.string ⟨#[]⟩):=E9 V6.out 0;have q1 : W6.cell? ⟨w.heap.size,1,none⟩ = some (.int .i64 0):=E9 V6.out 1;have q2 : W6.cell? ⟨w.heap.size,2,none⟩ = some (.int .i64 0):=E9 V6.out 2;have q3 : W6.cell? ⟨w.heap.size,3,none⟩ = some (.int .i64 0):=E9 V6.out 3;have q4 : W6.cell? ⟨w.heap.size,4,none⟩ = some (.int .i64 0):=E9 V6.out 4;have f0:=C9 V6.out 0;have f1:=C9 V6.out 1;have f2:=C9 V6.out 2;have f3:=C9 V6.out 3;have f4:=C9 V6.out 4;have hlt : w.heap.size < W6.heap.size:=by omega
 have o8:=Op9 W6 w.heap.size (.string x1) (.int .i64 (1 + (x2 : Int))) (.int .i64 (x3 : Int)) (.int .i64 x4) (.int .i64 x5);have HE:=Lib.hid (And.intro (hc6.only o8 (by simp;omega) (fun a ha => by simp at ha;omega)) (O6.then o8 (fun a ha => .inr (by simp at ha;omega))))
 clear hc6 O6 o8 V6;go_wp2_with fail;refine bodyPost_ret (v:=.agg #[.string x1,.int .i64 (1 + (x2 : Int)),.int .i64 (x3 : Int),.int .i64 x4,.int .i64 x5]) (by simp [results,Tryz.results107,go_sem,q0,q1,q2,q3,q4]) rfl ⟨⟨x1,1 + (x2 : Int),(x3 : Int),x4,x5⟩,rfl,X1,HE.out.1,HE.out.2⟩
theorem RetDb.lit {w w' : World} {p : Db × Bool} {e : Ending} (h : RetDb w p e w') : e = .returned (.tuple #[.agg #[.string p.1.name,.int .i64 p.1.size,.int .i64 p.1.queue,.int .i64 p.1.wait,.int .i64 p.1.idle],.bool p.2])∧Below w.heap.size w w':=h
structure L3 (w : World) (lo g : Nat) (A : Option Addr) (n c : Nat) (code : List UInt8) (v : Value) (xs : List Db) (fp : List Nat) (wr : World) : Prop where
 own : Rep.OwnRows dbR 132 wr w.heap.size v xs fp
 cur : Cur wr lo g A n c code
 only : Rep.Only w wr [g]
 lt : g < w.heap.size
 from_ : lo ≤ g
theorem L3.step {w w1 w2 : World} {lo g : Nat} {A : Option Addr} {n c : Nat} {code : List UInt8} {v : Value} {xs : List Db} {fp : List Nat} (h : L3 w lo g A n c code v xs fp w1) (hc : Cur w2 lo g A n c code) (ho : Rep.Only w1 w2 [g]) : L3 w lo g A n c code v xs fp w2:=
 ⟨h.own.kept fun a ha => ho.block a (h.own.lt a ha).2 (by have:=(h.own.lt a ha).1;have:=h.lt;simp;omega),hc,h.only.then ho (fun a ha => .inl ha),h.lt,h.from_⟩
theorem L3.later {w w1 w2 : World} {lo g : Nat} {A : Option Addr} {n c : Nat} {code : List UInt8} {v : Value} {xs : List Db} {fp : List Nat} (h : L3 w lo g A n c code v xs fp w1) (hb : Below w1.heap.size w1 w2) : L3 w lo g A n c code v xs fp w2:=
 have ho:=Rep.only_of_below hb;h.step (h.cur.only ho (by simp) (fun a ha => by cases ha)) (ho.mono (by simp))
theorem L3.alloc {w w1 : World} {lo g : Nat} {A : Option Addr} {n c : Nat} {code : List UInt8} {v : Value} {xs : List Db} {fp : List Nat} (h : L3 w lo g A n c code v xs fp w1) (o : Obj) : L3 w lo g A n c code v xs fp (w1.alloc o):=h.later (Later.alloc w1 o)
theorem L3.other {w w1 w2 : World} {lo g : Nat} {A : Option Addr} {n c : Nat} {code : List UInt8} {v v2 : Value} {xs xs2 : List Db} {fp fp2 : List Nat} (h : L3 w lo g A n c code v xs fp w1) (hown : Rep.OwnRows dbR 132 w2 w.heap.size v2 xs2 fp2) (ho : Rep.Only w1 w2 fp) : L3 w lo g A n c code v2 xs2 fp2 w2:=
 have hf : ∀ a,a ∈ fp→w.heap.size ≤ a:=fun a ha => (h.own.lt a ha).1
 ⟨hown,h.cur.only ho (fun hm => by have:=hf _ hm;have:=h.lt;omega) (fun a ha => by have:=hf _ ha;have:=h.lt;have:=h.from_;omega),h.only.then ho (fun a ha => .inr (hf a ha)),h.lt,h.from_⟩
theorem L3.grown {w w1 w2 : World} {lo g : Nat} {A : Option Addr} {n c : Nat} {code : List UInt8} {v v2 : Value} {xs xs2 : List Db} {fp fp2 : List Nat} (h : L3 w lo g A n c code v xs fp w1) (hown : Rep.OwnRows dbR 132 w2 w.heap.size v2 xs2 fp2) (hg : w1.grownBy w2 v.ownBlock) (hv : ∀ k,v.ownBlock = some k→w.heap.size ≤ k∧k ∈ fp) : L3 w lo g A n c code v2 xs2 fp2 w2:=
 h.other hown (Rep.Only.of_grown hg fun k hk => (hv k hk).2)
theorem L3.set {w w1 : World} {lo g : Nat} {A : Option Addr} {n c : Nat} {code : List UInt8} {G m cap k : Nat} {xs : List Db} {fp : List Nat} {x : Db} (h : L3 w lo g A n c code (.slice (some ⟨G,0,none⟩) m cap) xs fp w1) (hx : xs[k]? = some x) (x' : Db) (j : Nat) (u : Value) (hj : j < 5) (hu : (dbC x).set j u = dbC x') : L3 w lo g A n c code (.slice (some ⟨G,0,none⟩) m cap) (xs.set k x') fp (w1.setCell ⟨G,k * 5 + j,none⟩ u):=by
 have hG : G ∈ fp:=by
  obtain ⟨_,_,_,_,h7,_⟩:=(h.own.open_ hx).choose_spec.choose_spec;exact h7
 exact h.other (Bw8 h.own hx x' j u hj hu) (Rep.Only.setCell w1 (p:=⟨G,k * 5 + j,none⟩) hG u)
theorem L3.ret {w w1 : World} {lo g : Nat} {A : Option Addr} {n c : Nat} {code : List UInt8} {v : Value} {xs : List Db} {fp : List Nat} {P : List Db→Prop} (h : L3 w lo g A n c code v xs fp w1) (hP : P xs) : Qs9 w lo g A n c code P (.returned v) w1:=by
 obtain ⟨A2,c2,rfl,_,_,_⟩:=h.own.reads;exact ⟨A2,c2,xs,fp,rfl,hP,⟨_,rfl,h.own⟩,h.cur,h.only⟩
def Pool (k : Nat) (xs : List Db) : Prop:=(xs.length + k ≤ 3∧∀ x,x ∈ xs→x.name.size ≤ 100)∧(xs.length = 0→0 < k)
set_option maxRecDepth 100000 in
theorem Pk9 (lo g : Nat) (A : Option Addr) (n c : Nat) (code : List UInt8) (w : World) (h : Cur w lo g A n c code) (hn : n ≤ 140737488351232) :
 Calls Tryz.prog 82 #[.pointer (some ⟨g,0,none⟩)] w (Qs9 w lo g A n c code (fun xs => FewDbs 3 xs∧1 ≤ xs.length)):=by
 obtain ⟨j0,hj0,hz0,hz1,hz2⟩:=info_parts Tryz.infoDb;have hown0:=Je9 w 132 dbR (by decide) (Nat.le_refl _)
 have L : L3 w lo g A n c code (.slice (some ⟨w.heap.size,0,none⟩) 0 0) [] [w.heap.size] (w.alloc (.cells #[] 132)):=
  ⟨hown0,h.alloc _,(Rep.only_alloc w _).mono (by simp),h.lt,h.from_⟩
 clear hown0 h;go_enter Tryz.func82,Tryz.ntmps82
 go_wp2_with fail;generalize w.alloc (.cells #[] 132) = W1 at L ⊢;refine (C8 lo g A n c code 3 W1 L.cur hn (by omega) (by omega)).mono ?_
 rintro e W2 ⟨x,hx,rfl,hc2,hg⟩;replace L:=L.step hc2 (I7 hg);clear hc2 hg;go_wp2_with fail;obtain ⟨W0,rfl⟩ : ∃ W0 : World,W0 = W2:=⟨_,rfl⟩;go_loopw [3,4] (fun v i wr => ∃ (k : Nat) (xs : List Db) (fp : List Nat),k ≤ 3∧i = .int .i64 k∧Hid (Pool k xs)∧L3 w lo g A n c code v xs fp wr) (fun _ i _ => (intOf i).toNat)
 case atStart => exact ⟨1 + x,[],_,by omega,by go_num,Lib.hid ⟨⟨by simp;omega,by simp⟩,fun _ => by omega⟩,L⟩
 case round =>
  clear L hx;obtain ⟨k,xs,fp,hk,rfl,hp,L⟩:=hrel;by_cases hlt : 0 < k
  ·have i1 : (0 : Int) < (k : Int):=by omega
   go_wp2_with fail;refine (Bb8 lo g A n c code wr L.cur hn).mono ?_;rintro e W3 ⟨x,rfl,hxs,hc3,ho3⟩;replace L:=L.step hc3 ho3;obtain ⟨A9,c9,rfl,_,_,_⟩:=L.own.reads;clear hc3 ho3;go_wp2_with fail;have V:=Lib.hid (heap_alloc_new W3 (.cells #[.string x.name,.int .i64 x.size,.int .i64 x.queue,.int .i64 x.wait,.int .i64 x.idle] 132));replace L:=L.alloc (.cells #[.string x.name,.int .i64 x.size,.int .i64 x.queue,.int .i64 x.wait,.int .i64 x.idle] 132);generalize W3.alloc (.cells #[.string x.name,.int .i64 x.size,.int .i64 x.queue,.int .i64 x.wait,.int .i64 x.idle] 132) = W4 at V L ⊢;generalize W3.heap.size = D at V ⊢;obtain ⟨A8,c8,he8,_,_,hrows⟩:=L.own.reads;injection he8 with he8 _ he9;subst he8 he9;obtain ⟨⟨d,y⟩,hd⟩ : ∃ p,Js9 xs x.name = p:=⟨_,rfl⟩;have HD:=Lib.hid hd;have hlen:=hp.out.1.1;refine (Sa9 A9 c9 xs x.name W4 hrows (by omega)).mono ?_
   rw [hd];rintro e W5 hret;obtain ⟨rfl,hb⟩:=hret.lit;replace L:=L.later hb;replace V:=Keeps.keeps (F:=fun w' => Hid (w'.heap[D]? = some (.cells #[.string x.name,.int .i64 x.size,.int .i64 x.queue,.int .i64 x.wait,.int .i64 x.idle] 132 (0,0)))) hb V
   clear hb hd hrows;have v0 : W5.cell? ⟨D,0,none⟩ = some (.string x.name):=E9 V.out 0;have v1 : W5.cell? ⟨D,1,none⟩ = some (.int .i64 x.size):=E9 V.out 1;have v2 : W5.cell? ⟨D,2,none⟩ = some (.int .i64 x.queue):=E9 V.out 2;have v3 : W5.cell? ⟨D,3,none⟩ = some (.int .i64 x.wait):=E9 V.out 3;have v4 : W5.cell? ⟨D,4,none⟩ = some (.int .i64 x.idle):=E9 V.out 4;have hDl : D < W5.heap.size:=(Array.getElem?_eq_some_iff.1 V.out).1;have HK:=Lib.hid hlen;clear hlen;cases y
   ·go_wp2_with (at_builtin
                 replace L:=L.alloc (.cells #[.string d.name,.int .i64 d.size,.int .i64 d.queue,.int .i64 d.wait,.int .i64 d.idle] 132);have hnew:=T7 (W5.alloc (.cells #[.string d.name,.int .i64 d.size,.int .i64 d.queue,.int .i64 d.wait,.int .i64 d.idle] 132)) #[.string x.name,.int .i64 x.size,.int .i64 x.queue,.int .i64 x.wait,.int .i64 x.idle] 5 1 132 (g:=W5.heap.size + 1) (by simp) rfl (by simp [maxLen])
                 replace L:=L.alloc (.cells #[.string x.name,.int .i64 x.size,.int .i64 x.queue,.int .i64 x.wait,.int .i64 x.idle] 132);go_must (refine Rep.wpList_push _ rfl (.tmp 27) (.tmp 29) _ rfl dbR w.heap.size 132 j0 _ 48 Tryz.underlying114 hj0 hz0 hz1 hz2 rfl (by decide) (.slice A9 xs.length c9) xs fp rfl L.own _ 1 _ x [] rfl hnew (by simp [Value.oneCell']) (Qc9 _ _ x) (fun g hg hg' => by cases hg) (by have:=HK.out;simp only [maxLen];omega) (by have:=HK.out;omega) (by have:=L.only.size;exact this) ?_)
                 intro A2 c2 w2 fp2 hown2 hg2 hf2 hv2;clear hnew)
    have L2:=L.grown hown2 hg2 hv2;clear L hown2 hg2 hf2 hv2;obtain ⟨k,rfl⟩ : ∃ j,k = j + 1:=⟨k - 1,by omega⟩
    go_roundw
    case rel => exact ⟨k,xs ++ [x],fp2,by omega,by go_num,Lib.hid ⟨⟨by have:=hp.out.1.1;simp;omega,fun z hz => by rcases List.mem_append.1 hz with hz | hz;exact hp.out.1.2 z hz;rw [List.mem_singleton.1 hz];exact hxs⟩,fun hz => by simp at hz⟩,by simpa using L2⟩
    case measure => simp [intOf]
   ·have hne : ¬ xs.length = 0 := by
       intro h0;have:=HD.out;rw [List.eq_nil_of_length_eq_zero h0] at this;cases this
    clear v0 v1 v2 v3 v4;go_wp2_with fail;replace L:=L.alloc (.cells #[.string d.name,.int .i64 d.size,.int .i64 d.queue,.int .i64 d.wait,.int .i64 d.idle] 132);obtain ⟨k,rfl⟩ : ∃ j,k = j + 1:=⟨k - 1,by omega⟩
    go_roundw
    case rel => exact ⟨k,xs,fp,by omega,by go_num,Lib.hid ⟨⟨by have:=hp.out.1.1;omega,hp.out.1.2⟩,fun hz => absurd hz hne⟩,L⟩
    case measure => simp [intOf]
  ·have i1 : ¬ (0 : Int) < (k : Int):=by omega
   go_wp2_with fail;go_ret
   exact L.ret ⟨⟨by have:=hp.out.1.1;omega,hp.out.1.2⟩,by have:=hp.out.2;omega⟩
theorem L3.block {w wr : World} {lo g : Nat} {A : Option Addr} {n c : Nat} {code : List UInt8} {v : Value} {xs : List Db} {fp : List Nat} (h : L3 w lo g A n c code v xs fp wr) (h0 : 0 < xs.length) : ∃ G cap,v = .slice (some ⟨G,0,none⟩) xs.length cap:=by
 obtain ⟨cells,fps,hrow,_⟩:=h.own;rcases hrow.2 with ⟨_,h1⟩ | ⟨G,cap,cur,rfl,_⟩
 ·omega
 ·exact ⟨G,cap,rfl⟩
theorem L3.of_draw {w w1 w2 : World} {lo g : Nat} {A : Option Addr} {n c : Nat} {code : List UInt8} {A2 : Option Addr} {c2 : Nat} {xs : List Db} {fp : List Nat} (hown : dbsR.own w2 w1.heap.size [.slice A2 xs.length c2] xs fp) (hc : Cur w2 lo g A n c code) (ho : Rep.Only w1 w2 [g]) (h0 : Rep.Only w w1 [g]) (hlt : g < w.heap.size) (hlo : lo ≤ g) : L3 w lo g A n c code (.slice A2 xs.length c2) xs fp w2:=by
 obtain ⟨v,hv,hr⟩:=hown;injection hv with hv _;subst hv;exact ⟨hr.low h0.size,hc,h0.trans ho,hlt,hlo⟩
theorem L3.cells {w wr : World} {lo g : Nat} {A : Option Addr} {n c : Nat} {code : List UInt8} {G m cap k : Nat} {xs : List Db} {fp : List Nat} {x : Db} (h : L3 w lo g A n c code (.slice (some ⟨G,0,none⟩) m cap) xs fp wr) (hx : xs[k]? = some x) :
 (wr.cell? ⟨G,k * 5,none⟩ = some (.string x.name)∧wr.cell? ⟨G,k * 5 + 1,none⟩ = some (.int .i64 x.size)∧wr.cell? ⟨G,k * 5 + 2,none⟩ = some (.int .i64 x.queue)∧wr.cell? ⟨G,k * 5 + 3,none⟩ = some (.int .i64 x.wait)∧wr.cell? ⟨G,k * 5 + 4,none⟩ = some (.int .i64 x.idle))∧(∀ j,wr.frozen? ⟨G,j,none⟩ = false)∧G < wr.heap.size:=by
 obtain ⟨cs,f,hown,hc,hfz,_,_,_,_,hlt,_⟩:=h.own.open_ hx;obtain ⟨rfl,rfl⟩:=Qb9 hown;exact ⟨⟨hc 0 _ rfl,hc 1 _ rfl,hc 2 _ rfl,hc 3 _ rfl,hc 4 _ rfl⟩,hfz,hlt⟩
def RetText (w : World) (lo g : Nat) (A : Option Addr) (n c : Nat) (code : List UInt8) (e : Ending) (w' : World) : Prop:=
 ∃ s : ByteArray,e = .returned (.string s)∧s.size ≤ 100∧Cur w' lo g A n c code∧Rep.Only w w' [g]
def Cj8 : List ByteArray:=[⟨#[]⟩,⟨#[109,97,105,110]⟩,⟨#[109,97,105,110,58,49]⟩,⟨#[109,97,105,110,58,49,47,50,47,51]⟩,⟨#[109,97,105,110,58,48,49,47,50,47,51,47,52]⟩,⟨#[109,97,105,110,58,49,47,50,47,51,47,52,59]⟩,⟨#[59,109,97,105,110,58,49,47,50,47,51,47,52]⟩,⟨#[109,97,105,110,58,49,47,50,47,51,47,52,59,109,97,105,110,58,49,47,49,47,49,47,49]⟩,⟨#[109,97,105,110,58,49,47,50,47,51,47,52,47,53]⟩,⟨#[109,97,105,110,58,52,47,50,47,51,47,52]⟩,⟨#[109,97,105,110,58,49,47,53,47,51,47,52]⟩,⟨#[109,97,105,110,58,49,47,50,47,48,47,52]⟩,⟨#[109,97,105,110,58,49,47,50,47,51,47,49,48,48]⟩,⟨#[77,97,105,110,58,49,47,50,47,51,47,52]⟩,⟨#[109,97,105,110,58,49,47,50,47,51,47,52,32]⟩,⟨#[58,49,47,50,47,51,47,52]⟩,⟨#[97,58,49,47,48,47,49,47,49,59,98,58,49,47,48,47,49,47,49,59,99,58,49,47,48,47,49,47,49,59,100,58,49,47,48,47,49,47,49]⟩,⟨#[97,58,98,58,49,47,50,47,51,47,52]⟩]
theorem Uh9 : ∀ z,z ∈ Cj8→z.size ≤ 100:=by decide
set_option maxRecDepth 100000 in
theorem Xr9 (lo g : Nat) (A : Option Addr) (n c : Nat) (code : List UInt8) (w : World) (h : Cur w lo g A n c code) (hn : n ≤ 140737488351232) :
 Calls Tryz.prog 50 #[.pointer (some ⟨g,0,none⟩)] w (RetText w lo g A n c code):=by
 have hglt:=h.lt;have hlg:=h.from_;go_enter Tryz.func50,Tryz.ntmps50
 go_wp2_with fail;refine (Ki9 lo g A n c code 3 w h hn (by omega) (by omega)).mono ?_
 rintro e W1 ⟨y,rfl,hc1,hg1⟩;have ho1:=I7 hg1;clear hg1 h;cases y
 ·go_wp2_with fail
  refine (Pk9 lo g A n c code W1 hc1 hn).mono ?_;rintro e W2 ⟨A2,c2,xs,fp,rfl,hP,hown,hc2,ho2⟩;have L:=L3.of_draw hown hc2 ho2 ho1 hglt hlg;obtain ⟨hfew,h1⟩:=hP;clear hown hc2 ho2 hc1 ho1;obtain ⟨A8,c8,he8,_,_,hrows⟩:=L.own.reads;injection he8 with he8 _ he9;subst he8 he9;go_wp2_with fail;refine (Gu9 A2 c2 xs W2 hrows (hfew.fits (by omega))).mono ?_
  rintro e W3 ⟨rfl,hb⟩;replace L:=L.later hb;clear hrows hb;go_wp2_with fail;go_ret
  exact ⟨Fh9 xs,rfl,Mw9 xs,L.cur,L.only⟩
 ·go_wp2_with fail
  refine (Px9 lo g A n c code Cj8 W1 hc1 hn (by decide) (by decide)).mono ?_
  rintro e W2 ⟨z,hz,rfl,hc2,ho2⟩;have hzs:=Uh9 z hz;clear hz;go_wp2_with fail;go_ret
  exact ⟨z,rfl,hzs,hc2,ho1.trans ho2⟩
theorem L3.at_ {w wr : World} {lo g : Nat} {A : Option Addr} {n c : Nat} {code : List UInt8} {v : Value} {xs : List Db} {fp : List Nat} (h : L3 w lo g A n c code v xs fp wr) : dbsR.at_ wr wr.heap.size [v] xs:=Rep.reads dbsR (⟨_,rfl,h.own⟩ : dbsR.own wr w.heap.size [v] xs fp)
theorem Ap8 {r : Rec} (h : Ak9 r = true) : (1 ≤ r.n∧r.n ≤ 60000)∧(1 ≤ r.kind∧r.kind ≤ 3)∧(0 ≤ r.owner∧r.owner ≤ 1)∧okB r.text.data.toList = true:=by
 have hnil : Ey9 r.text = true→okB r.text.data.toList = true:=fun h => by rw [(Oz9 _).1 h];exact Zn9
 have htxt : Fe9 r.text = true→okB r.text.data.toList = true:=fun h => by
  unfold Fe9 at h;exact Vd9 (xs:=(Cb9 r.text.data.toList).1) (by rw [← h])
 unfold Ak9 at h;rw [Bool.and_eq_true] at h;obtain ⟨h0,h⟩:=h;refine ⟨of_decide_eq_true h0,?_⟩;split at h
 ·rename_i hk
  rw [Bool.and_eq_true] at h;have ho:=of_decide_eq_true h.1;exact ⟨by omega,by omega,htxt h.2⟩
 ·split at h
  ·rename_i hk
   rw [Bool.and_eq_true] at h;have ho:=of_decide_eq_true h.1;exact ⟨by omega,by omega,hnil h.2⟩
  ·rw [Bool.and_eq_true,Bool.and_eq_true] at h
   have hk:=of_decide_eq_true h.1;have ho:=of_decide_eq_true h.2.1;exact ⟨by omega,by omega,hnil h.2.2⟩
theorem Ct8 {g p : Int} {r : Rec} (hr : Ak9 r = true) (hg : 0 ≤ g∧g ≤ 65535) (hp : 0 ≤ p∧p ≤ 65535) : Ah9 g p r = Q7 (X7 g p r):=if_pos ⟨hr,hg,hp⟩
theorem Lc9 {l : List UInt8} {k : Nat} {n : Int} (h0 : 0 ≤ n) (h1 : n ≤ 65535) (hl : k + 2 ≤ l.length) (hx : l[k]? = some (u8 (n / 256))) (hy : l[k + 1]? = some (u8 n)) : S8 l k = n:=by
 rw [(Ye9 hl hx hy).2.1,Gc9,Gc9];omega
theorem Ao8 {g p : Int} {r : Rec} (hr : Ak9 r = true) (hg : 0 ≤ g∧g ≤ 65535) (hp : 0 ≤ p∧p ≤ 65535) :
 Fb9 (Ah9 g p r) = true∧S8 (Ah9 g p r) 0 = g∧S8 (Ah9 g p r) 2 = p∧Cg9 (Ah9 g p r) = r∧11 ≤ (Ah9 g p r).length:=by
 obtain ⟨hn,hk,ho,ht⟩:=Ap8 hr;have e : Ah9 g p r = u8 (g / 256) :: u8 g :: u8 (p / 256) :: u8 p :: u8 r.kind :: u8 (r.n / 256) :: u8 r.n :: u8 r.owner :: u8 (r.text.data.toList.length : Int) :: (r.text.data.toList ++ F9 (crc (X7 g p r))):=by
  rw [Ct8 hr hg hp];unfold Q7;conv => lhs;arg 1;unfold X7 ptB
  rw [if_pos ht];simp [F9]
 have hlen : 11 ≤ (Ah9 g p r).length:=by rw [e];simp [F9]
 have w0 : S8 (Ah9 g p r) 0 = g:=Lc9 (k:=0) hg.1 hg.2 (by omega) (by rw [e];rfl) (by rw [e];rfl)
 have w2 : S8 (Ah9 g p r) 2 = p:=Lc9 (k:=2) hp.1 hp.2 (by omega) (by rw [e];rfl) (by rw [e];rfl)
 have w5 : S8 (Ah9 g p r) 5 = r.n:=Lc9 (k:=5) (by omega) (by omega) (by omega) (by rw [e];rfl) (by rw [e];rfl)
 have hgt : gtS (Ah9 g p r) 8 = r.text:=by
  have hm:=Dk8 (l:=[u8 (g / 256),u8 g,u8 (p / 256),u8 p,u8 r.kind,u8 (r.n / 256),u8 r.n,u8 r.owner]) (t:=F9 (crc (X7 g p r))) ht;have e2 : ptB [u8 (g / 256),u8 g,u8 (p / 256),u8 p,u8 r.kind,u8 (r.n / 256),u8 r.n,u8 r.owner] r.text.data.toList ++ F9 (crc (X7 g p r)) = Ah9 g p r:=by
   rw [e];unfold ptB;rw [if_pos ht];simp
  rw [e2] at hm;have h8:=(Tm9 (p:=8) hm).1;rw [h8]
 have hrec : Cg9 (Ah9 g p r) = r:=by
  unfold Cg9;rw [w5,hgt,Jl9 (k:=4) (u:=u8 r.kind) (by rw [e];rfl),Jl9 (k:=7) (u:=u8 r.owner) (by rw [e];rfl),Gc9,Gc9]
  obtain ⟨a,b,c,d⟩:=r;have h1 : a % 256 = a:=by simp at hk;omega
  have h2 : c % 256 = c:=by simp at ho;omega
  show (⟨a % 256,b,c % 256,d⟩ : Rec) = ⟨a,b,c,d⟩
  rw [h1,h2]
 refine ⟨?_,w0,w2,hrec,hlen⟩;rw [Pt9 hlen,w0,w2,hrec];simp
theorem four {α : Type} {g : Field→α} {fs : List Field} {a b c d : α} (h : fs.map g = [a,b,c,d]) : ∃ f1 f2 f3 f4,fs = [f1,f2,f3,f4]∧g f1 = a∧g f2 = b∧g f3 = c∧g f4 = d:=by
 match fs,h with
 | [f1, f2, f3, f4], h =>
   simp only [List.map_cons,List.map_nil,List.cons.injEq,and_true] at h;exact ⟨f1,f2,f3,f4,rfl,h⟩
structure V4 (w : World) (lo g : Nat) (A : Option Addr) (n c : Nat) (code : List UInt8) (D : Nat) (r : Rec) (wr : World) : Prop where
 zero : wr.heap[w.heap.size]? = some (.cells (M8 N8).toArray 29 (0,0))
 var : wr.heap[D]? = some (.cells (M8 r).toArray 29 (0,0))
 cur : Cur wr lo g A n c code
 only : Rep.Only w wr [g]
 hD : w.heap.size < D
 lt : g < w.heap.size
 from_ : lo ≤ g
theorem V4.step {w w1 w2 : World} {lo g : Nat} {A : Option Addr} {n c : Nat} {code : List UInt8} {D : Nat} {r : Rec} (h : V4 w lo g A n c code D r w1) (hc : Cur w2 lo g A n c code) (ho : Rep.Only w1 w2 [g]) : V4 w lo g A n c code D r w2:=
 ⟨(ho.block _ (Array.getElem?_eq_some_iff.1 h.zero).1 (by have:=h.lt;simp;omega)).trans h.zero,(ho.block _ (Array.getElem?_eq_some_iff.1 h.var).1 (by have:=h.lt;have:=h.hD;simp;omega)).trans h.var,hc,h.only.then ho (fun a ha => .inl ha),h.hD,h.lt,h.from_⟩
theorem V4.later {w w1 w2 : World} {lo g : Nat} {A : Option Addr} {n c : Nat} {code : List UInt8} {D : Nat} {r : Rec} (h : V4 w lo g A n c code D r w1) (hb : Below w1.heap.size w1 w2) : V4 w lo g A n c code D r w2:=
 have ho:=Rep.only_of_below hb;h.step (h.cur.only ho (by simp) (fun a ha => by cases ha)) (ho.mono (by simp))
theorem V4.set {w w1 : World} {lo g : Nat} {A : Option Addr} {n c : Nat} {code : List UInt8} {D : Nat} {r : Rec} (h : V4 w lo g A n c code D r w1) (i : Nat) (u : Value) (r' : Rec) (hr : (M8 r).toArray.setIfInBounds i u = (M8 r').toArray) : V4 w lo g A n c code D r' (w1.setCell ⟨D,i,none⟩ u):=by
 have ho:=Rep.Only.setCell w1 (p:=⟨D,i,none⟩) (fp:=[D]) (by simp) u
 have h1:=h.hD;have h2:=h.lt;have h3:=h.from_;exact ⟨(ho.block _ (Array.getElem?_eq_some_iff.1 h.zero).1 (by simp;omega)).trans h.zero,by rw [← hr];exact N9 h.var i u,h.cur.only ho (by simp;omega) (fun a ha => by simp at ha;omega),h.only.then ho (fun a ha => .inr (by simp at ha;omega)),h1,h2,h3⟩
def Uc9 (w : World) (lo g : Nat) (A : Option Addr) (n c : Nat) (code : List UInt8) (e : Ending) (w' : World) : Prop:=
 ∃ r : Rec,e = .returned (.agg #[.int .i64 r.kind,.int .i64 r.n,.int .i64 r.owner,.string r.text])∧r.text.size ≤ 100∧Cur w' lo g A n c code∧Rep.Only w w' [g]
theorem V4.ret {w w1 : World} {lo g : Nat} {A : Option Addr} {n c : Nat} {code : List UInt8} {D : Nat} {k m o : Int} {t : ByteArray} (h : V4 w lo g A n c code D ⟨k,m,o,t⟩ w1) (ht : t.size ≤ 100) :
 Uc9 w lo g A n c code (.returned (.agg #[.int .i64 k,.int .i64 m,.int .i64 o,.string t])) ((((w1.setCell ⟨w.heap.size,0,none⟩ (.int .i64 k)).setCell ⟨w.heap.size,1,none⟩ (.int .i64 m)).setCell ⟨w.heap.size,2,none⟩ (.int .i64 o)).setCell ⟨w.heap.size,3,none⟩ (.string t)):=by
 have ho:=U7 w1 w.heap.size (.int .i64 k) (.int .i64 m) (.int .i64 o) (.string t);have h2:=h.lt;have h3:=h.from_;exact ⟨⟨k,m,o,t⟩,rfl,ht,h.cur.only ho (by simp;omega) (fun a ha => by simp at ha;omega),h.only.then ho (fun a ha => .inr (by simp at ha;omega))⟩
theorem V4.facts {w w1 : World} {lo g : Nat} {A : Option Addr} {n c : Nat} {code : List UInt8} {D : Nat} {k m o : Int} {t : ByteArray} (h : V4 w lo g A n c code D ⟨k,m,o,t⟩ w1) :
 (w1.cell? ⟨D,0,none⟩ = some (.int .i64 k)∧w1.cell? ⟨D,1,none⟩ = some (.int .i64 m)∧w1.cell? ⟨D,2,none⟩ = some (.int .i64 o)∧w1.cell? ⟨D,3,none⟩ = some (.string t))∧(∀ i,w1.frozen? ⟨D,i,none⟩ = false) ∧
 (w1.cell? ⟨w.heap.size,0,none⟩ = some (.int .i64 0)∧w1.cell? ⟨w.heap.size,1,none⟩ = some (.int .i64 0)∧w1.cell? ⟨w.heap.size,2,none⟩ = some (.int .i64 0)∧w1.cell? ⟨w.heap.size,3,none⟩ = some (.string ⟨#[]⟩))∧(∀ i,w1.frozen? ⟨w.heap.size,i,none⟩ = false):=
 ⟨J9 h.var,C9 h.var,J9 h.zero,C9 h.zero⟩
set_option maxRecDepth 100000 in
theorem Xq9 (lo g : Nat) (A : Option Addr) (n c : Nat) (code : List UInt8) (w : World) (h : Cur w lo g A n c code) (hn : n ≤ 140737488351232) :
 Calls Tryz.prog 41 #[.pointer (some ⟨g,0,none⟩)] w (Uc9 w lo g A n c code):=by
 have hglt:=h.lt;have hlg:=h.from_;go_enter Tryz.func41,Tryz.ntmps41
 go_wp2_with fail;have ho1:=Rep.only_alloc w (.cells #[.int .i64 0,.int .i64 0,.int .i64 0,.string ⟨#[]⟩] 29);have hv1:=heap_alloc_new w (.cells #[.int .i64 0,.int .i64 0,.int .i64 0,.string ⟨#[]⟩] 29);have hs1 : (w.alloc (.cells #[.int .i64 0,.int .i64 0,.int .i64 0,.string ⟨#[]⟩] 29)).heap.size = w.heap.size + 1:=by simp
 generalize w.alloc (.cells #[.int .i64 0,.int .i64 0,.int .i64 0,.string ⟨#[]⟩] 29) = W1 at ho1 hv1 hs1 ⊢;have hc1:=h.only ho1 (by simp) (fun a ha => by cases ha)
 have O1 : Rep.Only w W1 [g]:=ho1.mono (by simp)
 have V1:=Lib.hid hv1;clear ho1 hv1 h;refine (C8 lo g A n c code 3 W1 hc1 hn (by omega) (by omega)).mono ?_
 rintro e W2 ⟨x,hx,rfl,hc2,hg2⟩;have ho:=I7 hg2;have V2:=Rep.var_only V1 ho (by omega) (by simp;omega)
 have O2:=O1.then ho (fun a ha => .inl ha)
 have s2:=ho.size;clear hg2 ho hc1 V1 O1;go_wp2_with fail;refine (C8 lo g A n c code 6 W2 hc2 hn (by omega) (by omega)).mono ?_
 rintro e W3 ⟨m,hm,rfl,hc3,hg3⟩;have ho:=I7 hg3;have V3:=Rep.var_only V2 ho (by omega) (by simp;omega)
 have O3:=O2.then ho (fun a ha => .inl ha)
 have s3:=ho.size;clear hg3 ho hc2 V2 O2;have V : ∀ kd : Int,V4 w lo g A n c code W3.heap.size ⟨kd,1 + (m : Int),0,⟨#[]⟩⟩ (W3.alloc (.cells #[.int .i64 kd,.int .i64 (1 + (m : Int)),.int .i64 0,.string ⟨#[]⟩] 29)):=fun kd =>
  ⟨(Below.heap_alloc _ _ _ (by omega)).trans V3.out,heap_alloc_new _ _,hc3.alloc _,O3.then (Rep.only_alloc _ _) (fun a ha => by cases ha),by omega,hglt,hlg⟩
 clear hc3 O3;have split : x = 0 ∨ x = 1 ∨ x = 2:=by omega
 rcases split with rfl | rfl | rfl
 ·replace V:=V 1
  clear V3;go_wp2_with fail;generalize W3.alloc (.cells #[.int .i64 1,.int .i64 (1 + (m : Int)),.int .i64 0,.string ⟨#[]⟩] 29) = W4 at V ⊢;generalize W3.heap.size = D at V ⊢;refine (Pk9 lo g A n c code W4 V.cur hn).mono ?_;rintro e W5 ⟨A2,c2,xs,fp,rfl,hP,hown,hc5,ho5⟩;replace V:=V.step hc5 ho5;obtain ⟨hfew,h1⟩:=hP;obtain ⟨⟨hq1,hq2⟩,hrows⟩:=Wl9 (Rep.reads dbsR hown);clear hown hc5 ho5;go_wp2_with fail;refine (Gu9 A2 c2 xs W5 hrows (hfew.fits (by omega))).mono ?_
  rintro e W6 ⟨rfl,hb⟩;replace V:=V.later hb;have hts:=Mw9 xs;generalize Fh9 xs = t at hts ⊢;clear hb hrows hq1 hq2 h1 hfew;obtain ⟨⟨d0,d1,d2,d3⟩,df,⟨z0,z1,z2,z3⟩,zf⟩:=V.facts;have df3:=df 3;have hDl : D < W6.heap.size:=(Array.getElem?_eq_some_iff.1 V.var).1;have hne : w.heap.size ≠ D:=by have:=V.hD;omega
  have zf0:=zf 0;have zf1:=zf 1;have zf2:=zf 2;have zf3:=zf 3;have hret:=(V.set 3 (.string t) ⟨1,1 + (m : Int),0,t⟩ rfl).ret hts;clear V df zf;go_wp2_with fail;exact bodyPost_ret (v:=.agg #[.int .i64 1,.int .i64 (1 + (m : Int)),.int .i64 0,.string t]) (by simp [results,Tryz.results41,go_sem,z0,z1,z2,z3]) rfl hret
 ·replace V:=V 2
  clear V3;go_upto_region 2 with (fail)
  generalize W3.alloc (.cells #[.int .i64 2,.int .i64 (1 + (m : Int)),.int .i64 0,.string ⟨#[]⟩] 29) = W4 at V ⊢;generalize W3.heap.size = D at V ⊢;obtain ⟨⟨d0,d1,d2,d3⟩,df,⟨z0,z1,z2,z3⟩,zf⟩:=V.facts;have zf0:=zf 0;have zf1:=zf 1;have zf2:=zf 2;have zf3:=zf 3;have hret:=V.ret (by decide)
  clear V df zf;go_wp2_with fail;exact bodyPost_ret (v:=.agg #[.int .i64 2,.int .i64 (1 + (m : Int)),.int .i64 0,.string ⟨#[]⟩]) (by simp [results,Tryz.results41,go_sem,z0,z1,z2,z3]) rfl hret
 ·replace V:=V 3
  clear V3;go_wp2_with fail;generalize W3.alloc (.cells #[.int .i64 3,.int .i64 (1 + (m : Int)),.int .i64 0,.string ⟨#[]⟩] 29) = W4 at V ⊢;generalize W3.heap.size = D at V ⊢;refine (C8 lo g A n c code 2 W4 V.cur hn (by omega) (by omega)).mono ?_
  rintro e W5 ⟨ow,how,rfl,hc5,hg5⟩;replace V:=V.step hc5 (I7 hg5);clear hc5 hg5;obtain ⟨⟨d0,d1,d2,d3⟩,df,⟨z0,z1,z2,z3⟩,zf⟩:=V.facts;have df2:=df 2;have hDl : D < W5.heap.size:=(Array.getElem?_eq_some_iff.1 V.var).1;have hne : w.heap.size ≠ D:=by have:=V.hD;omega
  have zf0:=zf 0;have zf1:=zf 1;have zf2:=zf 2;have zf3:=zf 3;have hret:=(V.set 2 (.int .i64 (ow : Int)) ⟨3,1 + (m : Int),(ow : Int),⟨#[]⟩⟩ rfl).ret (by decide)
  clear V df zf;go_wp2_with fail;exact bodyPost_ret (v:=.agg #[.int .i64 3,.int .i64 (1 + (m : Int)),.int .i64 (ow : Int),.string ⟨#[]⟩]) (by simp [results,Tryz.results41,go_sem,z0,z1,z2,z3]) rfl hret
set_option maxRecDepth 100000 in
theorem Ba8 (lo g : Nat) (A : Option Addr) (n c : Nat) (code : List UInt8) (w : World) (h : Cur w lo g A n c code) (hn : n ≤ 140737488351232) :
 Calls Tryz.prog 16 #[.pointer (some ⟨g,0,none⟩)] w (Uc9 w lo g A n c code):=by
 have hglt:=h.lt;have hlg:=h.from_;go_enter Tryz.func16,Tryz.ntmps16
 go_wp2_with fail;have ho1:=Rep.only_alloc w (.cells #[.int .i64 0,.int .i64 0,.int .i64 0,.string ⟨#[]⟩] 29);have hv1:=heap_alloc_new w (.cells #[.int .i64 0,.int .i64 0,.int .i64 0,.string ⟨#[]⟩] 29);have hs1 : (w.alloc (.cells #[.int .i64 0,.int .i64 0,.int .i64 0,.string ⟨#[]⟩] 29)).heap.size = w.heap.size + 1:=by simp
 generalize w.alloc (.cells #[.int .i64 0,.int .i64 0,.int .i64 0,.string ⟨#[]⟩] 29) = W1 at ho1 hv1 hs1 ⊢;have hc1:=h.only ho1 (by simp) (fun a ha => by cases ha)
 have O1 : Rep.Only w W1 [g]:=ho1.mono (by simp)
 have V1:=Lib.hid hv1;clear ho1 hv1 h;refine (Xq9 lo g A n c code W1 hc1 hn).mono ?_;rintro e W2 ⟨⟨rk,rn,ro,rt⟩,rfl,hts,hc2,ho⟩;have V2:=Rep.var_only V1 ho (by omega) (by simp;omega)
 have O2:=O1.then ho (fun a ha => .inl ha)
 have s2:=ho.size;have V : V4 w lo g A n c code W2.heap.size ⟨rk,rn,ro,rt⟩ (W2.alloc (.cells #[.int .i64 rk,.int .i64 rn,.int .i64 ro,.string rt] 29)):=
  ⟨(Below.heap_alloc _ _ _ (by omega)).trans V2.out,heap_alloc_new _ _,hc2.alloc _,O2.then (Rep.only_alloc _ _) (fun a ha => by cases ha),by omega,hglt,hlg⟩
 clear hc2 ho hc1 V1 O1 V2 O2;replace hts : rt.size ≤ 100:=hts;go_wp2_with fail;generalize W2.alloc (.cells #[.int .i64 rk,.int .i64 rn,.int .i64 ro,.string rt] 29) = W4 at V ⊢;generalize W2.heap.size = D at V ⊢;refine (C8 lo g A n c code 12 W4 V.cur hn (by omega) (by omega)).mono ?_
 rintro e W5 ⟨k,hk,rfl,hc5,hg5⟩;replace V:=V.step hc5 (I7 hg5);have hne : w.heap.size ≠ D:=by have:=V.hD;omega
 clear hc5 hg5 s2 hs1;have split : k = 0 ∨ k = 1 ∨ k = 2 ∨ k = 3 ∨ 4 ≤ k:=by omega
 rcases split with rfl | rfl | rfl | rfl | h4
 ·go_wp2_with fail
  refine (Cc9 lo g A n c code [0,1,2,4] W5 V.cur hn (by decide) (by decide)).mono ?_
  rintro e W6 ⟨z,hz,rfl,hc6,ho6⟩;replace V:=V.step hc6 ho6;clear hc6 ho6 hz;obtain ⟨⟨d0,d1,d2,d3⟩,df,⟨z0,z1,z2,z3⟩,zf⟩:=V.facts;have dfi:=df 0;have hDl : D < W6.heap.size:=(Array.getElem?_eq_some_iff.1 V.var).1;have zf0:=zf 0;have zf1:=zf 1;have zf2:=zf 2;have zf3:=zf 3;have hret:=(V.set 0 (.int .i64 z) ⟨z,rn,ro,rt⟩ rfl).ret hts;clear V df zf;go_wp2_with fail;exact bodyPost_ret (v:=.agg #[.int .i64 z,.int .i64 rn,.int .i64 ro,.string rt]) (by simp [results,Tryz.results16,go_sem,z0,z1,z2,z3]) rfl hret
 ·go_wp2_with fail
  refine (Cc9 lo g A n c code [0,60000,60001,-1] W5 V.cur hn (by decide) (by decide)).mono ?_
  rintro e W6 ⟨z,hz,rfl,hc6,ho6⟩;replace V:=V.step hc6 ho6;clear hc6 ho6 hz;obtain ⟨⟨d0,d1,d2,d3⟩,df,⟨z0,z1,z2,z3⟩,zf⟩:=V.facts;have dfi:=df 1;have hDl : D < W6.heap.size:=(Array.getElem?_eq_some_iff.1 V.var).1;have zf0:=zf 0;have zf1:=zf 1;have zf2:=zf 2;have zf3:=zf 3;have hret:=(V.set 1 (.int .i64 z) ⟨rk,z,ro,rt⟩ rfl).ret hts;clear V df zf;go_wp2_with fail;exact bodyPost_ret (v:=.agg #[.int .i64 rk,.int .i64 z,.int .i64 ro,.string rt]) (by simp [results,Tryz.results16,go_sem,z0,z1,z2,z3]) rfl hret
 ·go_wp2_with fail
  refine (Cc9 lo g A n c code [-1,1,2] W5 V.cur hn (by decide) (by decide)).mono ?_
  rintro e W6 ⟨z,hz,rfl,hc6,ho6⟩;replace V:=V.step hc6 ho6;clear hc6 ho6 hz;obtain ⟨⟨d0,d1,d2,d3⟩,df,⟨z0,z1,z2,z3⟩,zf⟩:=V.facts;have dfi:=df 2;have hDl : D < W6.heap.size:=(Array.getElem?_eq_some_iff.1 V.var).1;have zf0:=zf 0;have zf1:=zf 1;have zf2:=zf 2;have zf3:=zf 3;have hret:=(V.set 2 (.int .i64 z) ⟨rk,rn,z,rt⟩ rfl).ret hts;clear V df zf;go_wp2_with fail;exact bodyPost_ret (v:=.agg #[.int .i64 rk,.int .i64 rn,.int .i64 z,.string rt]) (by simp [results,Tryz.results16,go_sem,z0,z1,z2,z3]) rfl hret
 ·go_wp2_with fail
  refine (Xr9 lo g A n c code W5 V.cur hn).mono ?_;rintro e W6 ⟨s,rfl,hs,hc6,ho6⟩;replace V:=V.step hc6 ho6;clear hc6 ho6;obtain ⟨⟨d0,d1,d2,d3⟩,df,⟨z0,z1,z2,z3⟩,zf⟩:=V.facts;have dfi:=df 3;have hDl : D < W6.heap.size:=(Array.getElem?_eq_some_iff.1 V.var).1;have zf0:=zf 0;have zf1:=zf 1;have zf2:=zf 2;have zf3:=zf 3;have hret:=(V.set 3 (.string s) ⟨rk,rn,ro,s⟩ rfl).ret hs;clear V df zf;go_wp2_with fail;exact bodyPost_ret (v:=.agg #[.int .i64 rk,.int .i64 rn,.int .i64 ro,.string s]) (by simp [results,Tryz.results16,go_sem,z0,z1,z2,z3]) rfl hret
 ·have b0 : ((k : Int) == 0) = false:=by simp;omega
  have b1 : ((k : Int) == 1) = false:=by simp;omega
  have b2 : ((k : Int) == 2) = false:=by simp;omega
  have b3 : ((k : Int) == 3) = false:=by simp;omega
  obtain ⟨⟨d0,d1,d2,d3⟩,df,⟨z0,z1,z2,z3⟩,zf⟩:=V.facts;have hDl : D < W5.heap.size:=(Array.getElem?_eq_some_iff.1 V.var).1;have zf0:=zf 0;have zf1:=zf 1;have zf2:=zf 2;have zf3:=zf 3;have hret:=V.ret hts;clear V df zf;go_wp2_with fail;exact bodyPost_ret (v:=.agg #[.int .i64 rk,.int .i64 rn,.int .i64 ro,.string rt]) (by simp [results,Tryz.results16,go_sem,z0,z1,z2,z3]) rfl hret
noncomputable def Db9 : Disk:=S9 (U9 (An9 38) 1 (Af9 1 0))
end Go.Proofs.YthpkdjflndiojaaGreatDoor
