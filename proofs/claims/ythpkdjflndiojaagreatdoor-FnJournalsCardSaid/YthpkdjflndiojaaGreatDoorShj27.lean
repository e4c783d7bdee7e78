/- What the theorem needs, out of many texts. -/
import Derived.Test.YthpkdjflndiojaaGreatDoorShj20
set_option maxHeartbeats 20000000
namespace Go.Proofs.YthpkdjflndiojaaGreatDoor
open Go.RowKit
set_option maxRecDepth 100000
set_option linter.unusedVariables false
theorem Kb9 (g p : Int) (w : World) (hg : 0 ≤ g∧g ≤ 1000000) (hp : 0 ≤ p∧p ≤ 1000000) : Calls Tryz.prog 92 #[.int .i64 g,.int .i64 p] w fun e w' => e = .returned (.int .i64 (atP g p))∧w = w':=by
 obtain ⟨g1,g2⟩:=hg;obtain ⟨p1,p2⟩:=hp;have h0 : 0 ≤ g % 2:=by omega
 have h1 : g % 2 ≤ 1:=by omega
 have ht : g.tmod 2 = g % 2:=Int.tmod_eq_emod_of_nonneg g1;go_enter Tryz.func92,Tryz.ntmps92
 go_wp2
 go_ret
 exact ⟨rfl,rfl⟩
theorem Bp8 (b : List UInt8) : (Gb9 b).1.2.2.text.size ≤ 100:=by
 unfold Gb9;split
 ·exact Pp9 b 8
 ·decide
theorem So9 (d : Disk) (g : Int) (i : Nat) : (Ay9 d g i).text.size ≤ 100:=Bp8 _
theorem Tz9 {k : Known} {r : Rec} (h : (K8 k r).2 = false) : (K8 k r).1 = k:=by
 unfold K8 Lj9 Np9 Iw9 at h ⊢;split at h <;> rename_i h1
 ·rw [if_pos h1]
  split at h <;> rename_i h2
  ·rw [if_pos h2]
   split at h <;> rename_i h3
   ·cases h
   ·rw [if_neg h3]
  ·rw [if_neg h2]
   split at h <;> rename_i h4
   ·rw [if_pos h4]
    split at h <;> rename_i h3
    ·cases h
    ·rw [if_neg h3]
   ·rw [if_neg h4]
    split at h <;> rename_i h3
    ·cases h
    ·rw [if_neg h3]
 ·rw [if_neg h1]
structure QA (w : World) (cs : List Value) (W : World) : Prop where
 below : Below w.heap.size w W
 dbox : W.heap[w.heap.size]? = some (.cells cs.toArray 27 (0,0))
 rbox : W.heap[w.heap.size + 1]? = some (.cells (M8 N8).toArray 29 (0,0))
section
variable {w W W' : World} {cs : List Value}
theorem QA.lt (h : QA w cs W) : w.heap.size + 1 < W.heap.size:=(Array.getElem?_eq_some_iff.1 h.rbox).1
theorem QA.later (h : QA w cs W) (hb : Below W.heap.size W W') : QA w cs W':=by
 have hl:=h.lt;exact ⟨Later.trans h.below hb,(hb.block _ (by omega)).trans h.dbox,(hb.block _ hl).trans h.rbox⟩
instance QA.keeps (w : World) (cs : List Value) : Keeps (fun W => QA w cs W):=⟨fun h x => x.later h⟩
theorem QA.beside {E : Nat} (h : QA w cs W) (ho : Rep.Only W W' [E]) (hE : w.heap.size + 1 < E) : QA w cs W':=by
 have hl:=h.lt;exact ⟨Rep.Only.below h.below ho h.below.size (fun a ha => by simp at ha;omega),(ho.block _ (by omega) (by simp;omega)).trans h.dbox,(ho.block _ hl (by simp;omega)).trans h.rbox⟩
theorem QA.ret (h : QA w cs W) (a b c d : Value) : Below w.heap.size w ((((W.setCell ⟨w.heap.size + 1,0,none⟩ a).setCell ⟨w.heap.size + 1,1,none⟩ b).setCell ⟨w.heap.size + 1,2,none⟩ c).setCell ⟨w.heap.size + 1,3,none⟩ d):=
 Rep.Only.below h.below (U7 W (w.heap.size + 1) a b c d) h.below.size (fun a ha => by simp at ha;omega)
end
def RetRA (w : World) (r : Rec) (y : Bool) (e : Ending) (w' : World) : Prop:=e = .returned (.tuple #[.agg #[.int .i64 r.kind,.int .i64 r.n,.int .i64 r.owner,.string r.text],.bool y])∧Below w.heap.size w w'
theorem RetRA.lit {w w' : World} {k n o : Int} {t : ByteArray} {y : Bool} {e : Ending} (h : RetRA w ⟨k,n,o,t⟩ y e w') : e = .returned (.tuple #[.agg #[.int .i64 k,.int .i64 n,.int .i64 o,.string t],.bool y])∧Below w.heap.size w w':=h
set_option maxRecDepth 100000 in
theorem Aq8 (cs : List Value) (d : Disk) (g : Int) (j : Nat) (w : World) (h : diskR.at_ w w.heap.size cs d) (hf : Ag9 d) (hgg : 1 ≤ g∧g ≤ 60000) (hj : j < 18) (hg : Given w) :
 Calls Tryz.prog 99 #[.agg cs.toArray,.int .i64 g,.int .i64 j] w (RetRA w (Ay9 d g j) (Cr9 d g j)):=by
 obtain ⟨A,c,B,e,rfl⟩:=G7 h;have HD:=Lib.hid h;have HG:=Lib.hid hg;have S : All (fun w' => QA w [.slice A d.secs.length c,.slice B d.cache.length e,.int .i64 d.fuse,.bool d.down] w') ((w.alloc (.cells #[.slice A d.secs.length c,.slice B d.cache.length e,.int .i64 d.fuse,.bool d.down] 27)).alloc (.cells #[.int .i64 0,.int .i64 0,.int .i64 0,.string ⟨#[]⟩] 29)):=
  ⟨Later.trans (Later.alloc w _) (Later.alloc _ _),(Below.heap_alloc _ _ _ (by simp)).trans (heap_alloc_new w _),G9 _ _ (by simp)⟩
 clear h hg;show Calls Tryz.prog 99 #[.agg #[.slice A d.secs.length c,.slice B d.cache.length e,.int .i64 d.fuse,.bool d.down],.int .i64 g,.int .i64 j] w _
 obtain ⟨⟨⟨ga,gp,⟨rk,rn,ro,rt⟩⟩,ok⟩,hget⟩ : ∃ p,Gb9 (P9 d (atP g j)) = p:=⟨_,rfl⟩;have HR : Ay9 d g j = ⟨rk,rn,ro,rt⟩:=by unfold Ay9;rw [hget]
 have HS : Cr9 d g j = (ok && ((ga == g) && (gp == (j : Int)))):=by unfold Cr9;rw [hget]
 rw [HR,HS];obtain ⟨u1,hu1⟩ : ∃ u,(ga == g) = u:=⟨_,rfl⟩;obtain ⟨u2,hu2⟩ : ∃ u,(gp == (j : Int)) = u:=⟨_,rfl⟩;rw [hu1,hu2];have HU1:=Lib.hid hu1;have HU2:=Lib.hid hu2;clear hu1 hu2;have HGET:=Lib.hid hget;clear hget HR HS;unfold RetRA;go_enter Tryz.func99,Tryz.ntmps99
 go_upto_region 1 with (fail)
 generalize (w.alloc (.cells #[.slice A d.secs.length c,.slice B d.cache.length e,.int .i64 d.fuse,.bool d.down] 27)).alloc (.cells #[.int .i64 0,.int .i64 0,.int .i64 0,.string ⟨#[]⟩] 29) = W0 at S ⊢;go_cut [8,9,10,11] from 12 (fun v8 v9 v10 v11 W' => ∃ E,v8 = .int .i64 ga∧v9 = .int .i64 gp∧v10 = .pointer (some ⟨E,0,none⟩)∧v11 = .bool ok∧QA w [.slice A d.secs.length c,.slice B d.cache.length e,.int .i64 d.fuse,.bool d.down] W'∧Hid (W'.heap[E]? = some (.cells (M8 ⟨rk,rn,ro,rt⟩).toArray 29 (0,0)))∧w.heap.size + 1 < E)
 case first =>
  rename_i J K1 hJ hK
  refine Ad9 15 (fun w' => w'.heap[w.heap.size]? = some (.cells [.slice A d.secs.length c,.slice B d.cache.length e,.int .i64 d.fuse,.bool d.down].toArray 27 (0,0))) (by kernel_rfl) ?_
  replace S:=S.drew;refine Y9 [0,1,2] (fuel:=13) (by kernel_rfl) S.out.dbox ?_
  iterate 3 (refine LexR.cons rfl ?_ (fun w' hw => ?_) ?_;rotate_left;focus (obtain ⟨d0,d1,d2,d3⟩:=Q8 hw;clear hw;go_simp;(try exact rfl));(try go_frame))
  refine LexR.nil ?_;generalize W0.drew = V0 at S ⊢;refine As9 (i:=3) (j:=11) (by kernel_rfl) ?_ ?_
  ·skip
   refine K9 rfl ?_;try go_frame
   go_wp2_with fail;refine (Kb9 g (j : Int) V0 (by omega) (by omega)).mono ?_
   rintro e V1 ⟨rfl,rfl⟩;go_wp2_with fail;refine ⟨by first | exact S.out.dbox | exact fun _ => S.out.dbox,?_⟩
   refine As9 (i:=4) (j:=11) (by kernel_rfl) ?_ ?_
   ·skip
    refine K9 rfl ?_;try go_frame
    go_wp2_with fail;refine (Ge9 [.slice A d.secs.length c,.slice B d.cache.length e,.int .i64 d.fuse,.bool d.down] d (atP g (j : Int)) V0 (Keeps.keeps (F:=fun w' => diskR.at_ w' w'.heap.size [.slice A d.secs.length c,.slice B d.cache.length e,.int .i64 d.fuse,.bool d.down] d) S.out.below HD.out) hf (Ie9 hgg.1 hgg.2 (by omega) (by omega))).mono ?_
    rintro e V2 ⟨A4,c4,fp4,rfl,O4,hb⟩;replace S:=S.later hb;obtain ⟨A5,c5,he5,hk4,r4⟩:=Rep.reads byR O4;injection he5 with he5 _;injection he5 with he5 _ he6;subst he5 he6;clear hb O4;go_wp2_with fail;refine ⟨by first | exact S.out.dbox | exact fun _ => S.out.dbox,?_⟩
    refine As9 (i:=5) (j:=11) (by kernel_rfl) ?_ ?_
    ·skip
     refine K9 rfl ?_;try go_frame
     go_wp2_with fail;refine (Jj9 A4 c4 (P9 d (atP g (j : Int))) V2 r4 (Az9 hf _) hk4.1 (Keeps.keeps (F:=Given) S.out.below HG.out)).mono ?_;rw [HGET.out];rintro e V3 hret;obtain ⟨rfl,hb⟩:=hret.four;replace S:=S.later hb;clear hret hb r4;go_wp2_with fail;refine ⟨by first | exact S.out.dbox | exact fun _ => S.out.dbox,?_⟩
     refine Y9 [6,7,8,9,10] (fuel:=5) (by kernel_rfl) S.out.dbox ?_
     iterate 5 (refine LexR.cons rfl ?_ (fun w' hw => ?_) ?_;rotate_left;focus (clear hw;go_simp;(try exact rfl));(try go_frame))
     refine LexR.nil (F8 [11,12,13,14,15] (by kernel_rfl) (LexW.cons rfl ?_))
     try go_frame
     go_wp2_with fail;have hE : (V3.alloc (.cells #[.int .i64 0,.int .i64 0,.int .i64 0,.string ⟨#[]⟩] 29)).heap[V3.heap.size]? = some (.cells (M8 N8).toArray 29 (0,0)):=heap_alloc_new V3 _;have hDE : w.heap.size + 1 < V3.heap.size:=S.out.lt;replace S:=S.alloc (.cells #[.int .i64 0,.int .i64 0,.int .i64 0,.string ⟨#[]⟩] 29);generalize V3.alloc (.cells #[.int .i64 0,.int .i64 0,.int .i64 0,.string ⟨#[]⟩] 29) = V4 at S hE ⊢;generalize V3.heap.size = E at hE hDE ⊢;refine ⟨by first | exact S.out.dbox | exact fun _ => S.out.dbox,LexW.cons rfl ?_⟩
     try go_frame
     go_wp2_with fail;refine ⟨by first | exact S.out.dbox | exact fun _ => S.out.dbox,LexW.cons rfl ?_⟩
     try go_frame
     go_wp2_with fail;refine ⟨by first | exact S.out.dbox | exact fun _ => S.out.dbox,LexW.cons rfl ?_⟩
     try go_frame
     obtain ⟨y0,y1,y2,y3⟩:=J9 (r:=N8) hE;have yf0:=C9 hE 0;have yf1:=C9 hE 1;have yf2:=C9 hE 2;have yf3:=C9 hE 3;have hyl:=(Array.getElem?_eq_some_iff.1 hE).1;have HE2:=Lib.hid (Cx9 (r0:=N8) hE rk rn ro rt);have P2:=S.out.beside (U7 V4 E (.int .i64 rk) (.int .i64 rn) (.int .i64 ro) (.string rt)) hDE;clear hE S;go_wp2_with fail;generalize ((((V4.setCell ⟨E,0,none⟩ (.int .i64 rk)).setCell ⟨E,1,none⟩ (.int .i64 rn)).setCell ⟨E,2,none⟩ (.int .i64 ro)).setCell ⟨E,3,none⟩ (.string rt)) = VZ at HE2 P2 ⊢;clear y0 y1 y2 y3 yf0 yf1 yf2 yf3 hyl;refine ⟨by first | exact P2.dbox | exact fun _ => P2.dbox,LexW.cons rfl ?_⟩
     try go_frame
     go_wp2_with fail;refine ⟨fun h => absurd rfl h,LexW.nil (hK _ _ (Met.intro (hJ _ _ ?_)))⟩
     (repeat apply Exists.intro)
     refine ⟨?_,rfl⟩;exact ⟨E,rfl,rfl,rfl,rfl,P2,HE2,hDE⟩
    ·skip
     refine K9 rfl ?_;try go_frame
     go_wp2_with fail;have hE : (V2.alloc (.cells #[.int .i64 0,.int .i64 0,.int .i64 0,.string ⟨#[]⟩] 29)).heap[V2.heap.size]? = some (.cells (M8 N8).toArray 29 (0,0)):=heap_alloc_new V2 _;have hDE : w.heap.size + 1 < V2.heap.size:=S.out.lt;replace r4:=(r4.below (Later.alloc V2 (.cells #[.int .i64 0,.int .i64 0,.int .i64 0,.string ⟨#[]⟩] 29))).more (Later.alloc V2 (.cells #[.int .i64 0,.int .i64 0,.int .i64 0,.string ⟨#[]⟩] 29)).size;replace S:=S.alloc (.cells #[.int .i64 0,.int .i64 0,.int .i64 0,.string ⟨#[]⟩] 29);generalize V2.alloc (.cells #[.int .i64 0,.int .i64 0,.int .i64 0,.string ⟨#[]⟩] 29) = V3 at S hE r4 ⊢;generalize V2.heap.size = E at hE hDE ⊢;refine ⟨by first | exact S.out.dbox | exact fun _ => S.out.dbox,?_⟩
     refine R9 (i:=5) (by kernel_rfl) ?_
     refine K9 rfl ?_;try go_frame
     go_wp2_with fail;refine (Jj9 A4 c4 (P9 d (atP g (j : Int))) V3 r4 (Az9 hf _) hk4.1 (Keeps.keeps (F:=Given) S.out.below HG.out)).mono ?_;rw [HGET.out];rintro e V4 hret;obtain ⟨rfl,hb⟩:=hret.four;replace S:=S.later hb;replace hE:=(hb.block _ (Array.getElem?_eq_some_iff.1 hE).1).trans hE;clear hret hb r4;go_wp2_with fail;refine ⟨by first | exact S.out.dbox | exact fun _ => S.out.dbox,?_⟩
     refine Y9 [6,7,8,9,10] (fuel:=4) (by kernel_rfl) S.out.dbox ?_
     iterate 5 (refine LexR.cons rfl ?_ (fun w' hw => ?_) ?_;rotate_left;focus (clear hw;go_simp;(try exact rfl));(try go_frame))
     refine LexR.nil (F8 [12,13,14,15] (by kernel_rfl) (LexW.cons rfl ?_))
     try go_frame
     go_wp2_with fail;refine ⟨by first | exact S.out.dbox | exact fun _ => S.out.dbox,LexW.cons rfl ?_⟩
     try go_frame
     go_wp2_with fail;refine ⟨by first | exact S.out.dbox | exact fun _ => S.out.dbox,LexW.cons rfl ?_⟩
     try go_frame
     obtain ⟨y0,y1,y2,y3⟩:=J9 (r:=N8) hE;have yf0:=C9 hE 0;have yf1:=C9 hE 1;have yf2:=C9 hE 2;have yf3:=C9 hE 3;have hyl:=(Array.getElem?_eq_some_iff.1 hE).1;have HE2:=Lib.hid (Cx9 (r0:=N8) hE rk rn ro rt);have P2:=S.out.beside (U7 V4 E (.int .i64 rk) (.int .i64 rn) (.int .i64 ro) (.string rt)) hDE;clear hE S;go_wp2_with fail;generalize ((((V4.setCell ⟨E,0,none⟩ (.int .i64 rk)).setCell ⟨E,1,none⟩ (.int .i64 rn)).setCell ⟨E,2,none⟩ (.int .i64 ro)).setCell ⟨E,3,none⟩ (.string rt)) = VZ at HE2 P2 ⊢;clear y0 y1 y2 y3 yf0 yf1 yf2 yf3 hyl;refine ⟨by first | exact P2.dbox | exact fun _ => P2.dbox,LexW.cons rfl ?_⟩
     try go_frame
     go_wp2_with fail;refine ⟨fun h => absurd rfl h,LexW.nil (hK _ _ (Met.intro (hJ _ _ ?_)))⟩
     (repeat apply Exists.intro)
     refine ⟨?_,rfl⟩;exact ⟨E,rfl,rfl,rfl,rfl,P2,HE2,hDE⟩
   ·skip
    refine K9 rfl ?_;try go_frame
    go_wp2_with fail;have hE : (V0.alloc (.cells #[.int .i64 0,.int .i64 0,.int .i64 0,.string ⟨#[]⟩] 29)).heap[V0.heap.size]? = some (.cells (M8 N8).toArray 29 (0,0)):=heap_alloc_new V0 _;have hDE : w.heap.size + 1 < V0.heap.size:=S.out.lt;replace S:=S.alloc (.cells #[.int .i64 0,.int .i64 0,.int .i64 0,.string ⟨#[]⟩] 29);generalize V0.alloc (.cells #[.int .i64 0,.int .i64 0,.int .i64 0,.string ⟨#[]⟩] 29) = V2 at S hE ⊢;generalize V0.heap.size = E at hE hDE ⊢;refine ⟨by first | exact S.out.dbox | exact fun _ => S.out.dbox,?_⟩
    refine R9 (i:=4) (by kernel_rfl) ?_
    refine K9 rfl ?_;try go_frame
    go_wp2_with fail;refine (Ge9 [.slice A d.secs.length c,.slice B d.cache.length e,.int .i64 d.fuse,.bool d.down] d (atP g (j : Int)) V2 (Keeps.keeps (F:=fun w' => diskR.at_ w' w'.heap.size [.slice A d.secs.length c,.slice B d.cache.length e,.int .i64 d.fuse,.bool d.down] d) S.out.below HD.out) hf (Ie9 hgg.1 hgg.2 (by omega) (by omega))).mono ?_
    rintro e V3 ⟨A4,c4,fp4,rfl,O4,hb⟩;replace S:=S.later hb;replace hE:=(hb.block _ (Array.getElem?_eq_some_iff.1 hE).1).trans hE;obtain ⟨A5,c5,he5,hk4,r4⟩:=Rep.reads byR O4;injection he5 with he5 _;injection he5 with he5 _ he6;subst he5 he6;clear hb O4;go_wp2_with fail;refine ⟨by first | exact S.out.dbox | exact fun _ => S.out.dbox,?_⟩
    refine R9 (i:=5) (by kernel_rfl) ?_
    refine K9 rfl ?_;try go_frame
    go_wp2_with fail;refine (Jj9 A4 c4 (P9 d (atP g (j : Int))) V3 r4 (Az9 hf _) hk4.1 (Keeps.keeps (F:=Given) S.out.below HG.out)).mono ?_;rw [HGET.out];rintro e V4 hret;obtain ⟨rfl,hb⟩:=hret.four;replace S:=S.later hb;replace hE:=(hb.block _ (Array.getElem?_eq_some_iff.1 hE).1).trans hE;clear hret hb r4;go_wp2_with fail;refine ⟨by first | exact S.out.dbox | exact fun _ => S.out.dbox,?_⟩
    refine Y9 [6,7,8,9,10] (fuel:=4) (by kernel_rfl) S.out.dbox ?_
    iterate 5 (refine LexR.cons rfl ?_ (fun w' hw => ?_) ?_;rotate_left;focus (clear hw;go_simp;(try exact rfl));(try go_frame))
    refine LexR.nil (F8 [12,13,14,15] (by kernel_rfl) (LexW.cons rfl ?_))
    try go_frame
    go_wp2_with fail;refine ⟨by first | exact S.out.dbox | exact fun _ => S.out.dbox,LexW.cons rfl ?_⟩
    try go_frame
    go_wp2_with fail;refine ⟨by first | exact S.out.dbox | exact fun _ => S.out.dbox,LexW.cons rfl ?_⟩
    try go_frame
    obtain ⟨y0,y1,y2,y3⟩:=J9 (r:=N8) hE;have yf0:=C9 hE 0;have yf1:=C9 hE 1;have yf2:=C9 hE 2;have yf3:=C9 hE 3;have hyl:=(Array.getElem?_eq_some_iff.1 hE).1;have HE2:=Lib.hid (Cx9 (r0:=N8) hE rk rn ro rt);have P2:=S.out.beside (U7 V4 E (.int .i64 rk) (.int .i64 rn) (.int .i64 ro) (.string rt)) hDE;clear hE S;go_wp2_with fail;generalize ((((V4.setCell ⟨E,0,none⟩ (.int .i64 rk)).setCell ⟨E,1,none⟩ (.int .i64 rn)).setCell ⟨E,2,none⟩ (.int .i64 ro)).setCell ⟨E,3,none⟩ (.string rt)) = VZ at HE2 P2 ⊢;clear y0 y1 y2 y3 yf0 yf1 yf2 yf3 hyl;refine ⟨by first | exact P2.dbox | exact fun _ => P2.dbox,LexW.cons rfl ?_⟩
    try go_frame
    go_wp2_with fail;refine ⟨fun h => absurd rfl h,LexW.nil (hK _ _ (Met.intro (hJ _ _ ?_)))⟩
    (repeat apply Exists.intro)
    refine ⟨?_,rfl⟩;exact ⟨E,rfl,rfl,rfl,rfl,P2,HE2,hDE⟩
  ·skip
   refine K9 rfl ?_;try go_frame
   go_wp2_with fail;have hE : (V0.alloc (.cells #[.int .i64 0,.int .i64 0,.int .i64 0,.string ⟨#[]⟩] 29)).heap[V0.heap.size]? = some (.cells (M8 N8).toArray 29 (0,0)):=heap_alloc_new V0 _;have hDE : w.heap.size + 1 < V0.heap.size:=S.out.lt;replace S:=S.alloc (.cells #[.int .i64 0,.int .i64 0,.int .i64 0,.string ⟨#[]⟩] 29);generalize V0.alloc (.cells #[.int .i64 0,.int .i64 0,.int .i64 0,.string ⟨#[]⟩] 29) = V1 at S hE ⊢;generalize V0.heap.size = E at hE hDE ⊢;refine ⟨by first | exact S.out.dbox | exact fun _ => S.out.dbox,?_⟩
   refine R9 (i:=3) (by kernel_rfl) ?_
   refine K9 rfl ?_;try go_frame
   go_wp2_with fail;refine (Kb9 g (j : Int) V1 (by omega) (by omega)).mono ?_
   rintro e V2 ⟨rfl,rfl⟩;go_wp2_with fail;refine ⟨by first | exact S.out.dbox | exact fun _ => S.out.dbox,?_⟩
   refine R9 (i:=4) (by kernel_rfl) ?_
   refine K9 rfl ?_;try go_frame
   go_wp2_with fail;refine (Ge9 [.slice A d.secs.length c,.slice B d.cache.length e,.int .i64 d.fuse,.bool d.down] d (atP g (j : Int)) V1 (Keeps.keeps (F:=fun w' => diskR.at_ w' w'.heap.size [.slice A d.secs.length c,.slice B d.cache.length e,.int .i64 d.fuse,.bool d.down] d) S.out.below HD.out) hf (Ie9 hgg.1 hgg.2 (by omega) (by omega))).mono ?_
   rintro e V3 ⟨A4,c4,fp4,rfl,O4,hb⟩;replace S:=S.later hb;replace hE:=(hb.block _ (Array.getElem?_eq_some_iff.1 hE).1).trans hE;obtain ⟨A5,c5,he5,hk4,r4⟩:=Rep.reads byR O4;injection he5 with he5 _;injection he5 with he5 _ he6;subst he5 he6;clear hb O4;go_wp2_with fail;refine ⟨by first | exact S.out.dbox | exact fun _ => S.out.dbox,?_⟩
   refine R9 (i:=5) (by kernel_rfl) ?_
   refine K9 rfl ?_;try go_frame
   go_wp2_with fail;refine (Jj9 A4 c4 (P9 d (atP g (j : Int))) V3 r4 (Az9 hf _) hk4.1 (Keeps.keeps (F:=Given) S.out.below HG.out)).mono ?_;rw [HGET.out];rintro e V4 hret;obtain ⟨rfl,hb⟩:=hret.four;replace S:=S.later hb;replace hE:=(hb.block _ (Array.getElem?_eq_some_iff.1 hE).1).trans hE;clear hret hb r4;go_wp2_with fail;refine ⟨by first | exact S.out.dbox | exact fun _ => S.out.dbox,?_⟩
   refine Y9 [6,7,8,9,10] (fuel:=4) (by kernel_rfl) S.out.dbox ?_
   iterate 5 (refine LexR.cons rfl ?_ (fun w' hw => ?_) ?_;rotate_left;focus (clear hw;go_simp;(try exact rfl));(try go_frame))
   refine LexR.nil (F8 [12,13,14,15] (by kernel_rfl) (LexW.cons rfl ?_))
   try go_frame
   go_wp2_with fail;refine ⟨by first | exact S.out.dbox | exact fun _ => S.out.dbox,LexW.cons rfl ?_⟩
   try go_frame
   go_wp2_with fail;refine ⟨by first | exact S.out.dbox | exact fun _ => S.out.dbox,LexW.cons rfl ?_⟩
   try go_frame
   obtain ⟨y0,y1,y2,y3⟩:=J9 (r:=N8) hE;have yf0:=C9 hE 0;have yf1:=C9 hE 1;have yf2:=C9 hE 2;have yf3:=C9 hE 3;have hyl:=(Array.getElem?_eq_some_iff.1 hE).1;have HE2:=Lib.hid (Cx9 (r0:=N8) hE rk rn ro rt);have P2:=S.out.beside (U7 V4 E (.int .i64 rk) (.int .i64 rn) (.int .i64 ro) (.string rt)) hDE;clear hE S;go_wp2_with fail;generalize ((((V4.setCell ⟨E,0,none⟩ (.int .i64 rk)).setCell ⟨E,1,none⟩ (.int .i64 rn)).setCell ⟨E,2,none⟩ (.int .i64 ro)).setCell ⟨E,3,none⟩ (.string rt)) = VZ at HE2 P2 ⊢;clear y0 y1 y2 y3 yf0 yf1 yf2 yf3 hyl;refine ⟨by first | exact P2.dbox | exact fun _ => P2.dbox,LexW.cons rfl ?_⟩
   try go_frame
   go_wp2_with fail;refine ⟨fun h => absurd rfl h,LexW.nil (hK _ _ (Met.intro (hJ _ _ ?_)))⟩
   (repeat apply Exists.intro)
   refine ⟨?_,rfl⟩;exact ⟨E,rfl,rfl,rfl,rfl,P2,HE2,hDE⟩
 case rest =>
  clear S;obtain ⟨E,rfl,rfl,rfl,rfl,P,hE,hDE⟩:=hcut;obtain ⟨e0,e1,e2,e3⟩:=J9 (r:=⟨rk,rn,ro,rt⟩) hE.out;obtain ⟨z0,z1,z2,z3⟩:=J9 (r:=N8) P.rbox;have zf0:=C9 P.rbox 0;have zf1:=C9 P.rbox 1;have zf2:=C9 P.rbox 2;have zf3:=C9 P.rbox 3;have hl:=P.lt;have hret:=P.ret (.int .i64 rk) (.int .i64 rn) (.int .i64 ro) (.string rt);have hu1:=HU1.out;have hu2:=HU2.out;clear P hE;cases ok
  ·go_wp2_with fail
   exact bodyPost_ret (v:=.tuple #[.agg #[.int .i64 rk,.int .i64 rn,.int .i64 ro,.string rt],.bool false]) (by simp [results,Tryz.results99,go_sem,z0,z1,z2,z3,N8]) rfl ⟨rfl,hret⟩
  ·cases u1
   ·go_wp2_with fail
    exact bodyPost_ret (v:=.tuple #[.agg #[.int .i64 rk,.int .i64 rn,.int .i64 ro,.string rt],.bool false]) (by simp [results,Tryz.results99,go_sem,z0,z1,z2,z3,N8]) rfl ⟨rfl,hret⟩
   ·cases u2
    ·go_wp2_with fail
     exact bodyPost_ret (v:=.tuple #[.agg #[.int .i64 rk,.int .i64 rn,.int .i64 ro,.string rt],.bool false]) (by simp [results,Tryz.results99,go_sem,z0,z1,z2,z3,N8]) rfl ⟨rfl,hret⟩
    ·go_wp2_with fail
     exact bodyPost_ret (v:=.tuple #[.agg #[.int .i64 rk,.int .i64 rn,.int .i64 ro,.string rt],.bool true]) (by simp [results,Tryz.results99,go_sem,z0,z1,z2,z3,N8]) rfl ⟨rfl,hret⟩
set_option maxRecDepth 100000 in
theorem Xg9 (cs : List Value) (d : Disk) (g : Int) (w : World) (h : diskR.at_ w w.heap.size cs d) (hf : Ag9 d) (hwf : (Lit.int .i64 g).wf = true) (hg : Given w) :
 Calls Tryz.prog 70 #[.agg cs.toArray,.int .i64 g] w (RetRep w (U8 d g)):=by
 obtain ⟨A,c,B,e,rfl⟩:=G7 h;have HD:=Lib.hid h;have HG:=Lib.hid hg;have P0 : PB w [.slice A d.secs.length c,.slice B d.cache.length e,.int .i64 d.fuse,.bool d.down] knownZero (((w.alloc (.cells #[.slice A d.secs.length c,.slice B d.cache.length e,.int .i64 d.fuse,.bool d.down] 27)).alloc (.cells #[.int .i64 0,.string ⟨#[]⟩,.int .i64 0,.string ⟨#[]⟩,.int .i64 0,.int .i64 0] 35)).alloc (.cells #[.int .i64 0,.string ⟨#[]⟩,.int .i64 0,.string ⟨#[]⟩,.int .i64 0,.int .i64 0] 35)):=
  ⟨Later.trans (Later.trans (Later.alloc w _) (Later.alloc _ _)) (Later.alloc _ _),(Below.heap_alloc _ _ _ (by simp;omega)).trans ((Below.heap_alloc _ _ _ (by simp)).trans (heap_alloc_new w _)),(Below.heap_alloc _ _ _ (by simp)).trans (G9 _ _ (by simp)),G9 _ _ (by simp)⟩
 clear h hg;show Calls Tryz.prog 70 #[.agg #[.slice A d.secs.length c,.slice B d.cache.length e,.int .i64 d.fuse,.bool d.down],.int .i64 g] w _
 obtain ⟨⟨⟨Ka,Kb,Kp,Kq,Ke,Kf⟩,M⟩,hp⟩ : ∃ p,U8 d g = p:=⟨_,rfl⟩;rw [hp];have HP:=Lib.hid hp;clear hp;obtain ⟨b1,h1⟩ : ∃ b,inI g 1 60000 = b:=⟨_,rfl⟩;unfold RetRep;go_enter Tryz.func70,Tryz.ntmps70
 go_upto_region 2 with (fail)
 generalize ((w.alloc (.cells #[.slice A d.secs.length c,.slice B d.cache.length e,.int .i64 d.fuse,.bool d.down] 27)).alloc (.cells #[.int .i64 0,.string ⟨#[]⟩,.int .i64 0,.string ⟨#[]⟩,.int .i64 0,.int .i64 0] 35)).alloc (.cells #[.int .i64 0,.string ⟨#[]⟩,.int .i64 0,.string ⟨#[]⟩,.int .i64 0,.int .i64 0] 35) = W0 at P0 ⊢;cases b1
 ·have hq : U8 d g = (knownZero,0):=by unfold U8;rw [h1];rfl
  rw [HP.out] at hq;injection hq with hq1 hq2;injection hq1 with e1 e2 e3 e4 e5 e6;subst e1 e2 e3 e4 e5 e6 hq2;obtain ⟨z0,z1,z2,z3,z4,z5⟩:=I9 P0.rbox;obtain ⟨k0,k1,k2,k3,k4,k5⟩:=I9 P0.kbox;have zf0:=C9 P0.rbox 0;have zf1:=C9 P0.rbox 1;have zf2:=C9 P0.rbox 2;have zf3:=C9 P0.rbox 3;have zf4:=C9 P0.rbox 4;have zf5:=C9 P0.rbox 5;have hl:=P0.lt;have hret:=P0.ret 0 ⟨#[]⟩ 0 ⟨#[]⟩ 0 0;clear P0;go_wp2_with (go_at_call 77;refine (L8 (by assumption) _).mono ?_;rintro e w' ⟨rfl,rfl⟩)
  exact bodyPost_ret (v:=.tuple #[.agg #[.int .i64 0,.string ⟨#[]⟩,.int .i64 0,.string ⟨#[]⟩,.int .i64 0,.int .i64 0],.int .i64 0]) (by simp [results,Tryz.results70,go_sem,z0,z1,z2,z3,z4,z5,knownZero]) rfl ⟨rfl,hret⟩
 ·have hq : Z8 d g 18 0 knownZero = (⟨Ka,Kb,Kp,Kq,Ke,Kf⟩,M):=by have h9:=HP.out;unfold U8 at h9;rw [h1] at h9;exact h9
  have hgg : 1 ≤ g∧g ≤ 60000:=of_decide_eq_true h1;have HQ:=Lib.hid hq;clear hq;go_wp2_with (go_at_call 77;refine (L8 (by assumption) _).mono ?_;rintro e w' ⟨rfl,rfl⟩)
  clear h1 HP;go_loopw [14] (fun i wr => ∃ (j : Nat) (k : Known),j ≤ 18∧i = .int .i64 j∧Hid (KG k)∧Hid (Z8 d g (18 - j) j k = (⟨Ka,Kb,Kp,Kq,Ke,Kf⟩,M))∧PB w [.slice A d.secs.length c,.slice B d.cache.length e,.int .i64 d.fuse,.bool d.down] k wr) (fun i _ => 18 - (intOf i).toNat)
  case atStart => exact ⟨0,knownZero,by omega,rfl,Lib.hid Ei9,HQ,P0⟩
  case round =>
     clear P0 HQ;obtain ⟨j,⟨ka,kb,kp,kq,ke,kf⟩,hj,rfl,HKG,hrep,P⟩:=hrel;by_cases hlt : j < 18
     ·obtain ⟨d0,d1,d2,d3⟩:=Q8 P.dbox
      go_wp2_with fail;refine (Aq8 [.slice A d.secs.length c,.slice B d.cache.length e,.int .i64 d.fuse,.bool d.down] d g j wr (Keeps.keeps (F:=fun w' => diskR.at_ w' w'.heap.size [.slice A d.secs.length c,.slice B d.cache.length e,.int .i64 d.fuse,.bool d.down] d) P.below HD.out) hf hgg hlt (Keeps.keeps (F:=Given) P.below HG.out)).mono ?_
      clear d0 d1 d2 d3;have HSZ:=Lib.hid (So9 d g j);obtain ⟨⟨rk,rn,ro,rt⟩,hsr⟩ : ∃ r,Ay9 d g j = r:=⟨_,rfl⟩;obtain ⟨ok,hsb⟩ : ∃ b,Cr9 d g j = b:=⟨_,rfl⟩;rw [hsr] at HSZ ⊢;rw [hsb];have HSR:=Lib.hid hsr;have HSB:=Lib.hid hsb;clear hsr hsb;rintro e1 W1 hret;obtain ⟨rfl,hb⟩:=hret.lit;replace P:=P.later hb;clear hret hb;have HE:=heap_alloc_new W1 (.cells #[.int .i64 rk,.int .i64 rn,.int .i64 ro,.string rt] 29);have HEl : w.heap.size + 2 < W1.heap.size:=P.lt;replace P:=P.later (Later.alloc W1 (.cells #[.int .i64 rk,.int .i64 rn,.int .i64 ro,.string rt] 29));go_upto_region 8 with (fail)
      generalize W1.alloc (.cells #[.int .i64 rk,.int .i64 rn,.int .i64 ro,.string rt] 29) = W2 at HE P ⊢;generalize W1.heap.size = E at HE HEl ⊢;obtain ⟨m,hm⟩ : ∃ m,18 - j = m + 1:=⟨17 - j,by omega⟩
      have hrep2:=hrep.out;rw [hm] at hrep2;have HREP:=Lib.hid hrep2;have HM:=Lib.hid hm;clear hrep2 hrep hm;cases ok
      ·skip
       have hq:=HREP.out;rw [Gw9 (n:=m) (k:=⟨ka,kb,kp,kq,ke,kf⟩) HSB.out] at hq;injection hq with hq1 hq2;injection hq1 with e1 e2 e3 e4 e5 e6;subst e1 e2 e3 e4 e5 e6 hq2;obtain ⟨z0,z1,z2,z3,z4,z5⟩:=I9 P.rbox;obtain ⟨k0,k1,k2,k3,k4,k5⟩:=I9 P.kbox;have zf0:=C9 P.rbox 0;have zf1:=C9 P.rbox 1;have zf2:=C9 P.rbox 2;have zf3:=C9 P.rbox 3;have zf4:=C9 P.rbox 4;have zf5:=C9 P.rbox 5;have hl:=P.lt;have hret:=P.ret ka kb kp kq ke kf;clear P HE;go_wp2_with fail;exact bodyPost_ret (v:=.tuple #[.agg #[.int .i64 ka,.string kb,.int .i64 kp,.string kq,.int .i64 ke,.int .i64 kf],.int .i64 j]) (by simp [results,Tryz.results70,go_sem,z0,z1,z2,z3,z4,z5,knownZero]) rfl ⟨rfl,hret⟩
      ·obtain ⟨⟨⟨na,nb,np,nq,ne,nf⟩,yes⟩,hap⟩ : ∃ p,K8 ⟨ka,kb,kp,kq,ke,kf⟩ ⟨rk,rn,ro,rt⟩ = p:=⟨_,rfl⟩
       have HKG2:=Lib.hid (show KG ⟨na,nb,np,nq,ne,nf⟩ by have h9:=Kw9 (r:=⟨rk,rn,ro,rt⟩) HKG.out;rw [hap] at h9;exact h9)
       have HAP:=Lib.hid hap;clear hap;obtain ⟨k0,k1,k2,k3,k4,k5⟩:=I9 P.kbox;obtain ⟨e0,e1,e2,e3⟩:=J9 (r:=⟨rk,rn,ro,rt⟩) HE;go_wp2_with fail;have hsz:=Fu9 HKG.out;refine (Ky9 ⟨ka,kb,kp,kq,ke,kf⟩ ⟨rk,rn,ro,rt⟩ W2 (Keeps.keeps (F:=Given) P.below HG.out) (Nat.le_trans hsz.1 (by decide)) (Nat.le_trans hsz.2 (by decide)) (Nat.le_trans HSZ.out (by decide))).mono ?_
       clear hsz;rw [HAP.out];rintro e W9 hret;obtain ⟨rfl,hb⟩:=hret.lit6;replace P:=P.later hb;clear hret hb k0 k1 k2 k3 k4 k5 e0 e1 e2 e3 HE;obtain ⟨k0,k1,k2,k3,k4,k5⟩:=I9 P.kbox;have kf0:=C9 P.kbox 0;have kf1:=C9 P.kbox 1;have kf2:=C9 P.kbox 2;have kf3:=C9 P.kbox 3;have kf4:=C9 P.kbox 4;have kf5:=C9 P.kbox 5;have hl:=P.lt;have P2:=P.putK na nb np nq ne nf;clear P;go_upto_region 10 with (fail)
       clear k0 k1 k2 k3 k4 k5 kf0 kf1 kf2 kf3 kf4 kf5;generalize ((((((W9.setCell ⟨w.heap.size + 2,0,none⟩ (.int .i64 na)).setCell ⟨w.heap.size + 2,1,none⟩ (.string nb)).setCell ⟨w.heap.size + 2,2,none⟩ (.int .i64 np)).setCell ⟨w.heap.size + 2,3,none⟩ (.string nq)).setCell ⟨w.heap.size + 2,4,none⟩ (.int .i64 ne)).setCell ⟨w.heap.size + 2,5,none⟩ (.int .i64 nf)) = WA at P2 ⊢;cases yes
       ·skip
        have hq:=HREP.out;rw [Om9 (n:=m) (k:=⟨ka,kb,kp,kq,ke,kf⟩) (show (K8 ⟨ka,kb,kp,kq,ke,kf⟩ (Ay9 d g j)).2 = false by rw [HSR.out,HAP.out])] at hq
        have hsame:=Tz9 (k:=⟨ka,kb,kp,kq,ke,kf⟩) (r:=⟨rk,rn,ro,rt⟩) (by rw [HAP.out])
        rw [HAP.out] at hsame;injection hsame with f1 f2 f3 f4 f5 f6;injection hq with hq1 hq2;injection hq1 with e1 e2 e3 e4 e5 e6;subst e1 e2 e3 e4 e5 e6 hq2;subst f1 f2 f3 f4 f5 f6;have P:=P2;clear P2;obtain ⟨z0,z1,z2,z3,z4,z5⟩:=I9 P.rbox;obtain ⟨k0,k1,k2,k3,k4,k5⟩:=I9 P.kbox;have zf0:=C9 P.rbox 0;have zf1:=C9 P.rbox 1;have zf2:=C9 P.rbox 2;have zf3:=C9 P.rbox 3;have zf4:=C9 P.rbox 4;have zf5:=C9 P.rbox 5;have hl:=P.lt;have hret:=P.ret na nb np nq ne nf;clear P;go_wp2_with fail;exact bodyPost_ret (v:=.tuple #[.agg #[.int .i64 na,.string nb,.int .i64 np,.string nq,.int .i64 ne,.int .i64 nf],.int .i64 j]) (by simp [results,Tryz.results70,go_sem,z0,z1,z2,z3,z4,z5,knownZero]) rfl ⟨rfl,hret⟩
       ·have HREP2 := Lib.hid (show Z8 d g (18 - (j + 1)) (j + 1) ⟨na, nb, np, nq, ne, nf⟩ = (⟨Ka, Kb, Kp, Kq, Ke, Kf⟩, M) by
           have h9:=HREP.out;rw [Gx9 HSB.out (by rw [HSR.out,HAP.out]),HSR.out,HAP.out] at h9
           rw [show 18 - (j + 1) = m by have:=HM.out;omega]
           exact h9)
        go_wp2_with fail;go_roundw
        case rel => exact ⟨j + 1,⟨na,nb,np,nq,ne,nf⟩,by omega,by go_num,HKG2,HREP2,P2⟩
        case measure => simp [intOf];omega
     ·have he : j = 18:=by omega
      subst he;have hq:=hrep.out;rw [(show Z8 d g 0 18 ⟨ka,kb,kp,kq,ke,kf⟩ = (⟨ka,kb,kp,kq,ke,kf⟩,18) from rfl)] at hq
      injection hq with hq1 hq2;injection hq1 with e1 e2 e3 e4 e5 e6;subst e1 e2 e3 e4 e5 e6 hq2;obtain ⟨z0,z1,z2,z3,z4,z5⟩:=I9 P.rbox;obtain ⟨k0,k1,k2,k3,k4,k5⟩:=I9 P.kbox;have zf0:=C9 P.rbox 0;have zf1:=C9 P.rbox 1;have zf2:=C9 P.rbox 2;have zf3:=C9 P.rbox 3;have zf4:=C9 P.rbox 4;have zf5:=C9 P.rbox 5;have hl:=P.lt;have hret:=P.ret ka kb kp kq ke kf;clear P;go_wp2_with fail;exact bodyPost_ret (v:=.tuple #[.agg #[.int .i64 ka,.string kb,.int .i64 kp,.string kq,.int .i64 ke,.int .i64 kf],.int .i64 18]) (by simp [results,Tryz.results70,go_sem,z0,z1,z2,z3,z4,z5,knownZero]) rfl ⟨rfl,hret⟩
theorem Ak8 (A B : Option Addr) (c c' M M' : Nat) (a b : List UInt8) (w : World) (h : Reads w M 1 A a.length (bys a)) (h' : Reads w M' 1 B b.length (bys b)) :
 Calls Tryz.prog 97 #[.slice A a.length c,.slice B b.length c'] w fun e w' => e = .returned (.bool (a == b))∧w = w':=by
 have h1:=string_run (P:=Tryz.prog) (c:=c) Tryz.underlying22 Tryz.underlying5 Tryz.underlying9 h;have h2:=string_run (P:=Tryz.prog) (c:=c') Tryz.underlying22 Tryz.underlying5 Tryz.underlying9 h';refine (Tryz.bytes_Equal_strs _ _ _ _ w h1 h2).mono ?_;rintro e w' ⟨rfl,rfl⟩;exact ⟨by simp [Lib.toList_data],rfl⟩
theorem Kn9 (g n : Int) (w : World) : Calls Tryz.prog 38 #[.int .i64 g,.int .i64 n] w (Gv9 w (Af9 g n)):=by
 obtain ⟨b1,h1⟩ : ∃ b,inI g 1 60000 = b:=⟨_,rfl⟩;obtain ⟨b2,h2⟩ : ∃ b,inI n 0 18 = b:=⟨_,rfl⟩;unfold Gv9;cases b1
 ·rw [Lw9 (.inl h1)]
  go_enter Tryz.func38,Tryz.ntmps38
  go_wp2_with (go_at_call 77;refine (L8 (by assumption) _).mono ?_;rintro e w' ⟨rfl,rfl⟩)
  go_ret
  exact ⟨_,rfl,En9 w _ (Nat.le_refl _),Later.alloc w _⟩
 ·cases b2
  ·rw [Lw9 (.inr h2)]
   go_enter Tryz.func38,Tryz.ntmps38
   go_wp2_with (go_at_call 77;refine (L8 (by assumption) _).mono ?_;rintro e w' ⟨rfl,rfl⟩)
   go_ret
   exact ⟨_,rfl,En9 w _ (Nat.le_refl _),Later.alloc w _⟩
  ·rw [Mp9 h1 h2]
   go_enter Tryz.func38,Tryz.ntmps38
   go_wp2_with (go_at_call 77;refine (L8 (by assumption) _).mono ?_;rintro e w' ⟨rfl,rfl⟩)
   clear h1 h2;have S : All (fun w' => Below w.heap.size w w') w:=⟨Later.refl w⟩
   refine (Cs9 none 0 g [] w Reads.none_ (by simp)).mono ?_
   rintro e W2 ⟨v2,rfl,o2,hb⟩;replace S:=S.later hb;obtain ⟨A2,c2,rfl,_,_,r2,_⟩:=o2.shape;clear hb o2;go_wp2_with fail;refine (Cs9 A2 c2 n _ W2 r2 (by simp [F9])).mono ?_
   rintro e W3 ⟨v3,rfl,o3,hb⟩;replace S:=S.later hb;obtain ⟨A3,c3,rfl,_,_,r3,_⟩:=o3.shape;have L3:=Lib.hid (show ([] ++ F9 g ++ F9 n).length = 4 by simp [F9])
   obtain ⟨l3,hl3⟩ : ∃ l3,[] ++ F9 g ++ F9 n = l3:=⟨_,rfl⟩;rw [hl3] at r3 L3 ⊢;have HL3:=Lib.hid hl3;clear hl3;clear hb o3 r2;go_wp2_with fail;refine (Zg9 A3 c3 l3 W3 r3 (by have:=L3.out;omega)).mono ?_
   rintro e W4 ⟨rfl,rfl⟩;go_wp2_with fail;refine (Cs9 A3 c3 (crc l3) l3 W3 r3 (by have:=L3.out;omega)).mono ?_
   rintro e W5 ⟨v5,rfl,o5,hb⟩;go_wp2_with fail;go_ret
   exact ⟨_,rfl,by unfold Q7 Fs9;rw [HL3.out];exact ownsRow_mono o5 S.out.size,Later.trans S.out hb⟩
theorem Vy9 (A : Option Addr) (c : Nat) (l : List UInt8) (w : World) (h : Reads w w.heap.size 1 A l.length (bys l)) (hn : l.length ≤ 100000000) : Calls Tryz.prog 68 #[.slice A l.length c] w (Og9 w (E8 l)):=by
 obtain ⟨p,hp⟩ : ∃ p,E8 l = p:=⟨_,rfl⟩;rw [hp];have HP:=Lib.hid hp;clear hp;unfold Og9;by_cases hl : l.length = 6
 ·have hok0 : Jr9 l 0 = true:=by unfold Jr9;rw [hl];rfl
  have hn0 : Eq9 l 0 = 2:=by unfold Eq9;rw [hok0];rfl
  have h6 : ((l.length : Int) != 6) = false:=by rw [hl];rfl
  have HL6:=Lib.hid hl;clear hl;go_enter Tryz.func68,Tryz.ntmps68
  go_wp2_with fail;refine (Fa9 A c 0 l w h hn).mono ?_;rw [hn0,hok0];rintro e W1 ⟨rfl,n1,rfl⟩;go_wp2_with fail;refine (Fa9 A c 2 l _ (h.drewN n1) hn).mono ?_;rintro e W2 ⟨rfl,n2,rfl⟩;have R2:=(h.drewN n1).drewN n2;have B2:=belowD (belowD (Below.refl w.heap.size w) n1) n2;generalize (w.drewN n1).drewN n2 = W2 at R2 B2 ⊢;clear hok0 hn0;go_wp2_with fail;refine (Kn9 (S8 l 0) (S8 l 2) W2).mono ?_;rintro e W3 ⟨v3,rfl,o3,hb⟩;obtain ⟨A3,c3,rfl,_,_,r3,_⟩:=o3.shape;replace R2:=(R2.below (hb.mono (Nat.le_refl _) |>.mono B2.size)).more (Nat.le_trans B2.size hb.size)
  replace B2:=Later.trans B2 hb;have HE:=Lib.hid (show (Af9 (S8 l 0) (S8 l 2) == l) = true ↔ Af9 (S8 l 0) (S8 l 2) = l by simp)
  clear hb o3;go_wp2_with fail;refine (Ak8 A3 A c3 c _ _ _ l W3 r3 R2).mono ?_;obtain ⟨y,hy⟩ : ∃ y,(Af9 (S8 l 0) (S8 l 2) == l) = y:=⟨_,rfl⟩;rw [hy];have HY:=Lib.hid hy;clear hy;rintro e W4 ⟨rfl,rfl⟩;cases y
  ·have hq:=Fc9 (l:=l) (fun h9 => by have h8:=HE.out.2 h9.2;rw [HY.out] at h8;cases h8)
   rw [HP.out] at hq;subst hq;go_wp2_with fail;go_ret3
   exact ⟨rfl,B2⟩
  ·have hq:=Hu9 HL6.out (HE.out.1 HY.out)
   rw [HP.out] at hq;subst hq;go_wp2_with fail;go_ret3
   exact ⟨rfl,B2⟩
 ·have hq:=Fc9 (l:=l) (fun h9 => hl h9.1)
  rw [HP.out] at hq;subst hq;have h6 : ((l.length : Int) != 6) = true:=by simp;omega
  clear hl;go_enter Tryz.func68,Tryz.ntmps68
  go_wp2_with fail;go_ret3
  exact ⟨rfl,Later.refl w⟩
theorem Iu9 (g : Int) (w : World) (g1 : 0 ≤ g) (g2 : g ≤ 1000000) : Calls Tryz.prog 37 #[.int .i64 g] w fun e w' => e = .returned (.int .i64 (g % 2))∧w = w':=by
 have h0 : 0 ≤ g % 2:=by omega
 have h1 : g % 2 ≤ 1:=by omega
 have ht : g.tmod 2 = g % 2:=Int.tmod_eq_emod_of_nonneg g1;go_enter Tryz.func37,Tryz.ntmps37
 go_wp2
 go_ret
 exact ⟨rfl,rfl⟩
noncomputable def Gi9 (d : Disk) (i : Nat) : Jour × Bool:=
 if (E8 (P9 d i)).2 = true∧(E8 (P9 d i)).1.1 % 2 = (i : Int)
 then (⟨(U8 d (E8 (P9 d i)).1.1).1,(E8 (P9 d i)).1.1,((U8 d (E8 (P9 d i)).1.1).2 : Int)⟩,decide ((E8 (P9 d i)).1.2 ≤ ((U8 d (E8 (P9 d i)).1.1).2 : Int)))
 else (T8,false)
theorem Kl9 {d : Disk} {i : Nat} {x y : Int} {ok : Bool} (h : E8 (P9 d (i : Int)) = ((x,y),ok)) (hn : ¬ (ok = true∧x % 2 = (i : Int))) : Gi9 d i = (T8,false):=by
 unfold Gi9;rw [h];exact if_neg hn
theorem Nl9 {d : Disk} {i : Nat} {x y : Int} {k : Known} {m : Nat} (h : E8 (P9 d (i : Int)) = ((x,y),true)) (hr : U8 d x = (k,m)) (h2 : x % 2 = (i : Int)) : Gi9 d i = (⟨k,x,m⟩,decide (y ≤ (m : Int))):=by
 unfold Gi9;rw [h,hr];exact if_pos ⟨rfl,h2⟩
theorem Oi9 {d : Disk} {b j : Jour} {i : Nat} {yes : Bool} (h : Gi9 d i = (j,yes)) : Bg9 d b i = if yes = true∧b.g < j.g then j else b:=by
 obtain ⟨⟨⟨x,y⟩,ok⟩,hg⟩ : ∃ p,E8 (P9 d (i : Int)) = p:=⟨_,rfl⟩;by_cases hc : ok = true∧x % 2 = (i : Int)
 ·obtain ⟨rfl,hx⟩:=hc
  obtain ⟨⟨k,m⟩,hr⟩ : ∃ p,U8 d x = p:=⟨_,rfl⟩;rw [Nl9 hg hr hx] at h;obtain ⟨rfl,rfl⟩:=Prod.mk.inj h;by_cases hy : y ≤ (m : Int)∧b.g < x
  ·rw [Ej9 hg hr hx hy.2 hy.1,if_pos ⟨by simpa using hy.1,hy.2⟩]
  ·rw [Dx9 hg (fun h9 => hy ⟨by have:=h9.2.2.2;rw [hr] at this;exact this,h9.2.2.1⟩),if_neg (fun h9 => hy ⟨by simpa using h9.1,h9.2⟩)]
 ·rw [Kl9 hg hc] at h
  obtain ⟨rfl,rfl⟩:=Prod.mk.inj h;rw [Dx9 hg (fun h9 => hc ⟨h9.1,h9.2.1⟩),if_neg (fun h9 => by cases h9.1)]
theorem RetJ.lit8i {w w' : World} {a : Int} {b : ByteArray} {p : Int} {q : ByteArray} {e f g m : Int} {y : Bool} {en : Ending} (h : RetJ w (⟨⟨a,b,p,q,e,f⟩,g,m⟩,y) en w') : en = .returned (.tuple #[.agg #[.int .i64 a,.string b,.int .i64 p,.string q,.int .i64 e,.int .i64 f,.int .i64 g,.int .i64 m],.bool y])∧Below w.heap.size w w':=h
structure JQ (w : World) (cs : List Value) (W : World) : Prop where
 below : Below w.heap.size w W
 dbox : W.heap[w.heap.size]? = some (.cells cs.toArray 27 (0,0))
 rbox : W.heap[w.heap.size + 1]? = some (.cells (Y7 T8).toArray 37 (0,0))
section
variable {w W W' : World} {cs : List Value}
theorem JQ.lt (h : JQ w cs W) : w.heap.size + 1 < W.heap.size:=(Array.getElem?_eq_some_iff.1 h.rbox).1
theorem JQ.later (h : JQ w cs W) (hb : Below W.heap.size W W') : JQ w cs W':=by
 have hl:=h.lt;exact ⟨Later.trans h.below hb,(hb.block _ (by omega)).trans h.dbox,(hb.block _ hl).trans h.rbox⟩
theorem JQ.ret (h : JQ w cs W) (a : Int) (b : ByteArray) (p : Int) (q : ByteArray) (e f : Int) (g m : Int) : Below w.heap.size w ((((((((W.setCell ⟨w.heap.size + 1,0,none⟩ (.int .i64 a)).setCell ⟨w.heap.size + 1,1,none⟩ (.string b)).setCell ⟨w.heap.size + 1,2,none⟩ (.int .i64 p)).setCell ⟨w.heap.size + 1,3,none⟩ (.string q)).setCell ⟨w.heap.size + 1,4,none⟩ (.int .i64 e)).setCell ⟨w.heap.size + 1,5,none⟩ (.int .i64 f)).setCell ⟨w.heap.size + 1,6,none⟩ (.int .i64 g)).setCell ⟨w.heap.size + 1,7,none⟩ (.int .i64 m)):=
 Rep.Only.below h.below (Ha9 W (w.heap.size + 1) a b p q e f g m) h.below.size (fun a ha => by simp at ha;omega)
end
set_option maxRecDepth 2000000 in
theorem Xz9 (cs : List Value) (d : Disk) (j : Nat) (w : World) (h : diskR.at_ w w.heap.size cs d) (hf : Ag9 d) (hj : j < 2) (hg : Given w) :
 Calls Tryz.prog 29 #[.agg cs.toArray,.int .i64 j] w (RetJ w (Gi9 d j)):=by
 obtain ⟨A,c,B,e,rfl⟩:=G7 h;have HD:=Lib.hid h;have HG:=Lib.hid hg;have P0 : JQ w [.slice A d.secs.length c,.slice B d.cache.length e,.int .i64 d.fuse,.bool d.down] ((w.alloc (.cells #[.slice A d.secs.length c,.slice B d.cache.length e,.int .i64 d.fuse,.bool d.down] 27)).alloc (.cells #[.int .i64 0,.string ⟨#[]⟩,.int .i64 0,.string ⟨#[]⟩,.int .i64 0,.int .i64 0,.int .i64 0,.int .i64 0] 37)):=
  ⟨Later.trans (Later.alloc w _) (Later.alloc _ _),(Below.heap_alloc _ _ _ (by simp)).trans (heap_alloc_new w _),G9 _ _ (by simp)⟩
 clear h hg;show Calls Tryz.prog 29 #[.agg #[.slice A d.secs.length c,.slice B d.cache.length e,.int .i64 d.fuse,.bool d.down],.int .i64 j] w _
 obtain ⟨⟨⟨⟨Ka,Kb,Kp,Kq,Ke,Kf⟩,Kg,Km⟩,M⟩,hp⟩ : ∃ p,Gi9 d j = p:=⟨_,rfl⟩;rw [hp];have HP:=Lib.hid hp;clear hp;unfold RetJ;go_enter Tryz.func29,Tryz.ntmps29
 go_upto_region 1 with (fail)
 generalize (w.alloc (.cells #[.slice A d.secs.length c,.slice B d.cache.length e,.int .i64 d.fuse,.bool d.down] 27)).alloc (.cells #[.int .i64 0,.string ⟨#[]⟩,.int .i64 0,.string ⟨#[]⟩,.int .i64 0,.int .i64 0,.int .i64 0,.int .i64 0] 37) = W0 at P0 ⊢;obtain ⟨d0,d1,d2,d3⟩:=Q8 P0.dbox;go_wp2_with fail;refine (Ge9 [.slice A d.secs.length c,.slice B d.cache.length e,.int .i64 d.fuse,.bool d.down] d (j : Int) W0 (Keeps.keeps (F:=fun w' => diskR.at_ w' w'.heap.size [.slice A d.secs.length c,.slice B d.cache.length e,.int .i64 d.fuse,.bool d.down] d) P0.below HD.out) hf (WalkArith.wf_i64 (by omega))).mono ?_
 rintro e2 W2 ⟨A4,c4,fp4,rfl,O4,hb⟩;clear d0 d1 d2 d3;replace P0:=P0.later hb;obtain ⟨A5,c5,he5,hk4,r4⟩:=Rep.reads byR O4;injection he5 with he5 _;injection he5 with he5 _ he6;subst he5 he6;clear hb O4;obtain ⟨⟨⟨hg1,hn1⟩,ok⟩,hget⟩ : ∃ p,E8 (P9 d (j : Int)) = p:=⟨_,rfl⟩;have HGET:=Lib.hid hget;clear hget;go_wp2_with fail;refine (Vy9 A4 c4 (P9 d (j : Int)) W2 r4 (by have:=Az9 hf (j : Int);unfold Sh9 at this;omega)).mono ?_
 rw [HGET.out];rintro e3 W3 ⟨rfl,hb⟩;replace P0:=P0.later hb;clear hb r4;cases ok
 ·have hq:=HP.out
  rw [Kl9 HGET.out (fun h9 => by cases h9.1)] at hq
  injection hq with hq1 hq2;injection hq1 with hq1 e7 e8;injection hq1 with e1 e2 e3 e4 e5 e6;subst e1 e2 e3 e4 e5 e6 e7 e8 hq2;obtain ⟨z0,z1,z2,z3,z4,z5,z6,z7⟩:=G8 P0.rbox;have zf0:=C9 P0.rbox 0;have zf1:=C9 P0.rbox 1;have zf2:=C9 P0.rbox 2;have zf3:=C9 P0.rbox 3;have zf4:=C9 P0.rbox 4;have zf5:=C9 P0.rbox 5;have zf6:=C9 P0.rbox 6;have zf7:=C9 P0.rbox 7;have hl:=P0.lt;have hret:=P0.ret 0 ⟨#[]⟩ 0 ⟨#[]⟩ 0 0 0 0;clear P0;go_wp2_with fail;exact bodyPost_ret (v:=.tuple #[.agg #[.int .i64 0,.string ⟨#[]⟩,.int .i64 0,.string ⟨#[]⟩,.int .i64 0,.int .i64 0,.int .i64 0,.int .i64 0],.bool false]) (by simp [results,Tryz.results29,go_sem,z0,z1,z2,z3,z4,z5,z6,z7,T8,knownZero]) rfl ⟨rfl,hret⟩
 ·obtain ⟨⟨hx1,hx2⟩,hy1,hy2⟩:=Gs9 HGET.out
  go_wp2_with fail;refine (Iu9 hg1 W3 (by omega) (by omega)).mono ?_
  rintro e4 W4 ⟨rfl,rfl⟩;by_cases hpar : hg1 % 2 = (j : Int)
  ·have np : (hg1 % 2 != (j : Int)) = false:=by simp [hpar]
   have HPAR:=Lib.hid hpar;clear hpar;obtain ⟨d0,d1,d2,d3⟩:=Q8 P0.dbox;obtain ⟨⟨⟨na,nb,nx,nq,ne,nf⟩,m⟩,hrp⟩ : ∃ p,U8 d hg1 = p:=⟨_,rfl⟩;have HRP:=Lib.hid hrp;clear hrp;go_wp2_with fail;refine (Xg9 [.slice A d.secs.length c,.slice B d.cache.length e,.int .i64 d.fuse,.bool d.down] d hg1 W3 (Keeps.keeps (F:=fun w' => diskR.at_ w' w'.heap.size [.slice A d.secs.length c,.slice B d.cache.length e,.int .i64 d.fuse,.bool d.down] d) P0.below HD.out) hf (WalkArith.wf_i64 (by omega)) (Keeps.keeps (F:=Given) P0.below HG.out)).mono ?_
   rw [HRP.out];rintro e4 W4 hret;obtain ⟨rfl,hb⟩:=hret.lit;replace P0:=P0.later hb;clear hret hb d0 d1 d2 d3 np;have HN:=heap_alloc_new W4 (.cells #[.int .i64 na,.string nb,.int .i64 nx,.string nq,.int .i64 ne,.int .i64 nf] 35);have hNl : W4.heap.size < (W4.alloc (.cells #[.int .i64 na,.string nb,.int .i64 nx,.string nq,.int .i64 ne,.int .i64 nf] 35)).heap.size:=by simp
   have hNd : w.heap.size + 1 < W4.heap.size:=P0.lt;replace P0:=P0.later (Later.alloc W4 (.cells #[.int .i64 na,.string nb,.int .i64 nx,.string nq,.int .i64 ne,.int .i64 nf] 35));go_upto_region 5 with (fail)
   generalize W4.alloc (.cells #[.int .i64 na,.string nb,.int .i64 nx,.string nq,.int .i64 ne,.int .i64 nf] 35) = W5 at HN hNl P0 ⊢;generalize W4.heap.size = DN at HN hNl hNd ⊢;have hq:=HP.out;rw [Nl9 HGET.out HRP.out HPAR.out] at hq;injection hq with hq1 hq2;injection hq1 with hq1 e7 e8;injection hq1 with e1 e2 e3 e4 e5 e6;subst e1 e2 e3 e4 e5 e6 e7 e8 hq2;obtain ⟨n0,n1,n2,n3,n4,n5⟩:=I9 (r:=⟨na,nb,nx,nq,ne,nf⟩) HN;clear HN;obtain ⟨z0,z1,z2,z3,z4,z5,z6,z7⟩:=G8 P0.rbox;have zf0:=C9 P0.rbox 0;have zf1:=C9 P0.rbox 1;have zf2:=C9 P0.rbox 2;have zf3:=C9 P0.rbox 3;have zf4:=C9 P0.rbox 4;have zf5:=C9 P0.rbox 5;have zf6:=C9 P0.rbox 6;have zf7:=C9 P0.rbox 7;have hl:=P0.lt;have hret:=P0.ret na nb nx nq ne nf hg1 m;clear P0;go_wp2_with fail;exact bodyPost_ret (v:=.tuple #[.agg #[.int .i64 na,.string nb,.int .i64 nx,.string nq,.int .i64 ne,.int .i64 nf,.int .i64 hg1,.int .i64 m],.bool (decide (hn1 ≤ (m : Int)))]) (by simp [results,Tryz.results29,go_sem,z0,z1,z2,z3,z4,z5,z6,z7,T8,knownZero]) rfl ⟨rfl,hret⟩
  ·have np : (hg1 % 2 != (j : Int)) = true:=by simpa using hpar
   have hq:=HP.out;rw [Kl9 HGET.out (fun h9 => hpar h9.2)] at hq
   injection hq with hq1 hq2;injection hq1 with hq1 e7 e8;injection hq1 with e1 e2 e3 e4 e5 e6;subst e1 e2 e3 e4 e5 e6 e7 e8 hq2;clear hpar;obtain ⟨z0,z1,z2,z3,z4,z5,z6,z7⟩:=G8 P0.rbox;have zf0:=C9 P0.rbox 0;have zf1:=C9 P0.rbox 1;have zf2:=C9 P0.rbox 2;have zf3:=C9 P0.rbox 3;have zf4:=C9 P0.rbox 4;have zf5:=C9 P0.rbox 5;have zf6:=C9 P0.rbox 6;have zf7:=C9 P0.rbox 7;have hl:=P0.lt;have hret:=P0.ret 0 ⟨#[]⟩ 0 ⟨#[]⟩ 0 0 0 0;clear P0;go_wp2_with fail;exact bodyPost_ret (v:=.tuple #[.agg #[.int .i64 0,.string ⟨#[]⟩,.int .i64 0,.string ⟨#[]⟩,.int .i64 0,.int .i64 0,.int .i64 0,.int .i64 0],.bool false]) (by simp [results,Tryz.results29,go_sem,z0,z1,z2,z3,z4,z5,z6,z7,T8,knownZero]) rfl ⟨rfl,hret⟩
set_option maxRecDepth 2000000 in
theorem Eb9 (cs : List Value) (d : Disk) (w : World) (h : diskR.at_ w w.heap.size cs d) (hf : Ag9 d) (hg : Given w) :
 Calls Tryz.prog 8 #[.agg cs.toArray] w (RetJ w (R7 d)):=by
 obtain ⟨A,c,B,e,rfl⟩:=G7 h;have HD:=Lib.hid h;have HG:=Lib.hid hg;have P0 : JB w [.slice A d.secs.length c,.slice B d.cache.length e,.int .i64 d.fuse,.bool d.down] T8 (((w.alloc (.cells #[.slice A d.secs.length c,.slice B d.cache.length e,.int .i64 d.fuse,.bool d.down] 27)).alloc (.cells #[.int .i64 0,.string ⟨#[]⟩,.int .i64 0,.string ⟨#[]⟩,.int .i64 0,.int .i64 0,.int .i64 0,.int .i64 0] 37)).alloc (.cells #[.int .i64 0,.string ⟨#[]⟩,.int .i64 0,.string ⟨#[]⟩,.int .i64 0,.int .i64 0,.int .i64 0,.int .i64 0] 37)):=
  ⟨Later.trans (Later.trans (Later.alloc w _) (Later.alloc _ _)) (Later.alloc _ _),(Below.heap_alloc _ _ _ (by simp;omega)).trans ((Below.heap_alloc _ _ _ (by simp)).trans (heap_alloc_new w _)),(Below.heap_alloc _ _ _ (by simp)).trans (G9 _ _ (by simp)),G9 _ _ (by simp)⟩
 clear h hg;show Calls Tryz.prog 8 #[.agg #[.slice A d.secs.length c,.slice B d.cache.length e,.int .i64 d.fuse,.bool d.down]] w _
 obtain ⟨⟨⟨⟨Ka,Kb,Kp,Kq,Ke,Kf⟩,Kg,Km⟩,M⟩,hp⟩ : ∃ p,R7 d = p:=⟨_,rfl⟩;rw [hp];have HP:=Lib.hid hp;clear hp;unfold RetJ;go_enter Tryz.func8,Tryz.ntmps8
 go_upto_region 2 with (fail)
 generalize ((w.alloc (.cells #[.slice A d.secs.length c,.slice B d.cache.length e,.int .i64 d.fuse,.bool d.down] 27)).alloc (.cells #[.int .i64 0,.string ⟨#[]⟩,.int .i64 0,.string ⟨#[]⟩,.int .i64 0,.int .i64 0,.int .i64 0,.int .i64 0] 37)).alloc (.cells #[.int .i64 0,.string ⟨#[]⟩,.int .i64 0,.string ⟨#[]⟩,.int .i64 0,.int .i64 0,.int .i64 0,.int .i64 0] 37) = W0 at P0 ⊢;obtain ⟨d0,d1,d2,d3⟩:=Q8 P0.dbox;go_wp2_with fail;refine (Ym9 [.slice A d.secs.length c,.slice B d.cache.length e,.int .i64 d.fuse,.bool d.down] d W0 (Keeps.keeps (F:=fun w' => diskR.at_ w' w'.heap.size [.slice A d.secs.length c,.slice B d.cache.length e,.int .i64 d.fuse,.bool d.down] d) P0.below HD.out) hf).mono ?_
 clear d0 d1 d2 d3;obtain ⟨b1,h1⟩ : ∃ b,Bz9 d = b:=⟨_,rfl⟩;rw [h1];have H1:=Lib.hid h1;clear h1;rintro e1 W1 ⟨rfl,hb⟩;replace P0:=P0.later hb;clear hb;cases b1
 ·skip
  have hq:=HP.out;rw [show R7 d = (T8,false) from if_neg (fun h9 => by rw [H1.out] at h9;cases h9.1)] at hq
  injection hq with hq1 hq2;injection hq1 with hq1 e7 e8;injection hq1 with e1 e2 e3 e4 e5 e6;subst e1 e2 e3 e4 e5 e6 e7 e8 hq2;obtain ⟨z0,z1,z2,z3,z4,z5,z6,z7⟩:=G8 P0.rbox;obtain ⟨k0,k1,k2,k3,k4,k5,k6,k7⟩:=G8 P0.jbox;have zf0:=C9 P0.rbox 0;have zf1:=C9 P0.rbox 1;have zf2:=C9 P0.rbox 2;have zf3:=C9 P0.rbox 3;have zf4:=C9 P0.rbox 4;have zf5:=C9 P0.rbox 5;have zf6:=C9 P0.rbox 6;have zf7:=C9 P0.rbox 7;have hl:=P0.lt;have hret:=P0.ret 0 ⟨#[]⟩ 0 ⟨#[]⟩ 0 0 0 0;clear P0;go_wp2_with fail;exact bodyPost_ret (v:=.tuple #[.agg #[.int .i64 0,.string ⟨#[]⟩,.int .i64 0,.string ⟨#[]⟩,.int .i64 0,.int .i64 0,.int .i64 0,.int .i64 0],.bool false]) (by simp [results,Tryz.results8,go_sem,z0,z1,z2,z3,z4,z5,z6,z7,T8,knownZero]) rfl ⟨rfl,hret⟩
 ·by_cases h38 : d.secs.length = 38
  ·have n38 : ((d.secs.length : Int) != 38) = false:=by rw [h38];rfl
   have H38:=Lib.hid h38;clear h38
   have HQ := Lib.hid (show (Be9 d 2, decide (0 < (Be9 d 2).g)) = ((⟨⟨Ka, Kb, Kp, Kq, Ke, Kf⟩, Kg, Km⟩, M) : Jour × Bool) by
       have h9:=HP.out;rw [show R7 d = (Be9 d 2,decide (0 < (Be9 d 2).g)) from if_pos ⟨H1.out,H38.out⟩] at h9
       exact h9)
   clear HP;obtain ⟨d0,d1,d2,d3⟩:=Q8 P0.dbox;go_wp2_with fail;clear d0 d1 d2 d3 n38;go_loopw [18] (fun i wr => ∃ (j : Nat) (b : Jour),j ≤ 2∧i = .int .i64 j∧Hid (Be9 d j = b)∧JB w [.slice A d.secs.length c,.slice B d.cache.length e,.int .i64 d.fuse,.bool d.down] b wr) (fun i _ => 2 - (intOf i).toNat)
   case atStart => exact ⟨0,T8,by omega,rfl,Lib.hid rfl,P0⟩
   case round =>
       clear P0;obtain ⟨j,⟨⟨ba,bb,bp,bq,be,bf⟩,bg,bm⟩,hj,rfl,hbest,P0⟩:=hrel;by_cases hlt : j < 2
       ·obtain ⟨d0,d1,d2,d3⟩:=Q8 P0.dbox
        go_wp2_with fail;refine (Xz9 [.slice A d.secs.length c,.slice B d.cache.length e,.int .i64 d.fuse,.bool d.down] d j wr (Keeps.keeps (F:=fun w' => diskR.at_ w' w'.heap.size [.slice A d.secs.length c,.slice B d.cache.length e,.int .i64 d.fuse,.bool d.down] d) P0.below HD.out) hf hlt (Keeps.keeps (F:=Given) P0.below HG.out)).mono ?_
        clear d0 d1 d2 d3;obtain ⟨⟨⟨⟨na,nb,nx,nq,ne,nf⟩,ng,nm⟩,yes⟩,hja⟩ : ∃ p,Gi9 d j = p:=⟨_,rfl⟩;rw [hja];have HJA:=Lib.hid hja;clear hja;rintro e2 W2 hret;obtain ⟨rfl,hb⟩:=hret.lit8i;replace P0:=P0.later hb;clear hret hb;have HN:=heap_alloc_new W2 (.cells #[.int .i64 na,.string nb,.int .i64 nx,.string nq,.int .i64 ne,.int .i64 nf,.int .i64 ng,.int .i64 nm] 37);have hNl : W2.heap.size < (W2.alloc (.cells #[.int .i64 na,.string nb,.int .i64 nx,.string nq,.int .i64 ne,.int .i64 nf,.int .i64 ng,.int .i64 nm] 37)).heap.size:=by simp
        have hNd : w.heap.size + 2 < W2.heap.size:=P0.lt;replace P0:=P0.later (Later.alloc W2 (.cells #[.int .i64 na,.string nb,.int .i64 nx,.string nq,.int .i64 ne,.int .i64 nf,.int .i64 ng,.int .i64 nm] 37));go_upto_region 8 with (fail)
        generalize W2.alloc (.cells #[.int .i64 na,.string nb,.int .i64 nx,.string nq,.int .i64 ne,.int .i64 nf,.int .i64 ng,.int .i64 nm] 37) = W5 at HN hNl P0 ⊢;generalize W2.heap.size = DN at HN hNl hNd ⊢;obtain ⟨n0,n1,n2,n3,n4,n5,n6,n7⟩:=G8 (r:=⟨⟨na,nb,nx,nq,ne,nf⟩,ng,nm⟩) HN;obtain ⟨j0,j1,j2,j3,j4,j5,j6,j7⟩:=G8 P0.jbox;clear HN;cases yes
        ·skip
         have HB2 := Lib.hid (show Be9 d (j + 1) = ⟨⟨ba, bb, bp, bq, be, bf⟩, bg, bm⟩ by
            show Bg9 d (Be9 d j) j = _
            rw [hbest.out,Oi9 HJA.out];exact if_neg (fun h9 => by cases h9.1))
         go_wp2_with fail;go_roundw
         case rel => exact ⟨j + 1,⟨⟨ba,bb,bp,bq,be,bf⟩,bg,bm⟩,by omega,by go_num,HB2,P0⟩
         case measure => simp [intOf];omega
        ·by_cases hgt : bg < ng
         ·have hgt2 : ng > bg:=hgt
          have HB2 := Lib.hid (show Be9 d (j + 1) = ⟨⟨na, nb, nx, nq, ne, nf⟩, ng, nm⟩ by
              show Bg9 d (Be9 d j) j = _
              rw [hbest.out,Oi9 HJA.out];exact if_pos ⟨rfl,hgt⟩)
          have jf0:=C9 P0.jbox 0;have jf1:=C9 P0.jbox 1;have jf2:=C9 P0.jbox 2;have jf3:=C9 P0.jbox 3;have jf4:=C9 P0.jbox 4;have jf5:=C9 P0.jbox 5;have jf6:=C9 P0.jbox 6;have jf7:=C9 P0.jbox 7;have hl:=P0.lt;have P2:=P0.putJ na nb nx nq ne nf ng nm;clear P0;go_wp2_with fail;go_roundw
          case rel => exact ⟨j + 1,⟨⟨na,nb,nx,nq,ne,nf⟩,ng,nm⟩,by omega,by go_num,HB2,P2⟩
          case measure => simp [intOf];omega
         ·have hle : ng ≤ bg:=by omega
          have HB2 := Lib.hid (show Be9 d (j + 1) = ⟨⟨ba, bb, bp, bq, be, bf⟩, bg, bm⟩ by
              show Bg9 d (Be9 d j) j = _
              rw [hbest.out,Oi9 HJA.out];exact if_neg (fun h9 => hgt h9.2))
          go_wp2_with fail;go_roundw
          case rel => exact ⟨j + 1,⟨⟨ba,bb,bp,bq,be,bf⟩,bg,bm⟩,by omega,by go_num,HB2,P0⟩
          case measure => simp [intOf];omega
       ·have he : j = 2:=by omega
        subst he;have HQ2:=HQ.out;rw [hbest.out] at HQ2;injection HQ2 with hq1 hq2;injection hq1 with hq1 e7 e8;injection hq1 with e1 e2 e3 e4 e5 e6;subst e1 e2 e3 e4 e5 e6 e7 e8 hq2;clear HQ hlt hj;go_wp2_with fail;refine M9 100 [0,1,2,3] [4,5] (fun w' => w'.heap[w.heap.size + 2]? = some (.cells (Y7 ⟨⟨ba,bb,bp,bq,be,bf⟩,bg,bm⟩).toArray 37 (0,0))) (by kernel_rfl) (by kernel_rfl) P0.jbox ?_
        replace P0:=P0.later (Later.drew wr);iterate 4 (refine LexR.cons rfl ?_ (fun w' hw => ?_) ?_;rotate_left;focus (obtain ⟨j0,j1,j2,j3,j4,j5,j6,j7⟩:=G8 (r:=⟨⟨ba,bb,bp,bq,be,bf⟩,bg,bm⟩) hw;clear hw;go_simp;(try exact rfl));(try go_frame))
        refine LexR.nil (LexW.cons rfl ?_);try go_frame
        generalize wr.drew = W6 at P0 ⊢;obtain ⟨z0,z1,z2,z3,z4,z5,z6,z7⟩:=G8 P0.rbox;have zf0:=C9 P0.rbox 0;have zf1:=C9 P0.rbox 1;have zf2:=C9 P0.rbox 2;have zf3:=C9 P0.rbox 3;have zf4:=C9 P0.rbox 4;have zf5:=C9 P0.rbox 5;have zf6:=C9 P0.rbox 6;have zf7:=C9 P0.rbox 7;have hl:=P0.lt;have hret:=P0.ret ba bb bp bq be bf bg bm;have hbx:=Ok9 P0.rbox ba bb bp bq be bf bg bm;have hj2:=((Ha9 W6 (w.heap.size + 1) ba bb bp bq be bf bg bm).block (w.heap.size + 2) hl (by simp)).trans P0.jbox
        clear P0;go_wp2_with fail;generalize ((((((((W6.setCell ⟨w.heap.size + 1,0,none⟩ (.int .i64 ba)).setCell ⟨w.heap.size + 1,1,none⟩ (.string bb)).setCell ⟨w.heap.size + 1,2,none⟩ (.int .i64 bp)).setCell ⟨w.heap.size + 1,3,none⟩ (.string bq)).setCell ⟨w.heap.size + 1,4,none⟩ (.int .i64 be)).setCell ⟨w.heap.size + 1,5,none⟩ (.int .i64 bf)).setCell ⟨w.heap.size + 1,6,none⟩ (.int .i64 bg)).setCell ⟨w.heap.size + 1,7,none⟩ (.int .i64 bm)) = W7 at hret hbx hj2 ⊢;refine ⟨fun _ => hj2,LexW.cons rfl ?_⟩
        clear z0 z1 z2 z3 z4 z5 z6 z7 zf0 zf1 zf2 zf3 zf4 zf5 zf6 zf7;try go_frame
        go_wp2_with fail;refine ⟨fun _ => hj2,LexW.nil ?_⟩
        obtain ⟨z0,z1,z2,z3,z4,z5,z6,z7⟩:=G8 (r:=⟨⟨ba,bb,bp,bq,be,bf⟩,bg,bm⟩) hbx;clear hbx hj2;go_wp2_with fail;exact bodyPost_ret (v:=.tuple #[.agg #[.int .i64 ba,.string bb,.int .i64 bp,.string bq,.int .i64 be,.int .i64 bf,.int .i64 bg,.int .i64 bm],.bool (decide (1 ≤ bg))]) (by simp [results,Tryz.results8,go_sem,z0,z1,z2,z3,z4,z5,z6,z7]) rfl ⟨by rw [show decide (0 < bg) = decide (1 ≤ bg) from rfl];rfl,hret⟩
  ·have n38 : ((d.secs.length : Int) != 38) = true:=by simp;omega
   have H38:=Lib.hid h38;clear h38;obtain ⟨d0,d1,d2,d3⟩:=Q8 P0.dbox;have hq:=HP.out;rw [show R7 d = (T8,false) from if_neg (fun h9 => H38.out h9.2)] at hq
   injection hq with hq1 hq2;injection hq1 with hq1 e7 e8;injection hq1 with e1 e2 e3 e4 e5 e6;subst e1 e2 e3 e4 e5 e6 e7 e8 hq2;obtain ⟨z0,z1,z2,z3,z4,z5,z6,z7⟩:=G8 P0.rbox;obtain ⟨k0,k1,k2,k3,k4,k5,k6,k7⟩:=G8 P0.jbox;have zf0:=C9 P0.rbox 0;have zf1:=C9 P0.rbox 1;have zf2:=C9 P0.rbox 2;have zf3:=C9 P0.rbox 3;have zf4:=C9 P0.rbox 4;have zf5:=C9 P0.rbox 5;have zf6:=C9 P0.rbox 6;have zf7:=C9 P0.rbox 7;have hl:=P0.lt;have hret:=P0.ret 0 ⟨#[]⟩ 0 ⟨#[]⟩ 0 0 0 0;clear P0;go_wp2_with fail;exact bodyPost_ret (v:=.tuple #[.agg #[.int .i64 0,.string ⟨#[]⟩,.int .i64 0,.string ⟨#[]⟩,.int .i64 0,.int .i64 0,.int .i64 0,.int .i64 0],.bool false]) (by simp [results,Tryz.results8,go_sem,z0,z1,z2,z3,z4,z5,z6,z7,T8,knownZero]) rfl ⟨rfl,hret⟩
end Go.Proofs.YthpkdjflndiojaaGreatDoor
