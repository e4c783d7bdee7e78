/- What the theorem needs, out of many texts. -/
import Derived.Test.YtoaaogacaibedaaGreatDoorShc21
namespace Go.Proofs.YtoaaogacaibedaaGreatDoor
open Go.RowKit
set_option maxRecDepth 100000
set_option linter.unusedVariables false
theorem recSec_any (g p : Int) (w : World) (hg : 0 ≤ g ∧ g ≤ 1000000) (hp : 0 ≤ p ∧ p ≤ 1000000) : Calls Tryz.prog 122 #[.int .i64 g, .int .i64 p] w fun e w' => e = .returned (.int .i64 (atP g p)) ∧ w = w' := by
 obtain ⟨g1, g2⟩ := hg
 obtain ⟨p1, p2⟩ := hp
 have h0 : 0 ≤ g % 2 := by omega
 have h1 : g % 2 ≤ 1 := by omega
 have ht : g.tmod 2 = g % 2 := Int.tmod_eq_emod_of_nonneg g1
 go_enter Tryz.func122, Tryz.ntmps122
 go_wp2
 go_ret
 exact ⟨rfl, rfl⟩
theorem getP_size (b : List UInt8) : (getP b).1.2.2.text.size ≤ 100 := by
 unfold getP
 split
 ·exact gtS_size b 8
 ·decide
theorem stepRec_size (d : Disk) (g : Int) (i : Nat) : (stepRec d g i).text.size ≤ 100 := getP_size _
theorem applyNo_same {k : Known} {r : Rec} (h : (applyP k r).2 = false) : (applyP k r).1 = k := by
 unfold applyP prepP commP epochP at h ⊢
 split at h <;> rename_i h1
 ·rw [if_pos h1]
  split at h <;> rename_i h2
  ·rw [if_pos h2]
   split at h <;> rename_i h3
   ·cases h
   ·rw [if_neg h3]
  ·rw [if_neg h2]
   split at h <;> rename_i h4
   ·rw [if_pos h4]
    split at h <;> rename_i h3
    ·cases h
    ·rw [if_neg h3]
   ·rw [if_neg h4]
    split at h <;> rename_i h3
    ·cases h
    ·rw [if_neg h3]
 ·rw [if_neg h1]
structure QA (w : World) (cs : List Value) (W : World) : Prop where
 below : Below w.heap.size w W
 dbox : W.heap[w.heap.size]? = some (.cells cs.toArray 27 (0, 0))
 rbox : W.heap[w.heap.size + 1]? = some (.cells (recC zeroRec).toArray 29 (0, 0))
section
variable {w W W' : World} {cs : List Value}
theorem QA.lt (h : QA w cs W) : w.heap.size + 1 < W.heap.size := (Array.getElem?_eq_some_iff.1 h.rbox).1
theorem QA.later (h : QA w cs W) (hb : Below W.heap.size W W') : QA w cs W' := by
 have hl := h.lt
 exact ⟨Later.trans h.below hb, (hb.block _ (by omega)).trans h.dbox, (hb.block _ hl).trans h.rbox⟩
instance QA.keeps (w : World) (cs : List Value) : Keeps (fun W => QA w cs W) := ⟨fun h x => x.later h⟩
theorem QA.beside {E : Nat} (h : QA w cs W) (ho : Rep.Only W W' [E]) (hE : w.heap.size + 1 < E) : QA w cs W' := by
 have hl := h.lt
 exact ⟨Rep.Only.below h.below ho h.below.size (fun a ha => by simp at ha; omega), (ho.block _ (by omega) (by simp; omega)).trans h.dbox, (ho.block _ hl (by simp; omega)).trans h.rbox⟩
theorem QA.ret (h : QA w cs W) (a b c d : Value) : Below w.heap.size w ((((W.setCell ⟨w.heap.size + 1, 0, none⟩ a).setCell ⟨w.heap.size + 1, 1, none⟩ b).setCell ⟨w.heap.size + 1, 2, none⟩ c).setCell ⟨w.heap.size + 1, 3, none⟩ d) :=
 Rep.Only.below h.below (putR4_only W (w.heap.size + 1) a b c d) h.below.size (fun a ha => by simp at ha; omega)
end
def RetRA (w : World) (r : Rec) (y : Bool) (e : Ending) (w' : World) : Prop := e = .returned (.tuple #[.agg #[.int .i64 r.kind, .int .i64 r.n, .int .i64 r.owner, .string r.text], .bool y]) ∧ Below w.heap.size w w'
theorem RetRA.lit {w w' : World} {k n o : Int} {t : ByteArray} {y : Bool} {e : Ending} (h : RetRA w ⟨k, n, o, t⟩ y e w') : e = .returned (.tuple #[.agg #[.int .i64 k, .int .i64 n, .int .i64 o, .string t], .bool y]) ∧ Below w.heap.size w w' := h
set_option maxRecDepth 100000 in
set_option maxHeartbeats 8000000 in
theorem recAt_any (cs : List Value) (d : Disk) (g : Int) (j : Nat) (w : World) (h : diskR.at_ w w.heap.size cs d) (hf : Fits d) (hgg : 1 ≤ g ∧ g ≤ 60000) (hj : j < 18) (hg : Given w) :
  Calls Tryz.prog 72 #[.agg cs.toArray, .int .i64 g, .int .i64 j] w (RetRA w (stepRec d g j) (stepB d g j)) := by
 obtain ⟨A, c, B, e, rfl⟩ := disk_at_shape h
 have HD := Lib.hid h
 have HG := Lib.hid hg
 have S : All (fun w' => QA w [.slice A d.secs.length c, .slice B d.cache.length e, .int .i64 d.fuse, .bool d.down] w') ((w.alloc (.cells #[.slice A d.secs.length c, .slice B d.cache.length e, .int .i64 d.fuse, .bool d.down] 27)).alloc (.cells #[.int .i64 0, .int .i64 0, .int .i64 0, .string ⟨#[]⟩] 29)) :=
  ⟨Later.trans (Later.alloc w _) (Later.alloc _ _), (Below.heap_alloc _ _ _ (by simp)).trans (heap_alloc_new w _), heap_alloc_new' _ _ (by simp)⟩
 clear h hg
 show Calls Tryz.prog 72 #[.agg #[.slice A d.secs.length c, .slice B d.cache.length e, .int .i64 d.fuse, .bool d.down], .int .i64 g, .int .i64 j] w _
 obtain ⟨⟨⟨ga, gp, ⟨rk, rn, ro, rt⟩⟩, ok⟩, hget⟩ : ∃ p, getP (readSec d (atP g j)) = p := ⟨_, rfl⟩
 have HR : stepRec d g j = ⟨rk, rn, ro, rt⟩ := by unfold stepRec; rw [hget]
 have HS : stepB d g j = (ok && ((ga == g) && (gp == (j : Int)))) := by unfold stepB; rw [hget]
 rw [HR, HS]
 obtain ⟨u1, hu1⟩ : ∃ u, (ga == g) = u := ⟨_, rfl⟩
 obtain ⟨u2, hu2⟩ : ∃ u, (gp == (j : Int)) = u := ⟨_, rfl⟩
 rw [hu1, hu2]
 have HU1 := Lib.hid hu1
 have HU2 := Lib.hid hu2
 clear hu1 hu2
 have HGET := Lib.hid hget
 clear hget HR HS
 unfold RetRA
 go_enter Tryz.func72, Tryz.ntmps72
 go_upto_region 1 with (fail)
 generalize (w.alloc (.cells #[.slice A d.secs.length c, .slice B d.cache.length e, .int .i64 d.fuse, .bool d.down] 27)).alloc (.cells #[.int .i64 0, .int .i64 0, .int .i64 0, .string ⟨#[]⟩] 29) = W0 at S ⊢
 go_cut [8, 9, 10, 11] from 12 (fun v8 v9 v10 v11 W' => ∃ E, v8 = .int .i64 ga ∧ v9 = .int .i64 gp ∧ v10 = .pointer (some ⟨E, 0, none⟩) ∧ v11 = .bool ok ∧ QA w [.slice A d.secs.length c, .slice B d.cache.length e, .int .i64 d.fuse, .bool d.down] W' ∧ Hid (W'.heap[E]? = some (.cells (recC ⟨rk, rn, ro, rt⟩).toArray 29 (0, 0))) ∧ w.heap.size + 1 < E)
 case first =>
  rename_i J K1 hJ hK
  refine wp_region_open 15 (fun w' => w'.heap[w.heap.size]? = some (.cells [.slice A d.secs.length c, .slice B d.cache.length e, .int .i64 d.fuse, .bool d.down].toArray 27 (0, 0))) (by kernel_rfl) ?_
  replace S := S.drew
  refine wpAnyL_reads [0, 1, 2] (fuel := 13) (by kernel_rfl) S.out.dbox ?_
  iterate 3 (refine LexR.cons rfl ?_ (fun w' hw => ?_) ?_; rotate_left; focus (obtain ⟨d0, d1, d2, d3⟩ := disk4 hw; clear hw; go_simp; (try exact rfl)); (try go_frame))
  refine LexR.nil ?_
  generalize W0.drew = V0 at S ⊢
  refine wpAnyL_two (i := 3) (j := 11) (by kernel_rfl) ?_ ?_
  ·skip
   refine lexA_get rfl ?_
   try go_frame
   go_wp2_with fail
   refine (recSec_any g (j : Int) V0 (by omega) (by omega)).mono ?_
   rintro e V1 ⟨rfl, rfl⟩
   go_wp2_with fail
   refine ⟨by first | exact S.out.dbox | exact fun _ => S.out.dbox, ?_⟩
   refine wpAnyL_two (i := 4) (j := 11) (by kernel_rfl) ?_ ?_
   ·skip
    refine lexA_get rfl ?_
    try go_frame
    go_wp2_with fail
    refine (readSec_rep [.slice A d.secs.length c, .slice B d.cache.length e, .int .i64 d.fuse, .bool d.down] d (atP g (j : Int)) V0 (Keeps.keeps (F := fun w' => diskR.at_ w' w'.heap.size [.slice A d.secs.length c, .slice B d.cache.length e, .int .i64 d.fuse, .bool d.down] d) S.out.below HD.out) hf (atP_wf hgg.1 hgg.2 (by omega) (by omega))).mono ?_
    rintro e V2 ⟨A4, c4, fp4, rfl, O4, hb⟩
    replace S := S.later hb
    obtain ⟨A5, c5, he5, hk4, r4⟩ := Rep.reads byR O4
    injection he5 with he5 _
    injection he5 with he5 _ he6
    subst he5 he6
    clear hb O4
    go_wp2_with fail
    refine ⟨by first | exact S.out.dbox | exact fun _ => S.out.dbox, ?_⟩
    refine wpAnyL_two (i := 5) (j := 11) (by kernel_rfl) ?_ ?_
    ·skip
     refine lexA_get rfl ?_
     try go_frame
     go_wp2_with fail
     refine (getRI_any A4 c4 (readSec d (atP g (j : Int))) V2 r4 (fits_readSec hf _) hk4.1 (Keeps.keeps (F := Given) S.out.below HG.out)).mono ?_
     rw [HGET.out]
     rintro e V3 hret
     obtain ⟨rfl, hb⟩ := hret.four
     replace S := S.later hb
     clear hret hb r4
     go_wp2_with fail
     refine ⟨by first | exact S.out.dbox | exact fun _ => S.out.dbox, ?_⟩
     refine wpAnyL_reads [6, 7, 8, 9, 10] (fuel := 5) (by kernel_rfl) S.out.dbox ?_
     iterate 5 (refine LexR.cons rfl ?_ (fun w' hw => ?_) ?_; rotate_left; focus (clear hw; go_simp; (try exact rfl)); (try go_frame))
     refine LexR.nil (wpAnyL_writes [11, 12, 13, 14, 15] (by kernel_rfl) (LexW.cons rfl ?_))
     try go_frame
     go_wp2_with fail
     have hE : (V3.alloc (.cells #[.int .i64 0, .int .i64 0, .int .i64 0, .string ⟨#[]⟩] 29)).heap[V3.heap.size]? = some (.cells (recC zeroRec).toArray 29 (0, 0)) := heap_alloc_new V3 _
     have hDE : w.heap.size + 1 < V3.heap.size := S.out.lt
     replace S := S.alloc (.cells #[.int .i64 0, .int .i64 0, .int .i64 0, .string ⟨#[]⟩] 29)
     generalize V3.alloc (.cells #[.int .i64 0, .int .i64 0, .int .i64 0, .string ⟨#[]⟩] 29) = V4 at S hE ⊢
     generalize V3.heap.size = E at hE hDE ⊢
     refine ⟨by first | exact S.out.dbox | exact fun _ => S.out.dbox, LexW.cons rfl ?_⟩
     try go_frame
     go_wp2_with fail
     refine ⟨by first | exact S.out.dbox | exact fun _ => S.out.dbox, LexW.cons rfl ?_⟩
     try go_frame
     go_wp2_with fail
     refine ⟨by first | exact S.out.dbox | exact fun _ => S.out.dbox, LexW.cons rfl ?_⟩
     try go_frame
     obtain ⟨y0, y1, y2, y3⟩ := rec_box (r := zeroRec) hE
     have yf0 := var_frozen hE 0
     have yf1 := var_frozen hE 1
     have yf2 := var_frozen hE 2
     have yf3 := var_frozen hE 3
     have hyl := (Array.getElem?_eq_some_iff.1 hE).1
     have HE2 := Lib.hid (setR4_box (r0 := zeroRec) hE rk rn ro rt)
     have P2 := S.out.beside (putR4_only V4 E (.int .i64 rk) (.int .i64 rn) (.int .i64 ro) (.string rt)) hDE
     clear hE S
     go_wp2_with fail
     generalize ((((V4.setCell ⟨E, 0, none⟩ (.int .i64 rk)).setCell ⟨E, 1, none⟩ (.int .i64 rn)).setCell ⟨E, 2, none⟩ (.int .i64 ro)).setCell ⟨E, 3, none⟩ (.string rt)) = VZ at HE2 P2 ⊢
     clear y0 y1 y2 y3 yf0 yf1 yf2 yf3 hyl
     refine ⟨by first | exact P2.dbox | exact fun _ => P2.dbox, LexW.cons rfl ?_⟩
     try go_frame
     go_wp2_with fail
     refine ⟨fun h => absurd rfl h, LexW.nil (hK _ _ (Met.intro (hJ _ _ ?_)))⟩
     (repeat apply Exists.intro)
     refine ⟨?_, rfl⟩
     exact ⟨E, rfl, rfl, rfl, rfl, P2, HE2, hDE⟩
    ·skip
     refine lexA_get rfl ?_
     try go_frame
     go_wp2_with fail
     have hE : (V2.alloc (.cells #[.int .i64 0, .int .i64 0, .int .i64 0, .string ⟨#[]⟩] 29)).heap[V2.heap.size]? = some (.cells (recC zeroRec).toArray 29 (0, 0)) := heap_alloc_new V2 _
     have hDE : w.heap.size + 1 < V2.heap.size := S.out.lt
     replace r4 := (r4.below (Later.alloc V2 (.cells #[.int .i64 0, .int .i64 0, .int .i64 0, .string ⟨#[]⟩] 29))).more (Later.alloc V2 (.cells #[.int .i64 0, .int .i64 0, .int .i64 0, .string ⟨#[]⟩] 29)).size
     replace S := S.alloc (.cells #[.int .i64 0, .int .i64 0, .int .i64 0, .string ⟨#[]⟩] 29)
     generalize V2.alloc (.cells #[.int .i64 0, .int .i64 0, .int .i64 0, .string ⟨#[]⟩] 29) = V3 at S hE r4 ⊢
     generalize V2.heap.size = E at hE hDE ⊢
     refine ⟨by first | exact S.out.dbox | exact fun _ => S.out.dbox, ?_⟩
     refine wpAnyL_one (i := 5) (by kernel_rfl) ?_
     refine lexA_get rfl ?_
     try go_frame
     go_wp2_with fail
     refine (getRI_any A4 c4 (readSec d (atP g (j : Int))) V3 r4 (fits_readSec hf _) hk4.1 (Keeps.keeps (F := Given) S.out.below HG.out)).mono ?_
     rw [HGET.out]
     rintro e V4 hret
     obtain ⟨rfl, hb⟩ := hret.four
     replace S := S.later hb
     replace hE := (hb.block _ (Array.getElem?_eq_some_iff.1 hE).1).trans hE
     clear hret hb r4
     go_wp2_with fail
     refine ⟨by first | exact S.out.dbox | exact fun _ => S.out.dbox, ?_⟩
     refine wpAnyL_reads [6, 7, 8, 9, 10] (fuel := 4) (by kernel_rfl) S.out.dbox ?_
     iterate 5 (refine LexR.cons rfl ?_ (fun w' hw => ?_) ?_; rotate_left; focus (clear hw; go_simp; (try exact rfl)); (try go_frame))
     refine LexR.nil (wpAnyL_writes [12, 13, 14, 15] (by kernel_rfl) (LexW.cons rfl ?_))
     try go_frame
     go_wp2_with fail
     refine ⟨by first | exact S.out.dbox | exact fun _ => S.out.dbox, LexW.cons rfl ?_⟩
     try go_frame
     go_wp2_with fail
     refine ⟨by first | exact S.out.dbox | exact fun _ => S.out.dbox, LexW.cons rfl ?_⟩
     try go_frame
     obtain ⟨y0, y1, y2, y3⟩ := rec_box (r := zeroRec) hE
     have yf0 := var_frozen hE 0
     have yf1 := var_frozen hE 1
     have yf2 := var_frozen hE 2
     have yf3 := var_frozen hE 3
     have hyl := (Array.getElem?_eq_some_iff.1 hE).1
     have HE2 := Lib.hid (setR4_box (r0 := zeroRec) hE rk rn ro rt)
     have P2 := S.out.beside (putR4_only V4 E (.int .i64 rk) (.int .i64 rn) (.int .i64 ro) (.string rt)) hDE
     clear hE S
     go_wp2_with fail
     generalize ((((V4.setCell ⟨E, 0, none⟩ (.int .i64 rk)).setCell ⟨E, 1, none⟩ (.int .i64 rn)).setCell ⟨E, 2, none⟩ (.int .i64 ro)).setCell ⟨E, 3, none⟩ (.string rt)) = VZ at HE2 P2 ⊢
     clear y0 y1 y2 y3 yf0 yf1 yf2 yf3 hyl
     refine ⟨by first | exact P2.dbox | exact fun _ => P2.dbox, LexW.cons rfl ?_⟩
     try go_frame
     go_wp2_with fail
     refine ⟨fun h => absurd rfl h, LexW.nil (hK _ _ (Met.intro (hJ _ _ ?_)))⟩
     (repeat apply Exists.intro)
     refine ⟨?_, rfl⟩
     exact ⟨E, rfl, rfl, rfl, rfl, P2, HE2, hDE⟩
   ·skip
    refine lexA_get rfl ?_
    try go_frame
    go_wp2_with fail
    have hE : (V0.alloc (.cells #[.int .i64 0, .int .i64 0, .int .i64 0, .string ⟨#[]⟩] 29)).heap[V0.heap.size]? = some (.cells (recC zeroRec).toArray 29 (0, 0)) := heap_alloc_new V0 _
    have hDE : w.heap.size + 1 < V0.heap.size := S.out.lt
    replace S := S.alloc (.cells #[.int .i64 0, .int .i64 0, .int .i64 0, .string ⟨#[]⟩] 29)
    generalize V0.alloc (.cells #[.int .i64 0, .int .i64 0, .int .i64 0, .string ⟨#[]⟩] 29) = V2 at S hE ⊢
    generalize V0.heap.size = E at hE hDE ⊢
    refine ⟨by first | exact S.out.dbox | exact fun _ => S.out.dbox, ?_⟩
    refine wpAnyL_one (i := 4) (by kernel_rfl) ?_
    refine lexA_get rfl ?_
    try go_frame
    go_wp2_with fail
    refine (readSec_rep [.slice A d.secs.length c, .slice B d.cache.length e, .int .i64 d.fuse, .bool d.down] d (atP g (j : Int)) V2 (Keeps.keeps (F := fun w' => diskR.at_ w' w'.heap.size [.slice A d.secs.length c, .slice B d.cache.length e, .int .i64 d.fuse, .bool d.down] d) S.out.below HD.out) hf (atP_wf hgg.1 hgg.2 (by omega) (by omega))).mono ?_
    rintro e V3 ⟨A4, c4, fp4, rfl, O4, hb⟩
    replace S := S.later hb
    replace hE := (hb.block _ (Array.getElem?_eq_some_iff.1 hE).1).trans hE
    obtain ⟨A5, c5, he5, hk4, r4⟩ := Rep.reads byR O4
    injection he5 with he5 _
    injection he5 with he5 _ he6
    subst he5 he6
    clear hb O4
    go_wp2_with fail
    refine ⟨by first | exact S.out.dbox | exact fun _ => S.out.dbox, ?_⟩
    refine wpAnyL_one (i := 5) (by kernel_rfl) ?_
    refine lexA_get rfl ?_
    try go_frame
    go_wp2_with fail
    refine (getRI_any A4 c4 (readSec d (atP g (j : Int))) V3 r4 (fits_readSec hf _) hk4.1 (Keeps.keeps (F := Given) S.out.below HG.out)).mono ?_
    rw [HGET.out]
    rintro e V4 hret
    obtain ⟨rfl, hb⟩ := hret.four
    replace S := S.later hb
    replace hE := (hb.block _ (Array.getElem?_eq_some_iff.1 hE).1).trans hE
    clear hret hb r4
    go_wp2_with fail
    refine ⟨by first | exact S.out.dbox | exact fun _ => S.out.dbox, ?_⟩
    refine wpAnyL_reads [6, 7, 8, 9, 10] (fuel := 4) (by kernel_rfl) S.out.dbox ?_
    iterate 5 (refine LexR.cons rfl ?_ (fun w' hw => ?_) ?_; rotate_left; focus (clear hw; go_simp; (try exact rfl)); (try go_frame))
    refine LexR.nil (wpAnyL_writes [12, 13, 14, 15] (by kernel_rfl) (LexW.cons rfl ?_))
    try go_frame
    go_wp2_with fail
    refine ⟨by first | exact S.out.dbox | exact fun _ => S.out.dbox, LexW.cons rfl ?_⟩
    try go_frame
    go_wp2_with fail
    refine ⟨by first | exact S.out.dbox | exact fun _ => S.out.dbox, LexW.cons rfl ?_⟩
    try go_frame
    obtain ⟨y0, y1, y2, y3⟩ := rec_box (r := zeroRec) hE
    have yf0 := var_frozen hE 0
    have yf1 := var_frozen hE 1
    have yf2 := var_frozen hE 2
    have yf3 := var_frozen hE 3
    have hyl := (Array.getElem?_eq_some_iff.1 hE).1
    have HE2 := Lib.hid (setR4_box (r0 := zeroRec) hE rk rn ro rt)
    have P2 := S.out.beside (putR4_only V4 E (.int .i64 rk) (.int .i64 rn) (.int .i64 ro) (.string rt)) hDE
    clear hE S
    go_wp2_with fail
    generalize ((((V4.setCell ⟨E, 0, none⟩ (.int .i64 rk)).setCell ⟨E, 1, none⟩ (.int .i64 rn)).setCell ⟨E, 2, none⟩ (.int .i64 ro)).setCell ⟨E, 3, none⟩ (.string rt)) = VZ at HE2 P2 ⊢
    clear y0 y1 y2 y3 yf0 yf1 yf2 yf3 hyl
    refine ⟨by first | exact P2.dbox | exact fun _ => P2.dbox, LexW.cons rfl ?_⟩
    try go_frame
    go_wp2_with fail
    refine ⟨fun h => absurd rfl h, LexW.nil (hK _ _ (Met.intro (hJ _ _ ?_)))⟩
    (repeat apply Exists.intro)
    refine ⟨?_, rfl⟩
    exact ⟨E, rfl, rfl, rfl, rfl, P2, HE2, hDE⟩
  ·skip
   refine lexA_get rfl ?_
   try go_frame
   go_wp2_with fail
   have hE : (V0.alloc (.cells #[.int .i64 0, .int .i64 0, .int .i64 0, .string ⟨#[]⟩] 29)).heap[V0.heap.size]? = some (.cells (recC zeroRec).toArray 29 (0, 0)) := heap_alloc_new V0 _
   have hDE : w.heap.size + 1 < V0.heap.size := S.out.lt
   replace S := S.alloc (.cells #[.int .i64 0, .int .i64 0, .int .i64 0, .string ⟨#[]⟩] 29)
   generalize V0.alloc (.cells #[.int .i64 0, .int .i64 0, .int .i64 0, .string ⟨#[]⟩] 29) = V1 at S hE ⊢
   generalize V0.heap.size = E at hE hDE ⊢
   refine ⟨by first | exact S.out.dbox | exact fun _ => S.out.dbox, ?_⟩
   refine wpAnyL_one (i := 3) (by kernel_rfl) ?_
   refine lexA_get rfl ?_
   try go_frame
   go_wp2_with fail
   refine (recSec_any g (j : Int) V1 (by omega) (by omega)).mono ?_
   rintro e V2 ⟨rfl, rfl⟩
   go_wp2_with fail
   refine ⟨by first | exact S.out.dbox | exact fun _ => S.out.dbox, ?_⟩
   refine wpAnyL_one (i := 4) (by kernel_rfl) ?_
   refine lexA_get rfl ?_
   try go_frame
   go_wp2_with fail
   refine (readSec_rep [.slice A d.secs.length c, .slice B d.cache.length e, .int .i64 d.fuse, .bool d.down] d (atP g (j : Int)) V1 (Keeps.keeps (F := fun w' => diskR.at_ w' w'.heap.size [.slice A d.secs.length c, .slice B d.cache.length e, .int .i64 d.fuse, .bool d.down] d) S.out.below HD.out) hf (atP_wf hgg.1 hgg.2 (by omega) (by omega))).mono ?_
   rintro e V3 ⟨A4, c4, fp4, rfl, O4, hb⟩
   replace S := S.later hb
   replace hE := (hb.block _ (Array.getElem?_eq_some_iff.1 hE).1).trans hE
   obtain ⟨A5, c5, he5, hk4, r4⟩ := Rep.reads byR O4
   injection he5 with he5 _
   injection he5 with he5 _ he6
   subst he5 he6
   clear hb O4
   go_wp2_with fail
   refine ⟨by first | exact S.out.dbox | exact fun _ => S.out.dbox, ?_⟩
   refine wpAnyL_one (i := 5) (by kernel_rfl) ?_
   refine lexA_get rfl ?_
   try go_frame
   go_wp2_with fail
   refine (getRI_any A4 c4 (readSec d (atP g (j : Int))) V3 r4 (fits_readSec hf _) hk4.1 (Keeps.keeps (F := Given) S.out.below HG.out)).mono ?_
   rw [HGET.out]
   rintro e V4 hret
   obtain ⟨rfl, hb⟩ := hret.four
   replace S := S.later hb
   replace hE := (hb.block _ (Array.getElem?_eq_some_iff.1 hE).1).trans hE
   clear hret hb r4
   go_wp2_with fail
   refine ⟨by first | exact S.out.dbox | exact fun _ => S.out.dbox, ?_⟩
   refine wpAnyL_reads [6, 7, 8, 9, 10] (fuel := 4) (by kernel_rfl) S.out.dbox ?_
   iterate 5 (refine LexR.cons rfl ?_ (fun w' hw => ?_) ?_; rotate_left; focus (clear hw; go_simp; (try exact rfl)); (try go_frame))
   refine LexR.nil (wpAnyL_writes [12, 13, 14, 15] (by kernel_rfl) (LexW.cons rfl ?_))
   try go_frame
   go_wp2_with fail
   refine ⟨by first | exact S.out.dbox | exact fun _ => S.out.dbox, LexW.cons rfl ?_⟩
   try go_frame
   go_wp2_with fail
   refine ⟨by first | exact S.out.dbox | exact fun _ => S.out.dbox, LexW.cons rfl ?_⟩
   try go_frame
   obtain ⟨y0, y1, y2, y3⟩ := rec_box (r := zeroRec) hE
   have yf0 := var_frozen hE 0
   have yf1 := var_frozen hE 1
   have yf2 := var_frozen hE 2
   have yf3 := var_frozen hE 3
   have hyl := (Array.getElem?_eq_some_iff.1 hE).1
   have HE2 := Lib.hid (setR4_box (r0 := zeroRec) hE rk rn ro rt)
   have P2 := S.out.beside (putR4_only V4 E (.int .i64 rk) (.int .i64 rn) (.int .i64 ro) (.string rt)) hDE
   clear hE S
   go_wp2_with fail
   generalize ((((V4.setCell ⟨E, 0, none⟩ (.int .i64 rk)).setCell ⟨E, 1, none⟩ (.int .i64 rn)).setCell ⟨E, 2, none⟩ (.int .i64 ro)).setCell ⟨E, 3, none⟩ (.string rt)) = VZ at HE2 P2 ⊢
   clear y0 y1 y2 y3 yf0 yf1 yf2 yf3 hyl
   refine ⟨by first | exact P2.dbox | exact fun _ => P2.dbox, LexW.cons rfl ?_⟩
   try go_frame
   go_wp2_with fail
   refine ⟨fun h => absurd rfl h, LexW.nil (hK _ _ (Met.intro (hJ _ _ ?_)))⟩
   (repeat apply Exists.intro)
   refine ⟨?_, rfl⟩
   exact ⟨E, rfl, rfl, rfl, rfl, P2, HE2, hDE⟩
 case rest =>
  clear S
  obtain ⟨E, rfl, rfl, rfl, rfl, P, hE, hDE⟩ := hcut
  obtain ⟨e0, e1, e2, e3⟩ := rec_box (r := ⟨rk, rn, ro, rt⟩) hE.out
  obtain ⟨z0, z1, z2, z3⟩ := rec_box (r := zeroRec) P.rbox
  have zf0 := var_frozen P.rbox 0
  have zf1 := var_frozen P.rbox 1
  have zf2 := var_frozen P.rbox 2
  have zf3 := var_frozen P.rbox 3
  have hl := P.lt
  have hret := P.ret (.int .i64 rk) (.int .i64 rn) (.int .i64 ro) (.string rt)
  have hu1 := HU1.out
  have hu2 := HU2.out
  clear P hE
  cases ok
  ·go_wp2_with fail
   exact bodyPost_ret (v := .tuple #[.agg #[.int .i64 rk, .int .i64 rn, .int .i64 ro, .string rt], .bool false]) (by simp [results, Tryz.results72, go_sem, z0, z1, z2, z3, zeroRec]) rfl ⟨rfl, hret⟩
  ·cases u1
   ·go_wp2_with fail
    exact bodyPost_ret (v := .tuple #[.agg #[.int .i64 rk, .int .i64 rn, .int .i64 ro, .string rt], .bool false]) (by simp [results, Tryz.results72, go_sem, z0, z1, z2, z3, zeroRec]) rfl ⟨rfl, hret⟩
   ·cases u2
    ·go_wp2_with fail
     exact bodyPost_ret (v := .tuple #[.agg #[.int .i64 rk, .int .i64 rn, .int .i64 ro, .string rt], .bool false]) (by simp [results, Tryz.results72, go_sem, z0, z1, z2, z3, zeroRec]) rfl ⟨rfl, hret⟩
    ·go_wp2_with fail
     exact bodyPost_ret (v := .tuple #[.agg #[.int .i64 rk, .int .i64 rn, .int .i64 ro, .string rt], .bool true]) (by simp [results, Tryz.results72, go_sem, z0, z1, z2, z3, zeroRec]) rfl ⟨rfl, hret⟩
set_option maxRecDepth 100000 in
set_option maxHeartbeats 8000000 in
theorem replay_any (cs : List Value) (d : Disk) (g : Int) (w : World) (h : diskR.at_ w w.heap.size cs d) (hf : Fits d) (hwf : (Lit.int .i64 g).wf = true) (hg : Given w) :
  Calls Tryz.prog 23 #[.agg cs.toArray, .int .i64 g] w (RetRep w (replayP d g)) := by
 obtain ⟨A, c, B, e, rfl⟩ := disk_at_shape h
 have HD := Lib.hid h
 have HG := Lib.hid hg
 have P0 : PB w [.slice A d.secs.length c, .slice B d.cache.length e, .int .i64 d.fuse, .bool d.down] knownZero (((w.alloc (.cells #[.slice A d.secs.length c, .slice B d.cache.length e, .int .i64 d.fuse, .bool d.down] 27)).alloc (.cells #[.int .i64 0, .string ⟨#[]⟩, .int .i64 0, .string ⟨#[]⟩, .int .i64 0, .int .i64 0] 35)).alloc (.cells #[.int .i64 0, .string ⟨#[]⟩, .int .i64 0, .string ⟨#[]⟩, .int .i64 0, .int .i64 0] 35)) :=
  ⟨Later.trans (Later.trans (Later.alloc w _) (Later.alloc _ _)) (Later.alloc _ _), (Below.heap_alloc _ _ _ (by simp; omega)).trans ((Below.heap_alloc _ _ _ (by simp)).trans (heap_alloc_new w _)), (Below.heap_alloc _ _ _ (by simp)).trans (heap_alloc_new' _ _ (by simp)), heap_alloc_new' _ _ (by simp)⟩
 clear h hg
 show Calls Tryz.prog 23 #[.agg #[.slice A d.secs.length c, .slice B d.cache.length e, .int .i64 d.fuse, .bool d.down], .int .i64 g] w _
 obtain ⟨⟨⟨Ka, Kb, Kp, Kq, Ke, Kf⟩, M⟩, hp⟩ : ∃ p, replayP d g = p := ⟨_, rfl⟩
 rw [hp]
 have HP := Lib.hid hp
 clear hp
 obtain ⟨b1, h1⟩ : ∃ b, inI g 1 60000 = b := ⟨_, rfl⟩
 unfold RetRep
 go_enter Tryz.func23, Tryz.ntmps23
 go_upto_region 2 with (fail)
 generalize ((w.alloc (.cells #[.slice A d.secs.length c, .slice B d.cache.length e, .int .i64 d.fuse, .bool d.down] 27)).alloc (.cells #[.int .i64 0, .string ⟨#[]⟩, .int .i64 0, .string ⟨#[]⟩, .int .i64 0, .int .i64 0] 35)).alloc (.cells #[.int .i64 0, .string ⟨#[]⟩, .int .i64 0, .string ⟨#[]⟩, .int .i64 0, .int .i64 0] 35) = W0 at P0 ⊢
 cases b1
 ·have hq : replayP d g = (knownZero, 0) := by unfold replayP; rw [h1]; rfl
  rw [HP.out] at hq
  injection hq with hq1 hq2
  injection hq1 with e1 e2 e3 e4 e5 e6
  subst e1 e2 e3 e4 e5 e6 hq2
  obtain ⟨z0, z1, z2, z3, z4, z5⟩ := known_box P0.rbox
  obtain ⟨k0, k1, k2, k3, k4, k5⟩ := known_box P0.kbox
  have zf0 := var_frozen P0.rbox 0
  have zf1 := var_frozen P0.rbox 1
  have zf2 := var_frozen P0.rbox 2
  have zf3 := var_frozen P0.rbox 3
  have zf4 := var_frozen P0.rbox 4
  have zf5 := var_frozen P0.rbox 5
  have hl := P0.lt
  have hret := P0.ret 0 ⟨#[]⟩ 0 ⟨#[]⟩ 0 0
  clear P0
  go_wp2_with (go_at_call 71; refine (within_b (by assumption) _).mono ?_; rintro e w' ⟨rfl, rfl⟩)
  exact bodyPost_ret (v := .tuple #[.agg #[.int .i64 0, .string ⟨#[]⟩, .int .i64 0, .string ⟨#[]⟩, .int .i64 0, .int .i64 0], .int .i64 0]) (by simp [results, Tryz.results23, go_sem, z0, z1, z2, z3, z4, z5, knownZero]) rfl ⟨rfl, hret⟩
 ·have hq : replayFrom d g 18 0 knownZero = (⟨Ka, Kb, Kp, Kq, Ke, Kf⟩, M) := by have h9 := HP.out; unfold replayP at h9; rw [h1] at h9; exact h9
  have hgg : 1 ≤ g ∧ g ≤ 60000 := of_decide_eq_true h1
  have HQ := Lib.hid hq
  clear hq
  go_wp2_with (go_at_call 71; refine (within_b (by assumption) _).mono ?_; rintro e w' ⟨rfl, rfl⟩)
  clear h1 HP
  go_loopw [14] (fun i wr => ∃ (j : Nat) (k : Known), j ≤ 18 ∧ i = .int .i64 j ∧ Hid (KG k) ∧ Hid (replayFrom d g (18 - j) j k = (⟨Ka, Kb, Kp, Kq, Ke, Kf⟩, M)) ∧ PB w [.slice A d.secs.length c, .slice B d.cache.length e, .int .i64 d.fuse, .bool d.down] k wr) (fun i _ => 18 - (intOf i).toNat)
  case atStart => exact ⟨0, knownZero, by omega, rfl, Lib.hid zero_good, HQ, P0⟩
  case round =>
   clear P0 HQ
   obtain ⟨j, ⟨ka, kb, kp, kq, ke, kf⟩, hj, rfl, HKG, hrep, P⟩ := hrel
   by_cases hlt : j < 18
   ·obtain ⟨d0, d1, d2, d3⟩ := disk4 P.dbox
    go_wp2_with fail
    refine (recAt_any [.slice A d.secs.length c, .slice B d.cache.length e, .int .i64 d.fuse, .bool d.down] d g j wr (Keeps.keeps (F := fun w' => diskR.at_ w' w'.heap.size [.slice A d.secs.length c, .slice B d.cache.length e, .int .i64 d.fuse, .bool d.down] d) P.below HD.out) hf hgg hlt (Keeps.keeps (F := Given) P.below HG.out)).mono ?_
    clear d0 d1 d2 d3
    have HSZ := Lib.hid (stepRec_size d g j)
    obtain ⟨⟨rk, rn, ro, rt⟩, hsr⟩ : ∃ r, stepRec d g j = r := ⟨_, rfl⟩
    obtain ⟨ok, hsb⟩ : ∃ b, stepB d g j = b := ⟨_, rfl⟩
    rw [hsr] at HSZ ⊢
    rw [hsb]
    have HSR := Lib.hid hsr
    have HSB := Lib.hid hsb
    clear hsr hsb
    rintro e1 W1 hret
    obtain ⟨rfl, hb⟩ := hret.lit
    replace P := P.later hb
    clear hret hb
    have HE := heap_alloc_new W1 (.cells #[.int .i64 rk, .int .i64 rn, .int .i64 ro, .string rt] 29)
    have HEl : w.heap.size + 2 < W1.heap.size := P.lt
    replace P := P.later (Later.alloc W1 (.cells #[.int .i64 rk, .int .i64 rn, .int .i64 ro, .string rt] 29))
    go_upto_region 8 with (fail)
    generalize W1.alloc (.cells #[.int .i64 rk, .int .i64 rn, .int .i64 ro, .string rt] 29) = W2 at HE P ⊢
    generalize W1.heap.size = E at HE HEl ⊢
    obtain ⟨m, hm⟩ : ∃ m, 18 - j = m + 1 := ⟨17 - j, by omega⟩
    have hrep2 := hrep.out
    rw [hm] at hrep2
    have HREP := Lib.hid hrep2
    have HM := Lib.hid hm
    clear hrep2 hrep hm
    cases ok
    ·skip
     have hq := HREP.out
     rw [replay_no (n := m) (k := ⟨ka, kb, kp, kq, ke, kf⟩) HSB.out] at hq
     injection hq with hq1 hq2
     injection hq1 with e1 e2 e3 e4 e5 e6
     subst e1 e2 e3 e4 e5 e6 hq2
     obtain ⟨z0, z1, z2, z3, z4, z5⟩ := known_box P.rbox
     obtain ⟨k0, k1, k2, k3, k4, k5⟩ := known_box P.kbox
     have zf0 := var_frozen P.rbox 0
     have zf1 := var_frozen P.rbox 1
     have zf2 := var_frozen P.rbox 2
     have zf3 := var_frozen P.rbox 3
     have zf4 := var_frozen P.rbox 4
     have zf5 := var_frozen P.rbox 5
     have hl := P.lt
     have hret := P.ret ka kb kp kq ke kf
     clear P HE
     go_wp2_with fail
     exact bodyPost_ret (v := .tuple #[.agg #[.int .i64 ka, .string kb, .int .i64 kp, .string kq, .int .i64 ke, .int .i64 kf], .int .i64 j]) (by simp [results, Tryz.results23, go_sem, z0, z1, z2, z3, z4, z5, knownZero]) rfl ⟨rfl, hret⟩
    ·obtain ⟨⟨⟨na, nb, np, nq, ne, nf⟩, yes⟩, hap⟩ : ∃ p, applyP ⟨ka, kb, kp, kq, ke, kf⟩ ⟨rk, rn, ro, rt⟩ = p := ⟨_, rfl⟩
     have HKG2 := Lib.hid (show KG ⟨na, nb, np, nq, ne, nf⟩ by have h9 := apply_good (r := ⟨rk, rn, ro, rt⟩) HKG.out; rw [hap] at h9; exact h9)
     have HAP := Lib.hid hap
     clear hap
     obtain ⟨k0, k1, k2, k3, k4, k5⟩ := known_box P.kbox
     obtain ⟨e0, e1, e2, e3⟩ := rec_box (r := ⟨rk, rn, ro, rt⟩) HE
     go_wp2_with fail
     have hsz := good_sizes HKG.out
     refine (applyI_any ⟨ka, kb, kp, kq, ke, kf⟩ ⟨rk, rn, ro, rt⟩ W2 (Keeps.keeps (F := Given) P.below HG.out) (Nat.le_trans hsz.1 (by decide)) (Nat.le_trans hsz.2 (by decide)) (Nat.le_trans HSZ.out (by decide))).mono ?_
     clear hsz
     rw [HAP.out]
     rintro e W9 hret
     obtain ⟨rfl, hb⟩ := hret.lit6
     replace P := P.later hb
     clear hret hb k0 k1 k2 k3 k4 k5 e0 e1 e2 e3 HE
     obtain ⟨k0, k1, k2, k3, k4, k5⟩ := known_box P.kbox
     have kf0 := var_frozen P.kbox 0
     have kf1 := var_frozen P.kbox 1
     have kf2 := var_frozen P.kbox 2
     have kf3 := var_frozen P.kbox 3
     have kf4 := var_frozen P.kbox 4
     have kf5 := var_frozen P.kbox 5
     have hl := P.lt
     have P2 := P.putK na nb np nq ne nf
     clear P
     go_upto_region 10 with (fail)
     clear k0 k1 k2 k3 k4 k5 kf0 kf1 kf2 kf3 kf4 kf5
     generalize ((((((W9.setCell ⟨w.heap.size + 2, 0, none⟩ (.int .i64 na)).setCell ⟨w.heap.size + 2, 1, none⟩ (.string nb)).setCell ⟨w.heap.size + 2, 2, none⟩ (.int .i64 np)).setCell ⟨w.heap.size + 2, 3, none⟩ (.string nq)).setCell ⟨w.heap.size + 2, 4, none⟩ (.int .i64 ne)).setCell ⟨w.heap.size + 2, 5, none⟩ (.int .i64 nf)) = WA at P2 ⊢
     cases yes
     ·skip
      have hq := HREP.out
      rw [replay_no2 (n := m) (k := ⟨ka, kb, kp, kq, ke, kf⟩) (show (applyP ⟨ka, kb, kp, kq, ke, kf⟩ (stepRec d g j)).2 = false by rw [HSR.out, HAP.out])] at hq
      have hsame := applyNo_same (k := ⟨ka, kb, kp, kq, ke, kf⟩) (r := ⟨rk, rn, ro, rt⟩) (by rw [HAP.out])
      rw [HAP.out] at hsame
      injection hsame with f1 f2 f3 f4 f5 f6
      injection hq with hq1 hq2
      injection hq1 with e1 e2 e3 e4 e5 e6
      subst e1 e2 e3 e4 e5 e6 hq2
      subst f1 f2 f3 f4 f5 f6
      have P := P2
      clear P2
      obtain ⟨z0, z1, z2, z3, z4, z5⟩ := known_box P.rbox
      obtain ⟨k0, k1, k2, k3, k4, k5⟩ := known_box P.kbox
      have zf0 := var_frozen P.rbox 0
      have zf1 := var_frozen P.rbox 1
      have zf2 := var_frozen P.rbox 2
      have zf3 := var_frozen P.rbox 3
      have zf4 := var_frozen P.rbox 4
      have zf5 := var_frozen P.rbox 5
      have hl := P.lt
      have hret := P.ret na nb np nq ne nf
      clear P
      go_wp2_with fail
      exact bodyPost_ret (v := .tuple #[.agg #[.int .i64 na, .string nb, .int .i64 np, .string nq, .int .i64 ne, .int .i64 nf], .int .i64 j]) (by simp [results, Tryz.results23, go_sem, z0, z1, z2, z3, z4, z5, knownZero]) rfl ⟨rfl, hret⟩
     ·have HREP2 := Lib.hid (show replayFrom d g (18 - (j + 1)) (j + 1) ⟨na, nb, np, nq, ne, nf⟩ = (⟨Ka, Kb, Kp, Kq, Ke, Kf⟩, M) by
       have h9 := HREP.out
       rw [replay_go HSB.out (by rw [HSR.out, HAP.out]), HSR.out, HAP.out] at h9
       rw [show 18 - (j + 1) = m by have := HM.out; omega]
       exact h9)
      go_wp2_with fail
      go_roundw
      case rel => exact ⟨j + 1, ⟨na, nb, np, nq, ne, nf⟩, by omega, by go_num, HKG2, HREP2, P2⟩
      case measure => simp [intOf]; omega
   ·have he : j = 18 := by omega
    subst he
    have hq := hrep.out
    rw [(show replayFrom d g 0 18 ⟨ka, kb, kp, kq, ke, kf⟩ = (⟨ka, kb, kp, kq, ke, kf⟩, 18) from rfl)] at hq
    injection hq with hq1 hq2
    injection hq1 with e1 e2 e3 e4 e5 e6
    subst e1 e2 e3 e4 e5 e6 hq2
    obtain ⟨z0, z1, z2, z3, z4, z5⟩ := known_box P.rbox
    obtain ⟨k0, k1, k2, k3, k4, k5⟩ := known_box P.kbox
    have zf0 := var_frozen P.rbox 0
    have zf1 := var_frozen P.rbox 1
    have zf2 := var_frozen P.rbox 2
    have zf3 := var_frozen P.rbox 3
    have zf4 := var_frozen P.rbox 4
    have zf5 := var_frozen P.rbox 5
    have hl := P.lt
    have hret := P.ret ka kb kp kq ke kf
    clear P
    go_wp2_with fail
    exact bodyPost_ret (v := .tuple #[.agg #[.int .i64 ka, .string kb, .int .i64 kp, .string kq, .int .i64 ke, .int .i64 kf], .int .i64 18]) (by simp [results, Tryz.results23, go_sem, z0, z1, z2, z3, z4, z5, knownZero]) rfl ⟨rfl, hret⟩
theorem sameB_any (A B : Option Addr) (c c' M M' : Nat) (a b : List UInt8) (w : World) (h : Reads w M 1 A a.length (bys a)) (h' : Reads w M' 1 B b.length (bys b)) :
  Calls Tryz.prog 135 #[.slice A a.length c, .slice B b.length c'] w fun e w' => e = .returned (.bool (a == b)) ∧ w = w' := by
 have h1 := string_run (P := Tryz.prog) (c := c) Tryz.underlying22 Tryz.underlying5 Tryz.underlying9 h
 have h2 := string_run (P := Tryz.prog) (c := c') Tryz.underlying22 Tryz.underlying5 Tryz.underlying9 h'
 refine (Tryz.bytes_Equal_strs _ _ _ _ w h1 h2).mono ?_
 rintro e w' ⟨rfl, rfl⟩
 exact ⟨by simp [Lib.toList_data], rfl⟩
set_option maxHeartbeats 1000000 in
theorem headOf_any (g n : Int) (w : World) : Calls Tryz.prog 54 #[.int .i64 g, .int .i64 n] w (RetOwn w (headL g n)) := by
 obtain ⟨b1, h1⟩ : ∃ b, inI g 1 60000 = b := ⟨_, rfl⟩
 obtain ⟨b2, h2⟩ : ∃ b, inI n 0 18 = b := ⟨_, rfl⟩
 unfold RetOwn
 cases b1
 ·rw [headL_no (.inl h1)]
  go_enter Tryz.func54, Tryz.ntmps54
  go_wp2_with (go_at_call 71; refine (within_b (by assumption) _).mono ?_; rintro e w' ⟨rfl, rfl⟩)
  go_ret
  exact ⟨_, rfl, own_empty w _ (Nat.le_refl _), Later.alloc w _⟩
 ·cases b2
  ·rw [headL_no (.inr h2)]
   go_enter Tryz.func54, Tryz.ntmps54
   go_wp2_with (go_at_call 71; refine (within_b (by assumption) _).mono ?_; rintro e w' ⟨rfl, rfl⟩)
   go_ret
   exact ⟨_, rfl, own_empty w _ (Nat.le_refl _), Later.alloc w _⟩
  ·rw [headL_yes h1 h2]
   go_enter Tryz.func54, Tryz.ntmps54
   go_wp2_with (go_at_call 71; refine (within_b (by assumption) _).mono ?_; rintro e w' ⟨rfl, rfl⟩)
   clear h1 h2
   have S : All (fun w' => Below w.heap.size w w') w := ⟨Later.refl w⟩
   refine (putWord_any none 0 g [] w Reads.none_ (by simp)).mono ?_
   rintro e W2 ⟨v2, rfl, o2, hb⟩
   replace S := S.later hb
   obtain ⟨A2, c2, rfl, _, _, r2, _⟩ := o2.shape
   clear hb o2
   go_wp2_with fail
   refine (putWord_any A2 c2 n _ W2 r2 (by simp [wordBytes])).mono ?_
   rintro e W3 ⟨v3, rfl, o3, hb⟩
   replace S := S.later hb
   obtain ⟨A3, c3, rfl, _, _, r3, _⟩ := o3.shape
   have L3 := Lib.hid (show ([] ++ wordBytes g ++ wordBytes n).length = 4 by simp [wordBytes])
   obtain ⟨l3, hl3⟩ : ∃ l3, [] ++ wordBytes g ++ wordBytes n = l3 := ⟨_, rfl⟩
   rw [hl3] at r3 L3 ⊢
   have HL3 := Lib.hid hl3
   clear hl3
   clear hb o3 r2
   go_wp2_with fail
   refine (sum_any A3 c3 l3 W3 r3 (by have := L3.out; omega)).mono ?_
   rintro e W4 ⟨rfl, rfl⟩
   go_wp2_with fail
   refine (putWord_any A3 c3 (crc l3) l3 W3 r3 (by have := L3.out; omega)).mono ?_
   rintro e W5 ⟨v5, rfl, o5, hb⟩
   go_wp2_with fail
   go_ret
   exact ⟨_, rfl, by unfold withSum headBody; rw [HL3.out]; exact ownsRow_mono o5 S.out.size, Later.trans S.out hb⟩
set_option maxHeartbeats 1000000 in
theorem getHead_any (A : Option Addr) (c : Nat) (l : List UInt8) (w : World) (h : Reads w w.heap.size 1 A l.length (bys l)) (hn : l.length ≤ 100000000) : Calls Tryz.prog 99 #[.slice A l.length c] w (RetHead w (getHeadP l)) := by
 obtain ⟨p, hp⟩ : ∃ p, getHeadP l = p := ⟨_, rfl⟩
 rw [hp]
 have HP := Lib.hid hp
 clear hp
 unfold RetHead
 by_cases hl : l.length = 6
 ·have hok0 : gwOk l 0 = true := by unfold gwOk; rw [hl]; rfl
  have hn0 : gwNext l 0 = 2 := by unfold gwNext; rw [hok0]; rfl
  have h6 : ((l.length : Int) != 6) = false := by rw [hl]; rfl
  have HL6 := Lib.hid hl
  clear hl
  go_enter Tryz.func99, Tryz.ntmps99
  go_wp2_with fail
  refine (getWord_any A c 0 l w h hn).mono ?_
  rw [hn0, hok0]
  rintro e W1 ⟨rfl, n1, rfl⟩
  go_wp2_with fail
  refine (getWord_any A c 2 l _ (h.drewN n1) hn).mono ?_
  rintro e W2 ⟨rfl, n2, rfl⟩
  have R2 := (h.drewN n1).drewN n2
  have B2 := belowD (belowD (Below.refl w.heap.size w) n1) n2
  generalize (w.drewN n1).drewN n2 = W2 at R2 B2 ⊢
  clear hok0 hn0
  go_wp2_with fail
  refine (headOf_any (gwVal l 0) (gwVal l 2) W2).mono ?_
  rintro e W3 ⟨v3, rfl, o3, hb⟩
  obtain ⟨A3, c3, rfl, _, _, r3, _⟩ := o3.shape
  replace R2 := (R2.below (hb.mono (Nat.le_refl _) |>.mono B2.size)).more (Nat.le_trans B2.size hb.size)
  replace B2 := Later.trans B2 hb
  have HE := Lib.hid (show (headL (gwVal l 0) (gwVal l 2) == l) = true ↔ headL (gwVal l 0) (gwVal l 2) = l by simp)
  clear hb o3
  go_wp2_with fail
  refine (sameB_any A3 A c3 c _ _ _ l W3 r3 R2).mono ?_
  obtain ⟨y, hy⟩ : ∃ y, (headL (gwVal l 0) (gwVal l 2) == l) = y := ⟨_, rfl⟩
  rw [hy]
  have HY := Lib.hid hy
  clear hy
  rintro e W4 ⟨rfl, rfl⟩
  cases y
  ·have hq := getHeadP_no (l := l) (fun h9 => by have h8 := HE.out.2 h9.2; rw [HY.out] at h8; cases h8)
   rw [HP.out] at hq
   subst hq
   go_wp2_with fail
   go_ret3
   exact ⟨rfl, B2⟩
  ·have hq := getHeadP_yes HL6.out (HE.out.1 HY.out)
   rw [HP.out] at hq
   subst hq
   go_wp2_with fail
   go_ret3
   exact ⟨rfl, B2⟩
 ·have hq := getHeadP_no (l := l) (fun h9 => hl h9.1)
  rw [HP.out] at hq
  subst hq
  have h6 : ((l.length : Int) != 6) = true := by simp; omega
  clear hl
  go_enter Tryz.func99, Tryz.ntmps99
  go_wp2_with fail
  go_ret3
  exact ⟨rfl, Later.refl w⟩
theorem headSec_any (g : Int) (w : World) (g1 : 0 ≤ g) (g2 : g ≤ 1000000) : Calls Tryz.prog 53 #[.int .i64 g] w fun e w' => e = .returned (.int .i64 (g % 2)) ∧ w = w' := by
 have h0 : 0 ≤ g % 2 := by omega
 have h1 : g % 2 ≤ 1 := by omega
 have ht : g.tmod 2 = g % 2 := Int.tmod_eq_emod_of_nonneg g1
 go_enter Tryz.func53, Tryz.ntmps53
 go_wp2
 go_ret
 exact ⟨rfl, rfl⟩
end Go.Proofs.YtoaaogacaibedaaGreatDoor
