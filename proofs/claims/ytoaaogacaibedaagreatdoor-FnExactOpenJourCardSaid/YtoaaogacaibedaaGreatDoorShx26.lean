/- What the theorem needs, out of many texts. -/
import Derived.Test.YtoaaogacaibedaaGreatDoorShx3
import Derived.Test.YtoaaogacaibedaaGreatDoorShx4
import Derived.Test.YtoaaogacaibedaaGreatDoorShx6
import Derived.Test.YtoaaogacaibedaaGreatDoorShx25
import Derived.Deep.CutRange
import Derived.Deep.Cut
import Derived.Deep.CutBlock
import Derived.Maps.RangeWalk
import Derived.Deep.DeepMust
import Derived.Laws.IdiomStrings
import Derived.Lib.ConvBytes
namespace Go.Proofs.YtoaaogacaibedaaGreatDoor
open Go.RowKit
set_option maxRecDepth 100000
set_option linter.unusedVariables false
theorem putK6_only (w : World) (D : Nat) (a : Int) (b : ByteArray) (p : Int) (q : ByteArray) (e f : Int) : Rep.Only w ((((((w.setCell ⟨D, 0, none⟩ (.int .i64 a)).setCell ⟨D, 1, none⟩ (.string b)).setCell ⟨D, 2, none⟩ (.int .i64 p)).setCell ⟨D, 3, none⟩ (.string q)).setCell ⟨D, 4, none⟩ (.int .i64 e)).setCell ⟨D, 5, none⟩ (.int .i64 f)) [D] :=
 (((((Rep.Only.setCell w (p := ⟨D, 0, none⟩) (by simp) _).trans (Rep.Only.setCell _ (p := ⟨D, 1, none⟩) (by simp) _)).trans (Rep.Only.setCell _ (p := ⟨D, 2, none⟩) (by simp) _)).trans (Rep.Only.setCell _ (p := ⟨D, 3, none⟩) (by simp) _)).trans (Rep.Only.setCell _ (p := ⟨D, 4, none⟩) (by simp) _)).trans (Rep.Only.setCell _ (p := ⟨D, 5, none⟩) (by simp) _)
theorem setK6_box {W : World} {R : Nat} {k0 : Known} (h : W.heap[R]? = some (.cells (knownC k0).toArray 35 (0, 0))) (a : Int) (b : ByteArray) (p : Int) (q : ByteArray) (e f : Int) : ((((((W.setCell ⟨R, 0, none⟩ (.int .i64 a)).setCell ⟨R, 1, none⟩ (.string b)).setCell ⟨R, 2, none⟩ (.int .i64 p)).setCell ⟨R, 3, none⟩ (.string q)).setCell ⟨R, 4, none⟩ (.int .i64 e)).setCell ⟨R, 5, none⟩ (.int .i64 f)).heap[R]? = some (.cells (knownC ⟨a, b, p, q, e, f⟩).toArray 35 (0, 0)) := by
 obtain ⟨a0, b0, p0, q0, e0, f0⟩ := k0
 exact var_set (var_set (var_set (var_set (var_set (var_set h 0 (.int .i64 a)) 1 (.string b)) 2 (.int .i64 p)) 3 (.string q)) 4 (.int .i64 e)) 5 (.int .i64 f)
theorem setR4_box {W : World} {R : Nat} {r0 : Rec} (h : W.heap[R]? = some (.cells (recC r0).toArray 29 (0, 0))) (a b c : Int) (d : ByteArray) : ((((W.setCell ⟨R, 0, none⟩ (.int .i64 a)).setCell ⟨R, 1, none⟩ (.int .i64 b)).setCell ⟨R, 2, none⟩ (.int .i64 c)).setCell ⟨R, 3, none⟩ (.string d)).heap[R]? = some (.cells (recC ⟨a, b, c, d⟩).toArray 29 (0, 0)) := by
 obtain ⟨a0, b0, c0, d0⟩ := r0
 exact var_set (var_set (var_set (var_set h 0 (.int .i64 a)) 1 (.int .i64 b)) 2 (.int .i64 c)) 3 (.string d)
theorem putR4_only (w : World) (D : Nat) (a b c d : Value) : Rep.Only w ((((w.setCell ⟨D, 0, none⟩ a).setCell ⟨D, 1, none⟩ b).setCell ⟨D, 2, none⟩ c).setCell ⟨D, 3, none⟩ d) [D] :=
 (((Rep.Only.setCell w (p := ⟨D, 0, none⟩) (by simp) a).trans (Rep.Only.setCell _ (p := ⟨D, 1, none⟩) (by simp) b)).trans (Rep.Only.setCell _ (p := ⟨D, 2, none⟩) (by simp) c)).trans (Rep.Only.setCell _ (p := ⟨D, 3, none⟩) (by simp) d)
end Go.Proofs.YtoaaogacaibedaaGreatDoor
namespace Go.Proofs.YtoaaogacaibedaaGreatDoor
open Go.RowKit
set_option maxRecDepth 2000000
set_option linter.unusedVariables false
structure PB (w : World) (cs : List Value) (k : Known) (W : World) : Prop where
 below : Below w.heap.size w W
 dbox : W.heap[w.heap.size]? = some (.cells cs.toArray 27 (0, 0))
 rbox : W.heap[w.heap.size + 1]? = some (.cells (knownC knownZero).toArray 35 (0, 0))
 kbox : W.heap[w.heap.size + 2]? = some (.cells (knownC k).toArray 35 (0, 0))
section
variable {w W W' : World} {cs : List Value} {k : Known}
theorem PB.lt (h : PB w cs k W) : w.heap.size + 2 < W.heap.size := (Array.getElem?_eq_some_iff.1 h.kbox).1
theorem PB.later (h : PB w cs k W) (hb : Below W.heap.size W W') : PB w cs k W' := by
 have hl := h.lt
 exact ⟨Later.trans h.below hb, (hb.block _ (by omega)).trans h.dbox, (hb.block _ (by omega)).trans h.rbox, (hb.block _ hl).trans h.kbox⟩
instance PB.keeps (w : World) (cs : List Value) (k : Known) : Keeps (fun W => PB w cs k W) := ⟨fun h x => x.later h⟩
theorem PB.beside {E : Nat} (h : PB w cs k W) (ho : Rep.Only W W' [E]) (hE : w.heap.size + 2 < E) : PB w cs k W' := by
 have hl := h.lt
 exact ⟨Rep.Only.below h.below ho h.below.size (fun a ha => by simp at ha; omega), (ho.block _ (by omega) (by simp; omega)).trans h.dbox, (ho.block _ (by omega) (by simp; omega)).trans h.rbox, (ho.block _ hl (by simp; omega)).trans h.kbox⟩
theorem PB.putK (h : PB w cs k W) (a : Int) (b : ByteArray) (p : Int) (q : ByteArray) (e f : Int) : PB w cs ⟨a, b, p, q, e, f⟩ ((((((W.setCell ⟨w.heap.size + 2, 0, none⟩ (.int .i64 a)).setCell ⟨w.heap.size + 2, 1, none⟩ (.string b)).setCell ⟨w.heap.size + 2, 2, none⟩ (.int .i64 p)).setCell ⟨w.heap.size + 2, 3, none⟩ (.string q)).setCell ⟨w.heap.size + 2, 4, none⟩ (.int .i64 e)).setCell ⟨w.heap.size + 2, 5, none⟩ (.int .i64 f)) := by
 have ho := putK6_only W (w.heap.size + 2) a b p q e f
 have hl := h.lt
 exact ⟨Rep.Only.below h.below ho h.below.size (fun a ha => by simp at ha; omega), (ho.block _ (by omega) (by simp)).trans h.dbox, (ho.block _ (by omega) (by simp)).trans h.rbox, setK6_box h.kbox a b p q e f⟩
end
def RetRep (w : World) (p : Known × Nat) (e : Ending) (w' : World) : Prop := e = .returned (.tuple #[.agg (knownC p.1).toArray, .int .i64 p.2]) ∧ Below w.heap.size w w'
theorem PB.ret {w W : World} {cs : List Value} {k0 : Known} (h : PB w cs k0 W) (a : Int) (b : ByteArray) (p : Int) (q : ByteArray) (e f : Int) : Below w.heap.size w ((((((W.setCell ⟨w.heap.size + 1, 0, none⟩ (.int .i64 a)).setCell ⟨w.heap.size + 1, 1, none⟩ (.string b)).setCell ⟨w.heap.size + 1, 2, none⟩ (.int .i64 p)).setCell ⟨w.heap.size + 1, 3, none⟩ (.string q)).setCell ⟨w.heap.size + 1, 4, none⟩ (.int .i64 e)).setCell ⟨w.heap.size + 1, 5, none⟩ (.int .i64 f)) :=
 Rep.Only.below h.below (putK6_only W (w.heap.size + 1) a b p q e f) h.below.size (fun a ha => by simp at ha; omega)
theorem RetRep.lit {w w' : World} {a : Int} {b : ByteArray} {p : Int} {q : ByteArray} {e f : Int} {m : Nat} {en : Ending} (h : RetRep w (⟨a, b, p, q, e, f⟩, m) en w') : en = .returned (.tuple #[.agg #[.int .i64 a, .string b, .int .i64 p, .string q, .int .i64 e, .int .i64 f], .int .i64 m]) ∧ Below w.heap.size w w' := h
theorem RetGet.four {w w' : World} {a b k n o : Int} {t : ByteArray} {y : Bool} {e : Ending} (h : RetGet w ((a, b, ⟨k, n, o, t⟩), y) e w') : e = .returned (.tuple #[.int .i64 a, .int .i64 b, .agg #[.int .i64 k, .int .i64 n, .int .i64 o, .string t], .bool y]) ∧ Below w.heap.size w w' := h
theorem RetKB.lit6 {w w' : World} {a : Int} {b : ByteArray} {p : Int} {q : ByteArray} {e f : Int} {y : Bool} {en : Ending} (h : RetKB w (⟨a, b, p, q, e, f⟩, y) en w') : en = .returned (.tuple #[.agg #[.int .i64 a, .string b, .int .i64 p, .string q, .int .i64 e, .int .i64 f], .bool y]) ∧ Below w.heap.size w w' := h
theorem disk4 {w : World} {g : Nat} {a b c d : Value} (h : w.heap[g]? = some (.cells [a, b, c, d].toArray 27 (0, 0))) : w.cell? ⟨g, 0, none⟩ = some a ∧ w.cell? ⟨g, 1, none⟩ = some b ∧ w.cell? ⟨g, 2, none⟩ = some c ∧ w.cell? ⟨g, 3, none⟩ = some d := ⟨var_cell h 0, var_cell h 1, var_cell h 2, var_cell h 3⟩
set_option maxRecDepth 100000 in
set_option maxHeartbeats 8000000 in
theorem replayS_any (cs : List Value) (d : Disk) (g : Int) (w : World) (h : diskR.at_ w w.heap.size cs d) (hf : Fits d) (hg : Given w) :
  Calls Tryz.prog 21 #[.agg cs.toArray, .int .i64 g] w (RetRep w (replayP d g)) := by
 obtain ⟨A, c, B, e, rfl⟩ := disk_at_shape h
 have HD := Lib.hid h
 have HG := Lib.hid hg
 have P0 : PB w [.slice A d.secs.length c, .slice B d.cache.length e, .int .i64 d.fuse, .bool d.down] knownZero (((w.alloc (.cells #[.slice A d.secs.length c, .slice B d.cache.length e, .int .i64 d.fuse, .bool d.down] 27)).alloc (.cells #[.int .i64 0, .string ⟨#[]⟩, .int .i64 0, .string ⟨#[]⟩, .int .i64 0, .int .i64 0] 35)).alloc (.cells #[.int .i64 0, .string ⟨#[]⟩, .int .i64 0, .string ⟨#[]⟩, .int .i64 0, .int .i64 0] 35)) :=
  ⟨Later.trans (Later.trans (Later.alloc w _) (Later.alloc _ _)) (Later.alloc _ _), (Below.heap_alloc _ _ _ (by simp; omega)).trans ((Below.heap_alloc _ _ _ (by simp)).trans (heap_alloc_new w _)), (Below.heap_alloc _ _ _ (by simp)).trans (heap_alloc_new' _ _ (by simp)), heap_alloc_new' _ _ (by simp)⟩
 clear h hg
 show Calls Tryz.prog 21 #[.agg #[.slice A d.secs.length c, .slice B d.cache.length e, .int .i64 d.fuse, .bool d.down], .int .i64 g] w _
 obtain ⟨⟨⟨Ka, Kb, Kp, Kq, Ke, Kf⟩, M⟩, hp⟩ : ∃ p, replayP d g = p := ⟨_, rfl⟩
 rw [hp]
 have HP := Lib.hid hp
 clear hp
 obtain ⟨b1, h1⟩ : ∃ b, inI g 1 60000 = b := ⟨_, rfl⟩
 unfold RetRep
 go_enter Tryz.func21, Tryz.ntmps21
 go_upto_region 2 with (fail)
 generalize ((w.alloc (.cells #[.slice A d.secs.length c, .slice B d.cache.length e, .int .i64 d.fuse, .bool d.down] 27)).alloc (.cells #[.int .i64 0, .string ⟨#[]⟩, .int .i64 0, .string ⟨#[]⟩, .int .i64 0, .int .i64 0] 35)).alloc (.cells #[.int .i64 0, .string ⟨#[]⟩, .int .i64 0, .string ⟨#[]⟩, .int .i64 0, .int .i64 0] 35) = W0 at P0 ⊢
 cases b1
 ·have hq : replayP d g = (knownZero, 0) := by unfold replayP; rw [h1]; rfl
  rw [HP.out] at hq
  injection hq with hq1 hq2
  injection hq1 with e1 e2 e3 e4 e5 e6
  subst e1 e2 e3 e4 e5 e6 hq2
  obtain ⟨z0, z1, z2, z3, z4, z5⟩ := known_box P0.rbox
  obtain ⟨k0, k1, k2, k3, k4, k5⟩ := known_box P0.kbox
  have zf0 := var_frozen P0.rbox 0
  have zf1 := var_frozen P0.rbox 1
  have zf2 := var_frozen P0.rbox 2
  have zf3 := var_frozen P0.rbox 3
  have zf4 := var_frozen P0.rbox 4
  have zf5 := var_frozen P0.rbox 5
  have hl := P0.lt
  have hret := P0.ret 0 ⟨#[]⟩ 0 ⟨#[]⟩ 0 0
  clear P0
  go_wp2_with (go_at_call 67; refine (l1In_b (by assumption) _).mono ?_; rintro e w' ⟨rfl, rfl⟩)
  exact bodyPost_ret (v := .tuple #[.agg #[.int .i64 0, .string ⟨#[]⟩, .int .i64 0, .string ⟨#[]⟩, .int .i64 0, .int .i64 0], .int .i64 0]) (by simp [results, Tryz.results21, go_sem, z0, z1, z2, z3, z4, z5, knownZero]) rfl ⟨rfl, hret⟩
 ·have hq : replayFrom d g 18 0 knownZero = (⟨Ka, Kb, Kp, Kq, Ke, Kf⟩, M) := by have h9 := HP.out; unfold replayP at h9; rw [h1] at h9; exact h9
  have hgg : 1 ≤ g ∧ g ≤ 60000 := of_decide_eq_true h1
  have HQ := Lib.hid hq
  clear hq
  go_wp2_with (go_at_call 67; refine (l1In_b (by assumption) _).mono ?_; rintro e w' ⟨rfl, rfl⟩)
  clear h1 HP
  go_loopw [7] (fun i wr => ∃ (j : Nat) (k : Known), j ≤ 18 ∧ i = .int .i64 j ∧ Hid (replayFrom d g (18 - j) j k = (⟨Ka, Kb, Kp, Kq, Ke, Kf⟩, M)) ∧ PB w [.slice A d.secs.length c, .slice B d.cache.length e, .int .i64 d.fuse, .bool d.down] k wr) (fun i _ => 18 - (intOf i).toNat)
  case atStart => exact ⟨0, knownZero, by omega, rfl, HQ, P0⟩
  case round =>
   clear P0 HQ
   obtain ⟨j, ⟨ka, kb, kp, kq, ke, kf⟩, hj, rfl, hrep, P⟩ := hrel
   by_cases hlt : j < 18
   ·obtain ⟨⟨⟨ga, gp, ⟨rk, rn, ro, rt⟩⟩, ok⟩, hget⟩ : ∃ p, getP (readSec d (atP g j)) = p := ⟨_, rfl⟩
    have HGET := Lib.hid hget
    clear hget
    go_upto_region 7 with (fail)
    go_cut [8, 9, 10, 11] from 19 to 58 (fun v8 v9 v10 v11 W' => ∃ E, v8 = .int .i64 ga ∧ v9 = .int .i64 gp ∧ v10 = .pointer (some ⟨E, 0, none⟩) ∧ v11 = .bool ok ∧ PB w [.slice A d.secs.length c, .slice B d.cache.length e, .int .i64 d.fuse, .bool d.down] ⟨ka, kb, kp, kq, ke, kf⟩ W' ∧ Hid (W'.heap[E]? = some (.cells (recC ⟨rk, rn, ro, rt⟩).toArray 29 (0, 0))) ∧ w.heap.size + 2 < E)
    case first =>
     rename_i J K1 hJ hK
     have S : All (fun w' => PB w [.slice A d.secs.length c, .slice B d.cache.length e, .int .i64 d.fuse, .bool d.down] ⟨ka, kb, kp, kq, ke, kf⟩ w') wr := ⟨P⟩
     clear P
     refine wp_region_open 15 (fun w' => w'.heap[w.heap.size]? = some (.cells [.slice A d.secs.length c, .slice B d.cache.length e, .int .i64 d.fuse, .bool d.down].toArray 27 (0, 0))) (by kernel_rfl) ?_
     replace S := S.drew
     refine wpAnyL_reads [0, 1, 2] (fuel := 13) (by kernel_rfl) S.out.dbox ?_
     iterate 3 (refine LexR.cons rfl ?_ (fun w' hw => ?_) ?_; rotate_left; focus (obtain ⟨d0, d1, d2, d3⟩ := disk4 hw; clear hw; go_simp; (try exact rfl)); (try go_frame))
     refine LexR.nil ?_
     generalize wr.drew = V0 at S ⊢
     refine wpAnyL_two (i := 3) (j := 11) (by kernel_rfl) ?_ ?_
     ·skip
      refine lexA_get rfl ?_
      try go_frame
      go_wp2_with fail
      refine (l5At_any g (j : Int) V0 (by omega) (by omega)).mono ?_
      rintro e V1 ⟨rfl, rfl⟩
      go_wp2_with fail
      refine ⟨by first | exact S.out.dbox | exact fun _ => S.out.dbox, ?_⟩
      refine wpAnyL_two (i := 4) (j := 11) (by kernel_rfl) ?_ ?_
      ·skip
       refine lexA_get rfl ?_
       try go_frame
       go_wp2_with fail
       refine (readSecS_rep [.slice A d.secs.length c, .slice B d.cache.length e, .int .i64 d.fuse, .bool d.down] d (atP g (j : Int)) V0 (Keeps.keeps (F := fun w' => diskR.at_ w' w'.heap.size [.slice A d.secs.length c, .slice B d.cache.length e, .int .i64 d.fuse, .bool d.down] d) S.out.below HD.out) hf (atP_wf hgg.1 hgg.2 (by omega) (by omega))).mono ?_
       rintro e V2 ⟨A4, c4, fp4, rfl, O4, hb⟩
       replace S := S.later hb
       obtain ⟨A5, c5, he5, hk4, r4⟩ := Rep.reads byR O4
       injection he5 with he5 _
       injection he5 with he5 _ he6
       subst he5 he6
       clear hb O4
       go_wp2_with fail
       refine ⟨by first | exact S.out.dbox | exact fun _ => S.out.dbox, ?_⟩
       refine wpAnyL_two (i := 5) (j := 11) (by kernel_rfl) ?_ ?_
       ·skip
        refine lexA_get rfl ?_
        try go_frame
        go_wp2_with fail
        refine (getRS_any A4 c4 (readSec d (atP g (j : Int))) V2 r4 (fits_readSec hf _) hk4.1 (Keeps.keeps (F := Given) S.out.below HG.out)).mono ?_
        rw [HGET.out]
        rintro e V3 hret
        obtain ⟨rfl, hb⟩ := hret.four
        replace S := S.later hb
        clear hret hb r4
        go_wp2_with fail
        refine ⟨by first | exact S.out.dbox | exact fun _ => S.out.dbox, ?_⟩
        refine wpAnyL_reads [6, 7, 8, 9, 10] (fuel := 5) (by kernel_rfl) S.out.dbox ?_
        iterate 5 (refine LexR.cons rfl ?_ (fun w' hw => ?_) ?_; rotate_left; focus (clear hw; go_simp; (try exact rfl)); (try go_frame))
        refine LexR.nil (wpAnyL_writes [11, 12, 13, 14, 15] (by kernel_rfl) (LexW.cons rfl ?_))
        try go_frame
        go_wp2_with fail
        have hE : (V3.alloc (.cells #[.int .i64 0, .int .i64 0, .int .i64 0, .string ⟨#[]⟩] 29)).heap[V3.heap.size]? = some (.cells (recC zeroRec).toArray 29 (0, 0)) := heap_alloc_new V3 _
        have hDE : w.heap.size + 2 < V3.heap.size := S.out.lt
        replace S := S.alloc (.cells #[.int .i64 0, .int .i64 0, .int .i64 0, .string ⟨#[]⟩] 29)
        generalize V3.alloc (.cells #[.int .i64 0, .int .i64 0, .int .i64 0, .string ⟨#[]⟩] 29) = V4 at S hE ⊢
        generalize V3.heap.size = E at hE hDE ⊢
        refine ⟨by first | exact S.out.dbox | exact fun _ => S.out.dbox, LexW.cons rfl ?_⟩
        try go_frame
        go_wp2_with fail
        refine ⟨by first | exact S.out.dbox | exact fun _ => S.out.dbox, LexW.cons rfl ?_⟩
        try go_frame
        go_wp2_with fail
        refine ⟨by first | exact S.out.dbox | exact fun _ => S.out.dbox, LexW.cons rfl ?_⟩
        try go_frame
        obtain ⟨y0, y1, y2, y3⟩ := rec_box (r := zeroRec) hE
        have yf0 := var_frozen hE 0
        have yf1 := var_frozen hE 1
        have yf2 := var_frozen hE 2
        have yf3 := var_frozen hE 3
        have hyl := (Array.getElem?_eq_some_iff.1 hE).1
        have HE2 := Lib.hid (setR4_box (r0 := zeroRec) hE rk rn ro rt)
        have P2 := S.out.beside (putR4_only V4 E (.int .i64 rk) (.int .i64 rn) (.int .i64 ro) (.string rt)) hDE
        clear hE S
        go_wp2_with fail
        generalize ((((V4.setCell ⟨E, 0, none⟩ (.int .i64 rk)).setCell ⟨E, 1, none⟩ (.int .i64 rn)).setCell ⟨E, 2, none⟩ (.int .i64 ro)).setCell ⟨E, 3, none⟩ (.string rt)) = VZ at HE2 P2 ⊢
        clear y0 y1 y2 y3 yf0 yf1 yf2 yf3 hyl
        refine ⟨by first | exact P2.dbox | exact fun _ => P2.dbox, LexW.cons rfl ?_⟩
        try go_frame
        go_wp2_with fail
        refine ⟨fun h => absurd rfl h, LexW.nil (hK _ _ (Met.intro (hJ _ _ ?_)))⟩
        (repeat apply Exists.intro)
        refine ⟨?_, rfl⟩
        exact ⟨E, rfl, rfl, rfl, rfl, P2, HE2, hDE⟩
       ·skip
        refine lexA_get rfl ?_
        try go_frame
        go_wp2_with fail
        have hE : (V2.alloc (.cells #[.int .i64 0, .int .i64 0, .int .i64 0, .string ⟨#[]⟩] 29)).heap[V2.heap.size]? = some (.cells (recC zeroRec).toArray 29 (0, 0)) := heap_alloc_new V2 _
        have hDE : w.heap.size + 2 < V2.heap.size := S.out.lt
        replace r4 := (r4.below (Later.alloc V2 (.cells #[.int .i64 0, .int .i64 0, .int .i64 0, .string ⟨#[]⟩] 29))).more (Later.alloc V2 (.cells #[.int .i64 0, .int .i64 0, .int .i64 0, .string ⟨#[]⟩] 29)).size
        replace S := S.alloc (.cells #[.int .i64 0, .int .i64 0, .int .i64 0, .string ⟨#[]⟩] 29)
        generalize V2.alloc (.cells #[.int .i64 0, .int .i64 0, .int .i64 0, .string ⟨#[]⟩] 29) = V3 at S hE r4 ⊢
        generalize V2.heap.size = E at hE hDE ⊢
        refine ⟨by first | exact S.out.dbox | exact fun _ => S.out.dbox, ?_⟩
        refine wpAnyL_one (i := 5) (by kernel_rfl) ?_
        refine lexA_get rfl ?_
        try go_frame
        go_wp2_with fail
        refine (getRS_any A4 c4 (readSec d (atP g (j : Int))) V3 r4 (fits_readSec hf _) hk4.1 (Keeps.keeps (F := Given) S.out.below HG.out)).mono ?_
        rw [HGET.out]
        rintro e V4 hret
        obtain ⟨rfl, hb⟩ := hret.four
        replace S := S.later hb
        replace hE := (hb.block _ (Array.getElem?_eq_some_iff.1 hE).1).trans hE
        clear hret hb r4
        go_wp2_with fail
        refine ⟨by first | exact S.out.dbox | exact fun _ => S.out.dbox, ?_⟩
        refine wpAnyL_reads [6, 7, 8, 9, 10] (fuel := 4) (by kernel_rfl) S.out.dbox ?_
        iterate 5 (refine LexR.cons rfl ?_ (fun w' hw => ?_) ?_; rotate_left; focus (clear hw; go_simp; (try exact rfl)); (try go_frame))
        refine LexR.nil (wpAnyL_writes [12, 13, 14, 15] (by kernel_rfl) (LexW.cons rfl ?_))
        try go_frame
        go_wp2_with fail
        refine ⟨by first | exact S.out.dbox | exact fun _ => S.out.dbox, LexW.cons rfl ?_⟩
        try go_frame
        go_wp2_with fail
        refine ⟨by first | exact S.out.dbox | exact fun _ => S.out.dbox, LexW.cons rfl ?_⟩
        try go_frame
        obtain ⟨y0, y1, y2, y3⟩ := rec_box (r := zeroRec) hE
        have yf0 := var_frozen hE 0
        have yf1 := var_frozen hE 1
        have yf2 := var_frozen hE 2
        have yf3 := var_frozen hE 3
        have hyl := (Array.getElem?_eq_some_iff.1 hE).1
        have HE2 := Lib.hid (setR4_box (r0 := zeroRec) hE rk rn ro rt)
        have P2 := S.out.beside (putR4_only V4 E (.int .i64 rk) (.int .i64 rn) (.int .i64 ro) (.string rt)) hDE
        clear hE S
        go_wp2_with fail
        generalize ((((V4.setCell ⟨E, 0, none⟩ (.int .i64 rk)).setCell ⟨E, 1, none⟩ (.int .i64 rn)).setCell ⟨E, 2, none⟩ (.int .i64 ro)).setCell ⟨E, 3, none⟩ (.string rt)) = VZ at HE2 P2 ⊢
        clear y0 y1 y2 y3 yf0 yf1 yf2 yf3 hyl
        refine ⟨by first | exact P2.dbox | exact fun _ => P2.dbox, LexW.cons rfl ?_⟩
        try go_frame
        go_wp2_with fail
        refine ⟨fun h => absurd rfl h, LexW.nil (hK _ _ (Met.intro (hJ _ _ ?_)))⟩
        (repeat apply Exists.intro)
        refine ⟨?_, rfl⟩
        exact ⟨E, rfl, rfl, rfl, rfl, P2, HE2, hDE⟩
      ·skip
       refine lexA_get rfl ?_
       try go_frame
       go_wp2_with fail
       have hE : (V0.alloc (.cells #[.int .i64 0, .int .i64 0, .int .i64 0, .string ⟨#[]⟩] 29)).heap[V0.heap.size]? = some (.cells (recC zeroRec).toArray 29 (0, 0)) := heap_alloc_new V0 _
       have hDE : w.heap.size + 2 < V0.heap.size := S.out.lt
       replace S := S.alloc (.cells #[.int .i64 0, .int .i64 0, .int .i64 0, .string ⟨#[]⟩] 29)
       generalize V0.alloc (.cells #[.int .i64 0, .int .i64 0, .int .i64 0, .string ⟨#[]⟩] 29) = V2 at S hE ⊢
       generalize V0.heap.size = E at hE hDE ⊢
       refine ⟨by first | exact S.out.dbox | exact fun _ => S.out.dbox, ?_⟩
       refine wpAnyL_one (i := 4) (by kernel_rfl) ?_
       refine lexA_get rfl ?_
       try go_frame
       go_wp2_with fail
       refine (readSecS_rep [.slice A d.secs.length c, .slice B d.cache.length e, .int .i64 d.fuse, .bool d.down] d (atP g (j : Int)) V2 (Keeps.keeps (F := fun w' => diskR.at_ w' w'.heap.size [.slice A d.secs.length c, .slice B d.cache.length e, .int .i64 d.fuse, .bool d.down] d) S.out.below HD.out) hf (atP_wf hgg.1 hgg.2 (by omega) (by omega))).mono ?_
       rintro e V3 ⟨A4, c4, fp4, rfl, O4, hb⟩
       replace S := S.later hb
       replace hE := (hb.block _ (Array.getElem?_eq_some_iff.1 hE).1).trans hE
       obtain ⟨A5, c5, he5, hk4, r4⟩ := Rep.reads byR O4
       injection he5 with he5 _
       injection he5 with he5 _ he6
       subst he5 he6
       clear hb O4
       go_wp2_with fail
       refine ⟨by first | exact S.out.dbox | exact fun _ => S.out.dbox, ?_⟩
       refine wpAnyL_one (i := 5) (by kernel_rfl) ?_
       refine lexA_get rfl ?_
       try go_frame
       go_wp2_with fail
       refine (getRS_any A4 c4 (readSec d (atP g (j : Int))) V3 r4 (fits_readSec hf _) hk4.1 (Keeps.keeps (F := Given) S.out.below HG.out)).mono ?_
       rw [HGET.out]
       rintro e V4 hret
       obtain ⟨rfl, hb⟩ := hret.four
       replace S := S.later hb
       replace hE := (hb.block _ (Array.getElem?_eq_some_iff.1 hE).1).trans hE
       clear hret hb r4
       go_wp2_with fail
       refine ⟨by first | exact S.out.dbox | exact fun _ => S.out.dbox, ?_⟩
       refine wpAnyL_reads [6, 7, 8, 9, 10] (fuel := 4) (by kernel_rfl) S.out.dbox ?_
       iterate 5 (refine LexR.cons rfl ?_ (fun w' hw => ?_) ?_; rotate_left; focus (clear hw; go_simp; (try exact rfl)); (try go_frame))
       refine LexR.nil (wpAnyL_writes [12, 13, 14, 15] (by kernel_rfl) (LexW.cons rfl ?_))
       try go_frame
       go_wp2_with fail
       refine ⟨by first | exact S.out.dbox | exact fun _ => S.out.dbox, LexW.cons rfl ?_⟩
       try go_frame
       go_wp2_with fail
       refine ⟨by first | exact S.out.dbox | exact fun _ => S.out.dbox, LexW.cons rfl ?_⟩
       try go_frame
       obtain ⟨y0, y1, y2, y3⟩ := rec_box (r := zeroRec) hE
       have yf0 := var_frozen hE 0
       have yf1 := var_frozen hE 1
       have yf2 := var_frozen hE 2
       have yf3 := var_frozen hE 3
       have hyl := (Array.getElem?_eq_some_iff.1 hE).1
       have HE2 := Lib.hid (setR4_box (r0 := zeroRec) hE rk rn ro rt)
       have P2 := S.out.beside (putR4_only V4 E (.int .i64 rk) (.int .i64 rn) (.int .i64 ro) (.string rt)) hDE
       clear hE S
       go_wp2_with fail
       generalize ((((V4.setCell ⟨E, 0, none⟩ (.int .i64 rk)).setCell ⟨E, 1, none⟩ (.int .i64 rn)).setCell ⟨E, 2, none⟩ (.int .i64 ro)).setCell ⟨E, 3, none⟩ (.string rt)) = VZ at HE2 P2 ⊢
       clear y0 y1 y2 y3 yf0 yf1 yf2 yf3 hyl
       refine ⟨by first | exact P2.dbox | exact fun _ => P2.dbox, LexW.cons rfl ?_⟩
       try go_frame
       go_wp2_with fail
       refine ⟨fun h => absurd rfl h, LexW.nil (hK _ _ (Met.intro (hJ _ _ ?_)))⟩
       (repeat apply Exists.intro)
       refine ⟨?_, rfl⟩
       exact ⟨E, rfl, rfl, rfl, rfl, P2, HE2, hDE⟩
     ·skip
      refine lexA_get rfl ?_
      try go_frame
      go_wp2_with fail
      have hE : (V0.alloc (.cells #[.int .i64 0, .int .i64 0, .int .i64 0, .string ⟨#[]⟩] 29)).heap[V0.heap.size]? = some (.cells (recC zeroRec).toArray 29 (0, 0)) := heap_alloc_new V0 _
      have hDE : w.heap.size + 2 < V0.heap.size := S.out.lt
      replace S := S.alloc (.cells #[.int .i64 0, .int .i64 0, .int .i64 0, .string ⟨#[]⟩] 29)
      generalize V0.alloc (.cells #[.int .i64 0, .int .i64 0, .int .i64 0, .string ⟨#[]⟩] 29) = V1 at S hE ⊢
      generalize V0.heap.size = E at hE hDE ⊢
      refine ⟨by first | exact S.out.dbox | exact fun _ => S.out.dbox, ?_⟩
      refine wpAnyL_one (i := 3) (by kernel_rfl) ?_
      refine lexA_get rfl ?_
      try go_frame
      go_wp2_with fail
      refine (l5At_any g (j : Int) V1 (by omega) (by omega)).mono ?_
      rintro e V2 ⟨rfl, rfl⟩
      go_wp2_with fail
      refine ⟨by first | exact S.out.dbox | exact fun _ => S.out.dbox, ?_⟩
      refine wpAnyL_one (i := 4) (by kernel_rfl) ?_
      refine lexA_get rfl ?_
      try go_frame
      go_wp2_with fail
      refine (readSecS_rep [.slice A d.secs.length c, .slice B d.cache.length e, .int .i64 d.fuse, .bool d.down] d (atP g (j : Int)) V1 (Keeps.keeps (F := fun w' => diskR.at_ w' w'.heap.size [.slice A d.secs.length c, .slice B d.cache.length e, .int .i64 d.fuse, .bool d.down] d) S.out.below HD.out) hf (atP_wf hgg.1 hgg.2 (by omega) (by omega))).mono ?_
      rintro e V3 ⟨A4, c4, fp4, rfl, O4, hb⟩
      replace S := S.later hb
      replace hE := (hb.block _ (Array.getElem?_eq_some_iff.1 hE).1).trans hE
      obtain ⟨A5, c5, he5, hk4, r4⟩ := Rep.reads byR O4
      injection he5 with he5 _
      injection he5 with he5 _ he6
      subst he5 he6
      clear hb O4
      go_wp2_with fail
      refine ⟨by first | exact S.out.dbox | exact fun _ => S.out.dbox, ?_⟩
      refine wpAnyL_one (i := 5) (by kernel_rfl) ?_
      refine lexA_get rfl ?_
      try go_frame
      go_wp2_with fail
      refine (getRS_any A4 c4 (readSec d (atP g (j : Int))) V3 r4 (fits_readSec hf _) hk4.1 (Keeps.keeps (F := Given) S.out.below HG.out)).mono ?_
      rw [HGET.out]
      rintro e V4 hret
      obtain ⟨rfl, hb⟩ := hret.four
      replace S := S.later hb
      replace hE := (hb.block _ (Array.getElem?_eq_some_iff.1 hE).1).trans hE
      clear hret hb r4
      go_wp2_with fail
      refine ⟨by first | exact S.out.dbox | exact fun _ => S.out.dbox, ?_⟩
      refine wpAnyL_reads [6, 7, 8, 9, 10] (fuel := 4) (by kernel_rfl) S.out.dbox ?_
      iterate 5 (refine LexR.cons rfl ?_ (fun w' hw => ?_) ?_; rotate_left; focus (clear hw; go_simp; (try exact rfl)); (try go_frame))
      refine LexR.nil (wpAnyL_writes [12, 13, 14, 15] (by kernel_rfl) (LexW.cons rfl ?_))
      try go_frame
      go_wp2_with fail
      refine ⟨by first | exact S.out.dbox | exact fun _ => S.out.dbox, LexW.cons rfl ?_⟩
      try go_frame
      go_wp2_with fail
      refine ⟨by first | exact S.out.dbox | exact fun _ => S.out.dbox, LexW.cons rfl ?_⟩
      try go_frame
      obtain ⟨y0, y1, y2, y3⟩ := rec_box (r := zeroRec) hE
      have yf0 := var_frozen hE 0
      have yf1 := var_frozen hE 1
      have yf2 := var_frozen hE 2
      have yf3 := var_frozen hE 3
      have hyl := (Array.getElem?_eq_some_iff.1 hE).1
      have HE2 := Lib.hid (setR4_box (r0 := zeroRec) hE rk rn ro rt)
      have P2 := S.out.beside (putR4_only V4 E (.int .i64 rk) (.int .i64 rn) (.int .i64 ro) (.string rt)) hDE
      clear hE S
      go_wp2_with fail
      generalize ((((V4.setCell ⟨E, 0, none⟩ (.int .i64 rk)).setCell ⟨E, 1, none⟩ (.int .i64 rn)).setCell ⟨E, 2, none⟩ (.int .i64 ro)).setCell ⟨E, 3, none⟩ (.string rt)) = VZ at HE2 P2 ⊢
      clear y0 y1 y2 y3 yf0 yf1 yf2 yf3 hyl
      refine ⟨by first | exact P2.dbox | exact fun _ => P2.dbox, LexW.cons rfl ?_⟩
      try go_frame
      go_wp2_with fail
      refine ⟨fun h => absurd rfl h, LexW.nil (hK _ _ (Met.intro (hJ _ _ ?_)))⟩
      (repeat apply Exists.intro)
      refine ⟨?_, rfl⟩
      exact ⟨E, rfl, rfl, rfl, rfl, P2, HE2, hDE⟩
    case rest =>
     clear P
     obtain ⟨E, rfl, rfl, rfl, rfl, P, hE, hDE⟩ := hcut
     obtain ⟨m, hm⟩ : ∃ m, 18 - j = m + 1 := ⟨17 - j, by omega⟩
     have hrep2 := hrep.out
     rw [hm] at hrep2
     have HREP := Lib.hid hrep2
     have HM := Lib.hid hm
     clear hrep2 hrep hm
     cases ok
     ·skip
      have hq := HREP.out
      rw [(replay_no (n := m) (k := ⟨ka, kb, kp, kq, ke, kf⟩) (show stepB d g j = false by unfold stepB; rw [HGET.out]; rfl))] at hq
      injection hq with hq1 hq2
      injection hq1 with e1 e2 e3 e4 e5 e6
      subst e1 e2 e3 e4 e5 e6 hq2
      obtain ⟨z0, z1, z2, z3, z4, z5⟩ := known_box P.rbox
      obtain ⟨k0, k1, k2, k3, k4, k5⟩ := known_box P.kbox
      have zf0 := var_frozen P.rbox 0
      have zf1 := var_frozen P.rbox 1
      have zf2 := var_frozen P.rbox 2
      have zf3 := var_frozen P.rbox 3
      have zf4 := var_frozen P.rbox 4
      have zf5 := var_frozen P.rbox 5
      have hl := P.lt
      have hret := P.ret ka kb kp kq ke kf
      clear P
      go_wp2_with fail
      exact bodyPost_ret (v := .tuple #[.agg #[.int .i64 ka, .string kb, .int .i64 kp, .string kq, .int .i64 ke, .int .i64 kf], .int .i64 j]) (by simp [results, Tryz.results21, go_sem, z0, z1, z2, z3, z4, z5, knownZero]) rfl ⟨rfl, hret⟩
     ·by_cases hga : ga = g
      ·by_cases hgp : gp = (j : Int)
       ·have HS : stepB d g j = true := by unfold stepB; rw [HGET.out]; simp [hga, hgp]
        have HR : stepRec d g j = ⟨rk, rn, ro, rt⟩ := by unfold stepRec; rw [HGET.out]
        have n1 : (ga != g) = false := by simp [hga]
        have n2 : (gp != (j : Int)) = false := by simp [hgp]
        obtain ⟨⟨⟨na, nb, np, nq, ne, nf⟩, yes⟩, hap⟩ : ∃ p, applyP ⟨ka, kb, kp, kq, ke, kf⟩ ⟨rk, rn, ro, rt⟩ = p := ⟨_, rfl⟩
        have HAP := Lib.hid hap
        have HSS := Lib.hid HS
        have HRR := Lib.hid HR
        clear hga hgp HS HR hap
        obtain ⟨k0, k1, k2, k3, k4, k5⟩ := known_box P.kbox
        obtain ⟨e0, e1, e2, e3⟩ := rec_box (r := ⟨rk, rn, ro, rt⟩) hE.out
        go_wp2_with fail
        refine (applyS_any ⟨ka, kb, kp, kq, ke, kf⟩ ⟨rk, rn, ro, rt⟩ wc).mono ?_
        rw [HAP.out]
        rintro e W9 hret
        obtain ⟨rfl, hb⟩ := hret.lit6
        replace P := P.later hb
        clear hret hb k0 k1 k2 k3 k4 k5 e0 e1 e2 e3 hE n1 n2
        have HN := heap_alloc_new W9 (.cells #[.int .i64 na, .string nb, .int .i64 np, .string nq, .int .i64 ne, .int .i64 nf] 35)
        have hNl : W9.heap.size < (W9.alloc (.cells #[.int .i64 na, .string nb, .int .i64 np, .string nq, .int .i64 ne, .int .i64 nf] 35)).heap.size := by simp
        replace P := P.later (Later.alloc W9 (.cells #[.int .i64 na, .string nb, .int .i64 np, .string nq, .int .i64 ne, .int .i64 nf] 35))
        go_upto_region 11 with (fail)
        generalize W9.alloc (.cells #[.int .i64 na, .string nb, .int .i64 np, .string nq, .int .i64 ne, .int .i64 nf] 35) = WA at HN hNl P ⊢
        generalize W9.heap.size = EN at HN hNl ⊢
        cases yes
        ·skip
         have hq := HREP.out
         rw [(replay_no2 (n := m) (k := ⟨ka, kb, kp, kq, ke, kf⟩) (show (applyP ⟨ka, kb, kp, kq, ke, kf⟩ (stepRec d g j)).2 = false by rw [HRR.out, HAP.out]))] at hq
         injection hq with hq1 hq2
         injection hq1 with e1 e2 e3 e4 e5 e6
         subst e1 e2 e3 e4 e5 e6 hq2
         obtain ⟨z0, z1, z2, z3, z4, z5⟩ := known_box P.rbox
         obtain ⟨k0, k1, k2, k3, k4, k5⟩ := known_box P.kbox
         have zf0 := var_frozen P.rbox 0
         have zf1 := var_frozen P.rbox 1
         have zf2 := var_frozen P.rbox 2
         have zf3 := var_frozen P.rbox 3
         have zf4 := var_frozen P.rbox 4
         have zf5 := var_frozen P.rbox 5
         have hl := P.lt
         have hret := P.ret ka kb kp kq ke kf
         clear P
         go_wp2_with fail
         exact bodyPost_ret (v := .tuple #[.agg #[.int .i64 ka, .string kb, .int .i64 kp, .string kq, .int .i64 ke, .int .i64 kf], .int .i64 j]) (by simp [results, Tryz.results21, go_sem, z0, z1, z2, z3, z4, z5, knownZero]) rfl ⟨rfl, hret⟩
        ·have HREP2 := Lib.hid (show replayFrom d g (18 - (j + 1)) (j + 1) ⟨na, nb, np, nq, ne, nf⟩ = (⟨Ka, Kb, Kp, Kq, Ke, Kf⟩, M) by
          have h9 := HREP.out
          rw [replay_go HSS.out (by rw [HRR.out, HAP.out]), HRR.out, HAP.out] at h9
          rw [show 18 - (j + 1) = m by have := HM.out; omega]
          exact h9)
         obtain ⟨k0, k1, k2, k3, k4, k5⟩ := known_box P.kbox
         obtain ⟨n0, n1, n2, n3, n4, n5⟩ := known_box (r := ⟨na, nb, np, nq, ne, nf⟩) HN
         have kf0 := var_frozen P.kbox 0
         have kf1 := var_frozen P.kbox 1
         have kf2 := var_frozen P.kbox 2
         have kf3 := var_frozen P.kbox 3
         have kf4 := var_frozen P.kbox 4
         have kf5 := var_frozen P.kbox 5
         have hl := P.lt
         have P2 := P.putK na nb np nq ne nf
         clear P HN
         go_wp2_with fail
         go_roundw
         case rel => exact ⟨j + 1, ⟨na, nb, np, nq, ne, nf⟩, by omega, by go_num, HREP2, P2⟩
         case measure => simp [intOf]; omega
       ·have n1 : (ga != g) = false := by simp [hga]
        have n2 : (gp != (j : Int)) = true := by simpa using hgp
        have hq := HREP.out
        rw [(replay_no (n := m) (k := ⟨ka, kb, kp, kq, ke, kf⟩) (show stepB d g j = false by unfold stepB; rw [HGET.out]; simp [hgp]))] at hq
        injection hq with hq1 hq2
        injection hq1 with e1 e2 e3 e4 e5 e6
        subst e1 e2 e3 e4 e5 e6 hq2
        obtain ⟨z0, z1, z2, z3, z4, z5⟩ := known_box P.rbox
        obtain ⟨k0, k1, k2, k3, k4, k5⟩ := known_box P.kbox
        have zf0 := var_frozen P.rbox 0
        have zf1 := var_frozen P.rbox 1
        have zf2 := var_frozen P.rbox 2
        have zf3 := var_frozen P.rbox 3
        have zf4 := var_frozen P.rbox 4
        have zf5 := var_frozen P.rbox 5
        have hl := P.lt
        have hret := P.ret ka kb kp kq ke kf
        clear P
        go_wp2_with fail
        exact bodyPost_ret (v := .tuple #[.agg #[.int .i64 ka, .string kb, .int .i64 kp, .string kq, .int .i64 ke, .int .i64 kf], .int .i64 j]) (by simp [results, Tryz.results21, go_sem, z0, z1, z2, z3, z4, z5, knownZero]) rfl ⟨rfl, hret⟩
      ·have n1 : (ga != g) = true := by simpa using hga
       have hq := HREP.out
       rw [(replay_no (n := m) (k := ⟨ka, kb, kp, kq, ke, kf⟩) (show stepB d g j = false by unfold stepB; rw [HGET.out]; simp [hga]))] at hq
       injection hq with hq1 hq2
       injection hq1 with e1 e2 e3 e4 e5 e6
       subst e1 e2 e3 e4 e5 e6 hq2
       obtain ⟨z0, z1, z2, z3, z4, z5⟩ := known_box P.rbox
       obtain ⟨k0, k1, k2, k3, k4, k5⟩ := known_box P.kbox
       have zf0 := var_frozen P.rbox 0
       have zf1 := var_frozen P.rbox 1
       have zf2 := var_frozen P.rbox 2
       have zf3 := var_frozen P.rbox 3
       have zf4 := var_frozen P.rbox 4
       have zf5 := var_frozen P.rbox 5
       have hl := P.lt
       have hret := P.ret ka kb kp kq ke kf
       clear P
       go_wp2_with fail
       exact bodyPost_ret (v := .tuple #[.agg #[.int .i64 ka, .string kb, .int .i64 kp, .string kq, .int .i64 ke, .int .i64 kf], .int .i64 j]) (by simp [results, Tryz.results21, go_sem, z0, z1, z2, z3, z4, z5, knownZero]) rfl ⟨rfl, hret⟩
   ·have he : j = 18 := by omega
    subst he
    have hq := hrep.out
    rw [(show replayFrom d g 0 18 ⟨ka, kb, kp, kq, ke, kf⟩ = (⟨ka, kb, kp, kq, ke, kf⟩, 18) from rfl)] at hq
    injection hq with hq1 hq2
    injection hq1 with e1 e2 e3 e4 e5 e6
    subst e1 e2 e3 e4 e5 e6 hq2
    obtain ⟨z0, z1, z2, z3, z4, z5⟩ := known_box P.rbox
    obtain ⟨k0, k1, k2, k3, k4, k5⟩ := known_box P.kbox
    have zf0 := var_frozen P.rbox 0
    have zf1 := var_frozen P.rbox 1
    have zf2 := var_frozen P.rbox 2
    have zf3 := var_frozen P.rbox 3
    have zf4 := var_frozen P.rbox 4
    have zf5 := var_frozen P.rbox 5
    have hl := P.lt
    have hret := P.ret ka kb kp kq ke kf
    clear P
    go_wp2_with fail
    exact bodyPost_ret (v := .tuple #[.agg #[.int .i64 ka, .string kb, .int .i64 kp, .string kq, .int .i64 ke, .int .i64 kf], .int .i64 18]) (by simp [results, Tryz.results21, go_sem, z0, z1, z2, z3, z4, z5, knownZero]) rfl ⟨rfl, hret⟩
end Go.Proofs.YtoaaogacaibedaaGreatDoor
