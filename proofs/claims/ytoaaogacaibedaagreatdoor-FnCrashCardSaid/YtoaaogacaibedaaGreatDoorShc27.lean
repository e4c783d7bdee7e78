/- What the theorem needs, out of many texts. -/
import Derived.Test.YtoaaogacaibedaaGreatDoorShc22
import Derived.Test.YtoaaogacaibedaaGreatDoorShc26
import Derived.Recover
namespace Go.Proofs.YtoaaogacaibedaaGreatDoor
open Go.RowKit
set_option maxRecDepth 100000
set_option linter.unusedVariables false
noncomputable def jourAtP (d : Disk) (i : Nat) : Jour × Bool :=
 if (getHeadP (readSec d i)).2 = true ∧ (getHeadP (readSec d i)).1.1 % 2 = (i : Int)
 then (⟨(replayP d (getHeadP (readSec d i)).1.1).1, (getHeadP (readSec d i)).1.1, ((replayP d (getHeadP (readSec d i)).1.1).2 : Int)⟩, decide ((getHeadP (readSec d i)).1.2 ≤ ((replayP d (getHeadP (readSec d i)).1.1).2 : Int)))
 else (jourZero, false)
theorem jourAtP_no {d : Disk} {i : Nat} {x y : Int} {ok : Bool} (h : getHeadP (readSec d (i : Int)) = ((x, y), ok)) (hn : ¬ (ok = true ∧ x % 2 = (i : Int))) : jourAtP d i = (jourZero, false) := by
 unfold jourAtP
 rw [h]
 exact if_neg hn
theorem jourAtP_yes {d : Disk} {i : Nat} {x y : Int} {k : Known} {m : Nat} (h : getHeadP (readSec d (i : Int)) = ((x, y), true)) (hr : replayP d x = (k, m)) (h2 : x % 2 = (i : Int)) : jourAtP d i = (⟨k, x, m⟩, decide (y ≤ (m : Int))) := by
 unfold jourAtP
 rw [h, hr]
 exact if_pos ⟨rfl, h2⟩
theorem stepJ_at {d : Disk} {b j : Jour} {i : Nat} {yes : Bool} (h : jourAtP d i = (j, yes)) : stepJ d b i = if yes = true ∧ b.g < j.g then j else b := by
 obtain ⟨⟨⟨x, y⟩, ok⟩, hg⟩ : ∃ p, getHeadP (readSec d (i : Int)) = p := ⟨_, rfl⟩
 by_cases hc : ok = true ∧ x % 2 = (i : Int)
 ·obtain ⟨rfl, hx⟩ := hc
  obtain ⟨⟨k, m⟩, hr⟩ : ∃ p, replayP d x = p := ⟨_, rfl⟩
  rw [jourAtP_yes hg hr hx] at h
  obtain ⟨rfl, rfl⟩ := Prod.mk.inj h
  by_cases hy : y ≤ (m : Int) ∧ b.g < x
  ·rw [stepJ_yes hg hr hx hy.2 hy.1, if_pos ⟨by simpa using hy.1, hy.2⟩]
  ·rw [stepJ_no hg (fun h9 => hy ⟨by have := h9.2.2.2; rw [hr] at this; exact this, h9.2.2.1⟩), if_neg (fun h9 => hy ⟨by simpa using h9.1, h9.2⟩)]
 ·rw [jourAtP_no hg hc] at h
  obtain ⟨rfl, rfl⟩ := Prod.mk.inj h
  rw [stepJ_no hg (fun h9 => hc ⟨h9.1, h9.2.1⟩), if_neg (fun h9 => by cases h9.1)]
theorem RetJ.lit8i {w w' : World} {a : Int} {b : ByteArray} {p : Int} {q : ByteArray} {e f g m : Int} {y : Bool} {en : Ending} (h : RetJ w (⟨⟨a, b, p, q, e, f⟩, g, m⟩, y) en w') : en = .returned (.tuple #[.agg #[.int .i64 a, .string b, .int .i64 p, .string q, .int .i64 e, .int .i64 f, .int .i64 g, .int .i64 m], .bool y]) ∧ Below w.heap.size w w' := h
structure JQ (w : World) (cs : List Value) (W : World) : Prop where
 below : Below w.heap.size w W
 dbox : W.heap[w.heap.size]? = some (.cells cs.toArray 27 (0, 0))
 rbox : W.heap[w.heap.size + 1]? = some (.cells (jourL jourZero).toArray 37 (0, 0))
section
variable {w W W' : World} {cs : List Value}
theorem JQ.lt (h : JQ w cs W) : w.heap.size + 1 < W.heap.size := (Array.getElem?_eq_some_iff.1 h.rbox).1
theorem JQ.later (h : JQ w cs W) (hb : Below W.heap.size W W') : JQ w cs W' := by
 have hl := h.lt
 exact ⟨Later.trans h.below hb, (hb.block _ (by omega)).trans h.dbox, (hb.block _ hl).trans h.rbox⟩
theorem JQ.ret (h : JQ w cs W) (a : Int) (b : ByteArray) (p : Int) (q : ByteArray) (e f : Int) (g m : Int) : Below w.heap.size w ((((((((W.setCell ⟨w.heap.size + 1, 0, none⟩ (.int .i64 a)).setCell ⟨w.heap.size + 1, 1, none⟩ (.string b)).setCell ⟨w.heap.size + 1, 2, none⟩ (.int .i64 p)).setCell ⟨w.heap.size + 1, 3, none⟩ (.string q)).setCell ⟨w.heap.size + 1, 4, none⟩ (.int .i64 e)).setCell ⟨w.heap.size + 1, 5, none⟩ (.int .i64 f)).setCell ⟨w.heap.size + 1, 6, none⟩ (.int .i64 g)).setCell ⟨w.heap.size + 1, 7, none⟩ (.int .i64 m)) :=
 Rep.Only.below h.below (putJ_only W (w.heap.size + 1) a b p q e f g m) h.below.size (fun a ha => by simp at ha; omega)
end
set_option maxRecDepth 2000000 in
set_option maxHeartbeats 8000000 in
theorem jourAt_any (cs : List Value) (d : Disk) (j : Nat) (w : World) (h : diskR.at_ w w.heap.size cs d) (hf : Fits d) (hj : j < 2) (hg : Given w) :
  Calls Tryz.prog 46 #[.agg cs.toArray, .int .i64 j] w (RetJ w (jourAtP d j)) := by
 obtain ⟨A, c, B, e, rfl⟩ := disk_at_shape h
 have HD := Lib.hid h
 have HG := Lib.hid hg
 have P0 : JQ w [.slice A d.secs.length c, .slice B d.cache.length e, .int .i64 d.fuse, .bool d.down] ((w.alloc (.cells #[.slice A d.secs.length c, .slice B d.cache.length e, .int .i64 d.fuse, .bool d.down] 27)).alloc (.cells #[.int .i64 0, .string ⟨#[]⟩, .int .i64 0, .string ⟨#[]⟩, .int .i64 0, .int .i64 0, .int .i64 0, .int .i64 0] 37)) :=
  ⟨Later.trans (Later.alloc w _) (Later.alloc _ _), (Below.heap_alloc _ _ _ (by simp)).trans (heap_alloc_new w _), heap_alloc_new' _ _ (by simp)⟩
 clear h hg
 show Calls Tryz.prog 46 #[.agg #[.slice A d.secs.length c, .slice B d.cache.length e, .int .i64 d.fuse, .bool d.down], .int .i64 j] w _
 obtain ⟨⟨⟨⟨Ka, Kb, Kp, Kq, Ke, Kf⟩, Kg, Km⟩, M⟩, hp⟩ : ∃ p, jourAtP d j = p := ⟨_, rfl⟩
 rw [hp]
 have HP := Lib.hid hp
 clear hp
 unfold RetJ
 go_enter Tryz.func46, Tryz.ntmps46
 go_upto_region 1 with (fail)
 generalize (w.alloc (.cells #[.slice A d.secs.length c, .slice B d.cache.length e, .int .i64 d.fuse, .bool d.down] 27)).alloc (.cells #[.int .i64 0, .string ⟨#[]⟩, .int .i64 0, .string ⟨#[]⟩, .int .i64 0, .int .i64 0, .int .i64 0, .int .i64 0] 37) = W0 at P0 ⊢
 obtain ⟨d0, d1, d2, d3⟩ := disk4 P0.dbox
 go_wp2_with fail
 refine (readSec_rep [.slice A d.secs.length c, .slice B d.cache.length e, .int .i64 d.fuse, .bool d.down] d (j : Int) W0 (Keeps.keeps (F := fun w' => diskR.at_ w' w'.heap.size [.slice A d.secs.length c, .slice B d.cache.length e, .int .i64 d.fuse, .bool d.down] d) P0.below HD.out) hf (WalkArith.wf_i64 (by omega))).mono ?_
 rintro e2 W2 ⟨A4, c4, fp4, rfl, O4, hb⟩
 clear d0 d1 d2 d3
 replace P0 := P0.later hb
 obtain ⟨A5, c5, he5, hk4, r4⟩ := Rep.reads byR O4
 injection he5 with he5 _
 injection he5 with he5 _ he6
 subst he5 he6
 clear hb O4
 obtain ⟨⟨⟨hg1, hn1⟩, ok⟩, hget⟩ : ∃ p, getHeadP (readSec d (j : Int)) = p := ⟨_, rfl⟩
 have HGET := Lib.hid hget
 clear hget
 go_wp2_with fail
 refine (getHead_any A4 c4 (readSec d (j : Int)) W2 r4 (by have := fits_readSec hf (j : Int); unfold FitsB at this; omega)).mono ?_
 rw [HGET.out]
 rintro e3 W3 ⟨rfl, hb⟩
 replace P0 := P0.later hb
 clear hb r4
 cases ok
 ·have hq := HP.out
  rw [jourAtP_no HGET.out (fun h9 => by cases h9.1)] at hq
  injection hq with hq1 hq2
  injection hq1 with hq1 e7 e8
  injection hq1 with e1 e2 e3 e4 e5 e6
  subst e1 e2 e3 e4 e5 e6 e7 e8 hq2
  obtain ⟨z0, z1, z2, z3, z4, z5, z6, z7⟩ := jour_box P0.rbox
  have zf0 := var_frozen P0.rbox 0
  have zf1 := var_frozen P0.rbox 1
  have zf2 := var_frozen P0.rbox 2
  have zf3 := var_frozen P0.rbox 3
  have zf4 := var_frozen P0.rbox 4
  have zf5 := var_frozen P0.rbox 5
  have zf6 := var_frozen P0.rbox 6
  have zf7 := var_frozen P0.rbox 7
  have hl := P0.lt
  have hret := P0.ret 0 ⟨#[]⟩ 0 ⟨#[]⟩ 0 0 0 0
  clear P0
  go_wp2_with fail
  exact bodyPost_ret (v := .tuple #[.agg #[.int .i64 0, .string ⟨#[]⟩, .int .i64 0, .string ⟨#[]⟩, .int .i64 0, .int .i64 0, .int .i64 0, .int .i64 0], .bool false]) (by simp [results, Tryz.results46, go_sem, z0, z1, z2, z3, z4, z5, z6, z7, jourZero, knownZero]) rfl ⟨rfl, hret⟩
 ·obtain ⟨⟨hx1, hx2⟩, hy1, hy2⟩ := getHead_range HGET.out
  go_wp2_with fail
  refine (headSec_any hg1 W3 (by omega) (by omega)).mono ?_
  rintro e4 W4 ⟨rfl, rfl⟩
  by_cases hpar : hg1 % 2 = (j : Int)
  ·have np : (hg1 % 2 != (j : Int)) = false := by simp [hpar]
   have HPAR := Lib.hid hpar
   clear hpar
   obtain ⟨d0, d1, d2, d3⟩ := disk4 P0.dbox
   obtain ⟨⟨⟨na, nb, nx, nq, ne, nf⟩, m⟩, hrp⟩ : ∃ p, replayP d hg1 = p := ⟨_, rfl⟩
   have HRP := Lib.hid hrp
   clear hrp
   go_wp2_with fail
   refine (replay_any [.slice A d.secs.length c, .slice B d.cache.length e, .int .i64 d.fuse, .bool d.down] d hg1 W3 (Keeps.keeps (F := fun w' => diskR.at_ w' w'.heap.size [.slice A d.secs.length c, .slice B d.cache.length e, .int .i64 d.fuse, .bool d.down] d) P0.below HD.out) hf (WalkArith.wf_i64 (by omega)) (Keeps.keeps (F := Given) P0.below HG.out)).mono ?_
   rw [HRP.out]
   rintro e4 W4 hret
   obtain ⟨rfl, hb⟩ := hret.lit
   replace P0 := P0.later hb
   clear hret hb d0 d1 d2 d3 np
   have HN := heap_alloc_new W4 (.cells #[.int .i64 na, .string nb, .int .i64 nx, .string nq, .int .i64 ne, .int .i64 nf] 35)
   have hNl : W4.heap.size < (W4.alloc (.cells #[.int .i64 na, .string nb, .int .i64 nx, .string nq, .int .i64 ne, .int .i64 nf] 35)).heap.size := by simp
   have hNd : w.heap.size + 1 < W4.heap.size := P0.lt
   replace P0 := P0.later (Later.alloc W4 (.cells #[.int .i64 na, .string nb, .int .i64 nx, .string nq, .int .i64 ne, .int .i64 nf] 35))
   go_upto_region 5 with (fail)
   generalize W4.alloc (.cells #[.int .i64 na, .string nb, .int .i64 nx, .string nq, .int .i64 ne, .int .i64 nf] 35) = W5 at HN hNl P0 ⊢
   generalize W4.heap.size = DN at HN hNl hNd ⊢
   have hq := HP.out
   rw [jourAtP_yes HGET.out HRP.out HPAR.out] at hq
   injection hq with hq1 hq2
   injection hq1 with hq1 e7 e8
   injection hq1 with e1 e2 e3 e4 e5 e6
   subst e1 e2 e3 e4 e5 e6 e7 e8 hq2
   obtain ⟨n0, n1, n2, n3, n4, n5⟩ := known_box (r := ⟨na, nb, nx, nq, ne, nf⟩) HN
   clear HN
   obtain ⟨z0, z1, z2, z3, z4, z5, z6, z7⟩ := jour_box P0.rbox
   have zf0 := var_frozen P0.rbox 0
   have zf1 := var_frozen P0.rbox 1
   have zf2 := var_frozen P0.rbox 2
   have zf3 := var_frozen P0.rbox 3
   have zf4 := var_frozen P0.rbox 4
   have zf5 := var_frozen P0.rbox 5
   have zf6 := var_frozen P0.rbox 6
   have zf7 := var_frozen P0.rbox 7
   have hl := P0.lt
   have hret := P0.ret na nb nx nq ne nf hg1 m
   clear P0
   go_wp2_with fail
   exact bodyPost_ret (v := .tuple #[.agg #[.int .i64 na, .string nb, .int .i64 nx, .string nq, .int .i64 ne, .int .i64 nf, .int .i64 hg1, .int .i64 m], .bool (decide (hn1 ≤ (m : Int)))]) (by simp [results, Tryz.results46, go_sem, z0, z1, z2, z3, z4, z5, z6, z7, jourZero, knownZero]) rfl ⟨rfl, hret⟩
  ·have np : (hg1 % 2 != (j : Int)) = true := by simpa using hpar
   have hq := HP.out
   rw [jourAtP_no HGET.out (fun h9 => hpar h9.2)] at hq
   injection hq with hq1 hq2
   injection hq1 with hq1 e7 e8
   injection hq1 with e1 e2 e3 e4 e5 e6
   subst e1 e2 e3 e4 e5 e6 e7 e8 hq2
   clear hpar
   obtain ⟨z0, z1, z2, z3, z4, z5, z6, z7⟩ := jour_box P0.rbox
   have zf0 := var_frozen P0.rbox 0
   have zf1 := var_frozen P0.rbox 1
   have zf2 := var_frozen P0.rbox 2
   have zf3 := var_frozen P0.rbox 3
   have zf4 := var_frozen P0.rbox 4
   have zf5 := var_frozen P0.rbox 5
   have zf6 := var_frozen P0.rbox 6
   have zf7 := var_frozen P0.rbox 7
   have hl := P0.lt
   have hret := P0.ret 0 ⟨#[]⟩ 0 ⟨#[]⟩ 0 0 0 0
   clear P0
   go_wp2_with fail
   exact bodyPost_ret (v := .tuple #[.agg #[.int .i64 0, .string ⟨#[]⟩, .int .i64 0, .string ⟨#[]⟩, .int .i64 0, .int .i64 0, .int .i64 0, .int .i64 0], .bool false]) (by simp [results, Tryz.results46, go_sem, z0, z1, z2, z3, z4, z5, z6, z7, jourZero, knownZero]) rfl ⟨rfl, hret⟩
set_option maxRecDepth 2000000 in
set_option maxHeartbeats 8000000 in
theorem openJour_any (cs : List Value) (d : Disk) (w : World) (h : diskR.at_ w w.heap.size cs d) (hf : Fits d) (hg : Given w) :
  Calls Tryz.prog 12 #[.agg cs.toArray] w (RetJ w (openP d)) := by
 obtain ⟨A, c, B, e, rfl⟩ := disk_at_shape h
 have HD := Lib.hid h
 have HG := Lib.hid hg
 have P0 : JB w [.slice A d.secs.length c, .slice B d.cache.length e, .int .i64 d.fuse, .bool d.down] jourZero (((w.alloc (.cells #[.slice A d.secs.length c, .slice B d.cache.length e, .int .i64 d.fuse, .bool d.down] 27)).alloc (.cells #[.int .i64 0, .string ⟨#[]⟩, .int .i64 0, .string ⟨#[]⟩, .int .i64 0, .int .i64 0, .int .i64 0, .int .i64 0] 37)).alloc (.cells #[.int .i64 0, .string ⟨#[]⟩, .int .i64 0, .string ⟨#[]⟩, .int .i64 0, .int .i64 0, .int .i64 0, .int .i64 0] 37)) :=
  ⟨Later.trans (Later.trans (Later.alloc w _) (Later.alloc _ _)) (Later.alloc _ _), (Below.heap_alloc _ _ _ (by simp; omega)).trans ((Below.heap_alloc _ _ _ (by simp)).trans (heap_alloc_new w _)), (Below.heap_alloc _ _ _ (by simp)).trans (heap_alloc_new' _ _ (by simp)), heap_alloc_new' _ _ (by simp)⟩
 clear h hg
 show Calls Tryz.prog 12 #[.agg #[.slice A d.secs.length c, .slice B d.cache.length e, .int .i64 d.fuse, .bool d.down]] w _
 obtain ⟨⟨⟨⟨Ka, Kb, Kp, Kq, Ke, Kf⟩, Kg, Km⟩, M⟩, hp⟩ : ∃ p, openP d = p := ⟨_, rfl⟩
 rw [hp]
 have HP := Lib.hid hp
 clear hp
 unfold RetJ
 go_enter Tryz.func12, Tryz.ntmps12
 go_upto_region 2 with (fail)
 generalize ((w.alloc (.cells #[.slice A d.secs.length c, .slice B d.cache.length e, .int .i64 d.fuse, .bool d.down] 27)).alloc (.cells #[.int .i64 0, .string ⟨#[]⟩, .int .i64 0, .string ⟨#[]⟩, .int .i64 0, .int .i64 0, .int .i64 0, .int .i64 0] 37)).alloc (.cells #[.int .i64 0, .string ⟨#[]⟩, .int .i64 0, .string ⟨#[]⟩, .int .i64 0, .int .i64 0, .int .i64 0, .int .i64 0] 37) = W0 at P0 ⊢
 obtain ⟨d0, d1, d2, d3⟩ := disk4 P0.dbox
 go_wp2_with fail
 refine (diskOk_rep [.slice A d.secs.length c, .slice B d.cache.length e, .int .i64 d.fuse, .bool d.down] d W0 (Keeps.keeps (F := fun w' => diskR.at_ w' w'.heap.size [.slice A d.secs.length c, .slice B d.cache.length e, .int .i64 d.fuse, .bool d.down] d) P0.below HD.out) hf).mono ?_
 clear d0 d1 d2 d3
 obtain ⟨b1, h1⟩ : ∃ b, diskOk d = b := ⟨_, rfl⟩
 rw [h1]
 have H1 := Lib.hid h1
 clear h1
 rintro e1 W1 ⟨rfl, hb⟩
 replace P0 := P0.later hb
 clear hb
 cases b1
 ·skip
  have hq := HP.out
  rw [show openP d = (jourZero, false) from if_neg (fun h9 => by rw [H1.out] at h9; cases h9.1)] at hq
  injection hq with hq1 hq2
  injection hq1 with hq1 e7 e8
  injection hq1 with e1 e2 e3 e4 e5 e6
  subst e1 e2 e3 e4 e5 e6 e7 e8 hq2
  obtain ⟨z0, z1, z2, z3, z4, z5, z6, z7⟩ := jour_box P0.rbox
  obtain ⟨k0, k1, k2, k3, k4, k5, k6, k7⟩ := jour_box P0.jbox
  have zf0 := var_frozen P0.rbox 0
  have zf1 := var_frozen P0.rbox 1
  have zf2 := var_frozen P0.rbox 2
  have zf3 := var_frozen P0.rbox 3
  have zf4 := var_frozen P0.rbox 4
  have zf5 := var_frozen P0.rbox 5
  have zf6 := var_frozen P0.rbox 6
  have zf7 := var_frozen P0.rbox 7
  have hl := P0.lt
  have hret := P0.ret 0 ⟨#[]⟩ 0 ⟨#[]⟩ 0 0 0 0
  clear P0
  go_wp2_with fail
  exact bodyPost_ret (v := .tuple #[.agg #[.int .i64 0, .string ⟨#[]⟩, .int .i64 0, .string ⟨#[]⟩, .int .i64 0, .int .i64 0, .int .i64 0, .int .i64 0], .bool false]) (by simp [results, Tryz.results12, go_sem, z0, z1, z2, z3, z4, z5, z6, z7, jourZero, knownZero]) rfl ⟨rfl, hret⟩
 ·by_cases h38 : d.secs.length = 38
  ·have n38 : ((d.secs.length : Int) != 38) = false := by rw [h38]; rfl
   have H38 := Lib.hid h38
   clear h38
   have HQ := Lib.hid (show (bestJ d 2, decide (0 < (bestJ d 2).g)) = ((⟨⟨Ka, Kb, Kp, Kq, Ke, Kf⟩, Kg, Km⟩, M) : Jour × Bool) by
    have h9 := HP.out
    rw [show openP d = (bestJ d 2, decide (0 < (bestJ d 2).g)) from if_pos ⟨H1.out, H38.out⟩] at h9
    exact h9)
   clear HP
   obtain ⟨d0, d1, d2, d3⟩ := disk4 P0.dbox
   go_wp2_with fail
   clear d0 d1 d2 d3 n38
   go_loopw [18] (fun i wr => ∃ (j : Nat) (b : Jour), j ≤ 2 ∧ i = .int .i64 j ∧ Hid (bestJ d j = b) ∧ JB w [.slice A d.secs.length c, .slice B d.cache.length e, .int .i64 d.fuse, .bool d.down] b wr) (fun i _ => 2 - (intOf i).toNat)
   case atStart => exact ⟨0, jourZero, by omega, rfl, Lib.hid rfl, P0⟩
   case round =>
    clear P0
    obtain ⟨j, ⟨⟨ba, bb, bp, bq, be, bf⟩, bg, bm⟩, hj, rfl, hbest, P0⟩ := hrel
    by_cases hlt : j < 2
    ·obtain ⟨d0, d1, d2, d3⟩ := disk4 P0.dbox
     go_wp2_with fail
     refine (jourAt_any [.slice A d.secs.length c, .slice B d.cache.length e, .int .i64 d.fuse, .bool d.down] d j wr (Keeps.keeps (F := fun w' => diskR.at_ w' w'.heap.size [.slice A d.secs.length c, .slice B d.cache.length e, .int .i64 d.fuse, .bool d.down] d) P0.below HD.out) hf hlt (Keeps.keeps (F := Given) P0.below HG.out)).mono ?_
     clear d0 d1 d2 d3
     obtain ⟨⟨⟨⟨na, nb, nx, nq, ne, nf⟩, ng, nm⟩, yes⟩, hja⟩ : ∃ p, jourAtP d j = p := ⟨_, rfl⟩
     rw [hja]
     have HJA := Lib.hid hja
     clear hja
     rintro e2 W2 hret
     obtain ⟨rfl, hb⟩ := hret.lit8i
     replace P0 := P0.later hb
     clear hret hb
     have HN := heap_alloc_new W2 (.cells #[.int .i64 na, .string nb, .int .i64 nx, .string nq, .int .i64 ne, .int .i64 nf, .int .i64 ng, .int .i64 nm] 37)
     have hNl : W2.heap.size < (W2.alloc (.cells #[.int .i64 na, .string nb, .int .i64 nx, .string nq, .int .i64 ne, .int .i64 nf, .int .i64 ng, .int .i64 nm] 37)).heap.size := by simp
     have hNd : w.heap.size + 2 < W2.heap.size := P0.lt
     replace P0 := P0.later (Later.alloc W2 (.cells #[.int .i64 na, .string nb, .int .i64 nx, .string nq, .int .i64 ne, .int .i64 nf, .int .i64 ng, .int .i64 nm] 37))
     go_upto_region 8 with (fail)
     generalize W2.alloc (.cells #[.int .i64 na, .string nb, .int .i64 nx, .string nq, .int .i64 ne, .int .i64 nf, .int .i64 ng, .int .i64 nm] 37) = W5 at HN hNl P0 ⊢
     generalize W2.heap.size = DN at HN hNl hNd ⊢
     obtain ⟨n0, n1, n2, n3, n4, n5, n6, n7⟩ := jour_box (r := ⟨⟨na, nb, nx, nq, ne, nf⟩, ng, nm⟩) HN
     obtain ⟨j0, j1, j2, j3, j4, j5, j6, j7⟩ := jour_box P0.jbox
     clear HN
     cases yes
     ·skip
      have HB2 := Lib.hid (show bestJ d (j + 1) = ⟨⟨ba, bb, bp, bq, be, bf⟩, bg, bm⟩ by
       show stepJ d (bestJ d j) j = _
       rw [hbest.out, stepJ_at HJA.out]
       exact if_neg (fun h9 => by cases h9.1))
      go_wp2_with fail
      go_roundw
      case rel => exact ⟨j + 1, ⟨⟨ba, bb, bp, bq, be, bf⟩, bg, bm⟩, by omega, by go_num, HB2, P0⟩
      case measure => simp [intOf]; omega
     ·by_cases hgt : bg < ng
      ·have hgt2 : ng > bg := hgt
       have HB2 := Lib.hid (show bestJ d (j + 1) = ⟨⟨na, nb, nx, nq, ne, nf⟩, ng, nm⟩ by
        show stepJ d (bestJ d j) j = _
        rw [hbest.out, stepJ_at HJA.out]
        exact if_pos ⟨rfl, hgt⟩)
       have jf0 := var_frozen P0.jbox 0
       have jf1 := var_frozen P0.jbox 1
       have jf2 := var_frozen P0.jbox 2
       have jf3 := var_frozen P0.jbox 3
       have jf4 := var_frozen P0.jbox 4
       have jf5 := var_frozen P0.jbox 5
       have jf6 := var_frozen P0.jbox 6
       have jf7 := var_frozen P0.jbox 7
       have hl := P0.lt
       have P2 := P0.putJ na nb nx nq ne nf ng nm
       clear P0
       go_wp2_with fail
       go_roundw
       case rel => exact ⟨j + 1, ⟨⟨na, nb, nx, nq, ne, nf⟩, ng, nm⟩, by omega, by go_num, HB2, P2⟩
       case measure => simp [intOf]; omega
      ·have hle : ng ≤ bg := by omega
       have HB2 := Lib.hid (show bestJ d (j + 1) = ⟨⟨ba, bb, bp, bq, be, bf⟩, bg, bm⟩ by
        show stepJ d (bestJ d j) j = _
        rw [hbest.out, stepJ_at HJA.out]
        exact if_neg (fun h9 => hgt h9.2))
       go_wp2_with fail
       go_roundw
       case rel => exact ⟨j + 1, ⟨⟨ba, bb, bp, bq, be, bf⟩, bg, bm⟩, by omega, by go_num, HB2, P0⟩
       case measure => simp [intOf]; omega
    ·have he : j = 2 := by omega
     subst he
     have HQ2 := HQ.out
     rw [hbest.out] at HQ2
     injection HQ2 with hq1 hq2
     injection hq1 with hq1 e7 e8
     injection hq1 with e1 e2 e3 e4 e5 e6
     subst e1 e2 e3 e4 e5 e6 e7 e8 hq2
     clear HQ hlt hj
     go_wp2_with fail
     refine wp_region_lex' 100 [0, 1, 2, 3] [4, 5] (fun w' => w'.heap[w.heap.size + 2]? = some (.cells (jourL ⟨⟨ba, bb, bp, bq, be, bf⟩, bg, bm⟩).toArray 37 (0, 0))) (by kernel_rfl) (by kernel_rfl) P0.jbox ?_
     replace P0 := P0.later (Later.drew wr)
     iterate 4 (refine LexR.cons rfl ?_ (fun w' hw => ?_) ?_; rotate_left; focus (obtain ⟨j0, j1, j2, j3, j4, j5, j6, j7⟩ := jour_box (r := ⟨⟨ba, bb, bp, bq, be, bf⟩, bg, bm⟩) hw; clear hw; go_simp; (try exact rfl)); (try go_frame))
     refine LexR.nil (LexW.cons rfl ?_)
     try go_frame
     generalize wr.drew = W6 at P0 ⊢
     obtain ⟨z0, z1, z2, z3, z4, z5, z6, z7⟩ := jour_box P0.rbox
     have zf0 := var_frozen P0.rbox 0
     have zf1 := var_frozen P0.rbox 1
     have zf2 := var_frozen P0.rbox 2
     have zf3 := var_frozen P0.rbox 3
     have zf4 := var_frozen P0.rbox 4
     have zf5 := var_frozen P0.rbox 5
     have zf6 := var_frozen P0.rbox 6
     have zf7 := var_frozen P0.rbox 7
     have hl := P0.lt
     have hret := P0.ret ba bb bp bq be bf bg bm
     have hbx := setJ_box P0.rbox ba bb bp bq be bf bg bm
     have hj2 := ((putJ_only W6 (w.heap.size + 1) ba bb bp bq be bf bg bm).block (w.heap.size + 2) hl (by simp)).trans P0.jbox
     clear P0
     go_wp2_with fail
     generalize ((((((((W6.setCell ⟨w.heap.size + 1, 0, none⟩ (.int .i64 ba)).setCell ⟨w.heap.size + 1, 1, none⟩ (.string bb)).setCell ⟨w.heap.size + 1, 2, none⟩ (.int .i64 bp)).setCell ⟨w.heap.size + 1, 3, none⟩ (.string bq)).setCell ⟨w.heap.size + 1, 4, none⟩ (.int .i64 be)).setCell ⟨w.heap.size + 1, 5, none⟩ (.int .i64 bf)).setCell ⟨w.heap.size + 1, 6, none⟩ (.int .i64 bg)).setCell ⟨w.heap.size + 1, 7, none⟩ (.int .i64 bm)) = W7 at hret hbx hj2 ⊢
     refine ⟨fun _ => hj2, LexW.cons rfl ?_⟩
     clear z0 z1 z2 z3 z4 z5 z6 z7 zf0 zf1 zf2 zf3 zf4 zf5 zf6 zf7
     try go_frame
     go_wp2_with fail
     refine ⟨fun _ => hj2, LexW.nil ?_⟩
     obtain ⟨z0, z1, z2, z3, z4, z5, z6, z7⟩ := jour_box (r := ⟨⟨ba, bb, bp, bq, be, bf⟩, bg, bm⟩) hbx
     clear hbx hj2
     go_wp2_with fail
     exact bodyPost_ret (v := .tuple #[.agg #[.int .i64 ba, .string bb, .int .i64 bp, .string bq, .int .i64 be, .int .i64 bf, .int .i64 bg, .int .i64 bm], .bool (decide (1 ≤ bg))]) (by simp [results, Tryz.results12, go_sem, z0, z1, z2, z3, z4, z5, z6, z7]) rfl ⟨by rw [show decide (0 < bg) = decide (1 ≤ bg) from rfl]; rfl, hret⟩
  ·have n38 : ((d.secs.length : Int) != 38) = true := by simp; omega
   have H38 := Lib.hid h38
   clear h38
   obtain ⟨d0, d1, d2, d3⟩ := disk4 P0.dbox
   have hq := HP.out
   rw [show openP d = (jourZero, false) from if_neg (fun h9 => H38.out h9.2)] at hq
   injection hq with hq1 hq2
   injection hq1 with hq1 e7 e8
   injection hq1 with e1 e2 e3 e4 e5 e6
   subst e1 e2 e3 e4 e5 e6 e7 e8 hq2
   obtain ⟨z0, z1, z2, z3, z4, z5, z6, z7⟩ := jour_box P0.rbox
   obtain ⟨k0, k1, k2, k3, k4, k5, k6, k7⟩ := jour_box P0.jbox
   have zf0 := var_frozen P0.rbox 0
   have zf1 := var_frozen P0.rbox 1
   have zf2 := var_frozen P0.rbox 2
   have zf3 := var_frozen P0.rbox 3
   have zf4 := var_frozen P0.rbox 4
   have zf5 := var_frozen P0.rbox 5
   have zf6 := var_frozen P0.rbox 6
   have zf7 := var_frozen P0.rbox 7
   have hl := P0.lt
   have hret := P0.ret 0 ⟨#[]⟩ 0 ⟨#[]⟩ 0 0 0 0
   clear P0
   go_wp2_with fail
   exact bodyPost_ret (v := .tuple #[.agg #[.int .i64 0, .string ⟨#[]⟩, .int .i64 0, .string ⟨#[]⟩, .int .i64 0, .int .i64 0, .int .i64 0, .int .i64 0], .bool false]) (by simp [results, Tryz.results12, go_sem, z0, z1, z2, z3, z4, z5, z6, z7, jourZero, knownZero]) rfl ⟨rfl, hret⟩
def panV : Value := .iface 9 (.string ⟨#[97, 32, 114, 101, 99, 111, 114, 100, 32, 99, 97, 110, 110, 111, 116, 32, 98, 101, 32, 119, 114, 105, 116, 116, 101, 110]⟩)
def panC : List PanicEntry := [{ v := panV, recovered := false }]
theorem must_yes (p : Value) (w : World) : Calls Tryz.prog 86 #[p, .bool true] w fun e w' => e = .returned (.tuple #[]) ∧ w = w' := by
 go_enter Tryz.func86, Tryz.ntmps86
 go_wp2
 go_end0
 exact ⟨rfl, rfl⟩
theorem must_no (p : Value) (w : World) : Calls Tryz.prog 86 #[p, .bool false] w fun e w' => e = .panicked panC ∧ w = w' := by
 go_enter Tryz.func86, Tryz.ntmps86
 go_wp2
 exact ⟨rfl, rfl, rfl⟩
structure SB (w0 : World) (S : Nat) (cs : List Value) (x : Disk) (j : Jour) (W : World) : Prop where
 below : Below w0.heap.size w0 W
 box : W.heap[S]? = some (.cells (cs ++ jourL j).toArray 72 (0, 0))
 own : ∃ fp, diskR.own W w0.heap.size cs x fp ∧ S ∉ fp
 lo : w0.heap.size ≤ S
section
variable {w0 W W' : World} {S : Nat} {cs cs' : List Value} {x x' : Disk} {j j' : Jour}
theorem SB.lt (h : SB w0 S cs x j W) : S < W.heap.size := (Array.getElem?_eq_some_iff.1 h.box).1
theorem SB.at (h : SB w0 S cs x j W) : diskR.at_ W W.heap.size cs x := by
 obtain ⟨fp, ho, _⟩ := h.own
 exact Rep.reads diskR ho
theorem SB.shape (h : SB w0 S cs x j W) : ∃ A c B e, cs = [.slice A x.secs.length c, .slice B x.cache.length e, .int .i64 x.fuse, .bool x.down] := disk_at_shape h.at
theorem SB.later (h : SB w0 S cs x j W) (hb : Below W.heap.size W W') : SB w0 S cs x j W' := by
 obtain ⟨fp, ho, hn⟩ := h.own
 refine ⟨Rep.Only.below h.below (Rep.only_of_below hb) h.below.size (fun g hg => by cases hg), (hb.block _ h.lt).trans h.box, ⟨fp, Rep.own_only ho (Rep.only_of_below hb) (fun a _ hm => by cases hm), hn⟩, h.lo⟩
theorem SB.given (h : SB w0 S cs x j W) (hg : Given w0) : Given W := Keeps.keeps (F := Given) h.below hg
theorem SB.put (h : SB w0 S cs x j W) (ho : Rep.Only W W' [S]) (hb : W'.heap[S]? = some (.cells (cs ++ jourL j').toArray 72 (0, 0))) : SB w0 S cs x j' W' := by
 obtain ⟨fp, h1, hn⟩ := h.own
 refine ⟨Rep.Only.below h.below ho h.below.size (fun g hg => by simp at hg; subst hg; exact h.lo), hb, ⟨fp, Rep.own_only h1 ho (fun a ha hm => by simp at hm; subst hm; exact hn ha), hn⟩, h.lo⟩
theorem SB.putD {a b cc dd a' b' cc' dd' : Value} (h : SB w0 S [a, b, cc, dd] x j W) {base : Nat} {fp : List Nat} (ho : diskR.own W base [a', b', cc', dd'] x' fp) (hb : S < base) :
  SB w0 S [a', b', cc', dd'] x' j ((((W.setCell ⟨S, 0, none⟩ a').setCell ⟨S, 1, none⟩ b').setCell ⟨S, 2, none⟩ cc').setCell ⟨S, 3, none⟩ dd') := by
 have hw := putD_only W S a' b' cc' dd'
 have hlo := h.lo
 refine ⟨Rep.Only.below h.below hw h.below.size (fun g hg => by simp at hg; subst hg; exact h.lo), ?_, ⟨fp, Rep.low diskR (Rep.own_only ho hw (fun a ha hm => ?_)) (by omega), fun hm => ?_⟩, h.lo⟩
 ·have h0 : (W.setCell ⟨S, 0, none⟩ a').heap[S]? = some (.cells ([a', b, cc, dd] ++ jourL j).toArray 72 (0, 0)) := var_set h.box 0 a'
  have h1 : ((W.setCell ⟨S, 0, none⟩ a').setCell ⟨S, 1, none⟩ b').heap[S]? = some (.cells ([a', b', cc, dd] ++ jourL j).toArray 72 (0, 0)) := var_set h0 1 b'
  have h2 : (((W.setCell ⟨S, 0, none⟩ a').setCell ⟨S, 1, none⟩ b').setCell ⟨S, 2, none⟩ cc').heap[S]? = some (.cells ([a', b', cc', dd] ++ jourL j).toArray 72 (0, 0)) := var_set h1 2 cc'
  exact var_set h2 3 dd'
 ·have := (Rep.lt diskR ho _ ha).1
  simp at hm
  omega
 ·have := (Rep.lt diskR ho _ hm).1
  omega
theorem SB.cells {a b cc dd : Value} (h : SB w0 S [a, b, cc, dd] x j W) : W.cell? ⟨S, 0, none⟩ = some a ∧ W.cell? ⟨S, 1, none⟩ = some b ∧ W.cell? ⟨S, 2, none⟩ = some cc ∧ W.cell? ⟨S, 3, none⟩ = some dd :=
 ⟨var_cell h.box 0, var_cell h.box 1, var_cell h.box 2, var_cell h.box 3⟩
theorem SB.frz (h : SB w0 S cs x j W) (i : Nat) : W.frozen? ⟨S, i, none⟩ = false := var_frozen h.box i
end
def onward (d : Disk) (j : Jour) : Option Jour := if d.down = true then none else some j
theorem onward_yes {d : Disk} (j : Jour) (h : d.down = false) : onward d j = some j := by unfold onward; rw [h]; rfl
theorem onward_no {d : Disk} (j : Jour) (h : d.down = true) : onward d j = none := if_pos h
def RetS (w0 w : World) (S : Nat) (x : Disk) (oj : Option Jour) (e : Ending) (w' : World) : Prop :=
 Rep.Only w w' [S] ∧ ∃ cs j, SB w0 S cs x j w' ∧ ((oj = some j ∧ e = .returned (.tuple #[])) ∨ (oj = none ∧ e = .panicked panC))
set_option maxRecDepth 2000000 in
set_option maxHeartbeats 4000000 in
theorem write_any (w0 : World) (S : Nat) (cs : List Value) (x : Disk) (j : Jour) (n : Int) (A5 : Option Addr) (c5 : Nat) (bs : List UInt8) (w : World) (h : SB w0 S cs x j w) (hf : Fits x) (hn : (Lit.int .i64 n).wf = true) (hbr : byR.at_ w w.heap.size [.slice A5 bs.length c5] bs) (hfb : FitsB bs) :
  Calls Tryz.prog 130 #[.pointer (some ⟨S, 0, none⟩), .int .i64 n, .slice A5 bs.length c5] w (RetS w0 w S (writeSec x n bs) (onward (writeSec x n bs) j)) := by
 obtain ⟨A, c, B, e, rfl⟩ := h.shape
 obtain ⟨z0, z1, z2, z3⟩ := h.cells
 obtain ⟨y, hy⟩ : ∃ y, writeSec x n bs = y := ⟨_, rfl⟩
 rw [hy]
 have HY := Lib.hid hy
 clear hy
 go_enter Tryz.func130, Tryz.ntmps130
 go_wp2_with fail
 refine (writeSec_rep [.slice A x.secs.length c, .slice B x.cache.length e, .int .i64 x.fuse, .bool x.down] x n [.slice A5 bs.length c5] bs w h.at hbr hf hn hfb).mono ?_
 rw [HY.out]
 clear hbr z0 z1 z2 z3
 rintro e1 W1 ⟨cs1, fp1, rfl, O1, hb⟩
 obtain ⟨A1, c1, B1, f1, rfl⟩ := disk_own_shape O1
 have hS := h.lt
 have h2 := h.later hb
 obtain ⟨z0, z1, z2, z3⟩ := h2.cells
 have zf0 := h2.frz 0
 have zf1 := h2.frz 1
 have zf2 := h2.frz 2
 have zf3 := h2.frz 3
 have h3 := h2.putD O1 hS
 have ho3 := (Rep.only_of_below hb).mono (fp' := [S]) (by simp) |>.trans (putD_only W1 S (.slice A1 y.secs.length c1) (.slice B1 y.cache.length f1) (.int .i64 y.fuse) (.bool y.down))
 clear h h2 O1 hb
 go_upto_region 1 with (fail)
 generalize ((((W1.setCell ⟨S, 0, none⟩ (.slice A1 y.secs.length c1)).setCell ⟨S, 1, none⟩ (.slice B1 y.cache.length f1)).setCell ⟨S, 2, none⟩ (.int .i64 y.fuse)).setCell ⟨S, 3, none⟩ (.bool y.down)) = W2 at h3 ho3 ⊢
 clear z0 z1 z2 z3 zf0 zf1 zf2 zf3
 obtain ⟨z0, z1, z2, z3⟩ := h3.cells
 obtain ⟨dn, hdn⟩ : ∃ b, y.down = b := ⟨_, rfl⟩
 have HDN := Lib.hid hdn
 rw [hdn] at z3
 clear hdn
 cases dn
 ·go_wp2_with fail
  refine (must_yes _ W2).mono ?_
  rintro e2 W3 ⟨rfl, rfl⟩
  go_wp2_with fail
  go_end0
  exact ⟨ho3, _, j, h3, .inl ⟨onward_yes j HDN.out, rfl⟩⟩
 ·go_wp2_with fail
  refine (must_no _ W2).mono ?_
  rintro e2 W3 ⟨rfl, rfl⟩
  go_wp2_with fail
  exact ⟨rfl, ho3, _, j, h3, .inr ⟨onward_no j HDN.out, rfl⟩⟩
set_option maxRecDepth 2000000 in
set_option maxHeartbeats 4000000 in
theorem sync_any (w0 : World) (S : Nat) (cs : List Value) (x : Disk) (j : Jour) (w : World) (h : SB w0 S cs x j w) (hf : Fits x) :
  Calls Tryz.prog 89 #[.pointer (some ⟨S, 0, none⟩)] w (RetS w0 w S (syncDisk x) (onward (syncDisk x) j)) := by
 obtain ⟨A, c, B, e, rfl⟩ := h.shape
 obtain ⟨z0, z1, z2, z3⟩ := h.cells
 obtain ⟨y, hy⟩ : ∃ y, syncDisk x = y := ⟨_, rfl⟩
 rw [hy]
 have HY := Lib.hid hy
 clear hy
 go_enter Tryz.func89, Tryz.ntmps89
 go_wp2_with fail
 refine (syncDisk_rep [.slice A x.secs.length c, .slice B x.cache.length e, .int .i64 x.fuse, .bool x.down] x w h.at hf).mono ?_
 rw [HY.out]
 clear z0 z1 z2 z3
 rintro e1 W1 ⟨cs1, fp1, rfl, O1, hb⟩
 obtain ⟨A1, c1, B1, f1, rfl⟩ := disk_own_shape O1
 have hS := h.lt
 have h2 := h.later hb
 obtain ⟨z0, z1, z2, z3⟩ := h2.cells
 have zf0 := h2.frz 0
 have zf1 := h2.frz 1
 have zf2 := h2.frz 2
 have zf3 := h2.frz 3
 have h3 := h2.putD O1 hS
 have ho3 := (Rep.only_of_below hb).mono (fp' := [S]) (by simp) |>.trans (putD_only W1 S (.slice A1 y.secs.length c1) (.slice B1 y.cache.length f1) (.int .i64 y.fuse) (.bool y.down))
 clear h h2 O1 hb
 go_upto_region 1 with (fail)
 generalize ((((W1.setCell ⟨S, 0, none⟩ (.slice A1 y.secs.length c1)).setCell ⟨S, 1, none⟩ (.slice B1 y.cache.length f1)).setCell ⟨S, 2, none⟩ (.int .i64 y.fuse)).setCell ⟨S, 3, none⟩ (.bool y.down)) = W2 at h3 ho3 ⊢
 clear z0 z1 z2 z3 zf0 zf1 zf2 zf3
 obtain ⟨z0, z1, z2, z3⟩ := h3.cells
 obtain ⟨dn, hdn⟩ : ∃ b, y.down = b := ⟨_, rfl⟩
 have HDN := Lib.hid hdn
 rw [hdn] at z3
 clear hdn
 cases dn
 ·go_wp2_with fail
  refine (must_yes _ W2).mono ?_
  rintro e2 W3 ⟨rfl, rfl⟩
  go_wp2_with fail
  go_end0
  exact ⟨ho3, _, j, h3, .inl ⟨onward_yes j HDN.out, rfl⟩⟩
 ·go_wp2_with fail
  refine (must_no _ W2).mono ?_
  rintro e2 W3 ⟨rfl, rfl⟩
  go_wp2_with fail
  exact ⟨rfl, ho3, _, j, h3, .inr ⟨onward_no j HDN.out, rfl⟩⟩
theorem scr_cells {w : World} {S t : Nat} {a b cc dd : Value} {j : Jour} (h : w.heap[S]? = some (.cells ([a, b, cc, dd] ++ jourL j).toArray t (0, 0))) :
  w.cell? ⟨S, 4, none⟩ = some (.int .i64 j.k.gen) ∧ w.cell? ⟨S, 5, none⟩ = some (.string j.k.text) ∧ w.cell? ⟨S, 6, none⟩ = some (.int .i64 j.k.pGen) ∧ w.cell? ⟨S, 7, none⟩ = some (.string j.k.pText) ∧ w.cell? ⟨S, 8, none⟩ = some (.int .i64 j.k.epoch) ∧ w.cell? ⟨S, 9, none⟩ = some (.int .i64 j.k.owner) ∧ w.cell? ⟨S, 10, none⟩ = some (.int .i64 j.g) ∧ w.cell? ⟨S, 11, none⟩ = some (.int .i64 j.place) :=
 ⟨var_cell h 4, var_cell h 5, var_cell h 6, var_cell h 7, var_cell h 8, var_cell h 9, var_cell h 10, var_cell h 11⟩
theorem LexW.nilP {P : Program} {ops : Array Oper} {Q : Exit → Act → World → Prop} {S : World → Prop} {z : Nat} {a : Act} {w : World} (h : Q .normal a w) : LexW P ops Q S z [] a w := h
theorem RetS.cases {w0 w w' : World} {S : Nat} {x : Disk} {oj : Option Jour} {e : Ending} (h : RetS w0 w S x oj e w') : Rep.Only w w' [S] ∧ ((∃ cs j, oj = some j ∧ e = .returned (.tuple #[]) ∧ SB w0 S cs x j w') ∨ (∃ cs j, oj = none ∧ e = .panicked panC ∧ SB w0 S cs x j w')) := by
 obtain ⟨h1, cs, j, h2, h3⟩ := h
 refine ⟨h1, ?_⟩
 rcases h3 with ⟨h3, h4⟩ | ⟨h3, h4⟩
 ·exact .inl ⟨cs, j, h3, h4, h2⟩
 ·exact .inr ⟨cs, j, h3, h4, h2⟩
set_option maxRecDepth 2000000 in
set_option maxHeartbeats 8000000 in
theorem put_any (w0 : World) (S : Nat) (cs : List Value) (x : Disk) (j : Jour) (r : Rec) (w : World) (h : SB w0 S cs x j w) (hf : Fits x) (hg : Given w0) (hg0 : 1 ≤ j.g ∧ j.g ≤ 60000) (hp0 : 0 ≤ j.place ∧ j.place ≤ 17) (hs : r.text.size ≤ 1048576) :
  Calls Tryz.prog 88 #[.pointer (some ⟨S, 0, none⟩), .agg (recC r).toArray] w (RetS w0 w S (writeSec x (atP j.g j.place) (putR j.g j.place r)) (onward (writeSec x (atP j.g j.place) (putR j.g j.place r)) ⟨j.k, j.g, j.place + 1⟩)) := by
 obtain ⟨A, c, B, e, rfl⟩ := h.shape
 obtain ⟨k, g, p⟩ := j
 obtain ⟨rk, rn, ro, rt⟩ := r
 replace hg0 : 1 ≤ g ∧ g ≤ 60000 := hg0
 replace hp0 : 0 ≤ p ∧ p ≤ 17 := hp0
 have hpl := putR_len g p ⟨rk, rn, ro, rt⟩
 show Calls Tryz.prog 88 #[.pointer (some ⟨S, 0, none⟩), .agg #[.int .i64 rk, .int .i64 rn, .int .i64 ro, .string rt]] w (RetS w0 w S (writeSec x (atP g p) (putR g p ⟨rk, rn, ro, rt⟩)) (onward (writeSec x (atP g p) (putR g p ⟨rk, rn, ro, rt⟩)) ⟨k, g, p + 1⟩))
 obtain ⟨l3, hl3⟩ : ∃ l, putR g p ⟨rk, rn, ro, rt⟩ = l := ⟨_, rfl⟩
 rw [hl3] at hpl ⊢
 have HL3 := Lib.hid hl3
 obtain ⟨y, hy⟩ : ∃ y, writeSec x (atP g p) l3 = y := ⟨_, rfl⟩
 rw [hy]
 have HY := Lib.hid hy
 have hSl := h.lt
 have P : All (fun w' => SB w0 S [.slice A x.secs.length c, .slice B x.cache.length e, .int .i64 x.fuse, .bool x.down] x ⟨k, g, p⟩ w' ∧ Rep.Only w w' [S] ∧ w'.heap[w.heap.size]? = some (.cells (recC ⟨rk, rn, ro, rt⟩).toArray 29 (0, 0))) (w.alloc (.cells #[.int .i64 rk, .int .i64 rn, .int .i64 ro, .string rt] 29)) :=
  ⟨h.later (Later.alloc w _), (Rep.only_alloc w _).mono (by simp), heap_alloc_new w _⟩
 clear h hy hl3
 go_enter Tryz.func88, Tryz.ntmps88
 go_upto_region 1 with (fail)
 generalize w.alloc (.cells #[.int .i64 rk, .int .i64 rn, .int .i64 ro, .string rt] 29) = W1 at P ⊢
 obtain ⟨P1, P2, P3⟩ := P.out
 clear P
 refine wp_region_lex' 100 [0, 1, 2, 3, 4, 5, 6, 7, 8, 9] [10, 11] (fun w' => w'.heap[S]? = some (.cells (([.slice A x.secs.length c, .slice B x.cache.length e, .int .i64 x.fuse, .bool x.down] : List Value) ++ jourL ⟨k, g, p⟩).toArray 72 (0, 0))) (by kernel_rfl) (by kernel_rfl) P1.box ?_
 replace P1 := P1.later (Later.drew W1)
 replace P2 := P2.trans ((Rep.only_drew W1).mono (fp' := [S]) (by simp))
 replace P3 := ((Later.drew W1).block _ (Array.getElem?_eq_some_iff.1 P3).1).trans P3
 iterate 10 (refine LexR.cons rfl ?_ (fun w' hw => ?_) ?_; rotate_left; focus (obtain ⟨_, _, _, _, _, _, c10, c11⟩ := scr_cells (j := ⟨k, g, p⟩) hw; clear hw; go_simp; (try exact rfl)); (try go_frame))
 refine LexR.nil (LexW.cons rfl ?_)
 try go_frame
 generalize W1.drew = W2 at P1 P2 P3 ⊢
 go_wp2_with fail
 refine ⟨by first | exact P1.box | exact fun _ => P1.box, LexW.cons rfl ?_⟩
 try go_frame
 go_wp2_with fail
 refine ⟨by first | exact P1.box | exact fun _ => P1.box, LexW.nil ?_⟩
 go_wp2_with fail
 refine wp_region_lex 100 [0, 1, 2, 4, 5, 6] [3, 7, 8] (fun w' => w'.heap[w.heap.size]? = some (.cells (recC ⟨rk, rn, ro, rt⟩).toArray 29 (0, 0))) (by kernel_rfl) (by kernel_rfl) (by intro c a d v w h; cases d <;> exact h) P3 ?_
 replace P1 := P1.later (Later.drew W2)
 replace P2 := P2.trans ((Rep.only_drew W2).mono (fp' := [S]) (by simp))
 replace P3 := ((Later.drew W2).block _ (Array.getElem?_eq_some_iff.1 P3).1).trans P3
 iterate 6 (refine LexR.cons rfl ?_ (fun w' hw => ?_) ?_; rotate_left; focus (obtain ⟨e0, e1, e2, e3⟩ := rec_box (r := ⟨rk, rn, ro, rt⟩) hw; clear hw; go_simp; (try exact rfl)); (try go_frame))
 refine LexR.nil (LexW.cons rfl ?_)
 try go_frame
 generalize W2.drew = W3 at P1 P2 P3 ⊢
 go_wp2_with fail
 refine (recSec_any g p W3 (by omega) (by omega)).mono ?_
 rintro e1 V1 ⟨rfl, rfl⟩
 go_wp2_with fail
 refine ⟨by first | exact P3 | exact fun _ => P3, LexW.cons rfl ?_⟩
 try go_frame
 go_wp2_with fail
 refine (putRI_any g p ⟨rk, rn, ro, rt⟩ W3 (P1.given hg) hs).mono ?_
 rw [HL3.out]
 rintro e3 V2 ⟨v2, rfl, o2, hb⟩
 obtain ⟨A5, c5, rfl, hk5, hm5, r5, _⟩ := o2.shape
 replace P1 := P1.later hb
 replace P2 := P2.trans ((Rep.only_of_below hb).mono (fp' := [S]) (by simp))
 replace P3 := (hb.block _ (Array.getElem?_eq_some_iff.1 P3).1).trans P3
 clear hb o2
 go_wp2_with fail
 refine ⟨by first | exact P3 | exact fun _ => P3, LexW.cons rfl ?_⟩
 try go_frame
 go_wp2_with fail
 refine (write_any w0 S _ x ⟨k, g, p⟩ (atP g p) A5 c5 l3 V2 P1 hf (atP_wf (by omega) (by omega) (by omega) (by omega)) ⟨A5, c5, rfl, ⟨hk5, hm5⟩, r5⟩ (by show l3.length ≤ 1048576; omega)).mono ?_
 rw [HY.out]
 rintro e4 V3 hret
 obtain ⟨ho, hc⟩ := hret.cases
 have P3' := (ho.block _ (Array.getElem?_eq_some_iff.1 P3).1 (by simp; omega)).trans P3
 replace P2 := P2.trans ho
 clear hret ho P1 P3 r5
 rcases hc with ⟨cs2, j2, hoj, rfl, Q⟩ | ⟨cs2, j2, hoj, rfl, Q⟩
 ·have hdn : y.down = false := by cases hd : y.down with | false => rfl | true => rw [onward_no _ hd] at hoj; cases hoj
  rw [onward_yes _ hdn] at hoj
  injection hoj with hoj
  subst hoj
  have HDN := Lib.hid hdn
  obtain ⟨A6, c6, B6, e6, rfl⟩ := Q.shape
  clear hdn
  go_wp2_with fail
  refine ⟨by first | exact P3' | exact fun _ => P3', LexW.nilP ?_⟩
  obtain ⟨_, _, _, _, _, _, c10, c11⟩ := scr_cells (j := ⟨k, g, p⟩) Q.box
  have zf := Q.frz 11
  have Q2 := Q.put (j' := ⟨k, g, p + 1⟩) (Rep.Only.setCell V3 (p := ⟨S, 11, none⟩) (by simp) (.int .i64 (p + 1))) (var_set Q.box 11 (.int .i64 (p + 1)))
  have P4 := P2.trans (Rep.Only.setCell V3 (fp := [S]) (p := ⟨S, 11, none⟩) (by simp) (.int .i64 (p + 1)))
  clear P2 P3' Q
  go_wp2_with fail
  go_end0
  exact ⟨P4, _, _, Q2, .inl ⟨onward_yes _ HDN.out, rfl⟩⟩
 ·have hdn : y.down = true := by cases hd : y.down with | true => rfl | false => rw [onward_yes _ hd] at hoj; cases hoj
  have HDN := Lib.hid hdn
  clear hdn
  go_wp2_with fail
  exact ⟨rfl, P2, _, _, Q, .inr ⟨onward_no _ HDN.out, rfl⟩⟩
theorem must_any (p : Value) (b : Bool) (w : World) : Calls Tryz.prog 86 #[p, .bool b] w fun e w' => w = w' ∧ ((b = true ∧ e = .returned (.tuple #[])) ∨ (b = false ∧ e = .panicked panC)) := by
 cases b
 ·exact (must_no p w).mono fun e w' h => ⟨h.2, .inr ⟨rfl, h.1⟩⟩
 ·exact (must_yes p w).mono fun e w' h => ⟨h.2, .inl ⟨rfl, h.1⟩⟩
theorem write_dn {d : Disk} (h : d.down = true) (s : Int) (b : List UInt8) : writeSec d s b = d := writeSec_no (fun h9 => by have := h9.2.1; rw [h] at this; cases this)
theorem sync_dn {d : Disk} (h : d.down = true) : syncDisk d = d := syncDisk_no (fun h9 => by have := h9.2; rw [h] at this; cases this)
theorem layTo_dn {d : Disk} {g : Int} {xs : List Rec} {i : Nat} (h : (layTo d g xs i).down = true) : ∀ n, layTo d g xs (i + n) = layTo d g xs i := by
 intro n
 induction n with
 | zero => rfl
 | succ n ih =>
  rcases hx : xs[i + n]? with _ | r
  ·show (match xs[i + n]? with | some r => _ | none => _) = _
   rw [hx]
   exact ih
  ·rw [← Nat.add_assoc, layTo_go hx, ih, write_dn h]
theorem layP_dn {d : Disk} {j : Jour} {i : Nat} (hi : i ≤ (recsL j.k).length) (h : (layTo d (j.g + 1) (recsL j.k) i).down = true) : layP d j = layTo d (j.g + 1) (recsL j.k) i := by
 have e := layTo_dn h ((recsL j.k).length - i)
 rw [show i + ((recsL j.k).length - i) = (recsL j.k).length by omega] at e
 unfold layP
 rw [e, sync_dn h, write_dn h, sync_dn h]
theorem layP_dn2 {d : Disk} {j : Jour} (h : (syncDisk (layTo d (j.g + 1) (recsL j.k) (recsL j.k).length)).down = true) : layP d j = syncDisk (layTo d (j.g + 1) (recsL j.k) (recsL j.k).length) := by
 unfold layP
 rw [write_dn h, sync_dn h]
theorem layP_dn3 {d : Disk} {j : Jour} (h : (writeSec (syncDisk (layTo d (j.g + 1) (recsL j.k) (recsL j.k).length)) ((j.g + 1) % 2) (headL (j.g + 1) ((recsL j.k).length : Int))).down = true) : layP d j = writeSec (syncDisk (layTo d (j.g + 1) (recsL j.k) (recsL j.k).length)) ((j.g + 1) % 2) (headL (j.g + 1) ((recsL j.k).length : Int)) := by
 unfold layP
 rw [sync_dn h]
structure SG (w0 w : World) (S : Nat) (A : Option Addr) (c : Nat) (xs : List Rec) (cs : List Value) (x : Disk) (j : Jour) (W : World) : Prop where
 sb : SB w0 S cs x j W
 only : Rep.Only w W [S]
 recs : W.ownsRow w.heap.size 29 4 (.slice A xs.length c) xs.length (flatR xs)
section
variable {w0 w W W' : World} {S : Nat} {A : Option Addr} {c : Nat} {xs : List Rec} {cs cs' : List Value} {x x' : Disk} {j j' : Jour}
theorem SG.step (h : SG w0 w S A c xs cs x j W) (ho : Rep.Only W W' [S]) (hs : SB w0 S cs' x' j' W') (hS : S < w.heap.size) : SG w0 w S A c xs cs' x' j' W' :=
 ⟨hs, h.only.trans ho, Rep.ownsRow_block h.recs (fun k hk => ho.block k (h.recs.lt k (by simpa using hk)).2 (by have := (h.recs.lt k (by simpa using hk)).1; simp; omega))⟩
theorem SG.later (h : SG w0 w S A c xs cs x j W) (hb : Below W.heap.size W W') (hS : S < w.heap.size) : SG w0 w S A c xs cs x j W' := h.step ((Rep.only_of_below hb).mono (by simp)) (h.sb.later hb) hS
end
set_option maxRecDepth 2000000 in
set_option maxHeartbeats 4000000 in
theorem startGen_full (w0 : World) (S : Nat) (cs : List Value) (x : Disk) (j : Jour) (w : World) (h : SB w0 S cs x j w) (hg0 : j.g = 60000) :
  Calls Tryz.prog 87 #[.pointer (some ⟨S, 0, none⟩)] w (RetS w0 w S x none) := by
 obtain ⟨A, c, B, e, rfl⟩ := h.shape
 obtain ⟨k, g, p⟩ := j
 replace hg0 : g = 60000 := hg0
 subst hg0
 obtain ⟨_, _, _, _, _, _, c10, c11⟩ := scr_cells (j := ⟨k, 60000, p⟩) h.box
 go_enter Tryz.func87, Tryz.ntmps87
 go_wp2_with fail
 refine (must_any _ _ w).mono ?_
 rintro e1 W1 ⟨rfl, hc⟩
 rcases hc with ⟨hc, rfl⟩ | ⟨hc, rfl⟩
 ·simp at hc
 ·clear hc
  go_wp2_with fail
  exact ⟨rfl, Rep.Only.refl _ _, _, _, h, .inr ⟨rfl, rfl⟩⟩
set_option maxRecDepth 2000000 in
set_option maxHeartbeats 8000000 in
theorem startGen_any (w0 : World) (S : Nat) (cs : List Value) (x : Disk) (j : Jour) (w : World) (h : SB w0 S cs x j w) (hf : Fits x) (hg : Given w0) (hg0 : 0 ≤ j.g ∧ j.g ≤ 59999) (hrs : ∀ r, r ∈ recsL j.k → r.text.size ≤ 1048576) :
  Calls Tryz.prog 87 #[.pointer (some ⟨S, 0, none⟩)] w (RetS w0 w S (layP x j) (onward (layP x j) ⟨j.k, j.g + 1, ((recsL j.k).length : Int)⟩)) := by
 obtain ⟨A, c, B, e, rfl⟩ := h.shape
 obtain ⟨⟨ka, kb, kp, kq, ke, kf⟩, g, p⟩ := j
 obtain ⟨hg1, hg2⟩ := hg0
 replace hg1 : 0 ≤ g := hg1
 replace hg2 : g ≤ 59999 := hg2
 have hSw := h.lt
 obtain ⟨y, hy⟩ : ∃ y, layP x ⟨⟨ka, kb, kp, kq, ke, kf⟩, g, p⟩ = y := ⟨_, rfl⟩
 obtain ⟨xs, hxs⟩ : ∃ xs, recsL ⟨ka, kb, kp, kq, ke, kf⟩ = xs := ⟨_, rfl⟩
 have hxl : xs.length ≤ 4 := by rw [← hxs]; exact recsL_len _
 have HSM := Lib.hid (show ∀ r, r ∈ xs → r.text.size ≤ 1048576 by rw [← hxs]; exact hrs)
 have HL1 := Lib.hid (show ∀ i, i ≤ xs.length → (layTo x (g + 1) xs i).down = true → y = layTo x (g + 1) xs i by
  intro i hi hd; rw [← hy]; rw [← hxs] at hi hd ⊢; exact layP_dn (j := ⟨⟨ka, kb, kp, kq, ke, kf⟩, g, p⟩) hi hd)
 have HL2 := Lib.hid (show (syncDisk (layTo x (g + 1) xs xs.length)).down = true → y = syncDisk (layTo x (g + 1) xs xs.length) by
  intro hd; rw [← hy]; rw [← hxs] at hd ⊢; exact layP_dn2 (j := ⟨⟨ka, kb, kp, kq, ke, kf⟩, g, p⟩) hd)
 have HL3 := Lib.hid (show (writeSec (syncDisk (layTo x (g + 1) xs xs.length)) ((g + 1) % 2) (headL (g + 1) (xs.length : Int))).down = true → y = writeSec (syncDisk (layTo x (g + 1) xs xs.length)) ((g + 1) % 2) (headL (g + 1) (xs.length : Int)) by
  intro hd; rw [← hy]; rw [← hxs] at hd ⊢; exact layP_dn3 (j := ⟨⟨ka, kb, kp, kq, ke, kf⟩, g, p⟩) hd)
 have HL4 := Lib.hid (show y = syncDisk (writeSec (syncDisk (layTo x (g + 1) xs xs.length)) ((g + 1) % 2) (headL (g + 1) (xs.length : Int))) by
  rw [← hy, ← hxs]; rfl)
 show Calls Tryz.prog 87 #[.pointer (some ⟨S, 0, none⟩)] w (RetS w0 w S (layP x ⟨⟨ka, kb, kp, kq, ke, kf⟩, g, p⟩) (onward (layP x ⟨⟨ka, kb, kp, kq, ke, kf⟩, g, p⟩) ⟨⟨ka, kb, kp, kq, ke, kf⟩, g + 1, ((recsL ⟨ka, kb, kp, kq, ke, kf⟩).length : Int)⟩))
 rw [hy, hxs]
 have HXS := Lib.hid hxs
 clear hy hxs hrs
 obtain ⟨_, _, _, _, _, _, c10, c11⟩ := scr_cells (j := ⟨⟨ka, kb, kp, kq, ke, kf⟩, g, p⟩) h.box
 go_enter Tryz.func87, Tryz.ntmps87
 go_wp2_with fail
 refine (must_any _ _ w).mono ?_
 rintro e1 W1 ⟨rfl, hc⟩
 rcases hc with ⟨hc, rfl⟩ | ⟨hc, rfl⟩
 rotate_left
 ·exfalso
  simp at hc
  omega
 clear hc
 have zf10 := h.frz 10
 have zf11 := h.frz 11
 have h1 := h.put (j' := ⟨⟨ka, kb, kp, kq, ke, kf⟩, g + 1, p⟩) (Rep.Only.setCell w (p := ⟨S, 10, none⟩) (by simp) (.int .i64 (g + 1))) (var_set h.box 10 (.int .i64 (g + 1)))
 have h2 := h1.put (j' := ⟨⟨ka, kb, kp, kq, ke, kf⟩, g + 1, 0⟩) (Rep.Only.setCell _ (p := ⟨S, 11, none⟩) (by simp) (.int .i64 0)) (var_set h1.box 11 (.int .i64 0))
 have ho := (Rep.Only.setCell w (fp := [S]) (p := ⟨S, 10, none⟩) (by simp) (.int .i64 (g + 1))).trans (Rep.Only.setCell _ (p := ⟨S, 11, none⟩) (by simp) (.int .i64 0))
 clear h h1
 go_upto_region 3 with (fail)
 generalize (w.setCell ⟨S, 10, none⟩ (.int .i64 (g + 1))).setCell ⟨S, 11, none⟩ (.int .i64 0) = W1 at h2 ho ⊢
 clear c10 c11 zf10 zf11
 obtain ⟨c4, c5, c6, c7, c8, c9, _, _⟩ := scr_cells (j := ⟨⟨ka, kb, kp, kq, ke, kf⟩, g + 1, 0⟩) h2.box
 go_wp2_with fail
 refine (recsOfI_any ⟨ka, kb, kp, kq, ke, kf⟩ W1).mono ?_
 rw [HXS.out]
 clear c4 c5 c6 c7 c8 c9
 rintro e1 W2 ⟨A1, c1, rfl, o1, hb⟩
 have L : SG w0 w S A1 c1 xs [.slice A x.secs.length c, .slice B x.cache.length e, .int .i64 x.fuse, .bool x.down] x ⟨⟨ka, kb, kp, kq, ke, kf⟩, g + 1, 0⟩ W2 := ⟨h2.later hb, ho.trans ((Rep.only_of_below hb).mono (by simp)), ownsRow_mono o1 ho.size⟩
 clear h2 ho o1 hb
 go_wp2_with fail
 go_loopw [32] (fun i wr => ∃ (k : Nat) (cs : List Value), k ≤ xs.length ∧ i = .int .i64 k ∧ SG w0 w S A1 c1 xs cs (layTo x (g + 1) xs k) ⟨⟨ka, kb, kp, kq, ke, kf⟩, g + 1, k⟩ wr) (fun i _ => xs.length - (intOf i).toNat)
 case atStart => exact ⟨0, _, by omega, rfl, L⟩
 case round =>
  clear L
  obtain ⟨k, cs, hk, rfl, L⟩ := hrel
  by_cases hlt : k < xs.length
  ·obtain ⟨bb, off, ⟨rk, rn, ro, rt⟩, rfl, hbl, hx, c0, c1', c2, c3⟩ := recs_elem (Reads.of_own L.recs) hlt
   have HX := Lib.hid hx
   have HSZ := Lib.hid (show rt.size ≤ 1048576 from HSM.out _ (List.mem_of_getElem? hx))
   clear hx
   have i1 : (0 : Int) ≤ (k : Int) := by omega
   have i2 : (k : Int) < (xs.length : Int) := by omega
   have HE := heap_alloc_new wr (.cells #[.int .i64 rk, .int .i64 rn, .int .i64 ro, .string rt] 29)
   have L2 := L.later (Later.alloc wr (.cells #[.int .i64 rk, .int .i64 rn, .int .i64 ro, .string rt] 29)) hSw
   go_upto_region 6 with (fail)
   clear c0 c1' c2 c3 hbl L
   generalize wr.alloc (.cells #[.int .i64 rk, .int .i64 rn, .int .i64 ro, .string rt] 29) = W5 at HE L2 ⊢
   generalize wr.heap.size = E at HE ⊢
   obtain ⟨e0, e1, e2, e3⟩ := rec_box (r := ⟨rk, rn, ro, rt⟩) HE
   go_wp2_with fail
   have hfits := fits_layTo hf (g + 1) xs k
   refine (put_any w0 S cs (layTo x (g + 1) xs k) ⟨⟨ka, kb, kp, kq, ke, kf⟩, g + 1, k⟩ ⟨rk, rn, ro, rt⟩ W5 L2.sb hfits hg ⟨by show 1 ≤ g + 1; omega, by show g + 1 ≤ 60000; omega⟩ ⟨by show (0 : Int) ≤ (k : Int); omega, by show (k : Int) ≤ 17; omega⟩ HSZ.out).mono ?_
   rw [show writeSec (layTo x (g + 1) xs k) (atP (Jour.g ⟨⟨ka, kb, kp, kq, ke, kf⟩, g + 1, (k : Int)⟩) (Jour.place ⟨⟨ka, kb, kp, kq, ke, kf⟩, g + 1, (k : Int)⟩)) (putR (Jour.g ⟨⟨ka, kb, kp, kq, ke, kf⟩, g + 1, (k : Int)⟩) (Jour.place ⟨⟨ka, kb, kp, kq, ke, kf⟩, g + 1, (k : Int)⟩) ⟨rk, rn, ro, rt⟩) = layTo x (g + 1) xs (k + 1) from (layTo_go HX.out).symm]
   rintro e4 V3 hret
   obtain ⟨ho, hc⟩ := hret.cases
   clear hret hfits e0 e1 e2 e3 HE
   rcases hc with ⟨cs2, j2, hoj, rfl, Q⟩ | ⟨cs2, j2, hoj, rfl, Q⟩
   ·have hdn : (layTo x (g + 1) xs (k + 1)).down = false := by cases hd : (layTo x (g + 1) xs (k + 1)).down with | false => rfl | true => rw [onward_no _ hd] at hoj; cases hoj
    rw [onward_yes _ hdn] at hoj
    injection hoj with hoj
    subst hoj
    have L3 := L2.step ho Q hSw
    clear hdn Q ho L2
    go_wp2_with fail
    go_roundw
    case rel => exact ⟨k + 1, _, by omega, by go_num, L3⟩
    case measure => simp [intOf]; omega
   ·have hdn : (layTo x (g + 1) xs (k + 1)).down = true := by cases hd : (layTo x (g + 1) xs (k + 1)).down with | true => rfl | false => rw [onward_yes _ hd] at hoj; cases hoj
    have HQ := Lib.hid (HL1.out (k + 1) (by omega) hdn)
    have HDN := Lib.hid hdn
    have ho2 := L2.only.trans ho
    clear hdn hoj L2 ho
    go_wp2_with fail
    exact ⟨rfl, ho2, _, _, by rw [HQ.out]; exact Q, .inr ⟨onward_no _ (by rw [HQ.out]; exact HDN.out), rfl⟩⟩
  ·have he : k = xs.length := by omega
   subst he
   clear hlt hk
   have HFL := Lib.hid (fits_layTo hf (g + 1) xs xs.length)
   go_wp2_with fail
   refine (sync_any w0 S cs (layTo x (g + 1) xs xs.length) _ wr L.sb HFL.out).mono ?_
   obtain ⟨y1, hy1⟩ : ∃ y1, syncDisk (layTo x (g + 1) xs xs.length) = y1 := ⟨_, rfl⟩
   have HF1 := Lib.hid (show Fits y1 by rw [← hy1]; exact fits_syncDisk HFL.out)
   rw [hy1]
   have HY1 := Lib.hid hy1
   clear hy1
   rintro e4 V3 hret
   obtain ⟨ho, hc⟩ := hret.cases
   clear hret
   rcases hc with ⟨cs2, j2, hoj, rfl, Q⟩ | ⟨cs2, j2, hoj, rfl, Q⟩
   rotate_left
   ·have hdn : y1.down = true := by cases hd : y1.down with | true => rfl | false => rw [onward_yes _ hd] at hoj; cases hoj
    have HQ := Lib.hid (show y = y1 by have := HL2.out (by rw [HY1.out]; exact hdn); rw [HY1.out] at this; exact this)
    have HDN := Lib.hid hdn
    have ho2 := L.only.trans ho
    clear hdn hoj L ho
    go_wp2_with fail
    exact ⟨rfl, ho2, _, _, by rw [HQ.out]; exact Q, .inr ⟨onward_no _ (by rw [HQ.out]; exact HDN.out), rfl⟩⟩
   have hdn : y1.down = false := by cases hd : y1.down with | false => rfl | true => rw [onward_no _ hd] at hoj; cases hoj
   rw [onward_yes _ hdn] at hoj
   injection hoj with hoj
   subst hoj
   have L3 := L.step ho Q hSw
   clear hdn Q ho L
   obtain ⟨A2, c2, B2, e2, rfl⟩ := L3.sb.shape
   go_wp2_with fail
   have T : All (fun w' => SG w0 w S A1 c1 xs [.slice A2 y1.secs.length c2, .slice B2 y1.cache.length e2, .int .i64 y1.fuse, .bool y1.down] y1 ⟨⟨ka, kb, kp, kq, ke, kf⟩, g + 1, xs.length⟩ w') V3 := ⟨L3⟩
   clear L3
   refine wp_region_lex 100 [0, 1, 2, 3, 4, 5, 7, 8, 9, 10, 11, 12, 13, 14, 15, 16] [6, 17, 18] (fun w' => w'.cell? ⟨S, 10, none⟩ = some (.int .i64 (g + 1)) ∧ w'.cell? ⟨S, 11, none⟩ = some (.int .i64 (xs.length : Int))) (by kernel_rfl) (by kernel_rfl) (by intro c a d v w h; cases d <;> exact h) ⟨(scr_cells T.out.sb.box).2.2.2.2.2.2.1, (scr_cells T.out.sb.box).2.2.2.2.2.2.2⟩ ?_
   have T2 : All (fun w' => SG w0 w S A1 c1 xs [.slice A2 y1.secs.length c2, .slice B2 y1.cache.length e2, .int .i64 y1.fuse, .bool y1.down] y1 ⟨⟨ka, kb, kp, kq, ke, kf⟩, g + 1, xs.length⟩ w') V3.drew := ⟨T.out.later (Later.drew V3) hSw⟩
   clear T
   iterate 16 (refine LexR.cons rfl ?_ (fun w' hw => ?_) ?_; rotate_left; focus (obtain ⟨c10, c11⟩ := hw; go_simp; (try exact rfl)); (try go_frame))
   refine LexR.nil (LexW.cons rfl ?_)
   try go_frame
   generalize V3.drew = V4 at T2 ⊢
   go_wp2_with fail
   refine (headSec_any (g + 1) V4 (by omega) (by omega)).mono ?_
   rintro e5 V5 ⟨rfl, rfl⟩
   go_wp2_with fail
   refine ⟨by first | exact ⟨(scr_cells T2.out.sb.box).2.2.2.2.2.2.1, (scr_cells T2.out.sb.box).2.2.2.2.2.2.2⟩ | exact fun _ => ⟨(scr_cells T2.out.sb.box).2.2.2.2.2.2.1, (scr_cells T2.out.sb.box).2.2.2.2.2.2.2⟩, LexW.cons rfl ?_⟩
   try go_frame
   go_wp2_with fail
   have hhl := headL_len (g + 1) (xs.length : Int)
   refine (headOf_any (g + 1) (xs.length : Int) V4).mono ?_
   obtain ⟨l3, hl3⟩ : ∃ l, headL (g + 1) (xs.length : Int) = l := ⟨_, rfl⟩
   rw [hl3] at hhl ⊢
   have HLL := Lib.hid hl3
   clear hl3
   rintro e3 V5 ⟨v2, rfl, o2, hb⟩
   obtain ⟨A5, c5, rfl, hk5, hm5, r5, _⟩ := o2.shape
   have T3 : All (fun w' => SG w0 w S A1 c1 xs [.slice A2 y1.secs.length c2, .slice B2 y1.cache.length e2, .int .i64 y1.fuse, .bool y1.down] y1 ⟨⟨ka, kb, kp, kq, ke, kf⟩, g + 1, xs.length⟩ w') V5 := ⟨T2.out.later hb hSw⟩
   clear T2 hb o2
   go_wp2_with fail
   refine ⟨by first | exact ⟨(scr_cells T3.out.sb.box).2.2.2.2.2.2.1, (scr_cells T3.out.sb.box).2.2.2.2.2.2.2⟩ | exact fun _ => ⟨(scr_cells T3.out.sb.box).2.2.2.2.2.2.1, (scr_cells T3.out.sb.box).2.2.2.2.2.2.2⟩, LexW.cons rfl ?_⟩
   try go_frame
   go_wp2_with fail
   refine (write_any w0 S _ y1 _ ((g + 1) % 2) A5 c5 l3 V5 T3.out.sb HF1.out (WalkArith.wf_i64 (by omega)) ⟨A5, c5, rfl, ⟨hk5, hm5⟩, r5⟩ (by show l3.length ≤ 1048576; omega)).mono ?_
   obtain ⟨y2, hy2⟩ : ∃ y2, writeSec y1 ((g + 1) % 2) l3 = y2 := ⟨_, rfl⟩
   have HF2 := Lib.hid (show Fits y2 by rw [← hy2]; exact fits_writeSec HF1.out _ (by omega))
   rw [hy2]
   have HY2 := Lib.hid hy2
   clear hy2 r5
   rintro e4 V6 hret
   obtain ⟨ho, hc⟩ := hret.cases
   clear hret
   rcases hc with ⟨cs3, j3, hoj, rfl, Q⟩ | ⟨cs3, j3, hoj, rfl, Q⟩
   rotate_left
   ·have hdn : y2.down = true := by cases hd : y2.down with | true => rfl | false => rw [onward_yes _ hd] at hoj; cases hoj
    have HQ := Lib.hid (show y = y2 by have := HL3.out (by rw [HY1.out, HLL.out, HY2.out]; exact hdn); rw [HY1.out, HLL.out, HY2.out] at this; exact this)
    have HDN := Lib.hid hdn
    have ho2 := T3.out.only.trans ho
    clear hdn hoj T3 ho
    go_wp2_with fail
    exact ⟨rfl, ho2, _, _, by rw [HQ.out]; exact Q, .inr ⟨onward_no _ (by rw [HQ.out]; exact HDN.out), rfl⟩⟩
   have hdn : y2.down = false := by cases hd : y2.down with | false => rfl | true => rw [onward_no _ hd] at hoj; cases hoj
   rw [onward_yes _ hdn] at hoj
   injection hoj with hoj
   subst hoj
   have L4 := T3.out.step ho Q hSw
   clear hdn Q ho T3
   obtain ⟨A3, c3, B3, e3, rfl⟩ := L4.sb.shape
   go_wp2_with fail
   refine ⟨by first | exact ⟨(scr_cells L4.sb.box).2.2.2.2.2.2.1, (scr_cells L4.sb.box).2.2.2.2.2.2.2⟩ | exact fun _ => ⟨(scr_cells L4.sb.box).2.2.2.2.2.2.1, (scr_cells L4.sb.box).2.2.2.2.2.2.2⟩, LexW.nilP ?_⟩
   go_wp2_with fail
   refine (sync_any w0 S _ y2 _ V6 L4.sb HF2.out).mono ?_
   rw [show syncDisk y2 = y by rw [← HY2.out, ← HLL.out, ← HY1.out]; exact HL4.out.symm]
   rintro e4 V7 hret
   obtain ⟨ho, hc⟩ := hret.cases
   have ho2 := L4.only.trans ho
   clear hret ho L4
   rcases hc with ⟨cs4, j4, hoj, rfl, Q⟩ | ⟨cs4, j4, hoj, rfl, Q⟩
   ·have HOJ := Lib.hid hoj
    clear hoj
    go_wp2_with fail
    go_end0
    exact ⟨ho2, _, _, Q, .inl ⟨HOJ.out, rfl⟩⟩
   ·have hdn : y.down = true := by cases hd : y.down with | true => rfl | false => rw [onward_yes _ hd] at hoj; cases hoj
    have HDN := Lib.hid hdn
    clear hoj hdn
    go_wp2_with fail
    exact ⟨rfl, ho2, _, _, Q, .inr ⟨onward_no _ HDN.out, rfl⟩⟩
end Go.Proofs.YtoaaogacaibedaaGreatDoor
