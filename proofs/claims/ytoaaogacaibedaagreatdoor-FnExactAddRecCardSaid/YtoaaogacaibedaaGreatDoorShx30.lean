/- What the theorem needs, out of many texts. -/
import Derived.Test.YtoaaogacaibedaaGreatDoorShx4
import Derived.Test.YtoaaogacaibedaaGreatDoorShx17
import Derived.Test.YtoaaogacaibedaaGreatDoorShx27
import Derived.Test.YtoaaogacaibedaaGreatDoorShx29
import Derived.Test.YtoaaogacaibedaaGreatDoorShelf
namespace Go.Proofs.YtoaaogacaibedaaGreatDoor
open Go.RowKit
set_option maxRecDepth 100000
set_option linter.unusedVariables false
theorem sameB_any (A B : Option Addr) (c c' M M' : Nat) (a b : List UInt8) (w : World) (h : Reads w M 1 A a.length (bys a)) (h' : Reads w M' 1 B b.length (bys b)) :
  Calls Tryz.prog 135 #[.slice A a.length c, .slice B b.length c'] w fun e w' => e = .returned (.bool (a == b)) ∧ w = w' := by
 have h1 := string_run (P := Tryz.prog) (c := c) Tryz.underlying22 Tryz.underlying5 Tryz.underlying9 h
 have h2 := string_run (P := Tryz.prog) (c := c') Tryz.underlying22 Tryz.underlying5 Tryz.underlying9 h'
 refine (Tryz.bytes_Equal_strs _ _ _ _ w h1 h2).mono ?_
 rintro e w' ⟨rfl, rfl⟩
 exact ⟨by simp [Lib.toList_data], rfl⟩
set_option maxHeartbeats 1000000 in
theorem headOf_any (g n : Int) (w : World) : Calls Tryz.prog 54 #[.int .i64 g, .int .i64 n] w (RetOwn w (headL g n)) := by
 obtain ⟨b1, h1⟩ : ∃ b, inI g 1 60000 = b := ⟨_, rfl⟩
 obtain ⟨b2, h2⟩ : ∃ b, inI n 0 18 = b := ⟨_, rfl⟩
 unfold RetOwn
 cases b1
 ·rw [headL_no (.inl h1)]
  go_enter Tryz.func54, Tryz.ntmps54
  go_wp2_with (go_at_call 71; refine (within_b (by assumption) _).mono ?_; rintro e w' ⟨rfl, rfl⟩)
  go_ret
  exact ⟨_, rfl, own_empty w _ (Nat.le_refl _), Later.alloc w _⟩
 ·cases b2
  ·rw [headL_no (.inr h2)]
   go_enter Tryz.func54, Tryz.ntmps54
   go_wp2_with (go_at_call 71; refine (within_b (by assumption) _).mono ?_; rintro e w' ⟨rfl, rfl⟩)
   go_ret
   exact ⟨_, rfl, own_empty w _ (Nat.le_refl _), Later.alloc w _⟩
  ·rw [headL_yes h1 h2]
   go_enter Tryz.func54, Tryz.ntmps54
   go_wp2_with (go_at_call 71; refine (within_b (by assumption) _).mono ?_; rintro e w' ⟨rfl, rfl⟩)
   clear h1 h2
   have S : All (fun w' => Below w.heap.size w w') w := ⟨Later.refl w⟩
   refine (putWord_any none 0 g [] w Reads.none_ (by simp)).mono ?_
   rintro e W2 ⟨v2, rfl, o2, hb⟩
   replace S := S.later hb
   obtain ⟨A2, c2, rfl, _, _, r2, _⟩ := o2.shape
   clear hb o2
   go_wp2_with fail
   refine (putWord_any A2 c2 n _ W2 r2 (by simp [wordBytes])).mono ?_
   rintro e W3 ⟨v3, rfl, o3, hb⟩
   replace S := S.later hb
   obtain ⟨A3, c3, rfl, _, _, r3, _⟩ := o3.shape
   have L3 := Lib.hid (show ([] ++ wordBytes g ++ wordBytes n).length = 4 by simp [wordBytes])
   obtain ⟨l3, hl3⟩ : ∃ l3, [] ++ wordBytes g ++ wordBytes n = l3 := ⟨_, rfl⟩
   rw [hl3] at r3 L3 ⊢
   have HL3 := Lib.hid hl3
   clear hl3
   clear hb o3 r2
   go_wp2_with fail
   refine (sum_any A3 c3 l3 W3 r3 (by have := L3.out; omega)).mono ?_
   rintro e W4 ⟨rfl, rfl⟩
   go_wp2_with fail
   refine (putWord_any A3 c3 (crc l3) l3 W3 r3 (by have := L3.out; omega)).mono ?_
   rintro e W5 ⟨v5, rfl, o5, hb⟩
   go_wp2_with fail
   go_ret
   exact ⟨_, rfl, by unfold withSum headBody; rw [HL3.out]; exact ownsRow_mono o5 S.out.size, Later.trans S.out hb⟩
set_option maxHeartbeats 1000000 in
theorem getHead_any (A : Option Addr) (c : Nat) (l : List UInt8) (w : World) (h : Reads w w.heap.size 1 A l.length (bys l)) (hn : l.length ≤ 100000000) : Calls Tryz.prog 99 #[.slice A l.length c] w (RetHead w (getHeadP l)) := by
 obtain ⟨p, hp⟩ : ∃ p, getHeadP l = p := ⟨_, rfl⟩
 rw [hp]
 have HP := Lib.hid hp
 clear hp
 unfold RetHead
 by_cases hl : l.length = 6
 ·have hok0 : gwOk l 0 = true := by unfold gwOk; rw [hl]; rfl
  have hn0 : gwNext l 0 = 2 := by unfold gwNext; rw [hok0]; rfl
  have h6 : ((l.length : Int) != 6) = false := by rw [hl]; rfl
  have HL6 := Lib.hid hl
  clear hl
  go_enter Tryz.func99, Tryz.ntmps99
  go_wp2_with fail
  refine (getWord_any A c 0 l w h hn).mono ?_
  rw [hn0, hok0]
  rintro e W1 ⟨rfl, n1, rfl⟩
  go_wp2_with fail
  refine (getWord_any A c 2 l _ (h.drewN n1) hn).mono ?_
  rintro e W2 ⟨rfl, n2, rfl⟩
  have R2 := (h.drewN n1).drewN n2
  have B2 := belowD (belowD (Below.refl w.heap.size w) n1) n2
  generalize (w.drewN n1).drewN n2 = W2 at R2 B2 ⊢
  clear hok0 hn0
  go_wp2_with fail
  refine (headOf_any (gwVal l 0) (gwVal l 2) W2).mono ?_
  rintro e W3 ⟨v3, rfl, o3, hb⟩
  obtain ⟨A3, c3, rfl, _, _, r3, _⟩ := o3.shape
  replace R2 := (R2.below (hb.mono (Nat.le_refl _) |>.mono B2.size)).more (Nat.le_trans B2.size hb.size)
  replace B2 := Later.trans B2 hb
  have HE := Lib.hid (show (headL (gwVal l 0) (gwVal l 2) == l) = true ↔ headL (gwVal l 0) (gwVal l 2) = l by simp)
  clear hb o3
  go_wp2_with fail
  refine (sameB_any A3 A c3 c _ _ _ l W3 r3 R2).mono ?_
  obtain ⟨y, hy⟩ : ∃ y, (headL (gwVal l 0) (gwVal l 2) == l) = y := ⟨_, rfl⟩
  rw [hy]
  have HY := Lib.hid hy
  clear hy
  rintro e W4 ⟨rfl, rfl⟩
  cases y
  ·have hq := getHeadP_no (l := l) (fun h9 => by have h8 := HE.out.2 h9.2; rw [HY.out] at h8; cases h8)
   rw [HP.out] at hq
   subst hq
   go_wp2_with fail
   go_ret3
   exact ⟨rfl, B2⟩
  ·have hq := getHeadP_yes HL6.out (HE.out.1 HY.out)
   rw [HP.out] at hq
   subst hq
   go_wp2_with fail
   go_ret3
   exact ⟨rfl, B2⟩
 ·have hq := getHeadP_no (l := l) (fun h9 => hl h9.1)
  rw [HP.out] at hq
  subst hq
  have h6 : ((l.length : Int) != 6) = true := by simp; omega
  clear hl
  go_enter Tryz.func99, Tryz.ntmps99
  go_wp2_with fail
  go_ret3
  exact ⟨rfl, Later.refl w⟩
theorem headSec_any (g : Int) (w : World) (g1 : 0 ≤ g) (g2 : g ≤ 1000000) : Calls Tryz.prog 53 #[.int .i64 g] w fun e w' => e = .returned (.int .i64 (g % 2)) ∧ w = w' := by
 have h0 : 0 ≤ g % 2 := by omega
 have h1 : g % 2 ≤ 1 := by omega
 have ht : g.tmod 2 = g % 2 := Int.tmod_eq_emod_of_nonneg g1
 go_enter Tryz.func53, Tryz.ntmps53
 go_wp2
 go_ret
 exact ⟨rfl, rfl⟩
noncomputable def jourAtP (d : Disk) (i : Nat) : Jour × Bool :=
 if (getHeadP (readSec d i)).2 = true ∧ (getHeadP (readSec d i)).1.1 % 2 = (i : Int)
 then (⟨(replayP d (getHeadP (readSec d i)).1.1).1, (getHeadP (readSec d i)).1.1, ((replayP d (getHeadP (readSec d i)).1.1).2 : Int)⟩, decide ((getHeadP (readSec d i)).1.2 ≤ ((replayP d (getHeadP (readSec d i)).1.1).2 : Int)))
 else (jourZero, false)
theorem jourAtP_no {d : Disk} {i : Nat} {x y : Int} {ok : Bool} (h : getHeadP (readSec d (i : Int)) = ((x, y), ok)) (hn : ¬ (ok = true ∧ x % 2 = (i : Int))) : jourAtP d i = (jourZero, false) := by
 unfold jourAtP
 rw [h]
 exact if_neg hn
theorem jourAtP_yes {d : Disk} {i : Nat} {x y : Int} {k : Known} {m : Nat} (h : getHeadP (readSec d (i : Int)) = ((x, y), true)) (hr : replayP d x = (k, m)) (h2 : x % 2 = (i : Int)) : jourAtP d i = (⟨k, x, m⟩, decide (y ≤ (m : Int))) := by
 unfold jourAtP
 rw [h, hr]
 exact if_pos ⟨rfl, h2⟩
theorem stepJ_at {d : Disk} {b j : Jour} {i : Nat} {yes : Bool} (h : jourAtP d i = (j, yes)) : stepJ d b i = if yes = true ∧ b.g < j.g then j else b := by
 obtain ⟨⟨⟨x, y⟩, ok⟩, hg⟩ : ∃ p, getHeadP (readSec d (i : Int)) = p := ⟨_, rfl⟩
 by_cases hc : ok = true ∧ x % 2 = (i : Int)
 ·obtain ⟨rfl, hx⟩ := hc
  obtain ⟨⟨k, m⟩, hr⟩ : ∃ p, replayP d x = p := ⟨_, rfl⟩
  rw [jourAtP_yes hg hr hx] at h
  obtain ⟨rfl, rfl⟩ := Prod.mk.inj h
  by_cases hy : y ≤ (m : Int) ∧ b.g < x
  ·rw [stepJ_yes hg hr hx hy.2 hy.1, if_pos ⟨by simpa using hy.1, hy.2⟩]
  ·rw [stepJ_no hg (fun h9 => hy ⟨by have := h9.2.2.2; rw [hr] at this; exact this, h9.2.2.1⟩), if_neg (fun h9 => hy ⟨by simpa using h9.1, h9.2⟩)]
 ·rw [jourAtP_no hg hc] at h
  obtain ⟨rfl, rfl⟩ := Prod.mk.inj h
  rw [stepJ_no hg (fun h9 => hc ⟨h9.1, h9.2.1⟩), if_neg (fun h9 => by cases h9.1)]
theorem RetJ.lit8i {w w' : World} {a : Int} {b : ByteArray} {p : Int} {q : ByteArray} {e f g m : Int} {y : Bool} {en : Ending} (h : RetJ w (⟨⟨a, b, p, q, e, f⟩, g, m⟩, y) en w') : en = .returned (.tuple #[.agg #[.int .i64 a, .string b, .int .i64 p, .string q, .int .i64 e, .int .i64 f, .int .i64 g, .int .i64 m], .bool y]) ∧ Below w.heap.size w w' := h
structure JQ (w : World) (cs : List Value) (W : World) : Prop where
 below : Below w.heap.size w W
 dbox : W.heap[w.heap.size]? = some (.cells cs.toArray 27 (0, 0))
 rbox : W.heap[w.heap.size + 1]? = some (.cells (jourL jourZero).toArray 37 (0, 0))
section
variable {w W W' : World} {cs : List Value}
theorem JQ.lt (h : JQ w cs W) : w.heap.size + 1 < W.heap.size := (Array.getElem?_eq_some_iff.1 h.rbox).1
theorem JQ.later (h : JQ w cs W) (hb : Below W.heap.size W W') : JQ w cs W' := by
 have hl := h.lt
 exact ⟨Later.trans h.below hb, (hb.block _ (by omega)).trans h.dbox, (hb.block _ hl).trans h.rbox⟩
theorem JQ.ret (h : JQ w cs W) (a : Int) (b : ByteArray) (p : Int) (q : ByteArray) (e f : Int) (g m : Int) : Below w.heap.size w ((((((((W.setCell ⟨w.heap.size + 1, 0, none⟩ (.int .i64 a)).setCell ⟨w.heap.size + 1, 1, none⟩ (.string b)).setCell ⟨w.heap.size + 1, 2, none⟩ (.int .i64 p)).setCell ⟨w.heap.size + 1, 3, none⟩ (.string q)).setCell ⟨w.heap.size + 1, 4, none⟩ (.int .i64 e)).setCell ⟨w.heap.size + 1, 5, none⟩ (.int .i64 f)).setCell ⟨w.heap.size + 1, 6, none⟩ (.int .i64 g)).setCell ⟨w.heap.size + 1, 7, none⟩ (.int .i64 m)) :=
 Rep.Only.below h.below (putJ_only W (w.heap.size + 1) a b p q e f g m) h.below.size (fun a ha => by simp at ha; omega)
end
set_option maxRecDepth 2000000 in
set_option maxHeartbeats 8000000 in
theorem jourAt_any (cs : List Value) (d : Disk) (j : Nat) (w : World) (h : diskR.at_ w w.heap.size cs d) (hf : Fits d) (hj : j < 2) (hg : Given w) :
  Calls Tryz.prog 46 #[.agg cs.toArray, .int .i64 j] w (RetJ w (jourAtP d j)) := by
 obtain ⟨A, c, B, e, rfl⟩ := disk_at_shape h
 have HD := Lib.hid h
 have HG := Lib.hid hg
 have P0 : JQ w [.slice A d.secs.length c, .slice B d.cache.length e, .int .i64 d.fuse, .bool d.down] ((w.alloc (.cells #[.slice A d.secs.length c, .slice B d.cache.length e, .int .i64 d.fuse, .bool d.down] 27)).alloc (.cells #[.int .i64 0, .string ⟨#[]⟩, .int .i64 0, .string ⟨#[]⟩, .int .i64 0, .int .i64 0, .int .i64 0, .int .i64 0] 37)) :=
  ⟨Later.trans (Later.alloc w _) (Later.alloc _ _), (Below.heap_alloc _ _ _ (by simp)).trans (heap_alloc_new w _), heap_alloc_new' _ _ (by simp)⟩
 clear h hg
 show Calls Tryz.prog 46 #[.agg #[.slice A d.secs.length c, .slice B d.cache.length e, .int .i64 d.fuse, .bool d.down], .int .i64 j] w _
 obtain ⟨⟨⟨⟨Ka, Kb, Kp, Kq, Ke, Kf⟩, Kg, Km⟩, M⟩, hp⟩ : ∃ p, jourAtP d j = p := ⟨_, rfl⟩
 rw [hp]
 have HP := Lib.hid hp
 clear hp
 unfold RetJ
 go_enter Tryz.func46, Tryz.ntmps46
 go_upto_region 1 with (fail)
 generalize (w.alloc (.cells #[.slice A d.secs.length c, .slice B d.cache.length e, .int .i64 d.fuse, .bool d.down] 27)).alloc (.cells #[.int .i64 0, .string ⟨#[]⟩, .int .i64 0, .string ⟨#[]⟩, .int .i64 0, .int .i64 0, .int .i64 0, .int .i64 0] 37) = W0 at P0 ⊢
 obtain ⟨d0, d1, d2, d3⟩ := disk4 P0.dbox
 go_wp2_with fail
 refine (readSec_rep [.slice A d.secs.length c, .slice B d.cache.length e, .int .i64 d.fuse, .bool d.down] d (j : Int) W0 (Keeps.keeps (F := fun w' => diskR.at_ w' w'.heap.size [.slice A d.secs.length c, .slice B d.cache.length e, .int .i64 d.fuse, .bool d.down] d) P0.below HD.out) hf (WalkArith.wf_i64 (by omega))).mono ?_
 rintro e2 W2 ⟨A4, c4, fp4, rfl, O4, hb⟩
 clear d0 d1 d2 d3
 replace P0 := P0.later hb
 obtain ⟨A5, c5, he5, hk4, r4⟩ := Rep.reads byR O4
 injection he5 with he5 _
 injection he5 with he5 _ he6
 subst he5 he6
 clear hb O4
 obtain ⟨⟨⟨hg1, hn1⟩, ok⟩, hget⟩ : ∃ p, getHeadP (readSec d (j : Int)) = p := ⟨_, rfl⟩
 have HGET := Lib.hid hget
 clear hget
 go_wp2_with fail
 refine (getHead_any A4 c4 (readSec d (j : Int)) W2 r4 (by have := fits_readSec hf (j : Int); unfold FitsB at this; omega)).mono ?_
 rw [HGET.out]
 rintro e3 W3 ⟨rfl, hb⟩
 replace P0 := P0.later hb
 clear hb r4
 cases ok
 ·have hq := HP.out
  rw [jourAtP_no HGET.out (fun h9 => by cases h9.1)] at hq
  injection hq with hq1 hq2
  injection hq1 with hq1 e7 e8
  injection hq1 with e1 e2 e3 e4 e5 e6
  subst e1 e2 e3 e4 e5 e6 e7 e8 hq2
  obtain ⟨z0, z1, z2, z3, z4, z5, z6, z7⟩ := jour_box P0.rbox
  have zf0 := var_frozen P0.rbox 0
  have zf1 := var_frozen P0.rbox 1
  have zf2 := var_frozen P0.rbox 2
  have zf3 := var_frozen P0.rbox 3
  have zf4 := var_frozen P0.rbox 4
  have zf5 := var_frozen P0.rbox 5
  have zf6 := var_frozen P0.rbox 6
  have zf7 := var_frozen P0.rbox 7
  have hl := P0.lt
  have hret := P0.ret 0 ⟨#[]⟩ 0 ⟨#[]⟩ 0 0 0 0
  clear P0
  go_wp2_with fail
  exact bodyPost_ret (v := .tuple #[.agg #[.int .i64 0, .string ⟨#[]⟩, .int .i64 0, .string ⟨#[]⟩, .int .i64 0, .int .i64 0, .int .i64 0, .int .i64 0], .bool false]) (by simp [results, Tryz.results46, go_sem, z0, z1, z2, z3, z4, z5, z6, z7, jourZero, knownZero]) rfl ⟨rfl, hret⟩
 ·obtain ⟨⟨hx1, hx2⟩, hy1, hy2⟩ := getHead_range HGET.out
  go_wp2_with fail
  refine (headSec_any hg1 W3 (by omega) (by omega)).mono ?_
  rintro e4 W4 ⟨rfl, rfl⟩
  by_cases hpar : hg1 % 2 = (j : Int)
  ·have np : (hg1 % 2 != (j : Int)) = false := by simp [hpar]
   have HPAR := Lib.hid hpar
   clear hpar
   obtain ⟨d0, d1, d2, d3⟩ := disk4 P0.dbox
   obtain ⟨⟨⟨na, nb, nx, nq, ne, nf⟩, m⟩, hrp⟩ : ∃ p, replayP d hg1 = p := ⟨_, rfl⟩
   have HRP := Lib.hid hrp
   clear hrp
   go_wp2_with fail
   refine (replay_any [.slice A d.secs.length c, .slice B d.cache.length e, .int .i64 d.fuse, .bool d.down] d hg1 W3 (Keeps.keeps (F := fun w' => diskR.at_ w' w'.heap.size [.slice A d.secs.length c, .slice B d.cache.length e, .int .i64 d.fuse, .bool d.down] d) P0.below HD.out) hf (WalkArith.wf_i64 (by omega)) (Keeps.keeps (F := Given) P0.below HG.out)).mono ?_
   rw [HRP.out]
   rintro e4 W4 hret
   obtain ⟨rfl, hb⟩ := hret.lit
   replace P0 := P0.later hb
   clear hret hb d0 d1 d2 d3 np
   have HN := heap_alloc_new W4 (.cells #[.int .i64 na, .string nb, .int .i64 nx, .string nq, .int .i64 ne, .int .i64 nf] 35)
   have hNl : W4.heap.size < (W4.alloc (.cells #[.int .i64 na, .string nb, .int .i64 nx, .string nq, .int .i64 ne, .int .i64 nf] 35)).heap.size := by simp
   have hNd : w.heap.size + 1 < W4.heap.size := P0.lt
   replace P0 := P0.later (Later.alloc W4 (.cells #[.int .i64 na, .string nb, .int .i64 nx, .string nq, .int .i64 ne, .int .i64 nf] 35))
   go_upto_region 5 with (fail)
   generalize W4.alloc (.cells #[.int .i64 na, .string nb, .int .i64 nx, .string nq, .int .i64 ne, .int .i64 nf] 35) = W5 at HN hNl P0 ⊢
   generalize W4.heap.size = DN at HN hNl hNd ⊢
   have hq := HP.out
   rw [jourAtP_yes HGET.out HRP.out HPAR.out] at hq
   injection hq with hq1 hq2
   injection hq1 with hq1 e7 e8
   injection hq1 with e1 e2 e3 e4 e5 e6
   subst e1 e2 e3 e4 e5 e6 e7 e8 hq2
   obtain ⟨n0, n1, n2, n3, n4, n5⟩ := known_box (r := ⟨na, nb, nx, nq, ne, nf⟩) HN
   clear HN
   obtain ⟨z0, z1, z2, z3, z4, z5, z6, z7⟩ := jour_box P0.rbox
   have zf0 := var_frozen P0.rbox 0
   have zf1 := var_frozen P0.rbox 1
   have zf2 := var_frozen P0.rbox 2
   have zf3 := var_frozen P0.rbox 3
   have zf4 := var_frozen P0.rbox 4
   have zf5 := var_frozen P0.rbox 5
   have zf6 := var_frozen P0.rbox 6
   have zf7 := var_frozen P0.rbox 7
   have hl := P0.lt
   have hret := P0.ret na nb nx nq ne nf hg1 m
   clear P0
   go_wp2_with fail
   exact bodyPost_ret (v := .tuple #[.agg #[.int .i64 na, .string nb, .int .i64 nx, .string nq, .int .i64 ne, .int .i64 nf, .int .i64 hg1, .int .i64 m], .bool (decide (hn1 ≤ (m : Int)))]) (by simp [results, Tryz.results46, go_sem, z0, z1, z2, z3, z4, z5, z6, z7, jourZero, knownZero]) rfl ⟨rfl, hret⟩
  ·have np : (hg1 % 2 != (j : Int)) = true := by simpa using hpar
   have hq := HP.out
   rw [jourAtP_no HGET.out (fun h9 => hpar h9.2)] at hq
   injection hq with hq1 hq2
   injection hq1 with hq1 e7 e8
   injection hq1 with e1 e2 e3 e4 e5 e6
   subst e1 e2 e3 e4 e5 e6 e7 e8 hq2
   clear hpar
   obtain ⟨z0, z1, z2, z3, z4, z5, z6, z7⟩ := jour_box P0.rbox
   have zf0 := var_frozen P0.rbox 0
   have zf1 := var_frozen P0.rbox 1
   have zf2 := var_frozen P0.rbox 2
   have zf3 := var_frozen P0.rbox 3
   have zf4 := var_frozen P0.rbox 4
   have zf5 := var_frozen P0.rbox 5
   have zf6 := var_frozen P0.rbox 6
   have zf7 := var_frozen P0.rbox 7
   have hl := P0.lt
   have hret := P0.ret 0 ⟨#[]⟩ 0 ⟨#[]⟩ 0 0 0 0
   clear P0
   go_wp2_with fail
   exact bodyPost_ret (v := .tuple #[.agg #[.int .i64 0, .string ⟨#[]⟩, .int .i64 0, .string ⟨#[]⟩, .int .i64 0, .int .i64 0, .int .i64 0, .int .i64 0], .bool false]) (by simp [results, Tryz.results46, go_sem, z0, z1, z2, z3, z4, z5, z6, z7, jourZero, knownZero]) rfl ⟨rfl, hret⟩
set_option maxRecDepth 2000000 in
set_option maxHeartbeats 8000000 in
theorem openJour_any (cs : List Value) (d : Disk) (w : World) (h : diskR.at_ w w.heap.size cs d) (hf : Fits d) (hg : Given w) :
  Calls Tryz.prog 12 #[.agg cs.toArray] w (RetJ w (openP d)) := by
 obtain ⟨A, c, B, e, rfl⟩ := disk_at_shape h
 have HD := Lib.hid h
 have HG := Lib.hid hg
 have P0 : JB w [.slice A d.secs.length c, .slice B d.cache.length e, .int .i64 d.fuse, .bool d.down] jourZero (((w.alloc (.cells #[.slice A d.secs.length c, .slice B d.cache.length e, .int .i64 d.fuse, .bool d.down] 27)).alloc (.cells #[.int .i64 0, .string ⟨#[]⟩, .int .i64 0, .string ⟨#[]⟩, .int .i64 0, .int .i64 0, .int .i64 0, .int .i64 0] 37)).alloc (.cells #[.int .i64 0, .string ⟨#[]⟩, .int .i64 0, .string ⟨#[]⟩, .int .i64 0, .int .i64 0, .int .i64 0, .int .i64 0] 37)) :=
  ⟨Later.trans (Later.trans (Later.alloc w _) (Later.alloc _ _)) (Later.alloc _ _), (Below.heap_alloc _ _ _ (by simp; omega)).trans ((Below.heap_alloc _ _ _ (by simp)).trans (heap_alloc_new w _)), (Below.heap_alloc _ _ _ (by simp)).trans (heap_alloc_new' _ _ (by simp)), heap_alloc_new' _ _ (by simp)⟩
 clear h hg
 show Calls Tryz.prog 12 #[.agg #[.slice A d.secs.length c, .slice B d.cache.length e, .int .i64 d.fuse, .bool d.down]] w _
 obtain ⟨⟨⟨⟨Ka, Kb, Kp, Kq, Ke, Kf⟩, Kg, Km⟩, M⟩, hp⟩ : ∃ p, openP d = p := ⟨_, rfl⟩
 rw [hp]
 have HP := Lib.hid hp
 clear hp
 unfold RetJ
 go_enter Tryz.func12, Tryz.ntmps12
 go_upto_region 2 with (fail)
 generalize ((w.alloc (.cells #[.slice A d.secs.length c, .slice B d.cache.length e, .int .i64 d.fuse, .bool d.down] 27)).alloc (.cells #[.int .i64 0, .string ⟨#[]⟩, .int .i64 0, .string ⟨#[]⟩, .int .i64 0, .int .i64 0, .int .i64 0, .int .i64 0] 37)).alloc (.cells #[.int .i64 0, .string ⟨#[]⟩, .int .i64 0, .string ⟨#[]⟩, .int .i64 0, .int .i64 0, .int .i64 0, .int .i64 0] 37) = W0 at P0 ⊢
 obtain ⟨d0, d1, d2, d3⟩ := disk4 P0.dbox
 go_wp2_with fail
 refine (diskOk_rep [.slice A d.secs.length c, .slice B d.cache.length e, .int .i64 d.fuse, .bool d.down] d W0 (Keeps.keeps (F := fun w' => diskR.at_ w' w'.heap.size [.slice A d.secs.length c, .slice B d.cache.length e, .int .i64 d.fuse, .bool d.down] d) P0.below HD.out) hf).mono ?_
 clear d0 d1 d2 d3
 obtain ⟨b1, h1⟩ : ∃ b, diskOk d = b := ⟨_, rfl⟩
 rw [h1]
 have H1 := Lib.hid h1
 clear h1
 rintro e1 W1 ⟨rfl, hb⟩
 replace P0 := P0.later hb
 clear hb
 cases b1
 ·skip
  have hq := HP.out
  rw [show openP d = (jourZero, false) from if_neg (fun h9 => by rw [H1.out] at h9; cases h9.1)] at hq
  injection hq with hq1 hq2
  injection hq1 with hq1 e7 e8
  injection hq1 with e1 e2 e3 e4 e5 e6
  subst e1 e2 e3 e4 e5 e6 e7 e8 hq2
  obtain ⟨z0, z1, z2, z3, z4, z5, z6, z7⟩ := jour_box P0.rbox
  obtain ⟨k0, k1, k2, k3, k4, k5, k6, k7⟩ := jour_box P0.jbox
  have zf0 := var_frozen P0.rbox 0
  have zf1 := var_frozen P0.rbox 1
  have zf2 := var_frozen P0.rbox 2
  have zf3 := var_frozen P0.rbox 3
  have zf4 := var_frozen P0.rbox 4
  have zf5 := var_frozen P0.rbox 5
  have zf6 := var_frozen P0.rbox 6
  have zf7 := var_frozen P0.rbox 7
  have hl := P0.lt
  have hret := P0.ret 0 ⟨#[]⟩ 0 ⟨#[]⟩ 0 0 0 0
  clear P0
  go_wp2_with fail
  exact bodyPost_ret (v := .tuple #[.agg #[.int .i64 0, .string ⟨#[]⟩, .int .i64 0, .string ⟨#[]⟩, .int .i64 0, .int .i64 0, .int .i64 0, .int .i64 0], .bool false]) (by simp [results, Tryz.results12, go_sem, z0, z1, z2, z3, z4, z5, z6, z7, jourZero, knownZero]) rfl ⟨rfl, hret⟩
 ·by_cases h38 : d.secs.length = 38
  ·have n38 : ((d.secs.length : Int) != 38) = false := by rw [h38]; rfl
   have H38 := Lib.hid h38
   clear h38
   have HQ := Lib.hid (show (bestJ d 2, decide (0 < (bestJ d 2).g)) = ((⟨⟨Ka, Kb, Kp, Kq, Ke, Kf⟩, Kg, Km⟩, M) : Jour × Bool) by
    have h9 := HP.out
    rw [show openP d = (bestJ d 2, decide (0 < (bestJ d 2).g)) from if_pos ⟨H1.out, H38.out⟩] at h9
    exact h9)
   clear HP
   obtain ⟨d0, d1, d2, d3⟩ := disk4 P0.dbox
   go_wp2_with fail
   clear d0 d1 d2 d3 n38
   go_loopw [18] (fun i wr => ∃ (j : Nat) (b : Jour), j ≤ 2 ∧ i = .int .i64 j ∧ Hid (bestJ d j = b) ∧ JB w [.slice A d.secs.length c, .slice B d.cache.length e, .int .i64 d.fuse, .bool d.down] b wr) (fun i _ => 2 - (intOf i).toNat)
   case atStart => exact ⟨0, jourZero, by omega, rfl, Lib.hid rfl, P0⟩
   case round =>
    clear P0
    obtain ⟨j, ⟨⟨ba, bb, bp, bq, be, bf⟩, bg, bm⟩, hj, rfl, hbest, P0⟩ := hrel
    by_cases hlt : j < 2
    ·obtain ⟨d0, d1, d2, d3⟩ := disk4 P0.dbox
     go_wp2_with fail
     refine (jourAt_any [.slice A d.secs.length c, .slice B d.cache.length e, .int .i64 d.fuse, .bool d.down] d j wr (Keeps.keeps (F := fun w' => diskR.at_ w' w'.heap.size [.slice A d.secs.length c, .slice B d.cache.length e, .int .i64 d.fuse, .bool d.down] d) P0.below HD.out) hf hlt (Keeps.keeps (F := Given) P0.below HG.out)).mono ?_
     clear d0 d1 d2 d3
     obtain ⟨⟨⟨⟨na, nb, nx, nq, ne, nf⟩, ng, nm⟩, yes⟩, hja⟩ : ∃ p, jourAtP d j = p := ⟨_, rfl⟩
     rw [hja]
     have HJA := Lib.hid hja
     clear hja
     rintro e2 W2 hret
     obtain ⟨rfl, hb⟩ := hret.lit8i
     replace P0 := P0.later hb
     clear hret hb
     have HN := heap_alloc_new W2 (.cells #[.int .i64 na, .string nb, .int .i64 nx, .string nq, .int .i64 ne, .int .i64 nf, .int .i64 ng, .int .i64 nm] 37)
     have hNl : W2.heap.size < (W2.alloc (.cells #[.int .i64 na, .string nb, .int .i64 nx, .string nq, .int .i64 ne, .int .i64 nf, .int .i64 ng, .int .i64 nm] 37)).heap.size := by simp
     have hNd : w.heap.size + 2 < W2.heap.size := P0.lt
     replace P0 := P0.later (Later.alloc W2 (.cells #[.int .i64 na, .string nb, .int .i64 nx, .string nq, .int .i64 ne, .int .i64 nf, .int .i64 ng, .int .i64 nm] 37))
     go_upto_region 8 with (fail)
     generalize W2.alloc (.cells #[.int .i64 na, .string nb, .int .i64 nx, .string nq, .int .i64 ne, .int .i64 nf, .int .i64 ng, .int .i64 nm] 37) = W5 at HN hNl P0 ⊢
     generalize W2.heap.size = DN at HN hNl hNd ⊢
     obtain ⟨n0, n1, n2, n3, n4, n5, n6, n7⟩ := jour_box (r := ⟨⟨na, nb, nx, nq, ne, nf⟩, ng, nm⟩) HN
     obtain ⟨j0, j1, j2, j3, j4, j5, j6, j7⟩ := jour_box P0.jbox
     clear HN
     cases yes
     ·skip
      have HB2 := Lib.hid (show bestJ d (j + 1) = ⟨⟨ba, bb, bp, bq, be, bf⟩, bg, bm⟩ by
       show stepJ d (bestJ d j) j = _
       rw [hbest.out, stepJ_at HJA.out]
       exact if_neg (fun h9 => by cases h9.1))
      go_wp2_with fail
      go_roundw
      case rel => exact ⟨j + 1, ⟨⟨ba, bb, bp, bq, be, bf⟩, bg, bm⟩, by omega, by go_num, HB2, P0⟩
      case measure => simp [intOf]; omega
     ·by_cases hgt : bg < ng
      ·have hgt2 : ng > bg := hgt
       have HB2 := Lib.hid (show bestJ d (j + 1) = ⟨⟨na, nb, nx, nq, ne, nf⟩, ng, nm⟩ by
        show stepJ d (bestJ d j) j = _
        rw [hbest.out, stepJ_at HJA.out]
        exact if_pos ⟨rfl, hgt⟩)
       have jf0 := var_frozen P0.jbox 0
       have jf1 := var_frozen P0.jbox 1
       have jf2 := var_frozen P0.jbox 2
       have jf3 := var_frozen P0.jbox 3
       have jf4 := var_frozen P0.jbox 4
       have jf5 := var_frozen P0.jbox 5
       have jf6 := var_frozen P0.jbox 6
       have jf7 := var_frozen P0.jbox 7
       have hl := P0.lt
       have P2 := P0.putJ na nb nx nq ne nf ng nm
       clear P0
       go_wp2_with fail
       go_roundw
       case rel => exact ⟨j + 1, ⟨⟨na, nb, nx, nq, ne, nf⟩, ng, nm⟩, by omega, by go_num, HB2, P2⟩
       case measure => simp [intOf]; omega
      ·have hle : ng ≤ bg := by omega
       have HB2 := Lib.hid (show bestJ d (j + 1) = ⟨⟨ba, bb, bp, bq, be, bf⟩, bg, bm⟩ by
        show stepJ d (bestJ d j) j = _
        rw [hbest.out, stepJ_at HJA.out]
        exact if_neg (fun h9 => hgt h9.2))
       go_wp2_with fail
       go_roundw
       case rel => exact ⟨j + 1, ⟨⟨ba, bb, bp, bq, be, bf⟩, bg, bm⟩, by omega, by go_num, HB2, P0⟩
       case measure => simp [intOf]; omega
    ·have he : j = 2 := by omega
     subst he
     have HQ2 := HQ.out
     rw [hbest.out] at HQ2
     injection HQ2 with hq1 hq2
     injection hq1 with hq1 e7 e8
     injection hq1 with e1 e2 e3 e4 e5 e6
     subst e1 e2 e3 e4 e5 e6 e7 e8 hq2
     clear HQ hlt hj
     go_wp2_with fail
     refine wp_region_lex' 100 [0, 1, 2, 3] [4, 5] (fun w' => w'.heap[w.heap.size + 2]? = some (.cells (jourL ⟨⟨ba, bb, bp, bq, be, bf⟩, bg, bm⟩).toArray 37 (0, 0))) (by kernel_rfl) (by kernel_rfl) P0.jbox ?_
     replace P0 := P0.later (Later.drew wr)
     iterate 4 (refine LexR.cons rfl ?_ (fun w' hw => ?_) ?_; rotate_left; focus (obtain ⟨j0, j1, j2, j3, j4, j5, j6, j7⟩ := jour_box (r := ⟨⟨ba, bb, bp, bq, be, bf⟩, bg, bm⟩) hw; clear hw; go_simp; (try exact rfl)); (try go_frame))
     refine LexR.nil (LexW.cons rfl ?_)
     try go_frame
     generalize wr.drew = W6 at P0 ⊢
     obtain ⟨z0, z1, z2, z3, z4, z5, z6, z7⟩ := jour_box P0.rbox
     have zf0 := var_frozen P0.rbox 0
     have zf1 := var_frozen P0.rbox 1
     have zf2 := var_frozen P0.rbox 2
     have zf3 := var_frozen P0.rbox 3
     have zf4 := var_frozen P0.rbox 4
     have zf5 := var_frozen P0.rbox 5
     have zf6 := var_frozen P0.rbox 6
     have zf7 := var_frozen P0.rbox 7
     have hl := P0.lt
     have hret := P0.ret ba bb bp bq be bf bg bm
     have hbx := setJ_box P0.rbox ba bb bp bq be bf bg bm
     have hj2 := ((putJ_only W6 (w.heap.size + 1) ba bb bp bq be bf bg bm).block (w.heap.size + 2) hl (by simp)).trans P0.jbox
     clear P0
     go_wp2_with fail
     generalize ((((((((W6.setCell ⟨w.heap.size + 1, 0, none⟩ (.int .i64 ba)).setCell ⟨w.heap.size + 1, 1, none⟩ (.string bb)).setCell ⟨w.heap.size + 1, 2, none⟩ (.int .i64 bp)).setCell ⟨w.heap.size + 1, 3, none⟩ (.string bq)).setCell ⟨w.heap.size + 1, 4, none⟩ (.int .i64 be)).setCell ⟨w.heap.size + 1, 5, none⟩ (.int .i64 bf)).setCell ⟨w.heap.size + 1, 6, none⟩ (.int .i64 bg)).setCell ⟨w.heap.size + 1, 7, none⟩ (.int .i64 bm)) = W7 at hret hbx hj2 ⊢
     refine ⟨fun _ => hj2, LexW.cons rfl ?_⟩
     clear z0 z1 z2 z3 z4 z5 z6 z7 zf0 zf1 zf2 zf3 zf4 zf5 zf6 zf7
     try go_frame
     go_wp2_with fail
     refine ⟨fun _ => hj2, LexW.nil ?_⟩
     obtain ⟨z0, z1, z2, z3, z4, z5, z6, z7⟩ := jour_box (r := ⟨⟨ba, bb, bp, bq, be, bf⟩, bg, bm⟩) hbx
     clear hbx hj2
     go_wp2_with fail
     exact bodyPost_ret (v := .tuple #[.agg #[.int .i64 ba, .string bb, .int .i64 bp, .string bq, .int .i64 be, .int .i64 bf, .int .i64 bg, .int .i64 bm], .bool (decide (1 ≤ bg))]) (by simp [results, Tryz.results12, go_sem, z0, z1, z2, z3, z4, z5, z6, z7]) rfl ⟨by rw [show decide (0 < bg) = decide (1 ≤ bg) from rfl]; rfl, hret⟩
  ·have n38 : ((d.secs.length : Int) != 38) = true := by simp; omega
   have H38 := Lib.hid h38
   clear h38
   obtain ⟨d0, d1, d2, d3⟩ := disk4 P0.dbox
   have hq := HP.out
   rw [show openP d = (jourZero, false) from if_neg (fun h9 => H38.out h9.2)] at hq
   injection hq with hq1 hq2
   injection hq1 with hq1 e7 e8
   injection hq1 with e1 e2 e3 e4 e5 e6
   subst e1 e2 e3 e4 e5 e6 e7 e8 hq2
   obtain ⟨z0, z1, z2, z3, z4, z5, z6, z7⟩ := jour_box P0.rbox
   obtain ⟨k0, k1, k2, k3, k4, k5, k6, k7⟩ := jour_box P0.jbox
   have zf0 := var_frozen P0.rbox 0
   have zf1 := var_frozen P0.rbox 1
   have zf2 := var_frozen P0.rbox 2
   have zf3 := var_frozen P0.rbox 3
   have zf4 := var_frozen P0.rbox 4
   have zf5 := var_frozen P0.rbox 5
   have zf6 := var_frozen P0.rbox 6
   have zf7 := var_frozen P0.rbox 7
   have hl := P0.lt
   have hret := P0.ret 0 ⟨#[]⟩ 0 ⟨#[]⟩ 0 0 0 0
   clear P0
   go_wp2_with fail
   exact bodyPost_ret (v := .tuple #[.agg #[.int .i64 0, .string ⟨#[]⟩, .int .i64 0, .string ⟨#[]⟩, .int .i64 0, .int .i64 0, .int .i64 0, .int .i64 0], .bool false]) (by simp [results, Tryz.results12, go_sem, z0, z1, z2, z3, z4, z5, z6, z7, jourZero, knownZero]) rfl ⟨rfl, hret⟩
theorem RetJ.lit {w w' : World} {a : Int} {b : ByteArray} {p : Int} {q : ByteArray} {e f g m : Int} {y : Bool} {en : Ending} (h : RetJ w (⟨⟨a, b, p, q, e, f⟩, g, m⟩, y) en w') : en = .returned (.tuple #[.agg #[.int .i64 a, .string b, .int .i64 p, .string q, .int .i64 e, .int .i64 f, .int .i64 g, .int .i64 m], .bool y]) ∧ Below w.heap.size w w' := h
set_option maxHeartbeats 1000000 in
theorem eqJour_same (r : Jour) (w : World) : Calls Tryz.prog 26 #[.agg (jourL r).toArray, .agg (jourL r).toArray] w fun e w' => e = .returned (.bool true) ∧ Below w.heap.size w w' := by
 obtain ⟨⟨a, b, p, q, e, f⟩, g, m⟩ := r
 have h0 : (g != g) = false := by simp
 have h1 : (m != m) = false := by simp
 have S : All (fun w' => Below w.heap.size w w' ∧ Hid (w'.heap[w.heap.size]? = some (.cells (jourL ⟨⟨a, b, p, q, e, f⟩, g, m⟩).toArray 37 (0, 0))) ∧ Hid (w'.heap[w.heap.size + 1]? = some (.cells (jourL ⟨⟨a, b, p, q, e, f⟩, g, m⟩).toArray 37 (0, 0)))) ((w.alloc (.cells #[.int .i64 a, .string b, .int .i64 p, .string q, .int .i64 e, .int .i64 f, .int .i64 g, .int .i64 m] 37)).alloc (.cells #[.int .i64 a, .string b, .int .i64 p, .string q, .int .i64 e, .int .i64 f, .int .i64 g, .int .i64 m] 37)) :=
  ⟨Later.trans (Later.alloc w _) (Later.alloc _ _), Lib.hid ((Below.heap_alloc _ _ _ (by simp)).trans (heap_alloc_new w _)), Lib.hid (heap_alloc_new' _ _ (by simp))⟩
 show Calls Tryz.prog 26 #[.agg #[.int .i64 a, .string b, .int .i64 p, .string q, .int .i64 e, .int .i64 f, .int .i64 g, .int .i64 m], .agg #[.int .i64 a, .string b, .int .i64 p, .string q, .int .i64 e, .int .i64 f, .int .i64 g, .int .i64 m]] w _
 go_enter Tryz.func26, Tryz.ntmps26
 go_upto_region 1 with (fail)
 generalize (w.alloc (.cells #[.int .i64 a, .string b, .int .i64 p, .string q, .int .i64 e, .int .i64 f, .int .i64 g, .int .i64 m] 37)).alloc (.cells #[.int .i64 a, .string b, .int .i64 p, .string q, .int .i64 e, .int .i64 f, .int .i64 g, .int .i64 m] 37) = W at S ⊢
 obtain ⟨k0, k1, k2, k3, k4, k5, k6, k7⟩ := jour_box S.out.2.1.out
 obtain ⟨e0, e1, e2, e3, e4, e5, e6, e7⟩ := jour_box S.out.2.2.out
 go_wp2_with fail
 refine (eqKnown_same ⟨a, b, p, q, e, f⟩ W).mono ?_
 rintro en W1 ⟨rfl, hb⟩
 replace S := S.later hb
 clear hb k0 k1 k2 k3 k4 k5 k6 k7 e0 e1 e2 e3 e4 e5 e6 e7
 obtain ⟨k0, k1, k2, k3, k4, k5, k6, k7⟩ := jour_box S.out.2.1.out
 obtain ⟨e0, e1, e2, e3, e4, e5, e6, e7⟩ := jour_box S.out.2.2.out
 have hfin := S.out.1
 clear S
 go_wp2_with fail
 go_ret
 exact ⟨rfl, hfin⟩
theorem ldisk4o {w : World} {g : Nat} {a b c d : Value} (h : w.heap[g]? = some (.cells [a, b, c, d].toArray 50 (0, 0))) : w.cell? ⟨g, 0, none⟩ = some a ∧ w.cell? ⟨g, 1, none⟩ = some b ∧ w.cell? ⟨g, 2, none⟩ = some c ∧ w.cell? ⟨g, 3, none⟩ = some d := ⟨var_cell h 0, var_cell h 1, var_cell h 2, var_cell h 3⟩
set_option maxRecDepth 2000000 in
set_option maxHeartbeats 8000000 in
theorem walkh_FnExactOpenJour (w : World) (cs0 : List Value) (x0 : Disk) (w0 : diskR.at_ w w.heap.size cs0 x0) (k0 : OkDisk x0) (hg : Given w)
  (openJour_any : ∀ (cs : List Value) (d : Disk) (w : World), diskR.at_ w w.heap.size cs d → Fits d → Given w → Calls Tryz.prog 12 #[.agg cs.toArray] w (RetJ w (openP d))) :
  Calls Tryz.prog 6 #[.agg cs0.toArray] w fun e w' => e = .returned (.bool true) ∧ Below w.heap.size w w' := by
 obtain ⟨A, c, B, f, rfl⟩ := disk_at_shape w0
 have HG := Lib.hid hg
 have hb0 := Later.alloc w (.cells #[.slice A x0.secs.length c, .slice B x0.cache.length f, .int .i64 x0.fuse, .bool x0.down] 50)
 have S : All (fun w' => Below w.heap.size w w' ∧ Hid (w'.heap[w.heap.size]? = some (.cells [.slice A x0.secs.length c, .slice B x0.cache.length f, .int .i64 x0.fuse, .bool x0.down].toArray 50 (0, 0))) ∧ Hid (diskR.at_ w' w'.heap.size [.slice A x0.secs.length c, .slice B x0.cache.length f, .int .i64 x0.fuse, .bool x0.down] x0)) (w.alloc (.cells #[.slice A x0.secs.length c, .slice B x0.cache.length f, .int .i64 x0.fuse, .bool x0.down] 50)) :=
  ⟨hb0, Lib.hid (heap_alloc_new w _), Lib.hid (Keeps.keeps (F := fun w' => diskR.at_ w' w'.heap.size [.slice A x0.secs.length c, .slice B x0.cache.length f, .int .i64 x0.fuse, .bool x0.down] x0) hb0 w0)⟩
 clear w0 hg hb0 k0
 obtain ⟨⟨⟨⟨Ka, Kb, Kp, Kq, Ke, Kf⟩, Kg, Km⟩, M⟩, hp⟩ : ∃ p, openP x0 = p := ⟨_, rfl⟩
 have HP := Lib.hid hp
 clear hp
 show Calls Tryz.prog 6 #[.agg #[.slice A x0.secs.length c, .slice B x0.cache.length f, .int .i64 x0.fuse, .bool x0.down]] w _
 go_enter Tryz.func6, Tryz.ntmps6
 go_wp2_with fail
 generalize w.alloc (.cells #[.slice A x0.secs.length c, .slice B x0.cache.length f, .int .i64 x0.fuse, .bool x0.down] 50) = W0 at S ⊢
 refine (szDisk_room [.slice A x0.secs.length c, .slice B x0.cache.length f, .int .i64 x0.fuse, .bool x0.down] x0 1048576 W0 S.out.2.2.out (by omega)).mono ?_
 rintro e W1 ⟨⟨z, hz, hfit, rfl⟩ | rfl, hb⟩
 rotate_left
 ·replace S := S.later hb
  clear hb
  go_wp2_with fail
  go_ret
  exact ⟨rfl, S.out.1⟩
 ·replace S := S.later hb
  have HF := Lib.hid hfit
  clear hb hfit
  obtain ⟨d0, d1, d2, d3⟩ := ldisk4o S.out.2.1.out
  go_wp2_with fail
  clear d0 d1 d2 d3
  refine (toDisk_rep _ x0 W1 S.out.2.2.out HF.out).mono ?_
  rintro e W2 ⟨cs2, fp2, rfl, O2, hb⟩
  have T2 := Rep.reads diskR O2
  obtain ⟨A2, c2, B2, f2, rfl⟩ := disk_at_shape T2
  replace S := S.later hb
  have HT := Lib.hid T2
  clear hb O2 T2
  go_wp2_with fail
  refine (openJourS_any [.slice A2 x0.secs.length c2, .slice B2 x0.cache.length f2, .int .i64 x0.fuse, .bool x0.down] x0 W2 HT.out HF.out (Keeps.keeps (F := Given) S.out.1 HG.out)).mono ?_
  rw [HP.out]
  rintro e W3 hret
  obtain ⟨rfl, hb⟩ := hret.lit
  replace S := S.later hb
  clear hret hb HT
  have S2 : All (fun w' => (Below w.heap.size w w' ∧ Hid (w'.heap[w.heap.size]? = some (.cells [.slice A x0.secs.length c, .slice B x0.cache.length f, .int .i64 x0.fuse, .bool x0.down].toArray 50 (0, 0))) ∧ Hid (diskR.at_ w' w'.heap.size [.slice A x0.secs.length c, .slice B x0.cache.length f, .int .i64 x0.fuse, .bool x0.down] x0)) ∧ Hid (w'.heap[W3.heap.size]? = some (.cells (jourL ⟨⟨Ka, Kb, Kp, Kq, Ke, Kf⟩, Kg, Km⟩).toArray 37 (0, 0)))) (W3.alloc (.cells #[.int .i64 Ka, .string Kb, .int .i64 Kp, .string Kq, .int .i64 Ke, .int .i64 Kf, .int .i64 Kg, .int .i64 Km] 37)) := ⟨(S.alloc _).out, Lib.hid (heap_alloc_new W3 _)⟩
  go_upto_region 6 with (fail)
  generalize W3.alloc (.cells #[.int .i64 Ka, .string Kb, .int .i64 Kp, .string Kq, .int .i64 Ke, .int .i64 Kf, .int .i64 Kg, .int .i64 Km] 37) = W4 at S2 ⊢
  generalize W3.heap.size = DW at S2 ⊢
  clear S
  obtain ⟨d0, d1, d2, d3⟩ := ldisk4o S2.out.1.2.1.out
  go_wp2_with fail
  clear d0 d1 d2 d3
  refine (toDisk_rep _ x0 W4 S2.out.1.2.2.out HF.out).mono ?_
  rintro e W5 ⟨cs5, fp5, rfl, O5, hb⟩
  have T5 := Rep.reads diskR O5
  obtain ⟨A5, c5, B5, f5, rfl⟩ := disk_at_shape T5
  replace S2 := S2.later hb
  have hb5 := Later.alloc W5 (.cells #[.slice A5 x0.secs.length c5, .slice B5 x0.cache.length f5, .int .i64 x0.fuse, .bool x0.down] 27)
  have S3 : All (fun w' => ((Below w.heap.size w w' ∧ Hid (w'.heap[w.heap.size]? = some (.cells [.slice A x0.secs.length c, .slice B x0.cache.length f, .int .i64 x0.fuse, .bool x0.down].toArray 50 (0, 0))) ∧ Hid (diskR.at_ w' w'.heap.size [.slice A x0.secs.length c, .slice B x0.cache.length f, .int .i64 x0.fuse, .bool x0.down] x0)) ∧ Hid (w'.heap[DW]? = some (.cells (jourL ⟨⟨Ka, Kb, Kp, Kq, Ke, Kf⟩, Kg, Km⟩).toArray 37 (0, 0)))) ∧ Hid (w'.heap[W5.heap.size]? = some (.cells [.slice A5 x0.secs.length c5, .slice B5 x0.cache.length f5, .int .i64 x0.fuse, .bool x0.down].toArray 27 (0, 0))) ∧ Hid (diskR.at_ w' w'.heap.size [.slice A5 x0.secs.length c5, .slice B5 x0.cache.length f5, .int .i64 x0.fuse, .bool x0.down] x0)) (W5.alloc (.cells #[.slice A5 x0.secs.length c5, .slice B5 x0.cache.length f5, .int .i64 x0.fuse, .bool x0.down] 27)) :=
   ⟨(S2.alloc _).out, Lib.hid (heap_alloc_new W5 _), Lib.hid (Keeps.keeps (F := fun w' => diskR.at_ w' w'.heap.size [.slice A5 x0.secs.length c5, .slice B5 x0.cache.length f5, .int .i64 x0.fuse, .bool x0.down] x0) hb5 T5)⟩
  clear hb O5 T5 S2 hb5
  go_upto_region 7 with (fail)
  generalize W5.alloc (.cells #[.slice A5 x0.secs.length c5, .slice B5 x0.cache.length f5, .int .i64 x0.fuse, .bool x0.down] 27) = W6 at S3 ⊢
  generalize W5.heap.size = DX at S3 ⊢
  obtain ⟨d0, d1, d2, d3⟩ := disk4 S3.out.2.1.out
  go_wp2_with fail
  clear d0 d1 d2 d3
  refine (openJour_any [.slice A5 x0.secs.length c5, .slice B5 x0.cache.length f5, .int .i64 x0.fuse, .bool x0.down] x0 W6 S3.out.2.2.out HF.out (Keeps.keeps (F := Given) S3.out.1.1.1 HG.out)).mono ?_
  rw [HP.out]
  rintro e W7 hret
  obtain ⟨rfl, hb⟩ := hret.lit
  replace S3 := S3.later hb
  clear hret hb
  have HG8 := heap_alloc_new W7 (.cells #[.int .i64 Ka, .string Kb, .int .i64 Kp, .string Kq, .int .i64 Ke, .int .i64 Kf, .int .i64 Kg, .int .i64 Km] 37)
  have S4 := S3.alloc (.cells #[.int .i64 Ka, .string Kb, .int .i64 Kp, .string Kq, .int .i64 Ke, .int .i64 Kf, .int .i64 Kg, .int .i64 Km] 37)
  clear S3
  go_upto_region 8 with (fail)
  generalize W7.alloc (.cells #[.int .i64 Ka, .string Kb, .int .i64 Kp, .string Kq, .int .i64 Ke, .int .i64 Kf, .int .i64 Kg, .int .i64 Km] 37) = W8 at S4 HG8 ⊢
  generalize W7.heap.size = DG at HG8 ⊢
  obtain ⟨k0, k1, k2, k3, k4, k5, k6, k7⟩ := jour_box (r := ⟨⟨Ka, Kb, Kp, Kq, Ke, Kf⟩, Kg, Km⟩) HG8
  obtain ⟨e0, e1, e2, e3, e4, e5, e6, e7⟩ := jour_box (r := ⟨⟨Ka, Kb, Kp, Kq, Ke, Kf⟩, Kg, Km⟩) S4.out.1.2.out
  have mm : (M != M) = false := by simp
  clear HG8
  go_wp2_with fail
  clear k0 k1 k2 k3 k4 k5 k6 k7 e0 e1 e2 e3 e4 e5 e6 e7
  refine (eqJour_same ⟨⟨Ka, Kb, Kp, Kq, Ke, Kf⟩, Kg, Km⟩ W8).mono ?_
  rintro e W9 ⟨rfl, hb⟩
  replace S4 := S4.later hb
  clear hb
  go_wp2_with fail
  refine wp_region_open 100 (fun w' => w'.heap[DX]? = some (.cells [.slice A5 x0.secs.length c5, .slice B5 x0.cache.length f5, .int .i64 x0.fuse, .bool x0.down].toArray 27 (0, 0)) ∧ w'.heap[w.heap.size]? = some (.cells [.slice A x0.secs.length c, .slice B x0.cache.length f, .int .i64 x0.fuse, .bool x0.down].toArray 50 (0, 0))) (by kernel_rfl) ?_
  replace S4 := S4.drew
  refine wpAnyL_reads [0, 1] (fuel := 3) (by kernel_rfl) ⟨S4.out.2.1.out, S4.out.1.1.2.1.out⟩ ?_
  iterate 2 (refine LexR.cons rfl ?_ (fun w' hw => ?_) ?_; rotate_left; focus (obtain ⟨hw1, hw2⟩ := hw; obtain ⟨d0, d1, d2, d3⟩ := disk4 hw1; obtain ⟨l0, l1, l2, l3⟩ := ldisk4o hw2; clear hw1 hw2; go_simp; (try exact rfl)); (try go_frame))
  refine LexR.nil ?_
  generalize W9.drew = WA at S4 ⊢
  refine wpAnyL_one (i := 2) (by kernel_rfl) ?_
  refine lexA_get rfl ?_
  try go_frame
  go_wp2_with fail
  refine (toDisk_rep _ x0 WA S4.out.1.1.2.2.out HF.out).mono ?_
  rintro e WB ⟨csB, fpB, rfl, OB, hb⟩
  have TB := Rep.reads diskR OB
  replace S4 := S4.later hb
  clear hb OB
  go_wp2_with fail
  refine ⟨by first | exact ⟨S4.out.2.1.out, S4.out.1.1.2.1.out⟩ | exact fun _ => ⟨S4.out.2.1.out, S4.out.1.1.2.1.out⟩, ?_⟩
  refine wpAnyL_one (i := 3) (by kernel_rfl) ?_
  refine lexA_get rfl ?_
  try go_frame
  go_wp2_with fail
  refine (eqDisk_same [.slice A5 x0.secs.length c5, .slice B5 x0.cache.length f5, .int .i64 x0.fuse, .bool x0.down] csB x0 WB S4.out.2.2.out TB HF.out).mono ?_
  rintro e WC ⟨rfl, hb⟩
  replace S4 := S4.later hb
  clear hb TB
  go_wp2_with fail
  refine ⟨by first | exact ⟨S4.out.2.1.out, S4.out.1.1.2.1.out⟩ | exact fun _ => ⟨S4.out.2.1.out, S4.out.1.1.2.1.out⟩, ?_⟩
  have hfin := S4.out.1.1.1
  refine wpAnyL_writes [4] (by kernel_rfl) (LexW.cons rfl ?_)
  try go_frame
  go_wp2_with fail
  refine ⟨by first | exact ⟨S4.out.2.1.out, S4.out.1.1.2.1.out⟩ | exact fun _ => ⟨S4.out.2.1.out, S4.out.1.1.2.1.out⟩, LexW.nil ?_⟩
  clear S4
  go_wp2_with fail
  go_ret
  exact ⟨rfl, hfin⟩
theorem walk_FnExactOpenJour (w : World) (cs0 : List Value) (x0 : Disk) (w0 : diskR.at_ w w.heap.size cs0 x0) (k0 : OkDisk x0) (hg : Given w) :
  Calls Tryz.prog 6 #[.agg cs0.toArray] w fun e w' => e = .returned (.bool true) ∧ Below w.heap.size w w' :=
 walkh_FnExactOpenJour w cs0 x0 w0 k0 hg openJour_any
end Go.Proofs.YtoaaogacaibedaaGreatDoor
