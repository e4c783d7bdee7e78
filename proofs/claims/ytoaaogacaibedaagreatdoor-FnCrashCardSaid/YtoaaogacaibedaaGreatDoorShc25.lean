/- What the theorem needs, out of many texts. -/
import Derived.Test.YtoaaogacaibedaaGreatDoorShc24
namespace Go.Proofs.YtoaaogacaibedaaGreatDoor
open Go.RowKit
set_option maxRecDepth 100000
set_option linter.unusedVariables false
structure KB (w w1 : World) (g : Nat) (A : Option Addr) (n c : Nat) (code : List UInt8) (D : Nat) (cs : List Value) (x : Disk) (W : World) : Prop where
 cur : Cur W w1.heap.size g A n c code
 below : Below w.heap.size w W
 belowL : Below w1.heap.size w1 W
 zbox : W.heap[w.heap.size]? = some (.cells [.slice none 0 0, .slice none 0 0, .int .i64 0, .bool false].toArray 27 (0, 0))
 rbox : W.heap[w.heap.size + 1]? = some (.cells (recC zeroRec).toArray 29 (0, 0))
 dbox : W.heap[D]? = some (.cells cs.toArray 27 (0, 0))
 own : ∃ fp, diskR.own W w1.heap.size cs x fp ∧ D ∉ fp ∧ g ∉ fp
 hD : w1.heap.size ≤ D ∧ D ≠ g
 hw : w.heap.size + 1 < w1.heap.size
section
variable {w w1 W W' : World} {g D : Nat} {A : Option Addr} {n c : Nat} {code : List UInt8} {cs : List Value} {x : Disk}
theorem KB.lt (h : KB w w1 g A n c code D cs x W) : D < W.heap.size := (Array.getElem?_eq_some_iff.1 h.dbox).1
theorem KB.at (h : KB w w1 g A n c code D cs x W) : diskR.at_ W W.heap.size cs x := by
 obtain ⟨fp, ho, _⟩ := h.own
 exact Rep.reads diskR ho
theorem KB.step (h : KB w w1 g A n c code D cs x W) (hc : Cur W' w1.heap.size g A n c code) (ho : Rep.Only W W' [g]) : KB w w1 g A n c code D cs x W' := by
 obtain ⟨h1, h2⟩ := h.hD
 have h3 := h.lt
 have h4 := h.cur.from_
 have h5 := h.hw
 have h6 := h.belowL.size
 obtain ⟨fp, o1, o2, o3⟩ := h.own
 exact ⟨hc, Rep.Only.below h.below ho h.below.size (fun a ha => by simp at ha; omega), Rep.Only.below h.belowL ho h6 (fun a ha => by simp at ha; omega), (ho.block _ (by omega) (by simp; omega)).trans h.zbox, (ho.block _ (by omega) (by simp; omega)).trans h.rbox, (ho.block _ h3 (by simp; omega)).trans h.dbox, ⟨fp, Rep.own_only o1 ho (fun a ha hm => by simp at hm; subst hm; exact o3 ha), o2, o3⟩, h.hD, h5⟩
theorem KB.later (h : KB w w1 g A n c code D cs x W) (hb : Below W.heap.size W W') : KB w w1 g A n c code D cs x W' :=
 h.step (h.cur.only (Rep.only_of_below hb) (by simp) (fun a ha => by cases ha)) ((Rep.only_of_below hb).mono (by simp))
theorem KB.alone (h : KB w w1 g A n c code D cs x W) (hb : Below W.heap.size W W') : KB w w1 g A n c code D cs x W' ∧ ∃ fp, diskR.own W' w1.heap.size cs x fp ∧ D ∉ fp ∧ g ∉ fp ∧ W.heap.size ∉ fp := by
 refine ⟨h.later hb, ?_⟩
 obtain ⟨fp, o1, o2, o3⟩ := h.own
 exact ⟨fp, Rep.own_only o1 (Rep.only_of_below hb) (fun a _ hm => by cases hm), o2, o3, fun hm => by have := (Rep.lt diskR o1 _ hm).2; omega⟩
theorem KB.beside {E : Nat} (h : KB w w1 g A n c code D cs x W) (hE : D < E ∧ g < E) (hn : ∃ fp, diskR.own W w1.heap.size cs x fp ∧ D ∉ fp ∧ g ∉ fp ∧ E ∉ fp) (ho : Rep.Only W W' [E]) : KB w w1 g A n c code D cs x W' ∧ ∃ fp, diskR.own W' w1.heap.size cs x fp ∧ D ∉ fp ∧ g ∉ fp ∧ E ∉ fp := by
 obtain ⟨h1, h2⟩ := h.hD
 have h3 := h.lt
 have h4 := h.cur.from_
 have h5 := h.hw
 have h6 := h.belowL.size
 obtain ⟨fp, o1, o2, o3, o4⟩ := hn
 have ow := Rep.own_only o1 ho (fun a ha hm => by simp at hm; subst hm; exact o4 ha)
 exact ⟨⟨h.cur.only ho (by simp; omega) (fun a ha => by simp at ha; omega), Rep.Only.below h.below ho h.below.size (fun a ha => by simp at ha; omega), Rep.Only.below h.belowL ho h6 (fun a ha => by simp at ha; omega), (ho.block _ (by omega) (by simp; omega)).trans h.zbox, (ho.block _ (by omega) (by simp; omega)).trans h.rbox, (ho.block _ h3 (by simp; omega)).trans h.dbox, ⟨fp, ow, o2, o3⟩, h.hD, h5⟩, ⟨fp, ow, o2, o3, o4⟩⟩
end
def RetDJ (w : World) (e : Ending) (w' : World) : Prop :=
 ∃ cs x fp r, ∃ keep : Nat, e = .returned (.tuple #[.agg cs.toArray, .agg #[.int .i64 r.kind, .int .i64 r.n, .int .i64 r.owner, .string r.text], .int .i64 keep]) ∧ (JInv x 40 ∧ r.text.size ≤ 100 ∧ (∃ k, applyP (openP x).1.k r = (k, true) ∧ k.epoch ≤ 41) ∧ keep < 256) ∧ diskR.own w' w.heap.size cs x fp ∧ Below w.heap.size w w'
theorem KB.ret {w w1 W : World} {g D : Nat} {A : Option Addr} {n c : Nat} {code : List UInt8} {a b cc dd : Value} {x : Disk} (h : KB w w1 g A n c code D [a, b, cc, dd] x W) (k m o : Int) (t : ByteArray) (keep : Nat)
  (hP : JInv x 40 ∧ t.size ≤ 100 ∧ (∃ k', applyP (openP x).1.k ⟨k, m, o, t⟩ = (k', true) ∧ k'.epoch ≤ 41) ∧ keep < 256) :
  RetDJ w (.returned (.tuple #[.agg #[a, b, cc, dd], .agg #[.int .i64 k, .int .i64 m, .int .i64 o, .string t], .int .i64 keep])) ((((((((W.setCell ⟨w.heap.size, 0, none⟩ a).setCell ⟨w.heap.size, 1, none⟩ b).setCell ⟨w.heap.size, 2, none⟩ cc).setCell ⟨w.heap.size, 3, none⟩ dd).setCell ⟨w.heap.size + 1, 0, none⟩ (.int .i64 k)).setCell ⟨w.heap.size + 1, 1, none⟩ (.int .i64 m)).setCell ⟨w.heap.size + 1, 2, none⟩ (.int .i64 o)).setCell ⟨w.heap.size + 1, 3, none⟩ (.string t)) := by
 have h5 := h.hw
 have hw : Rep.Only W ((((((((W.setCell ⟨w.heap.size, 0, none⟩ a).setCell ⟨w.heap.size, 1, none⟩ b).setCell ⟨w.heap.size, 2, none⟩ cc).setCell ⟨w.heap.size, 3, none⟩ dd).setCell ⟨w.heap.size + 1, 0, none⟩ (.int .i64 k)).setCell ⟨w.heap.size + 1, 1, none⟩ (.int .i64 m)).setCell ⟨w.heap.size + 1, 2, none⟩ (.int .i64 o)).setCell ⟨w.heap.size + 1, 3, none⟩ (.string t)) [w.heap.size, w.heap.size + 1] :=
  ((putD_only W w.heap.size a b cc dd).mono (by simp)).trans ((putR4_only _ (w.heap.size + 1) (.int .i64 k) (.int .i64 m) (.int .i64 o) (.string t)).mono (by simp))
 obtain ⟨fp, o1, _, _⟩ := h.own
 exact ⟨[a, b, cc, dd], x, fp, ⟨k, m, o, t⟩, keep, rfl, hP, Rep.low diskR (Rep.own_only o1 hw (fun y hy hm => by have := (Rep.lt diskR o1 y hy).1; simp at hm; omega)) (by omega), Rep.Only.below h.below hw h.below.size (fun y hy => by simp at hy; omega)⟩
set_option maxRecDepth 2000000 in
set_option maxHeartbeats 16000000 in
theorem drawJour_any (A : Option Addr) (c : Nat) (code : List UInt8) (w : World) (h : Reads w w.heap.size 1 A code.length (bys code)) (hn : code.length ≤ 1048576) (hg : Given w) :
  Calls Tryz.prog 15 #[.slice A code.length c] w (RetDJ w) := by
 have hb0 : Below w.heap.size w ((w.alloc (.cells #[.slice none 0 0, .slice none 0 0, .int .i64 0, .bool false] 27)).alloc (.cells #[.int .i64 0, .int .i64 0, .int .i64 0, .string ⟨#[]⟩] 29)) := Later.trans (Later.alloc w _) (Later.alloc _ _)
 have hz0 : ((w.alloc (.cells #[.slice none 0 0, .slice none 0 0, .int .i64 0, .bool false] 27)).alloc (.cells #[.int .i64 0, .int .i64 0, .int .i64 0, .string ⟨#[]⟩] 29)).heap[w.heap.size]? = some (.cells [.slice none 0 0, .slice none 0 0, .int .i64 0, .bool false].toArray 27 (0, 0)) := (Below.heap_alloc _ _ _ (by simp)).trans (heap_alloc_new w _)
 have hr0 : ((w.alloc (.cells #[.slice none 0 0, .slice none 0 0, .int .i64 0, .bool false] 27)).alloc (.cells #[.int .i64 0, .int .i64 0, .int .i64 0, .string ⟨#[]⟩] 29)).heap[w.heap.size + 1]? = some (.cells (recC zeroRec).toArray 29 (0, 0)) := heap_alloc_new' _ _ (by simp)
 have hs0 : w.heap.size + 1 < ((w.alloc (.cells #[.slice none 0 0, .slice none 0 0, .int .i64 0, .bool false] 27)).alloc (.cells #[.int .i64 0, .int .i64 0, .int .i64 0, .string ⟨#[]⟩] 29)).heap.size := by simp
 have h1 := (h.below hb0).more hb0.size
 have hg1 : Given ((w.alloc (.cells #[.slice none 0 0, .slice none 0 0, .int .i64 0, .bool false] 27)).alloc (.cells #[.int .i64 0, .int .i64 0, .int .i64 0, .string ⟨#[]⟩] 29)) := Keeps.keeps (F := Given) hb0 hg
 clear h hg
 go_enter Tryz.func15, Tryz.ntmps15
 go_upto_region 1 with (fail)
 generalize (w.alloc (.cells #[.slice none 0 0, .slice none 0 0, .int .i64 0, .bool false] 27)).alloc (.cells #[.int .i64 0, .int .i64 0, .int .i64 0, .string ⟨#[]⟩] 29) = w1 at hb0 hz0 hr0 hs0 h1 hg1 ⊢
 have HG := Lib.hid hg1
 go_wp2_with fail
 refine (l1New_any A c code w1 h1 hn).mono ?_
 rintro e W2 ⟨g, rfl, hcur, hb1⟩
 clear h1 hg1
 go_wp2_with fail
 refine (draw_int w1.heap.size g A code.length c code [8, 8, 40] W2 hcur (by omega) (by decide) (by decide)).mono ?_
 rintro e W3 ⟨z, hz, rfl, hc3, ho3⟩
 obtain ⟨mz, hmz, rfl⟩ : ∃ m : Nat, m ≤ 40 ∧ z = (m : Int) := by
  simp only [List.mem_cons, List.not_mem_nil, or_false] at hz
  rcases hz with rfl | rfl | rfl
  ·exact ⟨8, by omega, rfl⟩
  ·exact ⟨8, by omega, rfl⟩
  ·exact ⟨40, by omega, rfl⟩
 have hgl := hcur.from_
 have hb3 : Below w1.heap.size w1 W3 := Rep.Only.below hb1 ho3 hb1.size (fun a ha => by simp at ha; omega)
 have HM := Lib.hid hmz
 clear hz hcur hb1 ho3 hmz
 go_wp2_with fail
 refine (l5Draw_any w1 g A code.length c code mz W3 hc3 (by omega) hb3 HG.out HM.out).mono ?_
 rintro e W4 ⟨cs4, x, fp4, rfl, HI4, O4, hc4, ho4⟩
 obtain ⟨A2, c2, B2, f2, rfl⟩ := disk_own_shape O4
 have HI := Lib.hid (show JInv x 40 from HI4.mono (by have := HM.out; omega))
 have hb4 : Below w1.heap.size w1 W4 := Rep.Only.below hb3 ho4 hb3.size (fun a ha => by simp at ha; omega)
 have hg3 := hc3.lt
 have hs3 := hb3.size
 have J : KB w w1 g A code.length c code W4.heap.size [.slice A2 x.secs.length c2, .slice B2 x.cache.length f2, .int .i64 x.fuse, .bool x.down] x (W4.alloc (.cells #[.slice A2 x.secs.length c2, .slice B2 x.cache.length f2, .int .i64 x.fuse, .bool x.down] 27)) := by
  have hb5 := Later.trans hb4 (Later.alloc W4 (.cells #[.slice A2 x.secs.length c2, .slice B2 x.cache.length f2, .int .i64 x.fuse, .bool x.down] 27))
  have h4 := ho4.size
  refine ⟨hc4.alloc _, Later.trans hb0 hb5, hb5, (hb5.block _ (by omega)).trans hz0, (hb5.block _ (by omega)).trans hr0, heap_alloc_new W4 _, ⟨fp4, Rep.low diskR (Rep.own_only O4 (Rep.only_alloc W4 _) (fun a _ hm => by cases hm)) hs3, fun hm => ?_, fun hm => ?_⟩, ⟨by omega, by have := hc4.lt; omega⟩, by omega⟩
  ·have := (Rep.lt diskR O4 _ hm).2
   omega
  ·have := (Rep.lt diskR O4 _ hm).1
   omega
 go_upto_region 3 with (fail)
 clear hb0 hz0 hr0 hs0 hb3 hb4 hc3 hc4 ho4 O4 HI4 hgl hg3 hs3
 generalize W4.alloc (.cells #[.slice A2 x.secs.length c2, .slice B2 x.cache.length f2, .int .i64 x.fuse, .bool x.down] 27) = W5 at J ⊢
 generalize W4.heap.size = D at J ⊢
 obtain ⟨d0, d1, d2, d3⟩ := disk4 J.dbox
 go_wp2_with fail
 refine (openJourS_any [.slice A2 x.secs.length c2, .slice B2 x.cache.length f2, .int .i64 x.fuse, .bool x.down] x W5 J.at HI.out.fits (Keeps.keeps (F := Given) J.belowL HG.out)).mono ?_
 clear d0 d1 d2 d3
 obtain ⟨⟨⟨⟨ja, jb, jp, jq, je, jf⟩, jg, jm⟩, ok⟩, hp⟩ : ∃ p, openP x = p := ⟨_, rfl⟩
 rw [hp]
 have hjg := openP_good x
 rw [hp] at hjg
 have hja : 0 ≤ ja ∧ ja ≤ 60000 := hjg.1.gen
 have hjp : 0 ≤ jp ∧ jp ≤ 60000 := hjg.1.pGen
 have hje : 0 ≤ je ∧ je ≤ 60000 := hjg.1.epoch
 have HACC := Lib.hid (show ∀ r : Rec, KindOk r → r.n = nextN ⟨ja, jb, jp, jq, je, jf⟩ r.kind → ¬ (r.kind = 2 ∧ jp = 0) → ∃ k', applyP (openP x).1.k r = (k', true) ∧ k'.epoch ≤ 41 by
  intro r hr hn2 hne
  have hkk := hjg.1
  rw [hp]
  obtain ⟨C, k, gg, p, u1, u2, u3, u4, u5, u6⟩ := HI.out
  have hop := open_JI u1.good u1.len (by rw [u1.rd]; exact u2)
  rw [hp] at hop
  have ek : (⟨ja, jb, jp, jq, je, jf⟩ : Known) = k := congrArg (fun q : Jour × Bool => q.1.k) hop
  rw [← ek] at u4 u5 u6
  rcases next_apply hkk hr hn2 u4 u5 u6 (by omega) with h9 | ⟨k', h9, _, _, h10⟩
  ·exact absurd h9 hne
  ·exact ⟨k', h9, by omega⟩)
 clear hp hjg
 rintro e1 V1 hret
 obtain ⟨rfl, hb⟩ := hret.lit8
 replace J := J.later hb
 clear hret hb
 have HJ := heap_alloc_new V1 (.cells #[.int .i64 ja, .string jb, .int .i64 jp, .string jq, .int .i64 je, .int .i64 jf, .int .i64 jg, .int .i64 jm] 37)
 have hDj := J.lt
 have hgj := J.cur.lt
 replace J := J.later (Later.alloc V1 (.cells #[.int .i64 ja, .string jb, .int .i64 jp, .string jq, .int .i64 je, .int .i64 jf, .int .i64 jg, .int .i64 jm] 37))
 go_upto_region 4 with (fail)
 generalize V1.alloc (.cells #[.int .i64 ja, .string jb, .int .i64 jp, .string jq, .int .i64 je, .int .i64 jf, .int .i64 jg, .int .i64 jm] 37) = V2 at HJ J ⊢
 generalize V1.heap.size = DJ at HJ hDj hgj ⊢
 go_wp2_with fail
 refine (l4Draw_good w1.heap.size g A code.length c code V2 J.cur (by omega)).mono ?_
 rintro e2 V3 ⟨⟨rk, rn, ro, rt⟩, rfl, ⟨hts, hkind, _⟩, hc3, ho3⟩
 replace hts : rt.size ≤ 100 := hts
 have HTS := Lib.hid hts
 have HKD := Lib.hid hkind
 have hDJ := (Array.getElem?_eq_some_iff.1 HJ).1
 replace HJ := (ho3.block _ hDJ (by simp; omega)).trans HJ
 replace J := J.step hc3 ho3
 clear hc3 ho3 hts
 have hDJ := (Array.getElem?_eq_some_iff.1 HJ).1
 have HE := heap_alloc_new V3 (.cells #[.int .i64 rk, .int .i64 rn, .int .i64 ro, .string rt] 29)
 have hDE : D < V3.heap.size ∧ g < V3.heap.size := ⟨J.lt, J.cur.lt⟩
 have K := J.alone (Later.alloc V3 (.cells #[.int .i64 rk, .int .i64 rn, .int .i64 ro, .string rt] 29))
 replace HJ := ((Later.alloc V3 (.cells #[.int .i64 rk, .int .i64 rn, .int .i64 ro, .string rt] 29)).block _ hDJ).trans HJ
 go_upto_region 5 with (fail)
 clear J
 generalize V3.alloc (.cells #[.int .i64 rk, .int .i64 rn, .int .i64 ro, .string rt] 29) = V4 at HE HJ K ⊢
 generalize V3.heap.size = E at HE hDE hDJ K ⊢
 rcases hkind with hk1 | hk2 | hk3
 ·have hrk : rk = 1 := hk1.1
  subst hrk
  clear hk1
  obtain ⟨e0, e1, e2, e3⟩ := rec_box (r := ⟨1, rn, ro, rt⟩) HE
  obtain ⟨j0, j1, j2, j3, j4, j5, j6, j7⟩ := jour_box (r := ⟨⟨ja, jb, jp, jq, je, jf⟩, jg, jm⟩) HJ
  have ef1 := var_frozen HE 1
  have hEl := (Array.getElem?_eq_some_iff.1 HE).1
  have HE2 : (V4.setCell ⟨E, 1, none⟩ (.int .i64 (ja + 1))).heap[E]? = some (.cells (recC ⟨1, ja + 1, ro, rt⟩).toArray 29 (0, 0)) := var_set HE 1 (.int .i64 (ja + 1))
  have K2 := (K.1.beside hDE K.2 (Rep.Only.setCell V4 (p := ⟨E, 1, none⟩) (by simp) (.int .i64 (ja + 1)))).1
  clear HJ K
  go_upto_region 13 with (fail)
  clear e0 e1 e2 e3 j0 j1 j2 j3 j4 j5 j6 j7 ef1 HE
  generalize V4.setCell ⟨E, 1, none⟩ (.int .i64 (ja + 1)) = V5 at HE2 K2 ⊢
  have HAC := Lib.hid (show ∃ k', applyP (openP x).1.k ⟨1, ja + 1, ro, rt⟩ = (k', true) ∧ k'.epoch ≤ 41 from HACC.out ⟨1, ja + 1, ro, rt⟩ HKD.out rfl (fun h9 => by cases h9.1))
  refine wp_region_lex' 100 [0, 1, 2] [3, 4, 5, 6] (fun w' => w'.heap[D]? = some (.cells [.slice A2 x.secs.length c2, .slice B2 x.cache.length f2, .int .i64 x.fuse, .bool x.down].toArray 27 (0, 0)) ∧ w'.heap[E]? = some (.cells (recC ⟨1, ja + 1, ro, rt⟩).toArray 29 (0, 0))) (by kernel_rfl) (by kernel_rfl) ⟨K2.dbox, HE2⟩ ?_
  replace HE2 := ((Later.drew V5).block _ (Array.getElem?_eq_some_iff.1 HE2).1).trans HE2
  replace K2 := K2.later (Later.drew V5)
  iterate 3 (refine LexR.cons rfl ?_ (fun w' hw => ?_) ?_; rotate_left; focus (obtain ⟨hw1, hw2⟩ := hw; obtain ⟨d0, d1, d2, d3⟩ := disk4 hw1; obtain ⟨e0, e1, e2, e3⟩ := rec_box (r := ⟨1, ja + 1, ro, rt⟩) hw2; clear hw1 hw2; go_simp; (try exact rfl)); (try go_frame))
  refine LexR.nil (LexW.cons rfl ?_)
  try go_frame
  generalize V5.drew = V6 at HE2 K2 ⊢
  go_wp2_with fail
  refine (l1Below_any w1.heap.size g A code.length c code 256 V6 K2.cur (by omega) (by omega) (by omega)).mono ?_
  rintro e5 V7 ⟨keep, hkeep, rfl, hc7, hg7⟩
  have HKP := Lib.hid hkeep
  replace HE2 := ((only_g hg7).block _ (Array.getElem?_eq_some_iff.1 HE2).1 (by simp; omega)).trans HE2
  replace K2 := K2.step hc7 (only_g hg7)
  clear hc7 hg7 hkeep
  obtain ⟨z0, z1, z2, z3⟩ := disk4 K2.zbox
  obtain ⟨y0, y1, y2, y3⟩ := rec_box (r := zeroRec) K2.rbox
  have zf0 := var_frozen K2.zbox 0
  have zf1 := var_frozen K2.zbox 1
  have zf2 := var_frozen K2.zbox 2
  have zf3 := var_frozen K2.zbox 3
  have yf0 := var_frozen K2.rbox 0
  have yf1 := var_frozen K2.rbox 1
  have yf2 := var_frozen K2.rbox 2
  have yf3 := var_frozen K2.rbox 3
  have hlz : w.heap.size + 1 < V7.heap.size := (Array.getElem?_eq_some_iff.1 K2.rbox).1
  have HR := Lib.hid (K2.ret 1 (ja + 1) ro rt keep ⟨HI.out, HTS.out, HAC.out, HKP.out⟩)
  have hw := K2.hw
  have hdl := K2.hD
  have hS0 : V7.heap[D]? = some (.cells [.slice A2 x.secs.length c2, .slice B2 x.cache.length f2, .int .i64 x.fuse, .bool x.down].toArray 27 (0, 0)) ∧ V7.heap[E]? = some (.cells (recC ⟨1, ja + 1, ro, rt⟩).toArray 29 (0, 0)) := ⟨K2.dbox, HE2⟩
  have hD7 := K2.lt
  have hE7 := (Array.getElem?_eq_some_iff.1 HE2).1
  have hS1 := putD_only V7 w.heap.size (.slice A2 x.secs.length c2) (.slice B2 x.cache.length f2) (.int .i64 x.fuse) (.bool x.down)
  have hS2 := putR4_only ((((V7.setCell ⟨w.heap.size, 0, none⟩ (.slice A2 x.secs.length c2)).setCell ⟨w.heap.size, 1, none⟩ (.slice B2 x.cache.length f2)).setCell ⟨w.heap.size, 2, none⟩ (.int .i64 x.fuse)).setCell ⟨w.heap.size, 3, none⟩ (.bool x.down)) (w.heap.size + 1) (.int .i64 1) (.int .i64 (ja + 1)) (.int .i64 ro) (.string rt)
  have hT1 := And.intro ((hS1.block D hD7 (by simp; omega)).trans hS0.1) ((hS1.block E hE7 (by simp; omega)).trans hS0.2)
  have hT2 := And.intro ((hS2.block D (Nat.lt_of_lt_of_le hD7 hS1.size) (by simp; omega)).trans hT1.1) ((hS2.block E (Nat.lt_of_lt_of_le hE7 hS1.size) (by simp; omega)).trans hT1.2)
  have HT1 := Lib.hid hT1
  have HT2 := Lib.hid hT2
  have HS0 := Lib.hid hS0
  clear K2 HE2 hS0 hS1 hS2 hT1 hT2 hD7 hE7 hw hdl
  go_wp2_with fail
  refine ⟨by first | exact HS0.out | exact fun _ => HS0.out, LexW.cons rfl ?_⟩
  try go_frame
  go_wp2_with fail
  refine ⟨by first | exact HT1.out | exact fun _ => HT1.out, LexW.cons rfl ?_⟩
  try go_frame
  go_wp2_with fail
  refine ⟨by first | exact HT2.out | exact fun _ => HT2.out, LexW.cons rfl ?_⟩
  try go_frame
  go_wp2_with fail
  refine ⟨by first | exact HT2.out | exact fun _ => HT2.out, LexW.nil ?_⟩
  go_wp2_with fail
  exact bodyPost_ret (v := .tuple #[.agg #[.slice A2 x.secs.length c2, .slice B2 x.cache.length f2, .int .i64 x.fuse, .bool x.down], .agg #[.int .i64 1, .int .i64 (ja + 1), .int .i64 ro, .string rt], .int .i64 keep]) (by simp [results, Tryz.results15, go_sem, z0, z1, z2, z3, y0, y1, y2, y3]) rfl HR.out
 ·have hrk : rk = 2 := hk2.1
  subst hrk
  clear hk2
  obtain ⟨e0, e1, e2, e3⟩ := rec_box (r := ⟨2, rn, ro, rt⟩) HE
  obtain ⟨j0, j1, j2, j3, j4, j5, j6, j7⟩ := jour_box (r := ⟨⟨ja, jb, jp, jq, je, jf⟩, jg, jm⟩) HJ
  have ef1 := var_frozen HE 1
  have hEl := (Array.getElem?_eq_some_iff.1 HE).1
  have HE2 : (V4.setCell ⟨E, 1, none⟩ (.int .i64 jp)).heap[E]? = some (.cells (recC ⟨2, jp, ro, rt⟩).toArray 29 (0, 0)) := var_set HE 1 (.int .i64 jp)
  have K2 := K.1.beside hDE K.2 (Rep.Only.setCell V4 (p := ⟨E, 1, none⟩) (by simp) (.int .i64 jp))
  have HJ2 := ((Rep.Only.setCell V4 (fp := [E]) (p := ⟨E, 1, none⟩) (by simp) (.int .i64 jp)).block _ (Array.getElem?_eq_some_iff.1 HJ).1 (by simp; omega)).trans HJ
  clear K
  go_upto_region 11 with (fail)
  clear e0 e1 e2 e3 j0 j1 j2 j3 j4 j5 j6 j7 ef1 HE HJ hEl
  generalize V4.setCell ⟨E, 1, none⟩ (.int .i64 jp) = V5 at HE2 HJ2 K2 ⊢
  obtain ⟨e0, e1, e2, e3⟩ := rec_box (r := ⟨2, jp, ro, rt⟩) HE2
  obtain ⟨j0, j1, j2, j3, j4, j5, j6, j7⟩ := jour_box (r := ⟨⟨ja, jb, jp, jq, je, jf⟩, jg, jm⟩) HJ2
  by_cases hz0 : jp = 0
  ·subst hz0
   have ef0 := var_frozen HE2 0
   have ef1 := var_frozen HE2 1
   have ef2 := var_frozen HE2 2
   have ef3 := var_frozen HE2 3
   have hEl := (Array.getElem?_eq_some_iff.1 HE2).1
   have HE3 := setR4_box (r0 := ⟨2, 0, ro, rt⟩) HE2 3 (je + 1) 0 ⟨#[]⟩
   have K3 := (K2.1.beside hDE K2.2 (putR4_only V5 E (.int .i64 3) (.int .i64 (je + 1)) (.int .i64 0) (.string ⟨#[]⟩))).1
   clear K2 HJ2 HE2
   go_upto_region 13 with (fail)
   clear e0 e1 e2 e3 j0 j1 j2 j3 j4 j5 j6 j7 ef0 ef1 ef2 ef3
   generalize ((((V5.setCell ⟨E, 0, none⟩ (.int .i64 3)).setCell ⟨E, 1, none⟩ (.int .i64 (je + 1))).setCell ⟨E, 2, none⟩ (.int .i64 0)).setCell ⟨E, 3, none⟩ (.string ⟨#[]⟩)) = V5 at HE3 K3 ⊢
   have HE2 := HE3
   have K2 := K3
   clear HE3 K3
   have HAC := Lib.hid (show ∃ k', applyP (openP x).1.k ⟨3, je + 1, 0, ⟨#[]⟩⟩ = (k', true) ∧ k'.epoch ≤ 41 from HACC.out ⟨3, je + 1, 0, ⟨#[]⟩⟩ (.inr (.inr ⟨rfl, ⟨by show (0 : Int) ≤ 0; omega, by show (0 : Int) ≤ 1; omega⟩, rfl⟩)) rfl (fun h9 => by cases h9.1))
   refine wp_region_lex' 100 [0, 1, 2] [3, 4, 5, 6] (fun w' => w'.heap[D]? = some (.cells [.slice A2 x.secs.length c2, .slice B2 x.cache.length f2, .int .i64 x.fuse, .bool x.down].toArray 27 (0, 0)) ∧ w'.heap[E]? = some (.cells (recC ⟨3, je + 1, 0, ⟨#[]⟩⟩).toArray 29 (0, 0))) (by kernel_rfl) (by kernel_rfl) ⟨K2.dbox, HE2⟩ ?_
   replace HE2 := ((Later.drew V5).block _ (Array.getElem?_eq_some_iff.1 HE2).1).trans HE2
   replace K2 := K2.later (Later.drew V5)
   iterate 3 (refine LexR.cons rfl ?_ (fun w' hw => ?_) ?_; rotate_left; focus (obtain ⟨hw1, hw2⟩ := hw; obtain ⟨d0, d1, d2, d3⟩ := disk4 hw1; obtain ⟨e0, e1, e2, e3⟩ := rec_box (r := ⟨3, je + 1, 0, ⟨#[]⟩⟩) hw2; clear hw1 hw2; go_simp; (try exact rfl)); (try go_frame))
   refine LexR.nil (LexW.cons rfl ?_)
   try go_frame
   generalize V5.drew = V6 at HE2 K2 ⊢
   go_wp2_with fail
   refine (l1Below_any w1.heap.size g A code.length c code 256 V6 K2.cur (by omega) (by omega) (by omega)).mono ?_
   rintro e5 V7 ⟨keep, hkeep, rfl, hc7, hg7⟩
   have HKP := Lib.hid hkeep
   replace HE2 := ((only_g hg7).block _ (Array.getElem?_eq_some_iff.1 HE2).1 (by simp; omega)).trans HE2
   replace K2 := K2.step hc7 (only_g hg7)
   clear hc7 hg7 hkeep
   obtain ⟨z0, z1, z2, z3⟩ := disk4 K2.zbox
   obtain ⟨y0, y1, y2, y3⟩ := rec_box (r := zeroRec) K2.rbox
   have zf0 := var_frozen K2.zbox 0
   have zf1 := var_frozen K2.zbox 1
   have zf2 := var_frozen K2.zbox 2
   have zf3 := var_frozen K2.zbox 3
   have yf0 := var_frozen K2.rbox 0
   have yf1 := var_frozen K2.rbox 1
   have yf2 := var_frozen K2.rbox 2
   have yf3 := var_frozen K2.rbox 3
   have hlz : w.heap.size + 1 < V7.heap.size := (Array.getElem?_eq_some_iff.1 K2.rbox).1
   have HR := Lib.hid (K2.ret 3 (je + 1) 0 ⟨#[]⟩ keep ⟨HI.out, by decide, HAC.out, HKP.out⟩)
   have hw := K2.hw
   have hdl := K2.hD
   have hS0 : V7.heap[D]? = some (.cells [.slice A2 x.secs.length c2, .slice B2 x.cache.length f2, .int .i64 x.fuse, .bool x.down].toArray 27 (0, 0)) ∧ V7.heap[E]? = some (.cells (recC ⟨3, je + 1, 0, ⟨#[]⟩⟩).toArray 29 (0, 0)) := ⟨K2.dbox, HE2⟩
   have hD7 := K2.lt
   have hE7 := (Array.getElem?_eq_some_iff.1 HE2).1
   have hS1 := putD_only V7 w.heap.size (.slice A2 x.secs.length c2) (.slice B2 x.cache.length f2) (.int .i64 x.fuse) (.bool x.down)
   have hS2 := putR4_only ((((V7.setCell ⟨w.heap.size, 0, none⟩ (.slice A2 x.secs.length c2)).setCell ⟨w.heap.size, 1, none⟩ (.slice B2 x.cache.length f2)).setCell ⟨w.heap.size, 2, none⟩ (.int .i64 x.fuse)).setCell ⟨w.heap.size, 3, none⟩ (.bool x.down)) (w.heap.size + 1) (.int .i64 3) (.int .i64 (je + 1)) (.int .i64 0) (.string ⟨#[]⟩)
   have hT1 := And.intro ((hS1.block D hD7 (by simp; omega)).trans hS0.1) ((hS1.block E hE7 (by simp; omega)).trans hS0.2)
   have hT2 := And.intro ((hS2.block D (Nat.lt_of_lt_of_le hD7 hS1.size) (by simp; omega)).trans hT1.1) ((hS2.block E (Nat.lt_of_lt_of_le hE7 hS1.size) (by simp; omega)).trans hT1.2)
   have HT1 := Lib.hid hT1
   have HT2 := Lib.hid hT2
   have HS0 := Lib.hid hS0
   clear K2 HE2 hS0 hS1 hS2 hT1 hT2 hD7 hE7 hw hdl
   go_wp2_with fail
   refine ⟨by first | exact HS0.out | exact fun _ => HS0.out, LexW.cons rfl ?_⟩
   try go_frame
   go_wp2_with fail
   refine ⟨by first | exact HT1.out | exact fun _ => HT1.out, LexW.cons rfl ?_⟩
   try go_frame
   go_wp2_with fail
   refine ⟨by first | exact HT2.out | exact fun _ => HT2.out, LexW.cons rfl ?_⟩
   try go_frame
   go_wp2_with fail
   refine ⟨by first | exact HT2.out | exact fun _ => HT2.out, LexW.nil ?_⟩
   go_wp2_with fail
   exact bodyPost_ret (v := .tuple #[.agg #[.slice A2 x.secs.length c2, .slice B2 x.cache.length f2, .int .i64 x.fuse, .bool x.down], .agg #[.int .i64 3, .int .i64 (je + 1), .int .i64 0, .string ⟨#[]⟩], .int .i64 keep]) (by simp [results, Tryz.results15, go_sem, z0, z1, z2, z3, y0, y1, y2, y3]) rfl HR.out
  ·have nz : (jp == 0) = false := by simp [hz0]
   have HNZ := Lib.hid hz0
   have K3 := K2.1
   clear K2 HJ2
   go_upto_region 13 with (fail)
   clear e0 e1 e2 e3 j0 j1 j2 j3 j4 j5 j6 j7
   have K2 := K3
   clear K3
   have HAC := Lib.hid (show ∃ k', applyP (openP x).1.k ⟨2, jp, ro, rt⟩ = (k', true) ∧ k'.epoch ≤ 41 from HACC.out ⟨2, jp, ro, rt⟩ HKD.out rfl (fun h9 => HNZ.out h9.2))
   refine wp_region_lex' 100 [0, 1, 2] [3, 4, 5, 6] (fun w' => w'.heap[D]? = some (.cells [.slice A2 x.secs.length c2, .slice B2 x.cache.length f2, .int .i64 x.fuse, .bool x.down].toArray 27 (0, 0)) ∧ w'.heap[E]? = some (.cells (recC ⟨2, jp, ro, rt⟩).toArray 29 (0, 0))) (by kernel_rfl) (by kernel_rfl) ⟨K2.dbox, HE2⟩ ?_
   replace HE2 := ((Later.drew V5).block _ (Array.getElem?_eq_some_iff.1 HE2).1).trans HE2
   replace K2 := K2.later (Later.drew V5)
   iterate 3 (refine LexR.cons rfl ?_ (fun w' hw => ?_) ?_; rotate_left; focus (obtain ⟨hw1, hw2⟩ := hw; obtain ⟨d0, d1, d2, d3⟩ := disk4 hw1; obtain ⟨e0, e1, e2, e3⟩ := rec_box (r := ⟨2, jp, ro, rt⟩) hw2; clear hw1 hw2; go_simp; (try exact rfl)); (try go_frame))
   refine LexR.nil (LexW.cons rfl ?_)
   try go_frame
   generalize V5.drew = V6 at HE2 K2 ⊢
   go_wp2_with fail
   refine (l1Below_any w1.heap.size g A code.length c code 256 V6 K2.cur (by omega) (by omega) (by omega)).mono ?_
   rintro e5 V7 ⟨keep, hkeep, rfl, hc7, hg7⟩
   have HKP := Lib.hid hkeep
   replace HE2 := ((only_g hg7).block _ (Array.getElem?_eq_some_iff.1 HE2).1 (by simp; omega)).trans HE2
   replace K2 := K2.step hc7 (only_g hg7)
   clear hc7 hg7 hkeep
   obtain ⟨z0, z1, z2, z3⟩ := disk4 K2.zbox
   obtain ⟨y0, y1, y2, y3⟩ := rec_box (r := zeroRec) K2.rbox
   have zf0 := var_frozen K2.zbox 0
   have zf1 := var_frozen K2.zbox 1
   have zf2 := var_frozen K2.zbox 2
   have zf3 := var_frozen K2.zbox 3
   have yf0 := var_frozen K2.rbox 0
   have yf1 := var_frozen K2.rbox 1
   have yf2 := var_frozen K2.rbox 2
   have yf3 := var_frozen K2.rbox 3
   have hlz : w.heap.size + 1 < V7.heap.size := (Array.getElem?_eq_some_iff.1 K2.rbox).1
   have HR := Lib.hid (K2.ret 2 jp ro rt keep ⟨HI.out, HTS.out, HAC.out, HKP.out⟩)
   have hw := K2.hw
   have hdl := K2.hD
   have hS0 : V7.heap[D]? = some (.cells [.slice A2 x.secs.length c2, .slice B2 x.cache.length f2, .int .i64 x.fuse, .bool x.down].toArray 27 (0, 0)) ∧ V7.heap[E]? = some (.cells (recC ⟨2, jp, ro, rt⟩).toArray 29 (0, 0)) := ⟨K2.dbox, HE2⟩
   have hD7 := K2.lt
   have hE7 := (Array.getElem?_eq_some_iff.1 HE2).1
   have hS1 := putD_only V7 w.heap.size (.slice A2 x.secs.length c2) (.slice B2 x.cache.length f2) (.int .i64 x.fuse) (.bool x.down)
   have hS2 := putR4_only ((((V7.setCell ⟨w.heap.size, 0, none⟩ (.slice A2 x.secs.length c2)).setCell ⟨w.heap.size, 1, none⟩ (.slice B2 x.cache.length f2)).setCell ⟨w.heap.size, 2, none⟩ (.int .i64 x.fuse)).setCell ⟨w.heap.size, 3, none⟩ (.bool x.down)) (w.heap.size + 1) (.int .i64 2) (.int .i64 (jp)) (.int .i64 ro) (.string rt)
   have hT1 := And.intro ((hS1.block D hD7 (by simp; omega)).trans hS0.1) ((hS1.block E hE7 (by simp; omega)).trans hS0.2)
   have hT2 := And.intro ((hS2.block D (Nat.lt_of_lt_of_le hD7 hS1.size) (by simp; omega)).trans hT1.1) ((hS2.block E (Nat.lt_of_lt_of_le hE7 hS1.size) (by simp; omega)).trans hT1.2)
   have HT1 := Lib.hid hT1
   have HT2 := Lib.hid hT2
   have HS0 := Lib.hid hS0
   clear K2 HE2 hS0 hS1 hS2 hT1 hT2 hD7 hE7 hw hdl
   go_wp2_with fail
   refine ⟨by first | exact HS0.out | exact fun _ => HS0.out, LexW.cons rfl ?_⟩
   try go_frame
   go_wp2_with fail
   refine ⟨by first | exact HT1.out | exact fun _ => HT1.out, LexW.cons rfl ?_⟩
   try go_frame
   go_wp2_with fail
   refine ⟨by first | exact HT2.out | exact fun _ => HT2.out, LexW.cons rfl ?_⟩
   try go_frame
   go_wp2_with fail
   refine ⟨by first | exact HT2.out | exact fun _ => HT2.out, LexW.nil ?_⟩
   go_wp2_with fail
   exact bodyPost_ret (v := .tuple #[.agg #[.slice A2 x.secs.length c2, .slice B2 x.cache.length f2, .int .i64 x.fuse, .bool x.down], .agg #[.int .i64 2, .int .i64 (jp), .int .i64 ro, .string rt], .int .i64 keep]) (by simp [results, Tryz.results15, go_sem, z0, z1, z2, z3, y0, y1, y2, y3]) rfl HR.out
 ·have hrk : rk = 3 := hk3.1
  subst hrk
  clear hk3
  obtain ⟨e0, e1, e2, e3⟩ := rec_box (r := ⟨3, rn, ro, rt⟩) HE
  obtain ⟨j0, j1, j2, j3, j4, j5, j6, j7⟩ := jour_box (r := ⟨⟨ja, jb, jp, jq, je, jf⟩, jg, jm⟩) HJ
  have ef1 := var_frozen HE 1
  have hEl := (Array.getElem?_eq_some_iff.1 HE).1
  have HE2 : (V4.setCell ⟨E, 1, none⟩ (.int .i64 (je + 1))).heap[E]? = some (.cells (recC ⟨3, je + 1, ro, rt⟩).toArray 29 (0, 0)) := var_set HE 1 (.int .i64 (je + 1))
  have K2 := (K.1.beside hDE K.2 (Rep.Only.setCell V4 (p := ⟨E, 1, none⟩) (by simp) (.int .i64 (je + 1)))).1
  clear HJ K
  go_upto_region 13 with (fail)
  clear e0 e1 e2 e3 j0 j1 j2 j3 j4 j5 j6 j7 ef1 HE
  generalize V4.setCell ⟨E, 1, none⟩ (.int .i64 (je + 1)) = V5 at HE2 K2 ⊢
  have HAC := Lib.hid (show ∃ k', applyP (openP x).1.k ⟨3, je + 1, ro, rt⟩ = (k', true) ∧ k'.epoch ≤ 41 from HACC.out ⟨3, je + 1, ro, rt⟩ HKD.out rfl (fun h9 => by cases h9.1))
  refine wp_region_lex' 100 [0, 1, 2] [3, 4, 5, 6] (fun w' => w'.heap[D]? = some (.cells [.slice A2 x.secs.length c2, .slice B2 x.cache.length f2, .int .i64 x.fuse, .bool x.down].toArray 27 (0, 0)) ∧ w'.heap[E]? = some (.cells (recC ⟨3, je + 1, ro, rt⟩).toArray 29 (0, 0))) (by kernel_rfl) (by kernel_rfl) ⟨K2.dbox, HE2⟩ ?_
  replace HE2 := ((Later.drew V5).block _ (Array.getElem?_eq_some_iff.1 HE2).1).trans HE2
  replace K2 := K2.later (Later.drew V5)
  iterate 3 (refine LexR.cons rfl ?_ (fun w' hw => ?_) ?_; rotate_left; focus (obtain ⟨hw1, hw2⟩ := hw; obtain ⟨d0, d1, d2, d3⟩ := disk4 hw1; obtain ⟨e0, e1, e2, e3⟩ := rec_box (r := ⟨3, je + 1, ro, rt⟩) hw2; clear hw1 hw2; go_simp; (try exact rfl)); (try go_frame))
  refine LexR.nil (LexW.cons rfl ?_)
  try go_frame
  generalize V5.drew = V6 at HE2 K2 ⊢
  go_wp2_with fail
  refine (l1Below_any w1.heap.size g A code.length c code 256 V6 K2.cur (by omega) (by omega) (by omega)).mono ?_
  rintro e5 V7 ⟨keep, hkeep, rfl, hc7, hg7⟩
  have HKP := Lib.hid hkeep
  replace HE2 := ((only_g hg7).block _ (Array.getElem?_eq_some_iff.1 HE2).1 (by simp; omega)).trans HE2
  replace K2 := K2.step hc7 (only_g hg7)
  clear hc7 hg7 hkeep
  obtain ⟨z0, z1, z2, z3⟩ := disk4 K2.zbox
  obtain ⟨y0, y1, y2, y3⟩ := rec_box (r := zeroRec) K2.rbox
  have zf0 := var_frozen K2.zbox 0
  have zf1 := var_frozen K2.zbox 1
  have zf2 := var_frozen K2.zbox 2
  have zf3 := var_frozen K2.zbox 3
  have yf0 := var_frozen K2.rbox 0
  have yf1 := var_frozen K2.rbox 1
  have yf2 := var_frozen K2.rbox 2
  have yf3 := var_frozen K2.rbox 3
  have hlz : w.heap.size + 1 < V7.heap.size := (Array.getElem?_eq_some_iff.1 K2.rbox).1
  have HR := Lib.hid (K2.ret 3 (je + 1) ro rt keep ⟨HI.out, HTS.out, HAC.out, HKP.out⟩)
  have hw := K2.hw
  have hdl := K2.hD
  have hS0 : V7.heap[D]? = some (.cells [.slice A2 x.secs.length c2, .slice B2 x.cache.length f2, .int .i64 x.fuse, .bool x.down].toArray 27 (0, 0)) ∧ V7.heap[E]? = some (.cells (recC ⟨3, je + 1, ro, rt⟩).toArray 29 (0, 0)) := ⟨K2.dbox, HE2⟩
  have hD7 := K2.lt
  have hE7 := (Array.getElem?_eq_some_iff.1 HE2).1
  have hS1 := putD_only V7 w.heap.size (.slice A2 x.secs.length c2) (.slice B2 x.cache.length f2) (.int .i64 x.fuse) (.bool x.down)
  have hS2 := putR4_only ((((V7.setCell ⟨w.heap.size, 0, none⟩ (.slice A2 x.secs.length c2)).setCell ⟨w.heap.size, 1, none⟩ (.slice B2 x.cache.length f2)).setCell ⟨w.heap.size, 2, none⟩ (.int .i64 x.fuse)).setCell ⟨w.heap.size, 3, none⟩ (.bool x.down)) (w.heap.size + 1) (.int .i64 3) (.int .i64 (je + 1)) (.int .i64 ro) (.string rt)
  have hT1 := And.intro ((hS1.block D hD7 (by simp; omega)).trans hS0.1) ((hS1.block E hE7 (by simp; omega)).trans hS0.2)
  have hT2 := And.intro ((hS2.block D (Nat.lt_of_lt_of_le hD7 hS1.size) (by simp; omega)).trans hT1.1) ((hS2.block E (Nat.lt_of_lt_of_le hE7 hS1.size) (by simp; omega)).trans hT1.2)
  have HT1 := Lib.hid hT1
  have HT2 := Lib.hid hT2
  have HS0 := Lib.hid hS0
  clear K2 HE2 hS0 hS1 hS2 hT1 hT2 hD7 hE7 hw hdl
  go_wp2_with fail
  refine ⟨by first | exact HS0.out | exact fun _ => HS0.out, LexW.cons rfl ?_⟩
  try go_frame
  go_wp2_with fail
  refine ⟨by first | exact HT1.out | exact fun _ => HT1.out, LexW.cons rfl ?_⟩
  try go_frame
  go_wp2_with fail
  refine ⟨by first | exact HT2.out | exact fun _ => HT2.out, LexW.cons rfl ?_⟩
  try go_frame
  go_wp2_with fail
  refine ⟨by first | exact HT2.out | exact fun _ => HT2.out, LexW.nil ?_⟩
  go_wp2_with fail
  exact bodyPost_ret (v := .tuple #[.agg #[.slice A2 x.secs.length c2, .slice B2 x.cache.length f2, .int .i64 x.fuse, .bool x.down], .agg #[.int .i64 3, .int .i64 (je + 1), .int .i64 ro, .string rt], .int .i64 keep]) (by simp [results, Tryz.results15, go_sem, z0, z1, z2, z3, y0, y1, y2, y3]) rfl HR.out
end Go.Proofs.YtoaaogacaibedaaGreatDoor
