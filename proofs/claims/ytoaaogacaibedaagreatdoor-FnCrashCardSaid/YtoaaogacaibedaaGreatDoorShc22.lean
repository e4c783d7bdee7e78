/- What the theorem needs, out of many texts. -/
import Derived.Test.YtoaaogacaibedaaGreatDoorShc21
namespace Go.Proofs.YtoaaogacaibedaaGreatDoor
open Go.RowKit
set_option maxRecDepth 2000000
set_option linter.unusedVariables false
theorem Firm.more {α : Type} {R : Rep α} {W W' : World} {E E' : List Nat} {cs : List Value} {x : α} (h : Firm R W E cs x) (hb : Below W.heap.size W W') (hE : ∀ a, a ∈ E' → a ∈ E ∨ W.heap.size ≤ a) : Firm R W' E' cs x :=
 fun W2 h2 => h W2 (((Rep.only_of_below hb).mono (by simp)).then h2 hE)
theorem RetJ.lit8 {w w' : World} {a : Int} {b : ByteArray} {p : Int} {q : ByteArray} {e f g m : Int} {y : Bool} {en : Ending} (h : RetJ w (⟨⟨a, b, p, q, e, f⟩, g, m⟩, y) en w') : en = .returned (.tuple #[.agg #[.int .i64 a, .string b, .int .i64 p, .string q, .int .i64 e, .int .i64 f, .int .i64 g, .int .i64 m], .bool y]) ∧ Below w.heap.size w w' := h
theorem setJ6_box {W : World} {R : Nat} {k0 : Known} {g m : Int} (h : W.heap[R]? = some (.cells (jourL ⟨k0, g, m⟩).toArray 37 (0, 0))) (a : Int) (b : ByteArray) (p : Int) (q : ByteArray) (e f : Int) : ((((((W.setCell ⟨R, 0, none⟩ (.int .i64 a)).setCell ⟨R, 1, none⟩ (.string b)).setCell ⟨R, 2, none⟩ (.int .i64 p)).setCell ⟨R, 3, none⟩ (.string q)).setCell ⟨R, 4, none⟩ (.int .i64 e)).setCell ⟨R, 5, none⟩ (.int .i64 f)).heap[R]? = some (.cells (jourL ⟨⟨a, b, p, q, e, f⟩, g, m⟩).toArray 37 (0, 0)) := by
 obtain ⟨a0, b0, p0, q0, e0, f0⟩ := k0
 exact var_set (var_set (var_set (var_set (var_set (var_set h 0 (.int .i64 a)) 1 (.string b)) 2 (.int .i64 p)) 3 (.string q)) 4 (.int .i64 e)) 5 (.int .i64 f)
theorem putJ6_only (w : World) (D : Nat) (a : Int) (b : ByteArray) (p : Int) (q : ByteArray) (e f : Int) : Rep.Only w ((((((w.setCell ⟨D, 0, none⟩ (.int .i64 a)).setCell ⟨D, 1, none⟩ (.string b)).setCell ⟨D, 2, none⟩ (.int .i64 p)).setCell ⟨D, 3, none⟩ (.string q)).setCell ⟨D, 4, none⟩ (.int .i64 e)).setCell ⟨D, 5, none⟩ (.int .i64 f)) [D] := putK6_only w D a b p q e f
noncomputable def putLast (d : Disk) (g p : Int) (r : Rec) : Disk := syncDisk (writeSec d (atP g p) (putR g p r))
noncomputable def addTo (d : Disk) (j : Jour) (r : Rec) : Disk × Bool := (putLast d j.g j.place r, !(putLast d j.g j.place r).down)
noncomputable def addP (d : Disk) (r : Rec) : Disk × Bool :=
 if (openP d).2 = true ∧ (applyP (openP d).1.k r).2 = true ∧ d.down = false then
  if (openP d).1.place = 18 then
   if (openP d).1.g = 60000 then (d, false)
   else addTo (layP d (openP d).1) ⟨(openP d).1.k, (openP d).1.g + 1, ((recsL (openP d).1.k).length : Int)⟩ r
  else addTo d (openP d).1 r
 else (d, false)
theorem addP_no {d : Disk} {r : Rec} {j : Jour} {n : Known} {ok yes : Bool} (hp : openP d = (j, ok)) (ha : applyP j.k r = (n, yes)) (h : ¬ (ok = true ∧ yes = true ∧ d.down = false)) : addP d r = (d, false) := by
 unfold addP
 rw [hp]
 exact if_neg (fun h9 => h ⟨h9.1, by have := h9.2.1; rw [show ((j, ok).1 : Jour).k = j.k from rfl, ha] at this; exact this, h9.2.2⟩)
theorem addP_full {d : Disk} {r : Rec} {j : Jour} {n : Known} (hp : openP d = (j, true)) (ha : applyP j.k r = (n, true)) (hd : d.down = false) (hm : j.place = 18) (hg : j.g = 60000) : addP d r = (d, false) := by
 unfold addP
 rw [hp]
 rw [if_pos ⟨rfl, by rw [show ((j, true).1 : Jour).k = j.k from rfl, ha], hd⟩]
 show (if j.place = 18 then _ else _) = _
 rw [if_pos hm]
 show (if j.g = 60000 then _ else _) = _
 rw [if_pos hg]
theorem addP_new {d : Disk} {r : Rec} {j : Jour} {n : Known} (hp : openP d = (j, true)) (ha : applyP j.k r = (n, true)) (hd : d.down = false) (hm : j.place = 18) (hg : j.g ≠ 60000) : addP d r = addTo (layP d j) ⟨j.k, j.g + 1, ((recsL j.k).length : Int)⟩ r := by
 unfold addP
 rw [hp]
 rw [if_pos ⟨rfl, by rw [show ((j, true).1 : Jour).k = j.k from rfl, ha], hd⟩]
 show (if j.place = 18 then _ else _) = _
 rw [if_pos hm]
 show (if j.g = 60000 then _ else _) = _
 rw [if_neg hg]
theorem addP_last {d : Disk} {r : Rec} {j : Jour} {n : Known} (hp : openP d = (j, true)) (ha : applyP j.k r = (n, true)) (hd : d.down = false) (hm : j.place ≠ 18) : addP d r = addTo d j r := by
 unfold addP
 rw [hp]
 rw [if_pos ⟨rfl, by rw [show ((j, true).1 : Jour).k = j.k from rfl, ha], hd⟩]
 show (if j.place = 18 then _ else _) = _
 rw [if_neg hm]
theorem openP_pos {d : Disk} {j : Jour} (h : openP d = (j, true)) : 0 < j.g := by
 unfold openP at h
 split at h
 ·injection h with h1 h2
  rw [h1] at h2
  exact of_decide_eq_true h2
 ·injection h with _ h; cases h
structure AB (w : World) (dv : List Value) (r : Rec) (DO DJ : Nat) (a b cc dd : Value) (x : Disk) (j : Jour) (W : World) : Prop where
 below : Below w.heap.size w W
 dbox : W.heap[w.heap.size]? = some (.cells dv.toArray 27 (0, 0))
 rbox : W.heap[w.heap.size + 1]? = some (.cells (recC r).toArray 29 (0, 0))
 zbox : W.heap[w.heap.size + 2]? = some (.cells [.slice none 0 0, .slice none 0 0, .int .i64 0, .bool false].toArray 27 (0, 0))
 obox : W.heap[DO]? = some (.cells [a, b, cc, dd].toArray 27 (0, 0))
 jbox : W.heap[DJ]? = some (.cells (jourL j).toArray 37 (0, 0))
 own : ∃ (base : Nat) (fp : List Nat), diskR.own W base [a, b, cc, dd] x fp ∧ w.heap.size + 2 < base ∧ DO ∉ fp ∧ DJ ∉ fp
 lto : w.heap.size + 2 < DO
 ltj : DO < DJ
section
variable {w W W' : World} {dv : List Value} {r : Rec} {DO DJ : Nat} {a b cc dd a' b' cc' dd' : Value} {x x' : Disk} {j j' : Jour}
theorem AB.lt (h : AB w dv r DO DJ a b cc dd x j W) : DJ < W.heap.size := (Array.getElem?_eq_some_iff.1 h.jbox).1
theorem AB.at (h : AB w dv r DO DJ a b cc dd x j W) : diskR.at_ W W.heap.size [a, b, cc, dd] x := by
 obtain ⟨base, fp, ho, _⟩ := h.own
 exact Rep.reads diskR ho
theorem AB.still (h : AB w dv r DO DJ a b cc dd x j W) (ho : Rep.Only W W' [DO, DJ]) : ∃ (base : Nat) (fp : List Nat), diskR.own W' base [a, b, cc, dd] x fp ∧ w.heap.size + 2 < base ∧ DO ∉ fp ∧ DJ ∉ fp := by
 obtain ⟨base, fp, h1, h2, h3, h4⟩ := h.own
 refine ⟨base, fp, Rep.own_only h1 ho (fun a ha hb => ?_), h2, h3, h4⟩
 simp at hb
 rcases hb with rfl | rfl
 ·exact h3 ha
 ·exact h4 ha
theorem AB.fin (h : AB w dv r DO DJ a b cc dd x j W) (u0 u1 u2 u3 : Value) : ∃ fp, diskR.own ((((W.setCell ⟨w.heap.size + 2, 0, none⟩ u0).setCell ⟨w.heap.size + 2, 1, none⟩ u1).setCell ⟨w.heap.size + 2, 2, none⟩ u2).setCell ⟨w.heap.size + 2, 3, none⟩ u3) w.heap.size [a, b, cc, dd] x fp ∧ Below w.heap.size w ((((W.setCell ⟨w.heap.size + 2, 0, none⟩ u0).setCell ⟨w.heap.size + 2, 1, none⟩ u1).setCell ⟨w.heap.size + 2, 2, none⟩ u2).setCell ⟨w.heap.size + 2, 3, none⟩ u3) := by
 obtain ⟨base, fp, h1, h2, h3, h4⟩ := h.own
 have hw := putD_only W (w.heap.size + 2) u0 u1 u2 u3
 exact ⟨fp, Rep.low diskR (Rep.own_only h1 hw (fun a ha hb => by have := (Rep.lt diskR h1 a ha).1; simp at hb; omega)) (by omega), Rep.Only.below h.below hw h.below.size (fun a ha => by simp at ha; omega)⟩
theorem AB.step (h : AB w dv r DO DJ a b cc dd x j W) (ho : Rep.Only W W' [DO, DJ]) (hb : W'.heap[DO]? = some (.cells [a', b', cc', dd'].toArray 27 (0, 0))) (hj : W'.heap[DJ]? = some (.cells (jourL j').toArray 37 (0, 0))) (hf : ∃ (base : Nat) (fp : List Nat), diskR.own W' base [a', b', cc', dd'] x' fp ∧ w.heap.size + 2 < base ∧ DO ∉ fp ∧ DJ ∉ fp) : AB w dv r DO DJ a' b' cc' dd' x' j' W' := by
 have h1 := h.lto
 have h2 := h.ltj
 have h3 := h.lt
 exact ⟨Rep.Only.below h.below ho h.below.size (fun a ha => by simp at ha; omega), (ho.block _ (by omega) (by simp; omega)).trans h.dbox, (ho.block _ (by omega) (by simp; omega)).trans h.rbox, (ho.block _ (by omega) (by simp; omega)).trans h.zbox, hb, hj, hf, h1, h2⟩
theorem AB.later (h : AB w dv r DO DJ a b cc dd x j W) (hb : Below W.heap.size W W') : AB w dv r DO DJ a b cc dd x j W' := by
 have h2 := h.ltj
 have h3 := h.lt
 exact h.step ((Rep.only_of_below hb).mono (by simp)) ((hb.block _ (by omega)).trans h.obox) ((hb.block _ h3).trans h.jbox) (h.still ((Rep.only_of_below hb).mono (by simp)))
instance AB.keeps (w : World) (dv : List Value) (r : Rec) (DO DJ : Nat) (a b cc dd : Value) (x : Disk) (j : Jour) : Keeps (fun W => AB w dv r DO DJ a b cc dd x j W) := ⟨fun h x => x.later h⟩
theorem AB.putO (h : AB w dv r DO DJ a b cc dd x j W) {base : Nat} {fp : List Nat} (ho : diskR.own W base [a', b', cc', dd'] x' fp) (hb : DJ < base) : AB w dv r DO DJ a' b' cc' dd' x' j ((((W.setCell ⟨DO, 0, none⟩ a').setCell ⟨DO, 1, none⟩ b').setCell ⟨DO, 2, none⟩ cc').setCell ⟨DO, 3, none⟩ dd') := by
 have h1 := h.lto
 have h2 := h.ltj
 have h3 := h.lt
 have hw := putD_only W DO a' b' cc' dd'
 refine h.step (hw.mono (by simp)) (setD_box h.obox a' b' cc' dd') ((hw.block _ h3 (by simp; omega)).trans h.jbox) ⟨base, fp, Rep.own_only ho hw (fun a ha hm => ?_), by omega, fun hm => ?_, fun hm => ?_⟩
 ·have := (Rep.lt diskR ho _ ha).1
  simp at hm
  omega
 ·have := (Rep.lt diskR ho _ hm).1
  omega
 ·have := (Rep.lt diskR ho _ hm).1
  omega
end
theorem AB.putJK {w W : World} {dv : List Value} {r : Rec} {DO DJ : Nat} {a b cc dd : Value} {x : Disk} {k0 : Known} {g m : Int} (h : AB w dv r DO DJ a b cc dd x ⟨k0, g, m⟩ W) (ka : Int) (kb : ByteArray) (kp : Int) (kq : ByteArray) (ke kf : Int) : AB w dv r DO DJ a b cc dd x ⟨⟨ka, kb, kp, kq, ke, kf⟩, g, m⟩ ((((((W.setCell ⟨DJ, 0, none⟩ (.int .i64 ka)).setCell ⟨DJ, 1, none⟩ (.string kb)).setCell ⟨DJ, 2, none⟩ (.int .i64 kp)).setCell ⟨DJ, 3, none⟩ (.string kq)).setCell ⟨DJ, 4, none⟩ (.int .i64 ke)).setCell ⟨DJ, 5, none⟩ (.int .i64 kf)) := by
 have h2 := h.ltj
 have h3 := h.lt
 have hw := putJ6_only W DJ ka kb kp kq ke kf
 exact h.step (hw.mono (by simp)) ((hw.block _ (by omega) (by simp; omega)).trans h.obox) (setJ6_box h.jbox ka kb kp kq ke kf) (h.still (hw.mono (by simp)))
def RetAdd (w : World) (p : Disk × Bool) (e : Ending) (w' : World) : Prop := ∃ cs fp, e = .returned (.tuple #[.agg cs.toArray, .bool p.2]) ∧ diskR.own w' w.heap.size cs p.1 fp ∧ Below w.heap.size w w'
set_option maxRecDepth 2000000 in
set_option maxHeartbeats 16000000 in
theorem addRecS_any (cs : List Value) (d : Disk) (r : Rec) (w : World) (h : diskR.at_ w w.heap.size cs d) (hf : Fits d) (hg : Given w) (hrs : r.text.size ≤ 1048576) :
  Calls Tryz.prog 11 #[.agg cs.toArray, .agg (recC r).toArray] w (RetAdd w (addP d r)) := by
 obtain ⟨rk, rn, ro, rt⟩ := r
 obtain ⟨A, c, B, e, rfl⟩ := disk_at_shape h
 have HG := Lib.hid hg
 have HD := Lib.hid h
 have HRS := Lib.hid hrs
 have hb0 : Below w.heap.size w (((w.alloc (.cells #[.slice A d.secs.length c, .slice B d.cache.length e, .int .i64 d.fuse, .bool d.down] 27)).alloc (.cells #[.int .i64 rk, .int .i64 rn, .int .i64 ro, .string rt] 29)).alloc (.cells #[.slice none 0 0, .slice none 0 0, .int .i64 0, .bool false] 27)) := Later.trans (Later.trans (Later.alloc w _) (Later.alloc _ _)) (Later.alloc _ _)
 have hs0 : (((w.alloc (.cells #[.slice A d.secs.length c, .slice B d.cache.length e, .int .i64 d.fuse, .bool d.down] 27)).alloc (.cells #[.int .i64 rk, .int .i64 rn, .int .i64 ro, .string rt] 29)).alloc (.cells #[.slice none 0 0, .slice none 0 0, .int .i64 0, .bool false] 27)).heap.size = w.heap.size + 3 := by simp
 have hd0 : (((w.alloc (.cells #[.slice A d.secs.length c, .slice B d.cache.length e, .int .i64 d.fuse, .bool d.down] 27)).alloc (.cells #[.int .i64 rk, .int .i64 rn, .int .i64 ro, .string rt] 29)).alloc (.cells #[.slice none 0 0, .slice none 0 0, .int .i64 0, .bool false] 27)).heap[w.heap.size]? = some (.cells [.slice A d.secs.length c, .slice B d.cache.length e, .int .i64 d.fuse, .bool d.down].toArray 27 (0, 0)) := (Below.heap_alloc _ _ _ (by simp; omega)).trans ((Below.heap_alloc _ _ _ (by simp)).trans (heap_alloc_new w _))
 have hr0 : (((w.alloc (.cells #[.slice A d.secs.length c, .slice B d.cache.length e, .int .i64 d.fuse, .bool d.down] 27)).alloc (.cells #[.int .i64 rk, .int .i64 rn, .int .i64 ro, .string rt] 29)).alloc (.cells #[.slice none 0 0, .slice none 0 0, .int .i64 0, .bool false] 27)).heap[w.heap.size + 1]? = some (.cells (recC ⟨rk, rn, ro, rt⟩).toArray 29 (0, 0)) := (Below.heap_alloc _ _ _ (by simp)).trans (heap_alloc_new' _ _ (by simp))
 have hz0 : (((w.alloc (.cells #[.slice A d.secs.length c, .slice B d.cache.length e, .int .i64 d.fuse, .bool d.down] 27)).alloc (.cells #[.int .i64 rk, .int .i64 rn, .int .i64 ro, .string rt] 29)).alloc (.cells #[.slice none 0 0, .slice none 0 0, .int .i64 0, .bool false] 27)).heap[w.heap.size + 2]? = some (.cells [.slice none 0 0, .slice none 0 0, .int .i64 0, .bool false].toArray 27 (0, 0)) := heap_alloc_new' _ _ (by simp)
 clear h hg hrs
 show Calls Tryz.prog 11 #[.agg #[.slice A d.secs.length c, .slice B d.cache.length e, .int .i64 d.fuse, .bool d.down], .agg #[.int .i64 rk, .int .i64 rn, .int .i64 ro, .string rt]] w _
 go_enter Tryz.func11, Tryz.ntmps11
 go_upto_region 1 with (fail)
 generalize ((w.alloc (.cells #[.slice A d.secs.length c, .slice B d.cache.length e, .int .i64 d.fuse, .bool d.down] 27)).alloc (.cells #[.int .i64 rk, .int .i64 rn, .int .i64 ro, .string rt] 29)).alloc (.cells #[.slice none 0 0, .slice none 0 0, .int .i64 0, .bool false] 27) = W0 at hb0 hs0 hd0 hr0 hz0 ⊢
 have T : All (fun w' => (Below w.heap.size w w' ∧ w.heap.size + 2 < w'.heap.size) ∧ Hid (w'.heap[w.heap.size]? = some (.cells [.slice A d.secs.length c, .slice B d.cache.length e, .int .i64 d.fuse, .bool d.down].toArray 27 (0, 0))) ∧ Hid (w'.heap[w.heap.size + 1]? = some (.cells (recC ⟨rk, rn, ro, rt⟩).toArray 29 (0, 0))) ∧ Hid (w'.heap[w.heap.size + 2]? = some (.cells [.slice none 0 0, .slice none 0 0, .int .i64 0, .bool false].toArray 27 (0, 0)))) W0 := ⟨⟨hb0, by omega⟩, Lib.hid hd0, Lib.hid hr0, Lib.hid hz0⟩
 clear hb0 hs0 hd0 hr0 hz0
 obtain ⟨d0, d1, d2, d3⟩ := disk4 T.out.2.1.out
 go_wp2_with fail
 clear d0 d1 d2 d3
 refine (l2Copy_any [.slice A d.secs.length c, .slice B d.cache.length e, .int .i64 d.fuse, .bool d.down] d W0 (Keeps.keeps (F := fun w' => diskR.at_ w' w'.heap.size [.slice A d.secs.length c, .slice B d.cache.length e, .int .i64 d.fuse, .bool d.down] d) T.out.1.1 HD.out) hf).mono ?_
 rintro e1 W1 ⟨cs1, fp1, rfl, O1, hb⟩
 obtain ⟨A1, c1, B1, f1, rfl⟩ := disk_own_shape O1
 have hW0 := T.out.1.2
 replace T := T.later hb
 have hb1 := Later.alloc W1 (.cells #[.slice A1 d.secs.length c1, .slice B1 d.cache.length f1, .int .i64 d.fuse, .bool d.down] 27)
 have hF1 : diskR.own (W1.alloc (.cells #[.slice A1 d.secs.length c1, .slice B1 d.cache.length f1, .int .i64 d.fuse, .bool d.down] 27)) W0.heap.size [.slice A1 d.secs.length c1, .slice B1 d.cache.length f1, .int .i64 d.fuse, .bool d.down] d fp1 := Rep.own_below O1 hb1
 have hfp1 : ∀ a, a ∈ fp1 → w.heap.size + 2 < a ∧ a < W1.heap.size := fun a ha => by have := Rep.lt diskR O1 a ha; omega
 have HFP1 := Lib.hid hfp1
 have hbs : w.heap.size + 2 < W0.heap.size := hW0
 have hO1 := heap_alloc_new W1 (.cells #[.slice A1 d.secs.length c1, .slice B1 d.cache.length f1, .int .i64 d.fuse, .bool d.down] 27)
 have hlo : w.heap.size + 2 < W1.heap.size := T.out.1.2
 replace T := T.later hb1
 clear hb hb1 hW0 hfp1
 go_upto_region 2 with (fail)
 clear O1
 generalize W1.alloc (.cells #[.slice A1 d.secs.length c1, .slice B1 d.cache.length f1, .int .i64 d.fuse, .bool d.down] 27) = W2 at hF1 hO1 T ⊢
 generalize W1.heap.size = DO at hF1 hO1 hlo HFP1 ⊢
 obtain ⟨⟨⟨⟨ja, jb, jp, jq, je, jf⟩, jg, jm⟩, ok⟩, hp⟩ : ∃ p, openP d = p := ⟨_, rfl⟩
 have hgd := openP_good d
 rw [hp] at hgd
 have HP := Lib.hid hp
 obtain ⟨hkg, ⟨hg0, hg1⟩, hm0, hm1⟩ := hgd
 replace hg0 : 0 ≤ jg := hg0
 replace hg1 : jg ≤ 60000 := hg1
 replace hm0 : 0 ≤ jm := hm0
 replace hm1 : jm ≤ 18 := hm1
 have HKG := Lib.hid hkg
 clear hp hkg
 have HF1 := Lib.hid hF1
 have HO1 := Lib.hid hO1
 clear hF1 hO1
 obtain ⟨d0, d1, d2, d3⟩ := disk4 T.out.2.1.out
 go_wp2_with fail
 clear d0 d1 d2 d3
 refine (openJourS_any [.slice A d.secs.length c, .slice B d.cache.length e, .int .i64 d.fuse, .bool d.down] d W2 (Keeps.keeps (F := fun w' => diskR.at_ w' w'.heap.size [.slice A d.secs.length c, .slice B d.cache.length e, .int .i64 d.fuse, .bool d.down] d) T.out.1.1 HD.out) hf (Keeps.keeps (F := Given) T.out.1.1 HG.out)).mono ?_
 rw [HP.out]
 rintro e2 W3 hret
 obtain ⟨rfl, hb⟩ := hret.lit8
 replace T := T.later hb
 have hDO2 : DO < W2.heap.size := (Array.getElem?_eq_some_iff.1 HO1.out).1
 have hDO3 : DO < W3.heap.size := Nat.lt_of_lt_of_le hDO2 hb.size
 have hb4 := Later.alloc W3 (.cells #[.int .i64 ja, .string jb, .int .i64 jp, .string jq, .int .i64 je, .int .i64 jf, .int .i64 jg, .int .i64 jm] 37)
 have P : AB w [.slice A d.secs.length c, .slice B d.cache.length e, .int .i64 d.fuse, .bool d.down] ⟨rk, rn, ro, rt⟩ DO W3.heap.size (.slice A1 d.secs.length c1) (.slice B1 d.cache.length f1) (.int .i64 d.fuse) (.bool d.down) d ⟨⟨ja, jb, jp, jq, je, jf⟩, jg, jm⟩ (W3.alloc (.cells #[.int .i64 ja, .string jb, .int .i64 jp, .string jq, .int .i64 je, .int .i64 jf, .int .i64 jg, .int .i64 jm] 37)) :=
  ⟨(T.later hb4).out.1.1, (T.later hb4).out.2.1.out, (T.later hb4).out.2.2.1.out, (T.later hb4).out.2.2.2.out, (hb4.block _ hDO3).trans ((hb.block _ hDO2).trans HO1.out), heap_alloc_new W3 _, ⟨_, fp1, Rep.own_below HF1.out (Later.trans hb hb4), hbs, fun hm => by have := HFP1.out _ hm; omega, fun hm => by have := HFP1.out _ hm; omega⟩, hlo, hDO3⟩
 clear hret hb hb4 T HF1 HO1 hDO2 hDO3
 go_upto_region 3 with (fail)
 generalize W3.alloc (.cells #[.int .i64 ja, .string jb, .int .i64 jp, .string jq, .int .i64 je, .int .i64 jf, .int .i64 jg, .int .i64 jm] 37) = W4 at P ⊢
 generalize W3.heap.size = DJ at P ⊢
 obtain ⟨⟨⟨na, nb, np, nq, ne, nf⟩, yes⟩, hap⟩ : ∃ p, applyP ⟨ja, jb, jp, jq, je, jf⟩ ⟨rk, rn, ro, rt⟩ = p := ⟨_, rfl⟩
 have HAP := Lib.hid hap
 clear hap
 obtain ⟨j0, j1, j2, j3, j4, j5, j6, j7⟩ := jour_box P.jbox
 obtain ⟨r0, r1, r2, r3⟩ := rec_box P.rbox
 have hl1 := P.lto
 have hl2 := P.ltj
 have hl3 := P.lt
 go_wp2_with fail
 clear j0 j1 j2 j3 j4 j5 j6 j7 r0 r1 r2 r3 hl1 hl2 hl3
 refine (applyS_any ⟨ja, jb, jp, jq, je, jf⟩ ⟨rk, rn, ro, rt⟩ W4).mono ?_
 rw [HAP.out]
 rintro e3 W5 hret
 obtain ⟨rfl, hb⟩ := hret.lit6
 replace P := P.later hb
 have hDK : DJ < W5.heap.size := P.lt
 have hK := heap_alloc_new W5 (.cells #[.int .i64 na, .string nb, .int .i64 np, .string nq, .int .i64 ne, .int .i64 nf] 35)
 replace P := P.later (Later.alloc W5 (.cells #[.int .i64 na, .string nb, .int .i64 np, .string nq, .int .i64 ne, .int .i64 nf] 35))
 clear hret hb
 go_upto_region 4 with (fail)
 generalize W5.alloc (.cells #[.int .i64 na, .string nb, .int .i64 np, .string nq, .int .i64 ne, .int .i64 nf] 35) = W6 at P hK ⊢
 generalize W5.heap.size = DK at hK hDK ⊢
 have HK := Lib.hid hK
 clear hK
 by_cases hok : ok = true ∧ yes = true ∧ d.down = false
 ·obtain ⟨rfl, rfl, hdn⟩ := hok
  have HPOS := Lib.hid (openP_pos HP.out)
  have HDN := Lib.hid hdn
  obtain ⟨d0, d1, d2, d3⟩ := disk4 P.dbox
  rw [hdn] at d3
  obtain ⟨j0, j1, j2, j3, j4, j5, j6, j7⟩ := jour_box P.jbox
  have hl1 := P.lto
  have hl2 := P.ltj
  have hl3 := P.lt
  go_upto_if 38 with (fail)
  clear d0 d1 d2 d3 hl1 hl2 hl3 hdn
  go_cut [6] from 11 (fun v W' => ∃ (va vb vc vd : Value) (x : Disk) (xg xm : Int), v = .pointer (some ⟨DO, 0, none⟩) ∧ AB w [.slice A d.secs.length c, .slice B d.cache.length e, .int .i64 d.fuse, .bool d.down] ⟨rk, rn, ro, rt⟩ DO DJ va vb vc vd x ⟨⟨ja, jb, jp, jq, je, jf⟩, xg, xm⟩ W' ∧ Hid (W'.heap[DK]? = some (.cells (knownC ⟨na, nb, np, nq, ne, nf⟩).toArray 35 (0, 0))) ∧ Hid (Fits x) ∧ Hid (addP d ⟨rk, rn, ro, rt⟩ = addTo x ⟨⟨ja, jb, jp, jq, je, jf⟩, xg, xm⟩ ⟨rk, rn, ro, rt⟩) ∧ (1 ≤ xg ∧ xg ≤ 60000) ∧ (0 ≤ xm ∧ xm ≤ 18))
  case first =>
   by_cases hm18 : jm = 18
   ·have b18 : (jm == 18) = true := by simpa using hm18
    by_cases hg60 : jg = 60000
    ·have b60 : (jg == 60000) = true := by simpa using hg60
     have hval : addP d ⟨rk, rn, ro, rt⟩ = (d, false) := addP_full HP.out HAP.out HDN.out hm18 hg60
     obtain ⟨fpr, hown, hbel⟩ := P.fin (.slice A1 d.secs.length c1) (.slice B1 d.cache.length f1) (.int .i64 d.fuse) (.bool d.down)
     have hret : RetAdd w (d, false) (.returned (.tuple #[.agg #[.slice A1 d.secs.length c1, .slice B1 d.cache.length f1, .int .i64 d.fuse, .bool d.down], .bool false])) _ := ⟨[.slice A1 d.secs.length c1, .slice B1 d.cache.length f1, .int .i64 d.fuse, .bool d.down], fpr, rfl, hown, hbel⟩
     have HV := Lib.hid hval
     have HRET := Lib.hid hret
     obtain ⟨u0, u1, u2, u3⟩ := disk4 P.obox
     obtain ⟨z0, z1, z2, z3⟩ := disk4 P.zbox
     have zf0 := var_frozen P.zbox 0
     have zf1 := var_frozen P.zbox 1
     have zf2 := var_frozen P.zbox 2
     have zf3 := var_frozen P.zbox 3
     have hl1 := P.lto
     have hl2 := P.ltj
     have hl3 := P.lt
     clear P hval hret hown hbel
     go_wp2_with fail
     exact bodyPost_ret (v := .tuple #[.agg #[.slice A1 d.secs.length c1, .slice B1 d.cache.length f1, .int .i64 d.fuse, .bool d.down], .bool false]) (by simp [results, Tryz.results11, go_sem, z0, z1, z2, z3]) rfl (by rw [HV.out]; exact HRET.out)
    ·have b60 : (jg == 60000) = false := by simpa using hg60
     have HVAL := Lib.hid (addP_new HP.out HAP.out HDN.out hm18 hg60)
     have hg59 : jg ≤ 59999 := by omega
     clear hm18 hg60
     obtain ⟨u0, u1, u2, u3⟩ := disk4 P.obox
     have hsm : ∀ r, r ∈ recsL ⟨ja, jb, jp, jq, je, jf⟩ → r.text.size ≤ 1048576 := fun r hr => by have := recsL_small (good_sizes HKG.out) r hr; omega
     have HSM := Lib.hid hsm
     clear hsm
     have hl1 := P.lto
     have hl2 := P.ltj
     have hl3 := P.lt
     go_wp2_with fail
     clear u0 u1 u2 u3 j0 j1 j2 j3 j4 j5 j6 j7
     refine (l5LayS_any [.slice A1 d.secs.length c1, .slice B1 d.cache.length f1, .int .i64 d.fuse, .bool d.down] d ⟨⟨ja, jb, jp, jq, je, jf⟩, jg, jm⟩ DJ W6 P.at hf (Keeps.keeps (F := Given) P.below HG.out) P.jbox hg0 hg59 HSM.out).mono ?_
     obtain ⟨dl, hdl⟩ : ∃ x, layP d ⟨⟨ja, jb, jp, jq, je, jf⟩, jg, jm⟩ = x := ⟨_, rfl⟩
     obtain ⟨nl, hnl⟩ : ∃ x, (recsL ⟨ja, jb, jp, jq, je, jf⟩).length = x := ⟨_, rfl⟩
     have hn4 : nl ≤ 4 := by rw [← hnl]; exact recsL_len _
     have HV2 := HVAL.out
     rw [hdl] at HV2
     rw [hdl]
     have HFL := Lib.hid (show Fits dl by rw [← hdl]; exact fits_layP hf _)
     clear hdl
     replace HV2 := Lib.hid HV2
     rintro e5 W7 ⟨cs7, fp7, rfl, O7, hj7, ho7⟩
     replace hj7 : W7.heap[DJ]? = some (.cells (jourL ⟨⟨ja, jb, jp, jq, je, jf⟩, jg + 1, ((recsL ⟨ja, jb, jp, jq, je, jf⟩).length : Int)⟩).toArray 37 (0, 0)) := hj7
     replace HV2 := Lib.hid (show addP d ⟨rk, rn, ro, rt⟩ = addTo dl ⟨⟨ja, jb, jp, jq, je, jf⟩, jg + 1, ((recsL ⟨ja, jb, jp, jq, je, jf⟩).length : Int)⟩ ⟨rk, rn, ro, rt⟩ from HV2.out)
     rw [hnl] at hj7 HV2
     clear hnl HVAL
     obtain ⟨A7, c7, B7, f7, rfl⟩ := disk_own_shape O7
     have hK7 := (ho7.block DK (Array.getElem?_eq_some_iff.1 HK.out).1 (by simp; omega)).trans HK.out
     have P7 := P.step (ho7.mono (by simp)) ((ho7.block DO (by omega) (by simp; omega)).trans P.obox) hj7 (P.still (ho7.mono (by simp)))
     have P8 := P7.putO O7 hl3
     have hK8 := ((putD_only W7 DO (.slice A7 dl.secs.length c7) (.slice B7 dl.cache.length f7) (.int .i64 dl.fuse) (.bool dl.down)).block DK (Array.getElem?_eq_some_iff.1 hK7).1 (by simp; omega)).trans hK7
     have HK8 := Lib.hid hK8
     obtain ⟨u0, u1, u2, u3⟩ := disk4 P7.obox
     have uf0 := var_frozen P7.obox 0
     have uf1 := var_frozen P7.obox 1
     have uf2 := var_frozen P7.obox 2
     have uf3 := var_frozen P7.obox 3
     have hl7 := P7.lt
     clear P P7 O7 hj7 ho7 hK7 hK8
     go_wp2_with fail
     go_meet
     case rel => exact ⟨_, _, _, _, dl, jg + 1, (nl : Int), rfl, P8, HK8, HFL, HV2, ⟨by omega, by omega⟩, ⟨by omega, by omega⟩⟩
   ·have b18 : (jm == 18) = false := by simpa using hm18
    have HVAL := Lib.hid (addP_last HP.out HAP.out HDN.out hm18)
    clear hm18
    have hpos := HPOS.out
    replace hpos : 0 < jg := hpos
    go_wp2_with fail
    go_meet
    case rel => exact ⟨_, _, _, _, d, jg, jm, rfl, P, HK, Lib.hid hf, HVAL, ⟨by omega, by omega⟩, ⟨by omega, by omega⟩⟩
  case rest =>
   clear P HK j0 j1 j2 j3 j4 j5 j6 j7 HPOS HDN
   obtain ⟨va, vb, vc, vd, x, xg, xm, rfl, P, HK, HFX, HVAL, ⟨xg1, xg2⟩, xm1, xm2⟩ := hcut
   obtain ⟨k0, k1, k2, k3, k4, k5⟩ := known_box (r := ⟨na, nb, np, nq, ne, nf⟩) HK.out
   obtain ⟨j0, j1, j2, j3, j4, j5, j6, j7⟩ := jour_box P.jbox
   have jf0 := var_frozen P.jbox 0
   have jf1 := var_frozen P.jbox 1
   have jf2 := var_frozen P.jbox 2
   have jf3 := var_frozen P.jbox 3
   have jf4 := var_frozen P.jbox 4
   have jf5 := var_frozen P.jbox 5
   have hl1 := P.lto
   have hl2 := P.ltj
   have hl3 := P.lt
   have P2 := P.putJK na nb np nq ne nf
   clear P
   go_upto_region 11 with (fail)
   generalize ((((((wc.setCell ⟨DJ, 0, none⟩ (.int .i64 na)).setCell ⟨DJ, 1, none⟩ (.string nb)).setCell ⟨DJ, 2, none⟩ (.int .i64 np)).setCell ⟨DJ, 3, none⟩ (.string nq)).setCell ⟨DJ, 4, none⟩ (.int .i64 ne)).setCell ⟨DJ, 5, none⟩ (.int .i64 nf)) = WT at P2 ⊢
   clear k0 k1 k2 k3 k4 k5 j0 j1 j2 j3 j4 j5 j6 j7 jf0 jf1 jf2 jf3 jf4 jf5 hl3
   have S : All (fun w' => AB w [.slice A d.secs.length c, .slice B d.cache.length e, .int .i64 d.fuse, .bool d.down] ⟨rk, rn, ro, rt⟩ DO DJ va vb vc vd x ⟨⟨na, nb, np, nq, ne, nf⟩, xg, xm⟩ w' ∧ w'.heap[DO]? = some (.cells [va, vb, vc, vd].toArray 27 (0, 0)) ∧ w'.heap[DJ]? = some (.cells (jourL ⟨⟨na, nb, np, nq, ne, nf⟩, xg, xm⟩).toArray 37 (0, 0)) ∧ w'.heap[w.heap.size + 1]? = some (.cells (recC ⟨rk, rn, ro, rt⟩).toArray 29 (0, 0))) WT := ⟨P2, P2.obox, P2.jbox, P2.rbox⟩
   clear P2
   refine wp_region_lex' 14 [0, 1, 2, 3, 4, 6, 7, 8, 9, 10] [5, 11, 12, 13, 14] (fun w' => w'.heap[DO]? = some (.cells [va, vb, vc, vd].toArray 27 (0, 0)) ∧ w'.heap[DJ]? = some (.cells (jourL ⟨⟨na, nb, np, nq, ne, nf⟩, xg, xm⟩).toArray 37 (0, 0)) ∧ w'.heap[w.heap.size + 1]? = some (.cells (recC ⟨rk, rn, ro, rt⟩).toArray 29 (0, 0))) (by kernel_rfl) (by kernel_rfl) S.drew.out.2 ?_
   replace S := S.drew
   iterate 10 (refine LexR.cons rfl ?_ (fun w' hw => ?_) ?_; rotate_left; focus (obtain ⟨hw1, hw2, hw3⟩ := hw; obtain ⟨u0, u1, u2, u3⟩ := disk4 hw1; obtain ⟨j0, j1, j2, j3, j4, j5, j6, j7⟩ := jour_box hw2; obtain ⟨r0, r1, r2, r3⟩ := rec_box hw3; clear hw1 hw2 hw3; go_simp; (try exact rfl)); (try go_frame))
   refine LexR.nil (LexW.cons rfl ?_)
   try go_frame
   generalize WT.drew = V0 at S ⊢
   go_wp2_with fail
   refine (l5At_any xg xm V0 (by omega) (by omega)).mono ?_
   rintro e7 V1 ⟨rfl, rfl⟩
   go_wp2_with fail
   refine ⟨fun _ => S.out.2, LexW.cons rfl ?_⟩
   try go_frame
   go_wp2_with fail
   refine (putRS_any xg xm ⟨rk, rn, ro, rt⟩ V0 (Keeps.keeps (F := Given) S.out.1.below HG.out) HRS.out).mono ?_
   have hpl := putR_len xg xm ⟨rk, rn, ro, rt⟩
   obtain ⟨l3, hl3⟩ : ∃ l, putR xg xm ⟨rk, rn, ro, rt⟩ = l := ⟨_, rfl⟩
   rw [hl3] at hpl ⊢
   have HL3 := Lib.hid hl3
   clear hl3
   rintro e8 V2 ⟨v2, rfl, o2, hb⟩
   obtain ⟨A5, c5, rfl, hk5, hm5, r5, _⟩ := o2.shape
   replace S := S.later hb
   clear hb o2
   go_wp2_with fail
   refine ⟨fun _ => S.out.2, LexW.cons rfl ?_⟩
   try go_frame
   go_wp2_with fail
   refine (writeSecS_any [va, vb, vc, vd] [.slice A5 l3.length c5] x (atP xg xm) l3 V2 S.out.1.at ⟨A5, c5, rfl, ⟨hk5, hm5⟩, r5⟩ HFX.out (by omega) (atP_wf xg1 xg2 xm1 xm2)).mono ?_
   obtain ⟨dy, hdy⟩ : ∃ y, writeSec x (atP xg xm) l3 = y := ⟨_, rfl⟩
   rw [hdy]
   have HFY := Lib.hid (show Fits dy by rw [← hdy]; exact fits_writeSec HFX.out _ (by omega))
   have HDY := Lib.hid hdy
   clear hdy
   rintro e9 V3 ⟨cs3, fp3, rfl, O3, hb⟩
   obtain ⟨A7, c7, B7, f7, rfl⟩ := disk_own_shape O3
   have T3 := Rep.reads diskR O3
   replace S := S.later hb
   clear hb O3 r5 hpl
   go_wp2_with fail
   refine ⟨fun _ => S.out.2, LexW.cons rfl ?_⟩
   try go_frame
   go_wp2_with fail
   refine (syncDiskS_any [.slice A7 dy.secs.length c7, .slice B7 dy.cache.length f7, .int .i64 dy.fuse, .bool dy.down] dy V3 T3 HFY.out).mono ?_
   obtain ⟨dz, hdz⟩ : ∃ y, syncDisk dy = y := ⟨_, rfl⟩
   rw [hdz]
   have HQZ := Lib.hid hdz
   clear hdz T3
   rintro e10 V4 ⟨cs4, fp4, rfl, O4, hb⟩
   obtain ⟨A8, c8, B8, f8, rfl⟩ := disk_own_shape O4
   have hV3 := S.out.1.lt
   replace S := S.later hb
   have P4 := S.out.1.putO O4 hV3
   obtain ⟨u0, u1, u2, u3⟩ := disk4 S.out.1.obox
   have uf0 := var_frozen S.out.1.obox 0
   have uf1 := var_frozen S.out.1.obox 1
   have uf2 := var_frozen S.out.1.obox 2
   have uf3 := var_frozen S.out.1.obox 3
   have hl4 : DO < V4.heap.size := (Array.getElem?_eq_some_iff.1 S.out.1.obox).1
   clear hb O4 hV3
   go_wp2_with fail
   refine ⟨fun _ => S.out.2, LexW.cons rfl ?_⟩
   clear S
   try go_frame
   go_wp2_with fail
   refine ⟨fun h => absurd rfl h, LexW.nil ?_⟩
   clear u0 u1 u2 u3 uf0 uf1 uf2 uf3 hl4
   generalize ((((V4.setCell ⟨DO, 0, none⟩ (.slice A8 dz.secs.length c8)).setCell ⟨DO, 1, none⟩ (.slice B8 dz.cache.length f8)).setCell ⟨DO, 2, none⟩ (.int .i64 dz.fuse)).setCell ⟨DO, 3, none⟩ (.bool dz.down)) = V5 at P4 ⊢
   have HANS := Lib.hid (show addP d ⟨rk, rn, ro, rt⟩ = (dz, !dz.down) by
    rw [HVAL.out]
    have e : putLast x xg xm ⟨rk, rn, ro, rt⟩ = dz := by unfold putLast; rw [HL3.out, HDY.out, HQZ.out]
    show (putLast x xg xm ⟨rk, rn, ro, rt⟩, !(putLast x xg xm ⟨rk, rn, ro, rt⟩).down) = _
    rw [e])
   go_wp2_with fail
   have S : All (fun w' => AB w [.slice A d.secs.length c, .slice B d.cache.length e, .int .i64 d.fuse, .bool d.down] ⟨rk, rn, ro, rt⟩ DO DJ (.slice A8 dz.secs.length c8) (.slice B8 dz.cache.length f8) (.int .i64 dz.fuse) (.bool dz.down) dz ⟨⟨na, nb, np, nq, ne, nf⟩, xg, xm⟩ w' ∧ w'.heap[DO]? = some (.cells [.slice A8 dz.secs.length c8, .slice B8 dz.cache.length f8, .int .i64 dz.fuse, .bool dz.down].toArray 27 (0, 0))) V5 := ⟨P4, P4.obox⟩
   clear P4
   refine wp_region_lex' 100 [0, 1, 2, 3] [4, 5] (fun w' => w'.heap[DO]? = some (.cells [.slice A8 dz.secs.length c8, .slice B8 dz.cache.length f8, .int .i64 dz.fuse, .bool dz.down].toArray 27 (0, 0))) (by kernel_rfl) (by kernel_rfl) S.drew.out.2 ?_
   replace S := S.drew
   iterate 4 (refine LexR.cons rfl ?_ (fun w' hw => ?_) ?_; rotate_left; focus (obtain ⟨u0, u1, u2, u3⟩ := disk4 hw; clear hw; go_simp; (try exact rfl)); (try go_frame))
   refine LexR.nil (LexW.cons rfl ?_)
   try go_frame
   generalize V5.drew = V6 at S ⊢
   have ho7 := putD_only V6 (w.heap.size + 2) (.slice A8 dz.secs.length c8) (.slice B8 dz.cache.length f8) (.int .i64 dz.fuse) (.bool dz.down)
   have hr7 := setD_box S.out.1.zbox (.slice A8 dz.secs.length c8) (.slice B8 dz.cache.length f8) (.int .i64 dz.fuse) (.bool dz.down)
   have hs7 := (ho7.block DO (by have := S.out.1.lt; omega) (by simp; omega)).trans S.out.2
   obtain ⟨fpr, hown, hbel⟩ := S.out.1.fin (.slice A8 dz.secs.length c8) (.slice B8 dz.cache.length f8) (.int .i64 dz.fuse) (.bool dz.down)
   have HRET := Lib.hid (show RetAdd w (dz, !dz.down) (.returned (.tuple #[.agg #[.slice A8 dz.secs.length c8, .slice B8 dz.cache.length f8, .int .i64 dz.fuse, .bool dz.down], .bool (!dz.down)])) _ from ⟨[.slice A8 dz.secs.length c8, .slice B8 dz.cache.length f8, .int .i64 dz.fuse, .bool dz.down], fpr, rfl, hown, hbel⟩)
   clear hown hbel
   obtain ⟨z0, z1, z2, z3⟩ := disk4 S.out.1.zbox
   have zf0 := var_frozen S.out.1.zbox 0
   have zf1 := var_frozen S.out.1.zbox 1
   have zf2 := var_frozen S.out.1.zbox 2
   have zf3 := var_frozen S.out.1.zbox 3
   have hl6 : w.heap.size + 2 < V6.heap.size := (Array.getElem?_eq_some_iff.1 S.out.1.zbox).1
   clear S ho7
   go_wp2_with fail
   generalize ((((V6.setCell ⟨w.heap.size + 2, 0, none⟩ (.slice A8 dz.secs.length c8)).setCell ⟨w.heap.size + 2, 1, none⟩ (.slice B8 dz.cache.length f8)).setCell ⟨w.heap.size + 2, 2, none⟩ (.int .i64 dz.fuse)).setCell ⟨w.heap.size + 2, 3, none⟩ (.bool dz.down)) = V7 at hr7 hs7 HRET ⊢
   refine ⟨fun _ => hs7, LexW.cons rfl ?_⟩
   clear z0 z1 z2 z3 zf0 zf1 zf2 zf3
   try go_frame
   go_wp2_with fail
   refine ⟨fun _ => hs7, LexW.nil ?_⟩
   obtain ⟨z0, z1, z2, z3⟩ := disk4 hr7
   clear hr7 hs7
   go_wp2_with fail
   exact bodyPost_ret (v := .tuple #[.agg #[.slice A8 dz.secs.length c8, .slice B8 dz.cache.length f8, .int .i64 dz.fuse, .bool dz.down], .bool (!dz.down)]) (by simp [results, Tryz.results11, go_sem, z0, z1, z2, z3]) rfl (by rw [HANS.out]; exact HRET.out)
 ·cases ok
  ·skip
   have hval : addP d ⟨rk, rn, ro, rt⟩ = (d, false) := addP_no HP.out HAP.out hok
   obtain ⟨fpr, hown, hbel⟩ := P.fin (.slice A1 d.secs.length c1) (.slice B1 d.cache.length f1) (.int .i64 d.fuse) (.bool d.down)
   have hret : RetAdd w (d, false) (.returned (.tuple #[.agg #[.slice A1 d.secs.length c1, .slice B1 d.cache.length f1, .int .i64 d.fuse, .bool d.down], .bool false])) _ := ⟨[.slice A1 d.secs.length c1, .slice B1 d.cache.length f1, .int .i64 d.fuse, .bool d.down], fpr, rfl, hown, hbel⟩
   have HV := Lib.hid hval
   have HRET := Lib.hid hret
   obtain ⟨u0, u1, u2, u3⟩ := disk4 P.obox
   obtain ⟨z0, z1, z2, z3⟩ := disk4 P.zbox
   have zf0 := var_frozen P.zbox 0
   have zf1 := var_frozen P.zbox 1
   have zf2 := var_frozen P.zbox 2
   have zf3 := var_frozen P.zbox 3
   have hl1 := P.lto
   have hl2 := P.ltj
   have hl3 := P.lt
   clear P hval hret hown hbel
   go_wp2_with fail
   exact bodyPost_ret (v := .tuple #[.agg #[.slice A1 d.secs.length c1, .slice B1 d.cache.length f1, .int .i64 d.fuse, .bool d.down], .bool false]) (by simp [results, Tryz.results11, go_sem, z0, z1, z2, z3]) rfl (by rw [HV.out]; exact HRET.out)
  ·cases yes
   ·skip
    have hval : addP d ⟨rk, rn, ro, rt⟩ = (d, false) := addP_no HP.out HAP.out hok
    obtain ⟨fpr, hown, hbel⟩ := P.fin (.slice A1 d.secs.length c1) (.slice B1 d.cache.length f1) (.int .i64 d.fuse) (.bool d.down)
    have hret : RetAdd w (d, false) (.returned (.tuple #[.agg #[.slice A1 d.secs.length c1, .slice B1 d.cache.length f1, .int .i64 d.fuse, .bool d.down], .bool false])) _ := ⟨[.slice A1 d.secs.length c1, .slice B1 d.cache.length f1, .int .i64 d.fuse, .bool d.down], fpr, rfl, hown, hbel⟩
    have HV := Lib.hid hval
    have HRET := Lib.hid hret
    obtain ⟨u0, u1, u2, u3⟩ := disk4 P.obox
    obtain ⟨z0, z1, z2, z3⟩ := disk4 P.zbox
    have zf0 := var_frozen P.zbox 0
    have zf1 := var_frozen P.zbox 1
    have zf2 := var_frozen P.zbox 2
    have zf3 := var_frozen P.zbox 3
    have hl1 := P.lto
    have hl2 := P.ltj
    have hl3 := P.lt
    clear P hval hret hown hbel
    go_wp2_with fail
    exact bodyPost_ret (v := .tuple #[.agg #[.slice A1 d.secs.length c1, .slice B1 d.cache.length f1, .int .i64 d.fuse, .bool d.down], .bool false]) (by simp [results, Tryz.results11, go_sem, z0, z1, z2, z3]) rfl (by rw [HV.out]; exact HRET.out)
   ·have hdn : d.down = true := by
     cases hd : d.down
     ·exact absurd ⟨rfl, rfl, hd⟩ hok
     ·rfl
    obtain ⟨d0, d1, d2, d3⟩ := disk4 P.dbox
    rw [hdn] at d3
    clear hdn
    have hval : addP d ⟨rk, rn, ro, rt⟩ = (d, false) := addP_no HP.out HAP.out hok
    obtain ⟨fpr, hown, hbel⟩ := P.fin (.slice A1 d.secs.length c1) (.slice B1 d.cache.length f1) (.int .i64 d.fuse) (.bool d.down)
    have hret : RetAdd w (d, false) (.returned (.tuple #[.agg #[.slice A1 d.secs.length c1, .slice B1 d.cache.length f1, .int .i64 d.fuse, .bool d.down], .bool false])) _ := ⟨[.slice A1 d.secs.length c1, .slice B1 d.cache.length f1, .int .i64 d.fuse, .bool d.down], fpr, rfl, hown, hbel⟩
    have HV := Lib.hid hval
    have HRET := Lib.hid hret
    obtain ⟨u0, u1, u2, u3⟩ := disk4 P.obox
    obtain ⟨z0, z1, z2, z3⟩ := disk4 P.zbox
    have zf0 := var_frozen P.zbox 0
    have zf1 := var_frozen P.zbox 1
    have zf2 := var_frozen P.zbox 2
    have zf3 := var_frozen P.zbox 3
    have hl1 := P.lto
    have hl2 := P.ltj
    have hl3 := P.lt
    clear P hval hret hown hbel
    go_wp2_with fail
    exact bodyPost_ret (v := .tuple #[.agg #[.slice A1 d.secs.length c1, .slice B1 d.cache.length f1, .int .i64 d.fuse, .bool d.down], .bool false]) (by simp [results, Tryz.results11, go_sem, z0, z1, z2, z3]) rfl (by rw [HV.out]; exact HRET.out)
end Go.Proofs.YtoaaogacaibedaaGreatDoor
namespace Go.Proofs.YtoaaogacaibedaaGreatDoor
open Go.RowKit Go.Maps
set_option maxRecDepth 2000000
set_option linter.unusedVariables false
theorem key_push {cache : List Wr} {x : Wr} {k : Nat} (hk : k < cache.length) (i : Int) : key (cache ++ [x]) k i = key cache k i := by
 unfold key
 rw [List.getElem?_append_left hk]
theorem idxC_push {cache : List Wr} {x : Wr} (i : Int) : ∀ k, k ≤ cache.length → idxC (key (cache ++ [x])) k i = idxC (key cache) k i := by
 intro k
 induction k with
 | zero => intro _; rfl
 | succ k ih =>
  intro hk
  show (if key (cache ++ [x]) k i = true then some k else idxC (key (cache ++ [x])) k i) = (if key cache k i = true then some k else idxC (key cache) k i)
  rw [key_push (by omega), ih (by omega)]
theorem idxC_last {cache : List Wr} {x : Wr} (i : Int) : idxC (key (cache ++ [x])) (cache.length + 1) i = if x.n = i then some cache.length else idxC (key cache) cache.length i := by
 show (if key (cache ++ [x]) cache.length i = true then some cache.length else idxC (key (cache ++ [x])) cache.length i) = _
 rw [idxC_push i _ (Nat.le_refl _), show key (cache ++ [x]) cache.length i = (x.n == i) from key_eq (by simp) i]
 by_cases h : x.n = i
 ·rw [if_pos h, if_pos (by simpa using h)]
 ·rw [if_neg h, if_neg (by simpa using h)]
theorem readTo_push (d : Disk) (n : Int) (b : List UInt8) (f : Int) (dn : Bool) (i : Int) : readTo ⟨d.secs, d.cache ++ [⟨n, b⟩], f, dn⟩ i (d.cache.length + 1) = if n = i then b else readTo d i d.cache.length := by
 unfold readTo
 show (match idxC (key (d.cache ++ [(⟨n, b⟩ : Wr)])) (d.cache.length + 1) i with | some j => ((d.cache ++ [(⟨n, b⟩ : Wr)]).getD j ⟨0, []⟩).b | none => d.secs.getD i.toNat []) = _
 rw [idxC_last i]
 by_cases h : n = i
 ·rw [if_pos h, if_pos h]
  show ((d.cache ++ [(⟨n, b⟩ : Wr)]).getD d.cache.length ⟨0, []⟩).b = b
  rw [List.getD_eq_getElem?_getD]
  simp
 ·rw [if_neg h, if_neg h]
  rcases he : idxC (key d.cache) d.cache.length i with _ | j
  ·rfl
  ·have hj := (idxC_lt he).1
   show ((d.cache ++ [(⟨n, b⟩ : Wr)]).getD j ⟨0, []⟩).b = (d.cache.getD j ⟨0, []⟩).b
   rw [List.getD_eq_getElem?_getD, List.getD_eq_getElem?_getD, List.getElem?_append_left hj]
theorem good_write {d : Disk} {n : Int} {b : List UInt8} (h : WriteGood d n b) : DiskGood (writeSec d n b) := by
 obtain ⟨⟨⟨h1, h2, h3⟩, h4, h5, h6, h7⟩, hd, hn, hb, hc⟩ := h
 have hw : WriteGood d n b := ⟨⟨⟨h1, h2, h3⟩, h4, h5, h6, h7⟩, hd, hn, hb, hc⟩
 by_cases h0 : d.fuse = 0
 ·rw [writeSec_zero hw h0]
  exact ⟨⟨h1, h2, h3⟩, h4, h5, by show (-1 : Int) ≤ -1; omega, by show (-1 : Int) ≤ 1000; omega⟩
 ·rw [writeSec_go hw h0]
  refine ⟨⟨h1, h2, by show (d.cache ++ [(⟨n, b⟩ : Wr)]).length ≤ 30; simp; omega⟩, h4, fun x hx => ?_, ?_⟩
  ·replace hx : x ∈ d.cache ++ [(⟨n, b⟩ : Wr)] := hx
   rw [List.mem_append] at hx
   rcases hx with hx | hx
   ·exact h5 x hx
   ·simp at hx
    subst hx
    exact ⟨hn.1, hn.2, hb⟩
  ·show -1 ≤ fuseAfter d.fuse ∧ fuseAfter d.fuse ≤ 1000
   unfold fuseAfter
   split <;> omega
theorem secAt_small {d : Disk} (h : DiskGood d) {idx : Int → Option Nat} (hi : IdxOk d idx) {i : Nat} (hin : i < d.secs.length) : (secAt d idx i).length ≤ 160 := by
 unfold secAt
 rcases he : idx (i : Int) with _ | j
 ·show (d.secs.getD i []).length ≤ _
  rw [List.getD_eq_getElem?_getD, List.getElem?_eq_getElem hin]
  exact h.2.1 _ (List.getElem_mem hin)
 ·obtain ⟨y, hy, _⟩ := hi i j he
  show (d.cache.getD j ⟨0, []⟩).b.length ≤ _
  rw [List.getD_eq_getElem?_getD, hy]
  exact (h.2.2.1 y (List.mem_of_getElem? hy)).2.2
theorem good_flush {d : Disk} (h : DiskGood d) {idx : Int → Option Nat} (hi : IdxOk d idx) {f : Int} (dn : Bool) (h1 : -1 ≤ f) (h2 : f ≤ 1000) : DiskGood ⟨flushSecs d idx, [], f, dn⟩ := by
 refine ⟨⟨by show 1 ≤ (flushSecs d idx).length; rw [flushSecs_length]; exact h.1.1, by show (flushSecs d idx).length ≤ 40; rw [flushSecs_length]; exact h.1.2.1, Nat.zero_le _⟩, fun b hb => ?_, fun x hx => (by cases hx), h1, h2⟩
 replace hb : b ∈ flushSecs d idx := hb
 unfold flushSecs at hb
 rw [List.mem_map] at hb
 obtain ⟨i, hi1, rfl⟩ := hb
 exact secAt_small h hi (by simpa using hi1)
theorem flush_get {d : Disk} {idx : Int → Option Nat} {i : Nat} (hin : i < d.secs.length) : (flushSecs d idx).getD i [] = secAt d idx i := by
 unfold flushSecs
 rw [List.getD_eq_getElem?_getD, List.getElem?_map, List.getElem?_range hin]
 rfl
theorem readTo_nil (s : List (List UInt8)) (f : Int) (dn : Bool) (i : Int) (k : Nat) (hk : k = 0) : readTo ⟨s, [], f, dn⟩ i k = s.getD i.toNat [] := by
 subst hk
 rfl
theorem read_flush {d : Disk} {i : Nat} (hin : i < d.secs.length) (f : Int) (dn : Bool) : readTo ⟨flushSecs d (idxC (key d.cache) d.cache.length), [], f, dn⟩ (i : Int) 0 = readTo d (i : Int) d.cache.length := by
 rw [readTo_nil _ _ _ _ _ rfl]
 show (flushSecs d (idxC (key d.cache) d.cache.length)).getD ((i : Int).toNat) [] = _
 rw [show ((i : Int).toNat) = i by simp, flush_get hin]
 unfold secAt readTo
 rw [show ((i : Int).toNat) = i by simp]
 rcases idxC (key d.cache) d.cache.length (i : Int) with _ | j <;> rfl
theorem flush_nil (s : List (List UInt8)) (f : Int) (dn : Bool) (p : Nat → Int → Bool) : flushSecs ⟨s, [], f, dn⟩ (idxC p 0) = s := by
 refine List.ext_getElem? fun i => ?_
 by_cases h : i < s.length
 ·have h1 : (flushSecs ⟨s, [], f, dn⟩ (idxC p 0))[i]? = some (secAt ⟨s, [], f, dn⟩ (idxC p 0) i) := by
   unfold flushSecs
   rw [List.getElem?_map, List.getElem?_range h]
   rfl
  rw [h1, List.getElem?_eq_getElem h]
  show some (s.getD i []) = _
  rw [List.getD_eq_getElem?_getD, List.getElem?_eq_getElem h]
  rfl
 ·rw [List.getElem?_eq_none (by rw [flushSecs_length]; show s.length ≤ i; omega), List.getElem?_eq_none (by omega)]
theorem wf_i64 {n : Int} (h1 : -9223372036854775808 ≤ n) (h2 : n ≤ 9223372036854775807) : (Lit.int .i64 n).wf = true := by
 have e1 : IntKind.i64.min = -9223372036854775808 := by decide
 have e2 : IntKind.i64.max = 9223372036854775807 := by decide
 simp [Lit.wf, e1, e2]
 omega
theorem good_fits {d : Disk} (h : DiskGood d) : Fits d := by
 obtain ⟨⟨h1, h2, h3⟩, h4, h5, _⟩ := h
 exact ⟨by omega, fun l hl => by have := h4 l hl; omega, by omega, fun x hx => by have := (h5 x hx).2.2; omega⟩
theorem good_syncDisk {d : Disk} (h : DiskGood d) : DiskGood (syncDisk d) := by
 by_cases hg : SyncGood d
 ·by_cases h0 : d.fuse = 0
  ·rw [syncDisk_zero hg h0]
   exact ⟨h.1, h.2.1, h.2.2.1, by show (-1 : Int) ≤ -1; omega, by show (-1 : Int) ≤ 1000; omega⟩
  ·rw [syncDisk_go hg h0]
   refine good_flush h (idx_ok d _ (Nat.le_refl _)) d.down ?_ ?_
   ·have := h.2.2.2.1
    unfold fuseAfter
    split <;> omega
   ·have := h.2.2.2.2
    unfold fuseAfter
    split <;> omega
 ·rw [syncDisk_no hg]; exact h
theorem good_fallDisk {d : Disk} (h : DiskGood d) (k : Int) : DiskGood (fallDisk d k) := by
 rw [fallDisk_go k h]
 exact good_flush h (idx_okB d _ _ (Nat.le_refl _)) false (by omega) (by omega)
theorem good_diskNew {n : Int} (h1 : 1 ≤ n) (h2 : n ≤ 40) : DiskGood (diskNew n) := by
 unfold diskNew
 rw [if_pos ⟨h1, h2⟩]
 refine ⟨⟨?_, ?_, ?_⟩, ?_, ?_, ?_, ?_⟩
 ·simp; omega
 ·simp; omega
 ·simp
 ·intro b hb; simp at hb; simp [hb.2]
 ·intro x hx; cases hx
 ·show (-1 : Int) ≤ -1; omega
 ·show (-1 : Int) ≤ 1000; omega
theorem readSec_same (d : Disk) (f : Int) (dn : Bool) (hg : DiskGood d) (hf1 : -1 ≤ f) (hf2 : f ≤ 1000) (i : Int) (hi : InSec d i) : readSec ⟨d.secs, d.cache, f, dn⟩ i = readSec d i := by
 have h2 : DiskGood ⟨d.secs, d.cache, f, dn⟩ := ⟨hg.1, hg.2.1, hg.2.2.1, hf1, hf2⟩
 have h3 : InSec ⟨d.secs, d.cache, f, dn⟩ i := hi
 rw [readSec_yes h2 h3, readSec_yes hg hi]
 rfl
theorem readSec_push {d : Disk} {n : Int} {b : List UInt8} (hg : WriteGood d n b) (h0 : d.fuse ≠ 0) (i : Int) (hi : InSec d i) : readSec (writeSec d n b) i = if n = i then b else readSec d i := by
 have hx := good_write hg
 have hin : InSec (writeSec d n b) i := by
  rw [writeSec_go hg h0]
  exact hi
 rw [readSec_yes hx hin, readSec_yes hg.1 hi, writeSec_go hg h0]
 show readTo ⟨d.secs, d.cache ++ [⟨n, b⟩], fuseAfter d.fuse, d.down⟩ i (d.cache ++ [(⟨n, b⟩ : Wr)]).length = _
 rw [show (d.cache ++ [(⟨n, b⟩ : Wr)]).length = d.cache.length + 1 by simp]
 exact readTo_push d n b _ _ i
theorem fall_synced {x : Disk} (hg : DiskGood x) (hd : x.down = false) (h0 : x.fuse ≠ 0) : fallDisk (syncDisk x) 0 = ⟨flushSecs x (idxC (key x.cache) x.cache.length), [], -1, false⟩ := by
 have hs : SyncGood x := ⟨hg, hd⟩
 have h1 := good_syncDisk hg
 rw [fallDisk_go 0 h1]
 rw [syncDisk_go hs h0]
 congr 1
 exact flush_nil _ _ _ _
theorem readSec_synced {x : Disk} (hg : DiskGood x) (hd : x.down = false) (h0 : x.fuse ≠ 0) (i : Int) (hi : InSec x i) : readSec (fallDisk (syncDisk x) 0) i = readSec x i := by
 have h1 := good_fallDisk (good_syncDisk hg) 0
 rw [fall_synced hg hd h0] at h1 ⊢
 obtain ⟨k, rfl⟩ := Int.eq_ofNat_of_zero_le hi.1
 have hk : k < x.secs.length := by have := hi.2; omega
 have hin : InSec ⟨flushSecs x (idxC (key x.cache) x.cache.length), [], -1, false⟩ (k : Int) := ⟨by omega, by show (k : Int) < ((flushSecs x _).length : Int); rw [flushSecs_length]; exact hi.2⟩
 rw [readSec_yes h1 hin, readSec_yes hg hi]
 exact read_flush hk _ _
end Go.Proofs.YtoaaogacaibedaaGreatDoor
namespace Go.Proofs.YtoaaogacaibedaaGreatDoor
open Go.RowKit
set_option maxRecDepth 100000
set_option linter.unusedVariables false
theorem confT_no {xs : List Db} (h : confB xs = false) : confT xs = ⟨#[]⟩ := by unfold confT; rw [h]; rfl
theorem confT_yes {xs : List Db} (h : confB xs = true) : (confT xs).data.toList = Lib.join (xs.map dbL) [59] := by unfold confT; rw [h]; rfl
theorem confT_len (xs : List Db) : (confT xs).size ≤ 100 := by
 cases h : confB xs with
 | false => rw [confT_no h]; exact Nat.zero_le _
 | true =>
  have h1 := confT_yes h
  obtain ⟨hd, hl⟩ := conf_dbs h
  have h2 := join_le3 (l := xs.map dbL) (fun p hp => by obtain ⟨d, hm, rfl⟩ := List.mem_map.1 hp; exact (dbOf_text (hd d hm)).2.2) (by simpa using hl)
  rw [← h1] at h2
  simpa using h2
theorem parse_confT {xs : List Db} (h : confB xs = true) : parseS (confT xs).data.toList = (xs, true) := by rw [confT_yes h]; exact parse_text h
theorem db_own_nil {w : World} {base : Nat} {cs : List Value} {d : Db} {fp : List Nat} (h : dbR.own w base cs d fp) : cs = dbC d ∧ fp = [] := by
 refine ⟨db_cells (Rep.reads dbR h), ?_⟩
 obtain ⟨f1, g1, ⟨_, rfl⟩, ⟨f2, g2, ⟨_, rfl⟩, ⟨f3, g3, ⟨_, rfl⟩, ⟨f4, g4, ⟨_, rfl⟩, ⟨_, rfl⟩, rfl, _⟩, rfl, _⟩, rfl, _⟩, rfl, _⟩ := h
 rfl
theorem dbs_field {w : World} {base g n cap k : Nat} {xs : List Db} {fp : List Nat} {x : Db} (h : Rep.OwnRows dbR 159 w base (.slice (some ⟨g, 0, none⟩) n cap) xs fp) (hx : xs[k]? = some x) (x' : Db) (j : Nat) (u : Value) (hj : j < 5) (hu : (dbC x).set j u = dbC x') :
  Rep.OwnRows dbR 159 (w.setCell ⟨g, k * 5 + j, none⟩ u) base (.slice (some ⟨g, 0, none⟩) n cap) (xs.set k x') fp := by
 obtain ⟨c, f, hown, _, _, _, _, _, _, _, _, hset⟩ := h.open_ hx
 obtain ⟨rfl, rfl⟩ := db_own_nil hown
 exact hset x' j u hj (by rw [hu]; exact db_own _ _ x')
def FewDbs (m : Nat) (xs : List Db) : Prop := xs.length ≤ m ∧ ∀ x, x ∈ xs → x.name.size ≤ 100
theorem FewDbs.fits {m : Nat} {xs : List Db} (h : FewDbs m xs) (hm : m ≤ 1048576) : FitsDbs xs := ⟨Nat.le_trans h.1 hm, fun x hx => by have := h.2 x hx; omega⟩
theorem FewDbs.set {m k : Nat} {xs : List Db} {x : Db} (h : FewDbs m xs) (hx : x.name.size ≤ 100) : FewDbs m (xs.set k x) :=
 ⟨by simpa using h.1, fun y hy => by rcases List.mem_or_eq_of_mem_set hy with hy | rfl; exact h.2 y hy; exact hx⟩
theorem FewDbs.more {m m' : Nat} {xs : List Db} (h : FewDbs m xs) (hm : m ≤ m') : FewDbs m' xs := ⟨Nat.le_trans h.1 hm, h.2⟩
def RetDraw3 (w : World) (lo g : Nat) (A : Option Addr) (n c : Nat) (code : List UInt8) (P : List Db → Prop) (e : Ending) (w' : World) : Prop :=
 ∃ A2 c2 xs fp, e = .returned (.slice A2 xs.length c2) ∧ P xs ∧ dbsR.own w' w.heap.size [.slice A2 xs.length c2] xs fp ∧ Cur w' lo g A n c code ∧ Rep.Only w w' [g]
theorem putD5_only (w : World) (D : Nat) (a b c d e : Value) : Rep.Only w (((((w.setCell ⟨D, 0, none⟩ a).setCell ⟨D, 1, none⟩ b).setCell ⟨D, 2, none⟩ c).setCell ⟨D, 3, none⟩ d).setCell ⟨D, 4, none⟩ e) [D] :=
 ((((Rep.Only.setCell w (p := ⟨D, 0, none⟩) (by simp) a).trans (Rep.Only.setCell _ (p := ⟨D, 1, none⟩) (by simp) b)).trans (Rep.Only.setCell _ (p := ⟨D, 2, none⟩) (by simp) c)).trans (Rep.Only.setCell _ (p := ⟨D, 3, none⟩) (by simp) d)).trans (Rep.Only.setCell _ (p := ⟨D, 4, none⟩) (by simp) e)
theorem RetDb.lit {w w' : World} {p : Db × Bool} {e : Ending} (h : RetDb w p e w') : e = .returned (.tuple #[.agg #[.string p.1.name, .int .i64 p.1.size, .int .i64 p.1.queue, .int .i64 p.1.wait, .int .i64 p.1.idle], .bool p.2]) ∧ Below w.heap.size w w' := h
structure L3 (w : World) (lo g : Nat) (A : Option Addr) (n c : Nat) (code : List UInt8) (v : Value) (xs : List Db) (fp : List Nat) (wr : World) : Prop where
 own : Rep.OwnRows dbR 159 wr w.heap.size v xs fp
 cur : Cur wr lo g A n c code
 only : Rep.Only w wr [g]
 lt : g < w.heap.size
 from_ : lo ≤ g
theorem L3.step {w w1 w2 : World} {lo g : Nat} {A : Option Addr} {n c : Nat} {code : List UInt8} {v : Value} {xs : List Db} {fp : List Nat} (h : L3 w lo g A n c code v xs fp w1) (hc : Cur w2 lo g A n c code) (ho : Rep.Only w1 w2 [g]) : L3 w lo g A n c code v xs fp w2 :=
 ⟨h.own.kept fun a ha => ho.block a (h.own.lt a ha).2 (by have := (h.own.lt a ha).1; have := h.lt; simp; omega), hc, h.only.then ho (fun a ha => .inl ha), h.lt, h.from_⟩
theorem L3.later {w w1 w2 : World} {lo g : Nat} {A : Option Addr} {n c : Nat} {code : List UInt8} {v : Value} {xs : List Db} {fp : List Nat} (h : L3 w lo g A n c code v xs fp w1) (hb : Below w1.heap.size w1 w2) : L3 w lo g A n c code v xs fp w2 :=
 have ho := Rep.only_of_below hb
 h.step (h.cur.only ho (by simp) (fun a ha => by cases ha)) (ho.mono (by simp))
theorem L3.alloc {w w1 : World} {lo g : Nat} {A : Option Addr} {n c : Nat} {code : List UInt8} {v : Value} {xs : List Db} {fp : List Nat} (h : L3 w lo g A n c code v xs fp w1) (o : Obj) : L3 w lo g A n c code v xs fp (w1.alloc o) := h.later (Later.alloc w1 o)
theorem L3.other {w w1 w2 : World} {lo g : Nat} {A : Option Addr} {n c : Nat} {code : List UInt8} {v v2 : Value} {xs xs2 : List Db} {fp fp2 : List Nat} (h : L3 w lo g A n c code v xs fp w1) (hown : Rep.OwnRows dbR 159 w2 w.heap.size v2 xs2 fp2) (ho : Rep.Only w1 w2 fp) : L3 w lo g A n c code v2 xs2 fp2 w2 :=
 have hf : ∀ a, a ∈ fp → w.heap.size ≤ a := fun a ha => (h.own.lt a ha).1
 ⟨hown, h.cur.only ho (fun hm => by have := hf _ hm; have := h.lt; omega) (fun a ha => by have := hf _ ha; have := h.lt; have := h.from_; omega), h.only.then ho (fun a ha => .inr (hf a ha)), h.lt, h.from_⟩
theorem L3.grown {w w1 w2 : World} {lo g : Nat} {A : Option Addr} {n c : Nat} {code : List UInt8} {v v2 : Value} {xs xs2 : List Db} {fp fp2 : List Nat} (h : L3 w lo g A n c code v xs fp w1) (hown : Rep.OwnRows dbR 159 w2 w.heap.size v2 xs2 fp2) (hg : w1.grownBy w2 v.ownBlock) (hv : ∀ k, v.ownBlock = some k → w.heap.size ≤ k ∧ k ∈ fp) : L3 w lo g A n c code v2 xs2 fp2 w2 :=
 h.other hown (Rep.Only.of_grown hg fun k hk => (hv k hk).2)
theorem L3.set {w w1 : World} {lo g : Nat} {A : Option Addr} {n c : Nat} {code : List UInt8} {G m cap k : Nat} {xs : List Db} {fp : List Nat} {x : Db} (h : L3 w lo g A n c code (.slice (some ⟨G, 0, none⟩) m cap) xs fp w1) (hx : xs[k]? = some x) (x' : Db) (j : Nat) (u : Value) (hj : j < 5) (hu : (dbC x).set j u = dbC x') : L3 w lo g A n c code (.slice (some ⟨G, 0, none⟩) m cap) (xs.set k x') fp (w1.setCell ⟨G, k * 5 + j, none⟩ u) := by
 have hG : G ∈ fp := by
  obtain ⟨_, _, _, _, h7, _⟩ := (h.own.open_ hx).choose_spec.choose_spec
  exact h7
 exact h.other (dbs_field h.own hx x' j u hj hu) (Rep.Only.setCell w1 (p := ⟨G, k * 5 + j, none⟩) hG u)
theorem L3.ret {w w1 : World} {lo g : Nat} {A : Option Addr} {n c : Nat} {code : List UInt8} {v : Value} {xs : List Db} {fp : List Nat} {P : List Db → Prop} (h : L3 w lo g A n c code v xs fp w1) (hP : P xs) : RetDraw3 w lo g A n c code P (.returned v) w1 := by
 obtain ⟨A2, c2, rfl, _, _, _⟩ := h.own.reads
 exact ⟨A2, c2, xs, fp, rfl, hP, ⟨_, rfl, h.own⟩, h.cur, h.only⟩
def Pool (k : Nat) (xs : List Db) : Prop := (xs.length + k ≤ 3 ∧ ∀ x, x ∈ xs → x.name.size ≤ 100) ∧ (xs.length = 0 → 0 < k)
theorem L3.block {w wr : World} {lo g : Nat} {A : Option Addr} {n c : Nat} {code : List UInt8} {v : Value} {xs : List Db} {fp : List Nat} (h : L3 w lo g A n c code v xs fp wr) (h0 : 0 < xs.length) : ∃ G cap, v = .slice (some ⟨G, 0, none⟩) xs.length cap := by
 obtain ⟨cells, fps, hrow, _⟩ := h.own
 rcases hrow.2 with ⟨_, h1⟩ | ⟨G, cap, cur, rfl, _⟩
 ·omega
 ·exact ⟨G, cap, rfl⟩
theorem L3.cells {w wr : World} {lo g : Nat} {A : Option Addr} {n c : Nat} {code : List UInt8} {G m cap k : Nat} {xs : List Db} {fp : List Nat} {x : Db} (h : L3 w lo g A n c code (.slice (some ⟨G, 0, none⟩) m cap) xs fp wr) (hx : xs[k]? = some x) :
  (wr.cell? ⟨G, k * 5, none⟩ = some (.string x.name) ∧ wr.cell? ⟨G, k * 5 + 1, none⟩ = some (.int .i64 x.size) ∧ wr.cell? ⟨G, k * 5 + 2, none⟩ = some (.int .i64 x.queue) ∧ wr.cell? ⟨G, k * 5 + 3, none⟩ = some (.int .i64 x.wait) ∧ wr.cell? ⟨G, k * 5 + 4, none⟩ = some (.int .i64 x.idle)) ∧ (∀ j, wr.frozen? ⟨G, j, none⟩ = false) ∧ G < wr.heap.size := by
 obtain ⟨cs, f, hown, hc, hfz, _, _, _, _, hlt, _⟩ := h.own.open_ hx
 obtain ⟨rfl, rfl⟩ := db_own_nil hown
 exact ⟨⟨hc 0 _ rfl, hc 1 _ rfl, hc 2 _ rfl, hc 3 _ rfl, hc 4 _ rfl⟩, hfz, hlt⟩
theorem L3.at_ {w wr : World} {lo g : Nat} {A : Option Addr} {n c : Nat} {code : List UInt8} {v : Value} {xs : List Db} {fp : List Nat} (h : L3 w lo g A n c code v xs fp wr) : dbsR.at_ wr wr.heap.size [v] xs := Rep.reads dbsR (⟨_, rfl, h.own⟩ : dbsR.own wr w.heap.size [v] xs fp)
end Go.Proofs.YtoaaogacaibedaaGreatDoor
