/- What the theorem needs, out of many texts. -/
import Derived.Test.YtoaaogacaibedaaGreatDoorShc27
namespace Go.Proofs.YtoaaogacaibedaaGreatDoor
open Go.RowKit
set_option maxRecDepth 100000
set_option linter.unusedVariables false
theorem setScr_box {W : World} {S : Nat} {a b cc dd : Value} {j0 : Jour} (h : W.heap[S]? = some (.cells ([a, b, cc, dd] ++ jourL j0).toArray 72 (0, 0))) (ka : Int) (kb : ByteArray) (kp : Int) (kq : ByteArray) (ke kf g m : Int) : ((((((((W.setCell ⟨S, 4, none⟩ (.int .i64 ka)).setCell ⟨S, 5, none⟩ (.string kb)).setCell ⟨S, 6, none⟩ (.int .i64 kp)).setCell ⟨S, 7, none⟩ (.string kq)).setCell ⟨S, 8, none⟩ (.int .i64 ke)).setCell ⟨S, 9, none⟩ (.int .i64 kf)).setCell ⟨S, 10, none⟩ (.int .i64 g)).setCell ⟨S, 11, none⟩ (.int .i64 m)).heap[S]? = some (.cells ([a, b, cc, dd] ++ jourL ⟨⟨ka, kb, kp, kq, ke, kf⟩, g, m⟩).toArray 72 (0, 0)) := by
 obtain ⟨⟨a0, b0, p0, q0, e0, f0⟩, g0, m0⟩ := j0
 have h0 : (W.setCell ⟨S, 4, none⟩ (.int .i64 ka)).heap[S]? = some (.cells ([a, b, cc, dd] ++ jourL ⟨⟨ka, b0, p0, q0, e0, f0⟩, g0, m0⟩).toArray 72 (0, 0)) := var_set h 4 (.int .i64 ka)
 have h1 : ((W.setCell ⟨S, 4, none⟩ (.int .i64 ka)).setCell ⟨S, 5, none⟩ (.string kb)).heap[S]? = some (.cells ([a, b, cc, dd] ++ jourL ⟨⟨ka, kb, p0, q0, e0, f0⟩, g0, m0⟩).toArray 72 (0, 0)) := var_set h0 5 (.string kb)
 have h2 : (((W.setCell ⟨S, 4, none⟩ (.int .i64 ka)).setCell ⟨S, 5, none⟩ (.string kb)).setCell ⟨S, 6, none⟩ (.int .i64 kp)).heap[S]? = some (.cells ([a, b, cc, dd] ++ jourL ⟨⟨ka, kb, kp, q0, e0, f0⟩, g0, m0⟩).toArray 72 (0, 0)) := var_set h1 6 (.int .i64 kp)
 have h3 : ((((W.setCell ⟨S, 4, none⟩ (.int .i64 ka)).setCell ⟨S, 5, none⟩ (.string kb)).setCell ⟨S, 6, none⟩ (.int .i64 kp)).setCell ⟨S, 7, none⟩ (.string kq)).heap[S]? = some (.cells ([a, b, cc, dd] ++ jourL ⟨⟨ka, kb, kp, kq, e0, f0⟩, g0, m0⟩).toArray 72 (0, 0)) := var_set h2 7 (.string kq)
 have h4 : (((((W.setCell ⟨S, 4, none⟩ (.int .i64 ka)).setCell ⟨S, 5, none⟩ (.string kb)).setCell ⟨S, 6, none⟩ (.int .i64 kp)).setCell ⟨S, 7, none⟩ (.string kq)).setCell ⟨S, 8, none⟩ (.int .i64 ke)).heap[S]? = some (.cells ([a, b, cc, dd] ++ jourL ⟨⟨ka, kb, kp, kq, ke, f0⟩, g0, m0⟩).toArray 72 (0, 0)) := var_set h3 8 (.int .i64 ke)
 have h5 : ((((((W.setCell ⟨S, 4, none⟩ (.int .i64 ka)).setCell ⟨S, 5, none⟩ (.string kb)).setCell ⟨S, 6, none⟩ (.int .i64 kp)).setCell ⟨S, 7, none⟩ (.string kq)).setCell ⟨S, 8, none⟩ (.int .i64 ke)).setCell ⟨S, 9, none⟩ (.int .i64 kf)).heap[S]? = some (.cells ([a, b, cc, dd] ++ jourL ⟨⟨ka, kb, kp, kq, ke, kf⟩, g0, m0⟩).toArray 72 (0, 0)) := var_set h4 9 (.int .i64 kf)
 have h6 : (((((((W.setCell ⟨S, 4, none⟩ (.int .i64 ka)).setCell ⟨S, 5, none⟩ (.string kb)).setCell ⟨S, 6, none⟩ (.int .i64 kp)).setCell ⟨S, 7, none⟩ (.string kq)).setCell ⟨S, 8, none⟩ (.int .i64 ke)).setCell ⟨S, 9, none⟩ (.int .i64 kf)).setCell ⟨S, 10, none⟩ (.int .i64 g)).heap[S]? = some (.cells ([a, b, cc, dd] ++ jourL ⟨⟨ka, kb, kp, kq, ke, kf⟩, g, m0⟩).toArray 72 (0, 0)) := var_set h5 10 (.int .i64 g)
 exact var_set h6 11 (.int .i64 m)
theorem putScr_only (W : World) (S : Nat) (ka : Int) (kb : ByteArray) (kp : Int) (kq : ByteArray) (ke kf g m : Int) : Rep.Only W ((((((((W.setCell ⟨S, 4, none⟩ (.int .i64 ka)).setCell ⟨S, 5, none⟩ (.string kb)).setCell ⟨S, 6, none⟩ (.int .i64 kp)).setCell ⟨S, 7, none⟩ (.string kq)).setCell ⟨S, 8, none⟩ (.int .i64 ke)).setCell ⟨S, 9, none⟩ (.int .i64 kf)).setCell ⟨S, 10, none⟩ (.int .i64 g)).setCell ⟨S, 11, none⟩ (.int .i64 m)) [S] :=
 ((((((((Rep.Only.setCell W (p := ⟨S, 4, none⟩) (by simp) _).trans (Rep.Only.setCell _ (p := ⟨S, 5, none⟩) (by simp) _)).trans (Rep.Only.setCell _ (p := ⟨S, 6, none⟩) (by simp) _)).trans (Rep.Only.setCell _ (p := ⟨S, 7, none⟩) (by simp) _)).trans (Rep.Only.setCell _ (p := ⟨S, 8, none⟩) (by simp) _)).trans (Rep.Only.setCell _ (p := ⟨S, 9, none⟩) (by simp) _)).trans (Rep.Only.setCell _ (p := ⟨S, 10, none⟩) (by simp) _)).trans (Rep.Only.setCell _ (p := ⟨S, 11, none⟩) (by simp) _))
structure NB (w0 w : World) (S R : Nat) (r : Rec) (cs : List Value) (x : Disk) (j : Jour) (W : World) : Prop where
 sb : SB w0 S cs x j W
 only : Rep.Only w W [S]
 rbox : W.heap[R]? = some (.cells (recC r).toArray 29 (0, 0))
 ne : R ≠ S
section
variable {w0 w W W' : World} {S R : Nat} {r : Rec} {cs cs' : List Value} {x x' : Disk} {j j' : Jour}
theorem NB.step (h : NB w0 w S R r cs x j W) (ho : Rep.Only W W' [S]) (hs : SB w0 S cs' x' j' W') : NB w0 w S R r cs' x' j' W' :=
 ⟨hs, h.only.trans ho, (ho.block _ (Array.getElem?_eq_some_iff.1 h.rbox).1 (by simp; exact h.ne)).trans h.rbox, h.ne⟩
theorem NB.later (h : NB w0 w S R r cs x j W) (hb : Below W.heap.size W W') : NB w0 w S R r cs x j W' := h.step ((Rep.only_of_below hb).mono (by simp)) (h.sb.later hb)
end
def RetA (w0 w : World) (S : Nat) (p : Disk × Bool) (e : Ending) (w' : World) : Prop :=
 Rep.Only w w' [S] ∧ ∃ cs j, SB w0 S cs p.1 j w' ∧ ((p.2 = true ∧ e = .returned (.tuple #[])) ∨ (p.2 = false ∧ e = .panicked panC))
theorem addTo_dn {d : Disk} {j : Jour} {r : Rec} (h : d.down = true) : addTo d j r = (d, false) := by
 unfold addTo putLast
 rw [write_dn h, sync_dn h, h]
 rfl
theorem addTo_dn2 {d : Disk} {j : Jour} {r : Rec} (h : (writeSec d (atP j.g j.place) (putR j.g j.place r)).down = true) : addTo d j r = (writeSec d (atP j.g j.place) (putR j.g j.place r), false) := by
 unfold addTo putLast
 rw [sync_dn h, h]
 rfl
set_option maxRecDepth 2000000 in
set_option maxHeartbeats 16000000 in
theorem add_any (w0 : World) (S : Nat) (cs : List Value) (x : Disk) (j0 : Jour) (r : Rec) (w : World) (h : SB w0 S cs x j0 w) (hf : Fits x) (hg : Given w0) (hrs : r.text.size ≤ 1048576) :
  Calls Tryz.prog 37 #[.pointer (some ⟨S, 0, none⟩), .agg (recC r).toArray] w (RetA w0 w S (addP x r)) := by
 obtain ⟨A, c, B, e, rfl⟩ := h.shape
 obtain ⟨rk, rn, ro, rt⟩ := r
 have HRS := Lib.hid hrs
 clear hrs
 obtain ⟨Y, hY⟩ : ∃ Y, addP x ⟨rk, rn, ro, rt⟩ = Y := ⟨_, rfl⟩
 rw [hY]
 have HYY := Lib.hid hY
 clear hY
 have N : NB w0 w S w.heap.size ⟨rk, rn, ro, rt⟩ [.slice A x.secs.length c, .slice B x.cache.length e, .int .i64 x.fuse, .bool x.down] x j0 (w.alloc (.cells #[.int .i64 rk, .int .i64 rn, .int .i64 ro, .string rt] 29)) := ⟨h.later (Later.alloc w _), (Rep.only_alloc w _).mono (by simp), heap_alloc_new w _, by have := h.lt; omega⟩
 clear h
 show Calls Tryz.prog 37 #[.pointer (some ⟨S, 0, none⟩), .agg #[.int .i64 rk, .int .i64 rn, .int .i64 ro, .string rt]] w _
 go_enter Tryz.func37, Tryz.ntmps37
 go_upto_region 1 with (fail)
 generalize w.alloc (.cells #[.int .i64 rk, .int .i64 rn, .int .i64 ro, .string rt] 29) = W1 at N ⊢
 generalize w.heap.size = R at N ⊢
 obtain ⟨d0, d1, d2, d3⟩ := N.sb.cells
 go_wp2_with fail
 refine (openJour_any [.slice A x.secs.length c, .slice B x.cache.length e, .int .i64 x.fuse, .bool x.down] x W1 N.sb.at hf (N.sb.given hg)).mono ?_
 clear d0 d1 d2 d3
 obtain ⟨⟨⟨⟨ja, jb, jp, jq, je, jf⟩, jg, jm⟩, ok⟩, hp⟩ : ∃ p, openP x = p := ⟨_, rfl⟩
 have hgd := openP_good x
 rw [hp] at hgd ⊢
 have HP := Lib.hid hp
 obtain ⟨hkg, ⟨hg0, hg1⟩, hm0, hm1⟩ := hgd
 replace hg0 : 0 ≤ jg := hg0
 replace hg1 : jg ≤ 60000 := hg1
 replace hm0 : 0 ≤ jm := hm0
 replace hm1 : jm ≤ 18 := hm1
 have HKG := Lib.hid hkg
 clear hp hkg
 rintro e1 W2 hret
 obtain ⟨rfl, hb⟩ := hret.lit8i
 replace N := N.later hb
 clear hret hb
 have HJ := heap_alloc_new W2 (.cells #[.int .i64 ja, .string jb, .int .i64 jp, .string jq, .int .i64 je, .int .i64 jf, .int .i64 jg, .int .i64 jm] 37)
 have hJl : S < W2.heap.size := N.sb.lt
 have hJr : R < W2.heap.size := (Array.getElem?_eq_some_iff.1 N.rbox).1
 replace N := N.later (Later.alloc W2 (.cells #[.int .i64 ja, .string jb, .int .i64 jp, .string jq, .int .i64 je, .int .i64 jf, .int .i64 jg, .int .i64 jm] 37))
 go_upto_region 2 with (fail)
 generalize W2.alloc (.cells #[.int .i64 ja, .string jb, .int .i64 jp, .string jq, .int .i64 je, .int .i64 jf, .int .i64 jg, .int .i64 jm] 37) = W3 at HJ N ⊢
 generalize W2.heap.size = DJ at HJ hJl hJr ⊢
 obtain ⟨j0', j1, j2, j3, j4, j5, j6, j7⟩ := jour_box (r := ⟨⟨ja, jb, jp, jq, je, jf⟩, jg, jm⟩) HJ
 obtain ⟨e0, e1, e2, e3⟩ := rec_box (r := ⟨rk, rn, ro, rt⟩) N.rbox
 go_wp2_with fail
 have hsz := good_sizes HKG.out
 refine (applyI_any ⟨ja, jb, jp, jq, je, jf⟩ ⟨rk, rn, ro, rt⟩ W3 (N.sb.given hg) (Nat.le_trans hsz.1 (by decide)) (Nat.le_trans hsz.2 (by decide)) HRS.out).mono ?_
 clear hsz j0' j1 j2 j3 j4 j5 j6 j7 e0 e1 e2 e3
 obtain ⟨⟨⟨na, nb, np, nq, ne, nf⟩, yes⟩, hap⟩ : ∃ p, applyP ⟨ja, jb, jp, jq, je, jf⟩ ⟨rk, rn, ro, rt⟩ = p := ⟨_, rfl⟩
 rw [hap]
 have HAP := Lib.hid hap
 clear hap
 rintro e2 W4 hret
 obtain ⟨rfl, hb⟩ := hret.lit6
 replace N := N.later hb
 replace HJ := (hb.block _ (Array.getElem?_eq_some_iff.1 HJ).1).trans HJ
 clear hret hb
 have hDJ := (Array.getElem?_eq_some_iff.1 HJ).1
 replace N := N.later (Later.alloc W4 (.cells #[.int .i64 na, .string nb, .int .i64 np, .string nq, .int .i64 ne, .int .i64 nf] 35))
 replace HJ := ((Later.alloc W4 (.cells #[.int .i64 na, .string nb, .int .i64 np, .string nq, .int .i64 ne, .int .i64 nf] 35)).block _ hDJ).trans HJ
 go_upto_region 3 with (fail)
 generalize W4.alloc (.cells #[.int .i64 na, .string nb, .int .i64 np, .string nq, .int .i64 ne, .int .i64 nf] 35) = W5 at HJ N ⊢
 generalize W4.heap.size = EK at hDJ ⊢
 have HDJ := Lib.hid hDJ
 clear hDJ
 by_cases hall : ok = true ∧ yes = true ∧ x.down = false
 rotate_left
 ·have HN := Lib.hid (addP_no HP.out HAP.out hall)
  have HY2 := Lib.hid (show Y = (x, false) by rw [← HYY.out]; exact HN.out)
  have hxx : (ok && (yes && !x.down)) = false := by
   cases ok <;> cases yes <;> cases hd : x.down <;> simp_all
  obtain ⟨_, _, _, d3⟩ := N.sb.cells
  obtain ⟨dn, hdn⟩ : ∃ b, x.down = b := ⟨_, rfl⟩
  rw [hdn] at d3 hxx
  clear hdn HJ hall
  cases ok
  ·go_wp2_with fail
   refine (must_any _ _ W5).mono ?_
   rintro e3 W6 ⟨rfl, hc⟩
   rcases hc with ⟨hc, rfl⟩ | ⟨hc, rfl⟩
   ·exfalso
    simp at hc
   clear hc
   go_wp2_with fail
   exact ⟨rfl, N.only, _, _, by rw [HY2.out]; exact N.sb, .inr ⟨by rw [HY2.out], rfl⟩⟩
  ·cases yes
   ·go_wp2_with fail
    refine (must_any _ _ W5).mono ?_
    rintro e3 W6 ⟨rfl, hc⟩
    rcases hc with ⟨hc, rfl⟩ | ⟨hc, rfl⟩
    ·exfalso
     simp at hc
    clear hc
    go_wp2_with fail
    exact ⟨rfl, N.only, _, _, by rw [HY2.out]; exact N.sb, .inr ⟨by rw [HY2.out], rfl⟩⟩
   ·cases dn
    ·cases hxx
    ·go_wp2_with fail
     refine (must_any _ _ W5).mono ?_
     rintro e3 W6 ⟨rfl, hc⟩
     rcases hc with ⟨hc, rfl⟩ | ⟨hc, rfl⟩
     ·exfalso
      simp at hc
     clear hc
     go_wp2_with fail
     exact ⟨rfl, N.only, _, _, by rw [HY2.out]; exact N.sb, .inr ⟨by rw [HY2.out], rfl⟩⟩
 obtain ⟨rfl, rfl, hdx⟩ := hall
 obtain ⟨_, _, _, d3⟩ := N.sb.cells
 rw [hdx] at d3
 have HDX := Lib.hid hdx
 clear hdx
 go_wp2_with fail
 refine (must_any _ _ W5).mono ?_
 rintro e3 W6 ⟨rfl, hc⟩
 rcases hc with ⟨hc, rfl⟩ | ⟨hc, rfl⟩
 rotate_left
 ·exfalso
  simp at hc
 clear hc d3
 obtain ⟨j0', j1, j2, j3, j4, j5, j6, j7⟩ := jour_box (r := ⟨⟨ja, jb, jp, jq, je, jf⟩, jg, jm⟩) HJ
 have zf4 := N.sb.frz 4
 have zf5 := N.sb.frz 5
 have zf6 := N.sb.frz 6
 have zf7 := N.sb.frz 7
 have zf8 := N.sb.frz 8
 have zf9 := N.sb.frz 9
 have zf10 := N.sb.frz 10
 have zf11 := N.sb.frz 11
 obtain ⟨jk0, jg0, jm0⟩ := j0
 obtain ⟨c4, c5, c6, c7, c8, c9, c10, c11⟩ := scr_cells (j := ⟨jk0, jg0, jm0⟩) N.sb.box
 have hSl := N.sb.lt
 have N2 := N.step (putScr_only W5 S ja jb jp jq je jf jg jm) (N.sb.put (putScr_only W5 S ja jb jp jq je jf jg jm) (setScr_box N.sb.box ja jb jp jq je jf jg jm))
 have HJ2 := ((putScr_only W5 S ja jb jp jq je jf jg jm).block _ (Array.getElem?_eq_some_iff.1 HJ).1 (by simp; omega)).trans HJ
 clear N
 go_upto_region 5 with (fail)
 clear j0' j1 j2 j3 j4 j5 j6 j7 zf4 zf5 zf6 zf7 zf8 zf9 zf10 zf11 c4 c5 c6 c7 c8 c9 c10 c11 HJ
 generalize ((((((((W5.setCell ⟨S, 4, none⟩ (.int .i64 ja)).setCell ⟨S, 5, none⟩ (.string jb)).setCell ⟨S, 6, none⟩ (.int .i64 jp)).setCell ⟨S, 7, none⟩ (.string jq)).setCell ⟨S, 8, none⟩ (.int .i64 je)).setCell ⟨S, 9, none⟩ (.int .i64 jf)).setCell ⟨S, 10, none⟩ (.int .i64 jg)).setCell ⟨S, 11, none⟩ (.int .i64 jm)) = W7 at N2 HJ2 ⊢
 obtain ⟨_, _, _, _, _, _, _, j7⟩ := jour_box (r := ⟨⟨ja, jb, jp, jq, je, jf⟩, jg, jm⟩) HJ2
 by_cases hm : jm = 18
 ·subst hm
  have hpos := openP_pos HP.out
  replace hpos : 0 < jg := hpos
  by_cases hgm : jg = 60000
  ·have HY2 := Lib.hid (show Y = (x, false) by rw [← HYY.out]; exact addP_full HP.out HAP.out HDX.out rfl hgm)
   go_wp2_with fail
   refine (startGen_full w0 S _ x _ W7 N2.sb hgm).mono ?_
   rintro e4 W8 hret
   obtain ⟨ho, hc⟩ := hret.cases
   have ho2 := N2.only.trans ho
   clear hret ho N2 HJ2 j7
   rcases hc with ⟨cs2, j2, hoj, rfl, Q⟩ | ⟨cs2, j2, hoj, rfl, Q⟩
   ·cases hoj
   ·go_wp2_with fail
    exact ⟨rfl, ho2, _, _, by rw [HY2.out]; exact Q, .inr ⟨by rw [HY2.out], rfl⟩⟩
  ·have HY2 := Lib.hid (show Y = addTo (layP x ⟨⟨ja, jb, jp, jq, je, jf⟩, jg, 18⟩) ⟨⟨ja, jb, jp, jq, je, jf⟩, jg + 1, ((recsL ⟨ja, jb, jp, jq, je, jf⟩).length : Int)⟩ ⟨rk, rn, ro, rt⟩ by rw [← HYY.out]; exact addP_new HP.out HAP.out HDX.out rfl hgm)
   have hrl := recsL_len ⟨ja, jb, jp, jq, je, jf⟩
   go_wp2_with fail
   refine (startGen_any w0 S _ x ⟨⟨ja, jb, jp, jq, je, jf⟩, jg, 18⟩ W7 N2.sb hf hg ⟨hg0, by show jg ≤ 59999; omega⟩ (fun r hr => by have := recsL_small (good_sizes HKG.out) r hr; omega)).mono ?_
   obtain ⟨x2, hx2⟩ : ∃ x2, layP x ⟨⟨ja, jb, jp, jq, je, jf⟩, jg, 18⟩ = x2 := ⟨_, rfl⟩
   have HFX := Lib.hid (show Fits x2 by rw [← hx2]; exact fits_layP hf _)
   rw [hx2]
   have HX2 := Lib.hid hx2
   clear hx2
   rintro e4 W8 hret
   obtain ⟨ho, hc⟩ := hret.cases
   clear hret HJ2 j7
   rcases hc with ⟨cs2, j2, hoj, rfl, Q⟩ | ⟨cs2, j2, hoj, rfl, Q⟩
   rotate_left
   ·have hdn : x2.down = true := by cases hd : x2.down with | true => rfl | false => rw [onward_yes _ hd] at hoj; cases hoj
    have HQ := Lib.hid (show Y = (x2, false) by rw [HY2.out, HX2.out]; exact addTo_dn hdn)
    have ho2 := N2.only.trans ho
    clear hdn hoj N2 ho
    go_wp2_with fail
    exact ⟨rfl, ho2, _, _, by rw [HQ.out]; exact Q, .inr ⟨by rw [HQ.out], rfl⟩⟩
   have hdn : x2.down = false := by cases hd : x2.down with | false => rfl | true => rw [onward_no _ hd] at hoj; cases hoj
   rw [onward_yes _ hdn] at hoj
   injection hoj with hoj
   subst hoj
   have N3 := N2.step ho Q
   clear hdn Q ho N2
   obtain ⟨A2, c2, B2, f2, rfl⟩ := N3.sb.shape
   obtain ⟨e0, e1, e2, e3⟩ := rec_box (r := ⟨rk, rn, ro, rt⟩) N3.rbox
   go_wp2_with fail
   refine (put_any w0 S _ x2 ⟨⟨ja, jb, jp, jq, je, jf⟩, jg + 1, ((recsL ⟨ja, jb, jp, jq, je, jf⟩).length : Int)⟩ ⟨rk, rn, ro, rt⟩ _ N3.sb HFX.out hg ⟨by show 1 ≤ jg + 1; omega, by show jg + 1 ≤ 60000; omega⟩ ⟨by show 0 ≤ ((recsL ⟨ja, jb, jp, jq, je, jf⟩).length : Int); omega, by show ((recsL ⟨ja, jb, jp, jq, je, jf⟩).length : Int) ≤ 17; omega⟩ HRS.out).mono ?_
   clear e0 e1 e2 e3
   obtain ⟨x3, hx3⟩ : ∃ x3, writeSec x2 (atP (Jour.g ⟨⟨ja, jb, jp, jq, je, jf⟩, jg + 1, ((recsL ⟨ja, jb, jp, jq, je, jf⟩).length : Int)⟩) (Jour.place ⟨⟨ja, jb, jp, jq, je, jf⟩, jg + 1, ((recsL ⟨ja, jb, jp, jq, je, jf⟩).length : Int)⟩)) (putR (Jour.g ⟨⟨ja, jb, jp, jq, je, jf⟩, jg + 1, ((recsL ⟨ja, jb, jp, jq, je, jf⟩).length : Int)⟩) (Jour.place ⟨⟨ja, jb, jp, jq, je, jf⟩, jg + 1, ((recsL ⟨ja, jb, jp, jq, je, jf⟩).length : Int)⟩) ⟨rk, rn, ro, rt⟩) = x3 := ⟨_, rfl⟩
   have HF3 := Lib.hid (show Fits x3 by rw [← hx3]; exact fits_writeSec HFX.out _ (by have := putR_len (Jour.g ⟨⟨ja, jb, jp, jq, je, jf⟩, jg + 1, ((recsL ⟨ja, jb, jp, jq, je, jf⟩).length : Int)⟩) (Jour.place ⟨⟨ja, jb, jp, jq, je, jf⟩, jg + 1, ((recsL ⟨ja, jb, jp, jq, je, jf⟩).length : Int)⟩) ⟨rk, rn, ro, rt⟩; omega))
   rw [hx3]
   have HX3 := Lib.hid hx3
   clear hx3
   rintro e6 W9 hret
   obtain ⟨ho, hc⟩ := hret.cases
   clear hret
   rcases hc with ⟨cs3, j3, hoj, rfl, Q⟩ | ⟨cs3, j3, hoj, rfl, Q⟩
   rotate_left
   ·have hdn : x3.down = true := by cases hd : x3.down with | true => rfl | false => rw [onward_yes _ hd] at hoj; cases hoj
    have HQ := Lib.hid (show Y = (x3, false) by rw [HY2.out, HX2.out, ← HX3.out]; exact addTo_dn2 (by rw [HX3.out]; exact hdn))
    have ho2 := N3.only.trans ho
    clear hdn hoj N3 ho
    go_wp2_with fail
    exact ⟨rfl, ho2, _, _, by rw [HQ.out]; exact Q, .inr ⟨by rw [HQ.out], rfl⟩⟩
   have hdn : x3.down = false := by cases hd : x3.down with | false => rfl | true => rw [onward_no _ hd] at hoj; cases hoj
   rw [onward_yes _ hdn] at hoj
   injection hoj with hoj
   subst hoj
   have N4 := N3.step ho Q
   clear hdn Q ho N3
   go_wp2_with fail
   refine (sync_any w0 S _ x3 _ W9 N4.sb HF3.out).mono ?_
   have HYZ := Lib.hid (show Y = (syncDisk x3, !(syncDisk x3).down) by rw [HY2.out, HX2.out, ← HX3.out]; rfl)
   obtain ⟨x4, hx4⟩ : ∃ x4, syncDisk x3 = x4 := ⟨_, rfl⟩
   rw [hx4] at HYZ ⊢
   clear hx4
   rintro e7 W10 hret
   obtain ⟨ho, hc⟩ := hret.cases
   have ho2 := N4.only.trans ho
   clear hret ho N4
   rcases hc with ⟨cs4, j4, hoj, rfl, Q⟩ | ⟨cs4, j4, hoj, rfl, Q⟩
   ·have hdn : x4.down = false := by cases hd : x4.down with | false => rfl | true => rw [onward_no _ hd] at hoj; cases hoj
    have HDN := Lib.hid hdn
    clear hoj hdn
    go_wp2_with fail
    go_end0
    exact ⟨ho2, _, _, by rw [HYZ.out]; exact Q, .inl ⟨by rw [HYZ.out]; show (!x4.down) = true; rw [HDN.out]; rfl, rfl⟩⟩
   ·have hdn : x4.down = true := by cases hd : x4.down with | true => rfl | false => rw [onward_yes _ hd] at hoj; cases hoj
    have HDN := Lib.hid hdn
    clear hoj hdn
    go_wp2_with fail
    exact ⟨rfl, ho2, _, _, by rw [HYZ.out]; exact Q, .inr ⟨by rw [HYZ.out]; show (!x4.down) = false; rw [HDN.out]; rfl, rfl⟩⟩
 ·have HY2 := Lib.hid (show Y = addTo x ⟨⟨ja, jb, jp, jq, je, jf⟩, jg, jm⟩ ⟨rk, rn, ro, rt⟩ by rw [← HYY.out]; exact addP_last HP.out HAP.out HDX.out hm)
  have hpos := openP_pos HP.out
  replace hpos : 0 < jg := hpos
  have hm17 : jm ≤ 17 := by omega
  have hmb : (jm == 18) = false := by simp [hm]
  have HFX := Lib.hid hf
  have N3 := N2
  clear N2 HJ2
  obtain ⟨e0, e1, e2, e3⟩ := rec_box (r := ⟨rk, rn, ro, rt⟩) N3.rbox
  go_wp2_with fail
  refine (put_any w0 S _ x ⟨⟨ja, jb, jp, jq, je, jf⟩, jg, jm⟩ ⟨rk, rn, ro, rt⟩ _ N3.sb HFX.out hg ⟨by show 1 ≤ jg; omega, by show jg ≤ 60000; omega⟩ ⟨by show 0 ≤ jm; omega, by show jm ≤ 17; omega⟩ HRS.out).mono ?_
  clear e0 e1 e2 e3
  obtain ⟨x3, hx3⟩ : ∃ x3, writeSec x (atP (Jour.g ⟨⟨ja, jb, jp, jq, je, jf⟩, jg, jm⟩) (Jour.place ⟨⟨ja, jb, jp, jq, je, jf⟩, jg, jm⟩)) (putR (Jour.g ⟨⟨ja, jb, jp, jq, je, jf⟩, jg, jm⟩) (Jour.place ⟨⟨ja, jb, jp, jq, je, jf⟩, jg, jm⟩) ⟨rk, rn, ro, rt⟩) = x3 := ⟨_, rfl⟩
  have HF3 := Lib.hid (show Fits x3 by rw [← hx3]; exact fits_writeSec HFX.out _ (by have := putR_len (Jour.g ⟨⟨ja, jb, jp, jq, je, jf⟩, jg, jm⟩) (Jour.place ⟨⟨ja, jb, jp, jq, je, jf⟩, jg, jm⟩) ⟨rk, rn, ro, rt⟩; omega))
  rw [hx3]
  have HX3 := Lib.hid hx3
  clear hx3
  rintro e6 W9 hret
  obtain ⟨ho, hc⟩ := hret.cases
  clear hret
  rcases hc with ⟨cs3, j3, hoj, rfl, Q⟩ | ⟨cs3, j3, hoj, rfl, Q⟩
  rotate_left
  ·have hdn : x3.down = true := by cases hd : x3.down with | true => rfl | false => rw [onward_yes _ hd] at hoj; cases hoj
   have HQ := Lib.hid (show Y = (x3, false) by rw [HY2.out, ← HX3.out]; exact addTo_dn2 (by rw [HX3.out]; exact hdn))
   have ho2 := N3.only.trans ho
   clear hdn hoj N3 ho
   go_wp2_with fail
   exact ⟨rfl, ho2, _, _, by rw [HQ.out]; exact Q, .inr ⟨by rw [HQ.out], rfl⟩⟩
  have hdn : x3.down = false := by cases hd : x3.down with | false => rfl | true => rw [onward_no _ hd] at hoj; cases hoj
  rw [onward_yes _ hdn] at hoj
  injection hoj with hoj
  subst hoj
  have N4 := N3.step ho Q
  clear hdn Q ho N3
  go_wp2_with fail
  refine (sync_any w0 S _ x3 _ W9 N4.sb HF3.out).mono ?_
  have HYZ := Lib.hid (show Y = (syncDisk x3, !(syncDisk x3).down) by rw [HY2.out, ← HX3.out]; rfl)
  obtain ⟨x4, hx4⟩ : ∃ x4, syncDisk x3 = x4 := ⟨_, rfl⟩
  rw [hx4] at HYZ ⊢
  clear hx4
  rintro e7 W10 hret
  obtain ⟨ho, hc⟩ := hret.cases
  have ho2 := N4.only.trans ho
  clear hret ho N4
  rcases hc with ⟨cs4, j4, hoj, rfl, Q⟩ | ⟨cs4, j4, hoj, rfl, Q⟩
  ·have hdn : x4.down = false := by cases hd : x4.down with | false => rfl | true => rw [onward_no _ hd] at hoj; cases hoj
   have HDN := Lib.hid hdn
   clear hoj hdn
   go_wp2_with fail
   go_end0
   exact ⟨ho2, _, _, by rw [HYZ.out]; exact Q, .inl ⟨by rw [HYZ.out]; show (!x4.down) = true; rw [HDN.out]; rfl, rfl⟩⟩
  ·have hdn : x4.down = true := by cases hd : x4.down with | true => rfl | false => rw [onward_yes _ hd] at hoj; cases hoj
   have HDN := Lib.hid hdn
   clear hoj hdn
   go_wp2_with fail
   exact ⟨rfl, ho2, _, _, by rw [HYZ.out]; exact Q, .inr ⟨by rw [HYZ.out]; show (!x4.down) = false; rw [HDN.out]; rfl, rfl⟩⟩
theorem catch_any (PT S Z O : Nat) (A B : Option Addr) (n c m f : Nat) (fu : Int) (dn : Bool) (v0 v1 v2 v3 v4 : Value) (older : List PanicEntry) (w : World)
  (hp : w.cell? ⟨PT, 0, none⟩ = some (.pointer (some ⟨S, 0, none⟩))) (h0 : w.cell? ⟨S, 0, none⟩ = some (.slice A n c)) (h1 : w.cell? ⟨S, 1, none⟩ = some (.slice B m f)) (h2 : w.cell? ⟨S, 2, none⟩ = some (.int .i64 fu)) (h3 : w.cell? ⟨S, 3, none⟩ = some (.bool dn))
  (z0 : w.cell? ⟨Z, 0, none⟩ = some v0) (z1 : w.cell? ⟨Z, 1, none⟩ = some v1) (z2 : w.cell? ⟨Z, 2, none⟩ = some v2) (z3 : w.cell? ⟨Z, 3, none⟩ = some v3) (y0 : w.cell? ⟨O, 0, none⟩ = some v4)
  (zf0 : w.frozen? ⟨Z, 0, none⟩ = false) (zf1 : w.frozen? ⟨Z, 1, none⟩ = false) (zf2 : w.frozen? ⟨Z, 2, none⟩ = false) (zf3 : w.frozen? ⟨Z, 3, none⟩ = false) (yf0 : w.frozen? ⟨O, 0, none⟩ = false) (hne : ¬ O = Z) :
  CallsD Tryz.prog 36 #[.pointer (some ⟨PT, 0, none⟩), .pointer (some ⟨Z, 0, none⟩), .pointer (some ⟨O, 0, none⟩)] (.panicking ({ v := panV, recovered := false } :: older)) w fun e u' w' =>
   e = .returned (.tuple #[]) ∧ u' = .panicking ({ v := panV, recovered := true } :: older) ∧ w' = ((((w.setCell ⟨Z, 0, none⟩ (.slice A n c)).setCell ⟨Z, 1, none⟩ (.slice B m f)).setCell ⟨Z, 2, none⟩ (.int .i64 fu)).setCell ⟨Z, 3, none⟩ (.bool dn)).setCell ⟨O, 0, none⟩ (.bool false) := by
 unfold panV
 refine callsD_of_wpS Tryz.func36 rfl fun c₀ cs hu => ?_
 apply wpS_seq
 apply wpS_region
 simp [wpOpsS, go_sem, recoverD, hu, Tryz.ntmps36, Exit.thenS]
 refine wpS_cond (t := true) (by simp [Act.eval, Array.replicate]) ?_
 simp only [if_true]
 apply wpS_region
 simp [wpOpsS, go_sem, hp, h0, h1, h2, h3, z0, z1, z2, z3, y0, zf0, zf1, zf2, zf3, yf0, bodyPostS, results, Tryz.results36]
theorem catch_idle (a b c : Value) (w : World) :
  CallsD Tryz.prog 36 #[a, b, c] .returning w fun e u' w' => e = .returned (.tuple #[]) ∧ u' = .returning ∧ w' = w := by
 refine callsD_of_wpS Tryz.func36 rfl fun c₀ cs hu => ?_
 apply wpS_seq
 apply wpS_region
 simp [wpOpsS, go_sem, recoverD, hu, Tryz.ntmps36, Exit.thenS]
 refine wpS_cond (t := false) (by simp [Act.eval, Array.replicate]) ?_
 simp only [Bool.false_eq_true, if_false]
 refine wpS_of_wp (wp_skip ?_)
 cases c₀
 simp_all [bodyPostS, results, Tryz.results36]
end Go.Proofs.YtoaaogacaibedaaGreatDoor
namespace Go.Proofs.YtoaaogacaibedaaGreatDoor
open Go.RowKit
set_option maxRecDepth 2000000
set_option linter.unusedVariables false
structure VB (w : World) (R Z O S PT : Nat) (r : Rec) (W : World) : Prop where
 below : Below w.heap.size w W
 rbox : W.heap[R]? = some (.cells (recC r).toArray 29 (0, 0))
 zbox : W.heap[Z]? = some (.cells [.slice none 0 0, .slice none 0 0, .int .i64 0, .bool false].toArray 27 (0, 0))
 obox : W.heap[O]? = some (.cells #[.bool false] 4 (0, 0))
 pbox : W.heap[PT]? = some (.cells #[.pointer (some ⟨S, 0, none⟩)] 69 (0, 0))
 lo : w.heap.size ≤ R ∧ w.heap.size ≤ Z ∧ w.heap.size ≤ O
 hi : R < S ∧ Z < S ∧ O < S ∧ S < PT
 ne : ¬ O = Z
theorem VB.step {w W W' : World} {R Z O S PT : Nat} {r : Rec} (h : VB w R Z O S PT r W) (ho : Rep.Only W W' [S]) : VB w R Z O S PT r W' := by
 obtain ⟨h1, h2, h3, h4⟩ := h.hi
 obtain ⟨l1, l2, l3⟩ := h.lo
 have hp := (Array.getElem?_eq_some_iff.1 h.pbox).1
 exact ⟨Rep.Only.below h.below ho h.below.size (fun a ha => by simp at ha; omega), (ho.block _ (by omega) (by simp; omega)).trans h.rbox, (ho.block _ (by omega) (by simp; omega)).trans h.zbox, (ho.block _ (by omega) (by simp; omega)).trans h.obox, (ho.block _ hp (by simp; omega)).trans h.pbox, h.lo, h.hi, h.ne⟩
theorem VB.ret {w W W1 : World} {R Z O S PT : Nat} {r : Rec} {a b cc dd : Value} {y : Disk} {j : Jour} (h : VB w R Z O S PT r W) (hs : SB W1 S [a, b, cc, dd] y j W) (h1 : w.heap.size ≤ W1.heap.size) (h2 : Z < W1.heap.size ∧ O < W1.heap.size) (ok : Bool) :
  RetAdd w (y, ok) (.returned (.tuple #[.agg #[a, b, cc, dd], .bool ok])) (((((W.setCell ⟨Z, 0, none⟩ a).setCell ⟨Z, 1, none⟩ b).setCell ⟨Z, 2, none⟩ cc).setCell ⟨Z, 3, none⟩ dd).setCell ⟨O, 0, none⟩ (.bool ok)) := by
 obtain ⟨l1, l2, l3⟩ := h.lo
 have hw : Rep.Only W (((((W.setCell ⟨Z, 0, none⟩ a).setCell ⟨Z, 1, none⟩ b).setCell ⟨Z, 2, none⟩ cc).setCell ⟨Z, 3, none⟩ dd).setCell ⟨O, 0, none⟩ (.bool ok)) [Z, O] := ((putD_only W Z a b cc dd).mono (by simp)).trans (Rep.Only.setCell _ (p := ⟨O, 0, none⟩) (by simp) _)
 obtain ⟨fp, ho, _⟩ := hs.own
 refine ⟨[a, b, cc, dd], fp, rfl, Rep.low diskR (Rep.own_only ho hw (fun x hx hm => ?_)) h1, Rep.Only.below h.below hw h.below.size (fun x hx => by simp at hx; omega)⟩
 have := (Rep.lt diskR ho x hx).1
 simp at hm
 omega
set_option maxRecDepth 2000000 in
set_option maxHeartbeats 8000000 in
theorem addRec_any (cs : List Value) (d : Disk) (r : Rec) (w : World) (h : diskR.at_ w w.heap.size cs d) (hf : Fits d) (hok : OkRec r) (hg : Given w) (hrs : r.text.size ≤ 1048576) :
  Calls Tryz.prog 10 #[.agg cs.toArray, .agg (recC r).toArray] w (RetAdd w (addP d r)) := by
 obtain ⟨A, c, B, e, rfl⟩ := disk_at_shape h
 obtain ⟨rk, rn, ro, rt⟩ := r
 have HRS := Lib.hid hrs
 have HG := Lib.hid hg
 obtain ⟨⟨y, ok⟩, hY⟩ : ∃ Y, addP d ⟨rk, rn, ro, rt⟩ = Y := ⟨_, rfl⟩
 rw [hY]
 have HYY := Lib.hid hY
 have HD := Lib.hid h
 have T : All (fun w' => (Below w.heap.size w w' ∧ w.heap.size + 3 < w'.heap.size) ∧ w'.heap[w.heap.size]? = some (.cells [.slice A d.secs.length c, .slice B d.cache.length e, .int .i64 d.fuse, .bool d.down].toArray 27 (0, 0)) ∧ w'.heap[w.heap.size + 1]? = some (.cells (recC ⟨rk, rn, ro, rt⟩).toArray 29 (0, 0)) ∧ w'.heap[w.heap.size + 2]? = some (.cells [.slice none 0 0, .slice none 0 0, .int .i64 0, .bool false].toArray 27 (0, 0)) ∧ w'.heap[w.heap.size + 3]? = some (.cells #[.bool false] 4 (0, 0)))
   ((((w.alloc (.cells #[.slice A d.secs.length c, .slice B d.cache.length e, .int .i64 d.fuse, .bool d.down] 27)).alloc (.cells #[.int .i64 rk, .int .i64 rn, .int .i64 ro, .string rt] 29)).alloc (.cells #[.slice none 0 0, .slice none 0 0, .int .i64 0, .bool false] 27)).alloc (.cells #[.bool false] 4)) :=
  ⟨⟨Later.trans (Later.trans (Later.trans (Later.alloc w _) (Later.alloc _ _)) (Later.alloc _ _)) (Later.alloc _ _), by simp⟩, (Below.heap_alloc _ _ _ (by simp <;> omega)).trans ((Below.heap_alloc _ _ _ (by simp <;> omega)).trans ((Below.heap_alloc _ _ _ (by simp)).trans (heap_alloc_new w _))), (Below.heap_alloc _ _ _ (by simp <;> omega)).trans ((Below.heap_alloc _ _ _ (by simp)).trans (heap_alloc_new' _ _ (by simp))), (Below.heap_alloc _ _ _ (by simp)).trans (heap_alloc_new' _ _ (by simp)), heap_alloc_new' _ _ (by simp)⟩
 clear h hg hrs hY hok
 have hmf : ∀ (fn : Fn) (first cap : Array Value) (w : World), (Instr.makeFunc fn first cap).run Tryz.prog w = .ok (.func fn first cap) w := fun _ _ _ _ => rfl
 show Calls Tryz.prog 10 #[.agg #[.slice A d.secs.length c, .slice B d.cache.length e, .int .i64 d.fuse, .bool d.down], .agg #[.int .i64 rk, .int .i64 rn, .int .i64 ro, .string rt]] w _
 go_enter_defers Tryz.func10, Tryz.ntmps10
 go_upto_region 1 with (fail)
 generalize (((w.alloc (.cells #[.slice A d.secs.length c, .slice B d.cache.length e, .int .i64 d.fuse, .bool d.down] 27)).alloc (.cells #[.int .i64 rk, .int .i64 rn, .int .i64 ro, .string rt] 29)).alloc (.cells #[.slice none 0 0, .slice none 0 0, .int .i64 0, .bool false] 27)).alloc (.cells #[.bool false] 4) = W1 at T ⊢
 obtain ⟨⟨hb1, hlt⟩, t1, t2, t3, t4⟩ := T.out
 obtain ⟨d0, d1, d2, d3⟩ := disk4 t1
 go_wp2_with fail
 refine (copyDisk_any [.slice A d.secs.length c, .slice B d.cache.length e, .int .i64 d.fuse, .bool d.down] d W1 (Keeps.keeps (F := fun w' => diskR.at_ w' w'.heap.size [.slice A d.secs.length c, .slice B d.cache.length e, .int .i64 d.fuse, .bool d.down] d) hb1 HD.out) hf).mono ?_
 clear d0 d1 d2 d3
 rintro e1 W2 ⟨cs1, fp1, rfl, O1, hb⟩
 obtain ⟨A1, c1, B1, f1, rfl⟩ := disk_own_shape O1
 have HW1 := Lib.hid (show Given W1 from Keeps.keeps (F := Given) hb1 HG.out)
 have hle : w.heap.size ≤ W1.heap.size := hb1.size
 have X : VB w (w.heap.size + 1) (w.heap.size + 1 + 1) (w.heap.size + 1 + 1 + 1) W2.heap.size (W2.heap.size + 1) ⟨rk, rn, ro, rt⟩ ((W2.alloc (.cells #[.slice A1 d.secs.length c1, .slice B1 d.cache.length f1, .int .i64 d.fuse, .bool d.down, .int .i64 0, .string ⟨#[]⟩, .int .i64 0, .string ⟨#[]⟩, .int .i64 0, .int .i64 0, .int .i64 0, .int .i64 0] 72)).alloc (.cells #[.pointer (some ⟨W2.heap.size, 0, none⟩)] 69)) := by
  have hb2 := Later.trans hb (Later.trans (Later.alloc W2 (.cells #[.slice A1 d.secs.length c1, .slice B1 d.cache.length f1, .int .i64 d.fuse, .bool d.down, .int .i64 0, .string ⟨#[]⟩, .int .i64 0, .string ⟨#[]⟩, .int .i64 0, .int .i64 0, .int .i64 0, .int .i64 0] 72)) (Later.alloc (W2.alloc (.cells #[.slice A1 d.secs.length c1, .slice B1 d.cache.length f1, .int .i64 d.fuse, .bool d.down, .int .i64 0, .string ⟨#[]⟩, .int .i64 0, .string ⟨#[]⟩, .int .i64 0, .int .i64 0, .int .i64 0, .int .i64 0] 72)) (.cells #[.pointer (some ⟨W2.heap.size, 0, none⟩)] 69)))
  have := hb.size
  exact ⟨Later.trans hb1 hb2, (hb2.block _ (by omega)).trans t2, (hb2.block _ (by omega)).trans t3, (hb2.block _ (by omega)).trans t4, heap_alloc_new' _ _ (by simp), ⟨by omega, by omega, by omega⟩, ⟨by omega, by omega, by omega, by omega⟩, by omega⟩
 have Q : SB W1 W2.heap.size [.slice A1 d.secs.length c1, .slice B1 d.cache.length f1, .int .i64 d.fuse, .bool d.down] d jourZero ((W2.alloc (.cells #[.slice A1 d.secs.length c1, .slice B1 d.cache.length f1, .int .i64 d.fuse, .bool d.down, .int .i64 0, .string ⟨#[]⟩, .int .i64 0, .string ⟨#[]⟩, .int .i64 0, .int .i64 0, .int .i64 0, .int .i64 0] 72)).alloc (.cells #[.pointer (some ⟨W2.heap.size, 0, none⟩)] 69)) := by
  have hb2 := Later.trans (Later.alloc W2 (.cells #[.slice A1 d.secs.length c1, .slice B1 d.cache.length f1, .int .i64 d.fuse, .bool d.down, .int .i64 0, .string ⟨#[]⟩, .int .i64 0, .string ⟨#[]⟩, .int .i64 0, .int .i64 0, .int .i64 0, .int .i64 0] 72)) (Later.alloc (W2.alloc (.cells #[.slice A1 d.secs.length c1, .slice B1 d.cache.length f1, .int .i64 d.fuse, .bool d.down, .int .i64 0, .string ⟨#[]⟩, .int .i64 0, .string ⟨#[]⟩, .int .i64 0, .int .i64 0, .int .i64 0, .int .i64 0] 72)) (.cells #[.pointer (some ⟨W2.heap.size, 0, none⟩)] 69))
  refine ⟨Later.trans hb hb2, (Below.heap_alloc _ _ _ (by simp)).trans (heap_alloc_new W2 _), ⟨fp1, Rep.own_only O1 (Rep.only_of_below hb2) (fun a _ hm => by cases hm), fun hm => ?_⟩, hb.size⟩
  have := (Rep.lt diskR O1 _ hm).2
  omega
 go_upto_region 2 with (fail)
 have hzo : w.heap.size + 1 + 1 < W1.heap.size ∧ w.heap.size + 1 + 1 + 1 < W1.heap.size := ⟨by omega, by omega⟩
 clear T t1 t2 t3 t4 O1 hb hlt hb1
 generalize (W2.alloc (.cells #[.slice A1 d.secs.length c1, .slice B1 d.cache.length f1, .int .i64 d.fuse, .bool d.down, .int .i64 0, .string ⟨#[]⟩, .int .i64 0, .string ⟨#[]⟩, .int .i64 0, .int .i64 0, .int .i64 0, .int .i64 0] 72)).alloc (.cells #[.pointer (some ⟨W2.heap.size, 0, none⟩)] 69) = W3 at X Q ⊢
 generalize W2.heap.size + 1 = PT at X ⊢
 generalize W2.heap.size = S at X Q ⊢
 generalize w.heap.size + 1 + 1 + 1 = O at X hzo ⊢
 generalize w.heap.size + 1 + 1 = Z at X hzo ⊢
 generalize w.heap.size + 1 = R at X ⊢
 have p0 : W3.cell? ⟨PT, 0, none⟩ = some (.pointer (some ⟨S, 0, none⟩)) := var_cell X.pbox 0
 obtain ⟨e0, e1, e2, e3⟩ := rec_box (r := ⟨rk, rn, ro, rt⟩) X.rbox
 go_wp2_with fail
 refine (add_any W1 S _ d jourZero ⟨rk, rn, ro, rt⟩ W3 Q hf HW1.out HRS.out).mono ?_
 rw [HYY.out]
 clear p0 e0 e1 e2 e3 Q
 rintro e3 W5 ⟨ho, cs5, j5, Q, hc⟩
 replace X := X.step ho
 clear ho
 obtain ⟨A5, c5, B5, f5, rfl⟩ := Q.shape
 have p0 : W5.cell? ⟨PT, 0, none⟩ = some (.pointer (some ⟨S, 0, none⟩)) := var_cell X.pbox 0
 obtain ⟨s0, s1, s2, s3⟩ := Q.cells
 obtain ⟨z0, z1, z2, z3⟩ := disk4 X.zbox
 have y0 : W5.cell? ⟨O, 0, none⟩ = some (.bool false) := var_cell X.obox 0
 have zf0 := var_frozen X.zbox 0
 have zf1 := var_frozen X.zbox 1
 have zf2 := var_frozen X.zbox 2
 have zf3 := var_frozen X.zbox 3
 have yf0 := var_frozen X.obox 0
 have hne : ¬ O = Z := X.ne
 have HRET := Lib.hid (X.ret Q hle hzo ok)
 clear X Q hle hzo
 rcases hc with ⟨hc, rfl⟩ | ⟨hc, rfl⟩
 ·replace hc : ok = true := hc
  subst hc
  go_wp2_with fail
  refine leaves_cons (f := 36) (args := #[.pointer (some ⟨PT, 0, none⟩), .pointer (some ⟨Z, 0, none⟩), .pointer (some ⟨O, 0, none⟩)]) (by simp) (by simp [go_sem]) ?_
  refine (catch_idle _ _ _ _).mono ?_
  rintro e u' w'' ⟨rfl, rfl, rfl⟩
  simp [Leaves, settle, results, Tryz.results10, go_sem, z0, z1, z2, z3, y0]
  exact HRET.out
 ·replace hc : ok = false := hc
  subst hc
  unfold panC
  go_wp2_with fail
  refine leaves_cons (f := 36) (args := #[.pointer (some ⟨PT, 0, none⟩), .pointer (some ⟨Z, 0, none⟩), .pointer (some ⟨O, 0, none⟩)]) (by simp) (by simp [go_sem]) ?_
  refine (catch_any PT S Z O _ _ _ _ _ _ _ _ _ _ _ _ _ [] _ p0 s0 s1 s2 s3 z0 z1 z2 z3 y0 zf0 zf1 zf2 zf3 yf0 hne).mono ?_
  rintro e u' w'' ⟨rfl, rfl, rfl⟩
  simp [Leaves, settle, results, Tryz.results10, go_sem, z0, z1, z2, z3, y0]
  exact HRET.out
end Go.Proofs.YtoaaogacaibedaaGreatDoor
namespace Go.Proofs.YtoaaogacaibedaaGreatDoor
open Go.RowKit
set_option maxRecDepth 100000
set_option maxHeartbeats 400000 in
theorem at_any (A : Option Addr) (c : Nat) (i : Nat) (code : List UInt8) (w : World) (h : Reads w w.heap.size 1 A code.length (bys code)) (hn : code.length ≤ 1048576) (hi : i ≤ 1000) :
  Calls Tryz.prog 18 #[.slice A code.length c, .int .i64 i] w fun e w' => ∃ x : Nat, x < 256 ∧ e = .returned (.int .i64 x) ∧ w = w' := by
 by_cases hlt : (i : Int) < code.length
 ·obtain ⟨b, off, u, rfl, _, _, hcell⟩ := h.byte (k := i) (by omega)
  have hu : u.toNat < 256 := u.toNat_lt
  go_enter Tryz.func18, Tryz.ntmps18
  go_wp2
  go_ret
  exact ⟨u.toNat, hu, rfl, rfl⟩
 ·go_enter Tryz.func18, Tryz.ntmps18
  go_wp2
  go_ret
  exact ⟨(i * 31 + code.length * 7) % 256, by omega, by go_num, rfl⟩
end Go.Proofs.YtoaaogacaibedaaGreatDoor
