/- What the theorem needs, out of many texts. -/
import Derived.Test.YtoaaogacaibedaaGreatDoorShc25
import Derived.Test.YtoaaogacaibedaaGreatDoorShc28
namespace Go.Proofs.YtoaaogacaibedaaGreatDoor
open Go.RowKit
set_option maxRecDepth 100000
set_option linter.unusedVariables false
theorem rec_okw {r : Rec} (h : recB r = true) : OkRec r := by
 obtain ⟨⟨h1, h2⟩, h3⟩ := rec_iff.1 h
 have hk : 1 ≤ r.kind ∧ r.kind ≤ 3 := by rcases h3 with h3 | h3 | h3 <;> omega
 have ho : 0 ≤ r.owner ∧ r.owner ≤ 1 := by rcases h3 with h3 | h3 | h3 <;> omega
 have ht : r.text.size ≤ 100 := by
  rcases h3 with h3 | h3 | h3
  ·exact txt_size h3.2.2
  ·exact nil_size h3.2.2
  ·exact nil_size h3.2.2
 exact ⟨WalkArith.wf_i64 (by omega), WalkArith.wf_i64 (by omega), WalkArith.wf_i64 (by omega), by unfold maxLen; omega⟩
theorem inv_open {x : Disk} {m : Int} (h : JInv x m) : ∃ k g p, openP x = (⟨k, g, p⟩, true) ∧ KG k := by
 obtain ⟨C, k, g, p, h1, h2, _⟩ := h
 exact ⟨k, g, p, open_JI h1.good h1.len (by rw [h1.rd]; exact h2), h2.good⟩
def recQ (k : Known) : Rec := ⟨3, k.epoch + 1, 1, ⟨#[]⟩⟩
theorem crash_next {z : Disk} {C : Cont} {k : Known} {g : Int} {p : Nat} (hu : Up z C 0 (fun c => c = C) (-1)) (hj : JI C k g p) (hg : g + 1 ≤ 60000) (he : k.epoch ≤ 41) :
  ∃ v k3 j3, applyP k (recQ k) = (k3, true) ∧ addP z (recQ k) = (v, true) ∧ openP v = (j3, true) ∧ j3.k = k3 ∧ Fits v := by
 have h0 := hj.good.epoch.1
 have hrb : recB (recQ k) = true := rec_iff.2 ⟨⟨by show 1 ≤ k.epoch + 1; omega, by show k.epoch + 1 ≤ 60000; omega⟩, .inr (.inr ⟨rfl, ⟨by show (0 : Int) ≤ 1; omega, by show (1 : Int) ≤ 1; omega⟩, rfl⟩)⟩
 have ha : applyP k (recQ k) = (⟨k.gen, k.text, k.pGen, k.pText, k.epoch + 1, 1⟩, true) := by
  rw [apply_act hj.good hrb]
  show epochP k (recQ k) = _
  exact if_pos (by show k.epoch < k.epoch + 1; omega)
 rcases add_up hu hj hg ha with ⟨hok, C', f', g', p', hu', hj', _, _⟩ | ⟨_, hf, _⟩
 ·refine ⟨(addP z (recQ k)).1, _, _, ha, ?_, open_JI hu'.good hu'.len (by rw [hu'.rd]; exact hj'), rfl, good_fits hu'.good⟩
  rw [← hok]
 ·exact absurd rfl hf
theorem crash_facts {x : Disk} {r : Rec} {k1 kw : Known} {g1 p1 f keep : Int} (HI : JInv x 40) (hop : openP x = (⟨k1, g1, p1⟩, true)) (hkw : applyP k1 r = (kw, true)) (he : kw.epoch ≤ 41) (hf1 : -1 ≤ f) (hf2 : f ≤ 1000) :
  ∃ (y : Disk) (ok : Bool) (k2 : Known) (g2 p2 : Int) (v : Disk) (k3 : Known) (j3 : Jour),
   addP ⟨x.secs, x.cache, f, x.down⟩ r = (y, ok) ∧ openP (fallDisk y keep) = (⟨k2, g2, p2⟩, true) ∧ (k2 = kw ∨ (ok = false ∧ k2 = k1)) ∧
   (applyP k2 (recQ k2) = (k3, true) ∧ addP (fallDisk y keep) (recQ k2) = (v, true) ∧ openP v = (j3, true) ∧ j3.k = k3) ∧
   (Fits (⟨x.secs, x.cache, f, x.down⟩ : Disk) ∧ Fits y ∧ Fits (fallDisk y keep) ∧ Fits v) ∧ KG k2 ∧ k2.epoch ≤ 41 := by
 obtain ⟨C, k, g, p, h1, h2, h3, h4, h5, h6⟩ := HI
 have hop2 := open_JI h1.good h1.len (by rw [h1.rd]; exact h2)
 rw [hop] at hop2
 have ek : k1 = k := congrArg (fun q : Jour × Bool => q.1.k) hop2
 subst ek
 have hu := up_fuse h1 hf1 hf2
 rcases add_up hu h2 (by omega) hkw with ⟨hok, C', f', g', p', hu', hj', hg', _⟩ | ⟨hok, hf, hdn⟩
 ·have hz := up_fall hu'.good hu'.len keep
  have hjz : JI (readSec (fallDisk (addP ⟨x.secs, x.cache, f, x.down⟩ r).1 keep)) kw g' p' := by rw [show readSec (fallDisk (addP ⟨x.secs, x.cache, f, x.down⟩ r).1 keep) = C' from hu'.fall keep]; exact hj'
  have hb : g' + 1 ≤ 60000 := by rcases hg' with ⟨h9, _⟩ | h9 <;> omega
  obtain ⟨v, k3, j3, a1, a2, a3, a4, a5⟩ := crash_next hz hjz hb he
  refine ⟨(addP ⟨x.secs, x.cache, f, x.down⟩ r).1, true, kw, g', p', v, k3, j3, by rw [← hok], open_JI hz.good hz.len hjz, .inl rfl, ⟨a1, a2, a3, a4⟩, ⟨good_fits hu.good, good_fits hu'.good, good_fits hz.good, a5⟩, hjz.good, he⟩
 ·have hz := up_fall hdn.good hdn.len keep
  obtain ⟨k2, g2, p2, hjz, hk2, hg2⟩ := hdn.fall keep
  have he2 : k2.epoch ≤ 41 := by rcases hk2 with h9 | h9 <;> rw [h9] <;> omega
  obtain ⟨v, k3, j3, a1, a2, a3, a4, a5⟩ := crash_next hz hjz (by omega) he2
  refine ⟨(addP ⟨x.secs, x.cache, f, x.down⟩ r).1, false, k2, g2, p2, v, k3, j3, by rw [← hok], open_JI hz.good hz.len hjz, ?_, ⟨a1, a2, a3, a4⟩, ⟨good_fits hu.good, good_fits hdn.good, good_fits hz.good, a5⟩, hjz.good, he2⟩
  rcases hk2 with h9 | h9
  ·exact .inr ⟨rfl, h9⟩
  ·exact .inl h9
def OwnNot (base D : Nat) (cs : List Value) (x : Disk) (w : World) : Prop := ∃ fp, diskR.own w base cs x fp ∧ D ∉ fp
instance OwnNot.keeps (base D : Nat) (cs : List Value) (x : Disk) : Keeps (OwnNot base D cs x) := ⟨fun h ⟨fp, o, n⟩ => ⟨fp, Rep.own_only o (Rep.only_of_below h) (fun a _ hm => by cases hm), n⟩⟩
theorem at_fuse {w : World} {B c e : Nat} {A E : Option Addr} {x : Disk} (h : diskR.at_ w B [.slice A x.secs.length c, .slice E x.cache.length e, .int .i64 x.fuse, .bool x.down] x) (f : Int) : diskR.at_ w B [.slice A x.secs.length c, .slice E x.cache.length e, .int .i64 f, .bool x.down] ⟨x.secs, x.cache, f, x.down⟩ := by
 obtain ⟨h1, h2, h3, h4⟩ := h
 exact ⟨h1, h2, rfl, h4⟩
set_option maxRecDepth 2000000 in
set_option maxHeartbeats 16000000 in
theorem walk_FnCrash (a0 : Option Addr) (len0 cap0 : Nat) (z0 : List Int) (w : World) (w0 : IsRow .u8 w a0 len0 cap0 z0) (hg : Given w) :
  Calls Tryz.prog 4 #[.slice a0 len0 cap0] w fun e w' => e = .returned (.bool true) ∧ Below w.heap.size w w' := by
 obtain ⟨code, rfl, _, hr⟩ := w0.reads
 clear w0
 by_cases hbig : (1048576 : Int) < code.length
 ·go_enter Tryz.func4, Tryz.ntmps4
  go_wp2_with (first | (go_at_call 8; go_in) | fail)
  go_ret
  exact ⟨rfl, Below.refl _ _⟩
 have hn : code.length ≤ 1048576 := by omega
 have HG0 := Lib.hid hg
 have S0 : All (fun w' => (Below w.heap.size w w' ∧ Given w' ∧ Reads w' w'.heap.size 1 a0 code.length (bys code))) w := ⟨Below.refl _ _, hg, hr⟩
 clear hg hr
 go_enter Tryz.func4, Tryz.ntmps4
 go_wp2_with (first | (go_at_call 8; go_in) | fail)
 refine (drawJour_any a0 cap0 code w S0.out.2.2 hn S0.out.2.1).mono ?_
 rintro e W1 ⟨cs1, x, fp1, ⟨rk, rn, ro, rt⟩, keep, rfl, ⟨hinv, hts, ⟨⟨wa, wb, wp, wq, we, wf⟩, hkw, hke⟩, hkp⟩, O1, hb⟩
 obtain ⟨A1, c1, B1, f1, rfl⟩ := disk_own_shape O1
 obtain ⟨⟨ka, kb, kp, kq, ke, kf⟩, kg, km, hop, hkg⟩ := inv_open hinv
 have HOP := Lib.hid hop
 rw [hop] at hkw
 replace hkw : applyP ⟨ka, kb, kp, kq, ke, kf⟩ ⟨rk, rn, ro, rt⟩ = (⟨wa, wb, wp, wq, we, wf⟩, true) := hkw
 replace hts : rt.size ≤ 100 := hts
 replace hke : we ≤ 41 := hke
 have HI := Lib.hid hinv
 have HKW := Lib.hid hkw
 have HKG := Lib.hid hkg
 have HTS := Lib.hid hts
 have HKE := Lib.hid hke
 have HKP := Lib.hid hkp
 clear hinv hkw hkg hts hke hkp hop
 replace S0 := S0.later hb
 have hwl := hb.size
 clear hb
 have S : All (fun w' => (w'.heap[W1.heap.size + 1]? = some (.cells (recC ⟨rk, rn, ro, rt⟩).toArray 29 (0, 0)) ∧ w'.heap[W1.heap.size]? = some (.cells [.slice A1 x.secs.length c1, .slice B1 x.cache.length f1, .int .i64 x.fuse, .bool x.down].toArray 27 (0, 0)) ∧ OwnNot w.heap.size W1.heap.size [.slice A1 x.secs.length c1, .slice B1 x.cache.length f1, .int .i64 x.fuse, .bool x.down] x w') ∧ (Below w.heap.size w w' ∧ Given w' ∧ Reads w' w'.heap.size 1 a0 code.length (bys code))) ((W1.alloc (.cells #[.slice A1 x.secs.length c1, .slice B1 x.cache.length f1, .int .i64 x.fuse, .bool x.down] 27)).alloc (.cells #[.int .i64 rk, .int .i64 rn, .int .i64 ro, .string rt] 29)) := by
  refine ⟨⟨heap_alloc_new' _ _ (by simp), (Below.heap_alloc _ _ _ (by simp)).trans (heap_alloc_new W1 _), ?_⟩, ((S0.alloc _).alloc _).out⟩
  exact ⟨fp1, Rep.own_only O1 (Rep.only_of_below (Later.trans (Later.alloc W1 _) (Later.alloc _ _))) (fun a _ hm => by cases hm), fun hm => by have := (Rep.lt diskR O1 _ hm).2; omega⟩
 have hDR : W1.heap.size < W1.heap.size + 1 ∧ w.heap.size ≤ W1.heap.size := ⟨by omega, hwl⟩
 go_upto_region 4 with (fail)
 clear S0 O1 hwl
 generalize (W1.alloc (.cells #[.slice A1 x.secs.length c1, .slice B1 x.cache.length f1, .int .i64 x.fuse, .bool x.down] 27)).alloc (.cells #[.int .i64 rk, .int .i64 rn, .int .i64 ro, .string rt] 29) = W2 at S ⊢
 generalize W1.heap.size + 1 = R at S hDR ⊢
 generalize W1.heap.size = D at S hDR ⊢
 obtain ⟨d0, d1, d2, d3⟩ := disk4 S.out.1.2.1
 go_wp2_with fail
 refine (openJour_any [.slice A1 x.secs.length c1, .slice B1 x.cache.length f1, .int .i64 x.fuse, .bool x.down] x W2 (by obtain ⟨fp, ho, _⟩ := S.out.1.2.2; exact Rep.reads diskR ho) HI.out.fits S.out.2.2.1).mono ?_
 rw [HOP.out]
 clear d0 d1 d2 d3
 rintro e W3 hret
 obtain ⟨rfl, hb⟩ := hret.lit8i
 replace S := S.later hb
 clear hret hb
 have hJ : R < W3.heap.size := (Array.getElem?_eq_some_iff.1 S.out.1.1).1
 have S2 : All (fun w' => w'.heap[W3.heap.size]? = some (.cells (jourL ⟨⟨ka, kb, kp, kq, ke, kf⟩, kg, km⟩).toArray 37 (0, 0)) ∧ (w'.heap[R]? = some (.cells (recC ⟨rk, rn, ro, rt⟩).toArray 29 (0, 0)) ∧ w'.heap[D]? = some (.cells [.slice A1 x.secs.length c1, .slice B1 x.cache.length f1, .int .i64 x.fuse, .bool x.down].toArray 27 (0, 0)) ∧ OwnNot w.heap.size D [.slice A1 x.secs.length c1, .slice B1 x.cache.length f1, .int .i64 x.fuse, .bool x.down] x w') ∧ (Below w.heap.size w w' ∧ Given w' ∧ Reads w' w'.heap.size 1 a0 code.length (bys code))) (W3.alloc (.cells #[.int .i64 ka, .string kb, .int .i64 kp, .string kq, .int .i64 ke, .int .i64 kf, .int .i64 kg, .int .i64 km] 37)) := ⟨heap_alloc_new W3 _, (S.alloc _).out⟩
 clear S
 go_upto_region 5 with (fail)
 generalize W3.alloc (.cells #[.int .i64 ka, .string kb, .int .i64 kp, .string kq, .int .i64 ke, .int .i64 kf, .int .i64 kg, .int .i64 km] 37) = W4 at S2 ⊢
 generalize W3.heap.size = J at S2 hJ ⊢
 obtain ⟨j0, j1, j2, j3, j4, j5, j6, j7⟩ := jour_box (r := ⟨⟨ka, kb, kp, kq, ke, kf⟩, kg, km⟩) S2.out.1
 obtain ⟨e0, e1, e2, e3⟩ := rec_box (r := ⟨rk, rn, ro, rt⟩) S2.out.2.1.1
 go_wp2_with fail
 have hsz := good_sizes HKG.out
 refine (applyI_any ⟨ka, kb, kp, kq, ke, kf⟩ ⟨rk, rn, ro, rt⟩ W4 S2.out.2.2.2.1 (Nat.le_trans hsz.1 (by decide)) (Nat.le_trans hsz.2 (by decide)) (Nat.le_trans HTS.out (by decide))).mono ?_
 rw [HKW.out]
 clear hsz j0 j1 j2 j3 j4 j5 j6 j7 e0 e1 e2 e3
 rintro e W5 hret
 obtain ⟨rfl, hb⟩ := hret.lit6
 replace S2 := S2.later hb
 clear hret hb
 have hK : J < W5.heap.size := (Array.getElem?_eq_some_iff.1 S2.out.1).1
 have S3 : All (fun w' => w'.heap[W5.heap.size]? = some (.cells (knownC ⟨wa, wb, wp, wq, we, wf⟩).toArray 35 (0, 0)) ∧ w'.heap[J]? = some (.cells (jourL ⟨⟨ka, kb, kp, kq, ke, kf⟩, kg, km⟩).toArray 37 (0, 0)) ∧ (w'.heap[R]? = some (.cells (recC ⟨rk, rn, ro, rt⟩).toArray 29 (0, 0)) ∧ w'.heap[D]? = some (.cells [.slice A1 x.secs.length c1, .slice B1 x.cache.length f1, .int .i64 x.fuse, .bool x.down].toArray 27 (0, 0)) ∧ OwnNot w.heap.size D [.slice A1 x.secs.length c1, .slice B1 x.cache.length f1, .int .i64 x.fuse, .bool x.down] x w') ∧ (Below w.heap.size w w' ∧ Given w' ∧ Reads w' w'.heap.size 1 a0 code.length (bys code))) (W5.alloc (.cells #[.int .i64 wa, .string wb, .int .i64 wp, .string wq, .int .i64 we, .int .i64 wf] 35)) := ⟨heap_alloc_new W5 _, (S2.alloc _).out⟩
 clear S2
 go_upto_region 6 with (fail)
 generalize W5.alloc (.cells #[.int .i64 wa, .string wb, .int .i64 wp, .string wq, .int .i64 we, .int .i64 wf] 35) = W6 at S3 ⊢
 generalize W5.heap.size = K at S3 hK ⊢
 go_wp2_with fail
 refine (at_any a0 cap0 2 code W6 S3.out.2.2.2.2.2 hn (by omega)).mono ?_
 rintro e W7 ⟨xx, hxx, rfl, rfl⟩
 have ht : (xx : Int).tmod 11 = (xx : Int) % 11 := Int.tmod_eq_emod_of_nonneg (by omega)
 have b0 : 0 ≤ (xx : Int) % 11 := by omega
 have b1 : (xx : Int) % 11 ≤ 10 := by omega
 obtain ⟨d0, d1, d2, d3⟩ := disk4 S3.out.2.2.1.2.1
 have df2 := var_frozen S3.out.2.2.1.2.1 2
 have hDl := (Array.getElem?_eq_some_iff.1 S3.out.2.2.1.2.1).1
 obtain ⟨y, ok, ⟨xa, xb, xp, xq, xe, xf⟩, xg, xm, v, ⟨va, vb, vp, vq, ve, vf⟩, ⟨⟨ua, ub, up, uq, ue, uf⟩, ug, um⟩, q1, q2, q3, ⟨q4, q5, q6, q7⟩, ⟨q8, q9, q10, q11⟩, q12, q13⟩ := crash_facts (f := (xx : Int) % 11 - 1) (keep := (keep : Int)) HI.out HOP.out HKW.out HKE.out (by omega) (by omega)
 have Q1 := Lib.hid q1
 have Q2 := Lib.hid q2
 have Q3 := Lib.hid q3
 have Q4 := Lib.hid q4
 have Q5 := Lib.hid q5
 have Q6 := Lib.hid q6
 have Q7 := Lib.hid q7
 have Q8 := Lib.hid q8
 have Q9 := Lib.hid q9
 have Q10 := Lib.hid q10
 have Q11 := Lib.hid q11
 have Q12 := Lib.hid q12
 have Q13 := Lib.hid q13
 clear q1 q2 q3 q4 q5 q6 q7 q8 q9 q10 q11 q12 q13
 have T : All (fun w' => diskR.at_ w' w'.heap.size [.slice A1 x.secs.length c1, .slice B1 x.cache.length f1, .int .i64 ((xx : Int) % 11 - 1), .bool x.down] ⟨x.secs, x.cache, (xx : Int) % 11 - 1, x.down⟩ ∧ w'.heap[D]? = some (.cells [.slice A1 x.secs.length c1, .slice B1 x.cache.length f1, .int .i64 ((xx : Int) % 11 - 1), .bool x.down].toArray 27 (0, 0)) ∧ w'.heap[K]? = some (.cells (knownC ⟨wa, wb, wp, wq, we, wf⟩).toArray 35 (0, 0)) ∧ w'.heap[J]? = some (.cells (jourL ⟨⟨ka, kb, kp, kq, ke, kf⟩, kg, km⟩).toArray 37 (0, 0)) ∧ w'.heap[R]? = some (.cells (recC ⟨rk, rn, ro, rt⟩).toArray 29 (0, 0)) ∧ Below w.heap.size w w' ∧ Given w') (W6.setCell ⟨D, 2, none⟩ (.int .i64 ((xx : Int) % 11 - 1))) := by
  have ho : Rep.Only W6 (W6.setCell ⟨D, 2, none⟩ (.int .i64 ((xx : Int) % 11 - 1))) [D] := Rep.Only.setCell W6 (p := ⟨D, 2, none⟩) (by simp) _
  obtain ⟨t1, t2, ⟨t3, t4, fp, t5, t6⟩, t7, t8, t9⟩ := S3.out
  have hbw : Below w.heap.size w (W6.setCell ⟨D, 2, none⟩ (.int .i64 ((xx : Int) % 11 - 1))) := Rep.Only.below t7 ho t7.size (fun a ha => by simp at ha; omega)
  refine ⟨at_fuse (Rep.reads diskR (Rep.own_only t5 ho (fun a ha hm => by simp at hm; subst hm; exact t6 ha))) _, var_set t4 2 _, (ho.block _ (Array.getElem?_eq_some_iff.1 t1).1 (by simp; omega)).trans t1, (ho.block _ (Array.getElem?_eq_some_iff.1 t2).1 (by simp; omega)).trans t2, (ho.block _ (Array.getElem?_eq_some_iff.1 t3).1 (by simp; omega)).trans t3, hbw, ?_⟩
  exact Keeps.keeps (F := Given) hbw HG0.out
 clear S3
 go_upto_region 7 with (fail)
 clear d0 d1 d2 d3 df2 ht b0 b1
 generalize W6.setCell ⟨D, 2, none⟩ (.int .i64 ((xx : Int) % 11 - 1)) = W8 at T ⊢
 generalize (xx : Int) % 11 - 1 = f at T Q1 Q8 ⊢
 obtain ⟨d0, d1, d2, d3⟩ := disk4 T.out.2.1
 obtain ⟨e0, e1, e2, e3⟩ := rec_box (r := ⟨rk, rn, ro, rt⟩) T.out.2.2.2.2.1
 go_wp2_with fail
 refine (addRec_any [.slice A1 x.secs.length c1, .slice B1 x.cache.length f1, .int .i64 f, .bool x.down] ⟨x.secs, x.cache, f, x.down⟩ ⟨rk, rn, ro, rt⟩ W8 T.out.1 Q8.out (rec_okw (apply_yes HKW.out).2.1) T.out.2.2.2.2.2.2 (Nat.le_trans HTS.out (by decide))).mono ?_
 rw [Q1.out]
 clear d0 d1 d2 d3 e0 e1 e2 e3
 rintro e W9 ⟨cs2, fp2, rfl, O2, hb⟩
 obtain ⟨A2, c2, B2, f2, rfl⟩ := disk_own_shape O2
 replace T := T.later hb
 have T2 : All (fun w' => (w'.heap[W9.heap.size]? = some (.cells [.slice A2 y.secs.length c2, .slice B2 y.cache.length f2, .int .i64 y.fuse, .bool y.down].toArray 27 (0, 0)) ∧ diskR.at_ w' w'.heap.size [.slice A2 y.secs.length c2, .slice B2 y.cache.length f2, .int .i64 y.fuse, .bool y.down] y) ∧ w'.heap[K]? = some (.cells (knownC ⟨wa, wb, wp, wq, we, wf⟩).toArray 35 (0, 0)) ∧ w'.heap[J]? = some (.cells (jourL ⟨⟨ka, kb, kp, kq, ke, kf⟩, kg, km⟩).toArray 37 (0, 0)) ∧ w'.heap[R]? = some (.cells (recC ⟨rk, rn, ro, rt⟩).toArray 29 (0, 0)) ∧ Below w.heap.size w w' ∧ Given w') (W9.alloc (.cells #[.slice A2 y.secs.length c2, .slice B2 y.cache.length f2, .int .i64 y.fuse, .bool y.down] 27)) :=
  ⟨⟨heap_alloc_new W9 _, Keeps.keeps (F := fun w' => diskR.at_ w' w'.heap.size [.slice A2 y.secs.length c2, .slice B2 y.cache.length f2, .int .i64 y.fuse, .bool y.down] y) (Later.alloc W9 _) (Rep.reads diskR O2)⟩, (T.alloc _).out.2.2⟩
 clear T hb O2
 go_upto_region 8 with (fail)
 generalize W9.alloc (.cells #[.slice A2 y.secs.length c2, .slice B2 y.cache.length f2, .int .i64 y.fuse, .bool y.down] 27) = W10 at T2 ⊢
 generalize W9.heap.size = X at T2 ⊢
 obtain ⟨d0, d1, d2, d3⟩ := disk4 T2.out.1.1
 go_wp2_with fail
 refine (fallDisk_any [.slice A2 y.secs.length c2, .slice B2 y.cache.length f2, .int .i64 y.fuse, .bool y.down] y (keep : Int) W10 T2.out.1.2 Q9.out (WalkArith.wf_i64 (by have := HKP.out; omega))).mono ?_
 clear d0 d1 d2 d3
 obtain ⟨z, hz⟩ : ∃ z, fallDisk y (keep : Int) = z := ⟨_, rfl⟩
 have q2 := Q2.out
 have q5 := Q5.out
 have q10 := Q10.out
 rw [hz] at q2 q5 q10 ⊢
 have P2 := Lib.hid q2
 have P5 := Lib.hid q5
 have P10 := Lib.hid q10
 clear q2 q5 q10 hz Q2 Q5 Q10
 rintro e W11 ⟨cs3, fp3, rfl, O3, hb⟩
 obtain ⟨A3, c3, B3, f3, rfl⟩ := disk_own_shape O3
 replace T2 := T2.later hb
 have T3 : All (fun w' => (w'.heap[W11.heap.size]? = some (.cells [.slice A3 z.secs.length c3, .slice B3 z.cache.length f3, .int .i64 z.fuse, .bool z.down].toArray 27 (0, 0)) ∧ diskR.at_ w' w'.heap.size [.slice A3 z.secs.length c3, .slice B3 z.cache.length f3, .int .i64 z.fuse, .bool z.down] z) ∧ w'.heap[K]? = some (.cells (knownC ⟨wa, wb, wp, wq, we, wf⟩).toArray 35 (0, 0)) ∧ w'.heap[J]? = some (.cells (jourL ⟨⟨ka, kb, kp, kq, ke, kf⟩, kg, km⟩).toArray 37 (0, 0)) ∧ w'.heap[R]? = some (.cells (recC ⟨rk, rn, ro, rt⟩).toArray 29 (0, 0)) ∧ Below w.heap.size w w' ∧ Given w') (W11.alloc (.cells #[.slice A3 z.secs.length c3, .slice B3 z.cache.length f3, .int .i64 z.fuse, .bool z.down] 27)) :=
  ⟨⟨heap_alloc_new W11 _, Keeps.keeps (F := fun w' => diskR.at_ w' w'.heap.size [.slice A3 z.secs.length c3, .slice B3 z.cache.length f3, .int .i64 z.fuse, .bool z.down] z) (Later.alloc W11 _) (Rep.reads diskR O3)⟩, (T2.alloc _).out.2⟩
 clear T2 hb O3
 go_upto_region 9 with (fail)
 generalize W11.alloc (.cells #[.slice A3 z.secs.length c3, .slice B3 z.cache.length f3, .int .i64 z.fuse, .bool z.down] 27) = W12 at T3 ⊢
 generalize W11.heap.size = ZB at T3 ⊢
 obtain ⟨d0, d1, d2, d3⟩ := disk4 T3.out.1.1
 go_wp2_with fail
 refine (openJour_any [.slice A3 z.secs.length c3, .slice B3 z.cache.length f3, .int .i64 z.fuse, .bool z.down] z W12 T3.out.1.2 P10.out T3.out.2.2.2.2.2).mono ?_
 rw [P2.out]
 clear d0 d1 d2 d3
 rintro e W13 hret
 obtain ⟨rfl, hb⟩ := hret.lit8i
 replace T3 := T3.later hb
 clear hret hb
 have T4 : All (fun w' => w'.heap[W13.heap.size]? = some (.cells (jourL ⟨⟨xa, xb, xp, xq, xe, xf⟩, xg, xm⟩).toArray 37 (0, 0)) ∧ (w'.heap[ZB]? = some (.cells [.slice A3 z.secs.length c3, .slice B3 z.cache.length f3, .int .i64 z.fuse, .bool z.down].toArray 27 (0, 0)) ∧ diskR.at_ w' w'.heap.size [.slice A3 z.secs.length c3, .slice B3 z.cache.length f3, .int .i64 z.fuse, .bool z.down] z) ∧ w'.heap[K]? = some (.cells (knownC ⟨wa, wb, wp, wq, we, wf⟩).toArray 35 (0, 0)) ∧ w'.heap[J]? = some (.cells (jourL ⟨⟨ka, kb, kp, kq, ke, kf⟩, kg, km⟩).toArray 37 (0, 0)) ∧ w'.heap[R]? = some (.cells (recC ⟨rk, rn, ro, rt⟩).toArray 29 (0, 0)) ∧ Below w.heap.size w w' ∧ Given w') (W13.alloc (.cells #[.int .i64 xa, .string xb, .int .i64 xp, .string xq, .int .i64 xe, .int .i64 xf, .int .i64 xg, .int .i64 xm] 37)) := ⟨heap_alloc_new W13 _, (T3.alloc _).out⟩
 clear T3
 go_upto_region 10 with (fail)
 generalize W13.alloc (.cells #[.int .i64 xa, .string xb, .int .i64 xp, .string xq, .int .i64 xe, .int .i64 xf, .int .i64 xg, .int .i64 xm] 37) = W14 at T4 ⊢
 generalize W13.heap.size = JX at T4 ⊢
 have HLAST : ∀ (W : World), True := fun _ => trivial
 clear HLAST
 obtain ⟨x0, x1, x2, x3, x4, x5, x6, x7⟩ := jour_box (r := ⟨⟨xa, xb, xp, xq, xe, xf⟩, xg, xm⟩) T4.out.1
 obtain ⟨k0, k1, k2, k3, k4, k5⟩ := known_box (r := ⟨wa, wb, wp, wq, we, wf⟩) T4.out.2.2.1
 obtain ⟨j0, j1, j2, j3, j4, j5, j6, j7⟩ := jour_box (r := ⟨⟨ka, kb, kp, kq, ke, kf⟩, kg, km⟩) T4.out.2.2.2.1
 have G1 := fun a b w => known_guard .neq a b ⟨xa, xb, xp, xq, xe, xf⟩ ⟨wa, wb, wp, wq, we, wf⟩ w
 have G2 := fun w => known_equal ⟨xa, xb, xp, xq, xe, xf⟩ ⟨wa, wb, wp, wq, we, wf⟩ w
 have G3 := fun a b w => known_guard .neq a b ⟨xa, xb, xp, xq, xe, xf⟩ ⟨ka, kb, kp, kq, ke, kf⟩ w
 have G4 := fun w => known_equal ⟨xa, xb, xp, xq, xe, xf⟩ ⟨ka, kb, kp, kq, ke, kf⟩ w
 obtain ⟨u1, hu1⟩ : ∃ u, knownEqB ⟨xa, xb, xp, xq, xe, xf⟩ ⟨wa, wb, wp, wq, we, wf⟩ = u := ⟨_, rfl⟩
 obtain ⟨u2, hu2⟩ : ∃ u, knownEqB ⟨xa, xb, xp, xq, xe, xf⟩ ⟨ka, kb, kp, kq, ke, kf⟩ = u := ⟨_, rfl⟩
 have hcase : (u1 = true) ∨ (u1 = false ∧ ok = false ∧ u2 = true) := by
  rcases Q3.out with h9 | ⟨h9, h8⟩
  ·exact .inl (by rw [← hu1, h9]; exact knownEqB_self _)
  ·cases u1
   ·exact .inr ⟨rfl, h9, by rw [← hu2, h8]; exact knownEqB_self _⟩
   ·exact .inl rfl
 rw [hu1] at G2
 rw [hu2] at G4
 unfold knownC at G1 G2 G3 G4
 clear hu1 hu2
 go_upto_region 12 with (fail)
 go_cut [86] from 67 to 85 (fun v86 W' => v86 = .bool false ∧ W14 = W')
 case first =>
  rename_i J0 K1 hJ0 hK0
  rcases hcase with rfl | ⟨rfl, rfl, rfl⟩
  ·cases ok
   ·go_wp2_with fail
    go_meet
    case rel => exact ⟨rfl, rfl⟩
   ·go_wp2_with fail
    go_meet
    case rel => exact ⟨rfl, rfl⟩
  ·go_wp2_with fail
   go_meet
   case rel => exact ⟨rfl, rfl⟩
 case rest =>
  obtain ⟨rfl, rfl⟩ := hcut
  go_upto_region 14 with (fail)
  clear G1 G2 G3 G4 k0 k1 k2 k3 k4 k5 j0 j1 j2 j3 j4 j5 j6 j7
  have i1 : xe ≤ 41 := Q13.out
  have i2 : 0 ≤ xe := Q12.out.epoch.1
  have hE := heap_alloc_new W14 (.cells #[.int .i64 3, .int .i64 (xe + 1), .int .i64 1, .string ⟨#[]⟩] 29)
  have T5 : All (fun w' => w'.heap[W14.heap.size]? = some (.cells (recC ⟨3, xe + 1, 1, ⟨#[]⟩⟩).toArray 29 (0, 0)) ∧ w'.heap[JX]? = some (.cells (jourL ⟨⟨xa, xb, xp, xq, xe, xf⟩, xg, xm⟩).toArray 37 (0, 0)) ∧ (w'.heap[ZB]? = some (.cells [.slice A3 z.secs.length c3, .slice B3 z.cache.length f3, .int .i64 z.fuse, .bool z.down].toArray 27 (0, 0)) ∧ diskR.at_ w' w'.heap.size [.slice A3 z.secs.length c3, .slice B3 z.cache.length f3, .int .i64 z.fuse, .bool z.down] z) ∧ w'.heap[K]? = some (.cells (knownC ⟨wa, wb, wp, wq, we, wf⟩).toArray 35 (0, 0)) ∧ w'.heap[J]? = some (.cells (jourL ⟨⟨ka, kb, kp, kq, ke, kf⟩, kg, km⟩).toArray 37 (0, 0)) ∧ w'.heap[R]? = some (.cells (recC ⟨rk, rn, ro, rt⟩).toArray 29 (0, 0)) ∧ Below w.heap.size w w' ∧ Given w') (W14.alloc (.cells #[.int .i64 3, .int .i64 (xe + 1), .int .i64 1, .string ⟨#[]⟩] 29)) := ⟨hE, (T4.alloc _).out⟩
  clear T4 hE
  go_upto_region 15 with (fail)
  clear x0 x1 x2 x3 x4 x5 x6 x7
  generalize W14.alloc (.cells #[.int .i64 3, .int .i64 (xe + 1), .int .i64 1, .string ⟨#[]⟩] 29) = W15 at T5 ⊢
  generalize W14.heap.size = QB at T5 ⊢
  obtain ⟨d0, d1, d2, d3⟩ := disk4 T5.out.2.2.1.1
  obtain ⟨e0, e1, e2, e3⟩ := rec_box (r := ⟨3, xe + 1, 1, ⟨#[]⟩⟩) T5.out.1
  go_wp2_with fail
  refine (addRec_any [.slice A3 z.secs.length c3, .slice B3 z.cache.length f3, .int .i64 z.fuse, .bool z.down] z ⟨3, xe + 1, 1, ⟨#[]⟩⟩ W15 T5.out.2.2.1.2 P10.out (rec_okw (apply_yes Q4.out).2.1) T5.out.2.2.2.2.2.2.2 (by show (0 : Nat) ≤ 1048576; omega)).mono ?_
  rw [show addP z ⟨3, xe + 1, 1, ⟨#[]⟩⟩ = (v, true) from P5.out]
  clear d0 d1 d2 d3 e0 e1 e2 e3
  rintro e W16 ⟨cs4, fp4, rfl, O4, hb⟩
  obtain ⟨A4, c4, B4, f4, rfl⟩ := disk_own_shape O4
  replace T5 := T5.later hb
  have T6 : All (fun w' => (w'.heap[W16.heap.size]? = some (.cells [.slice A4 v.secs.length c4, .slice B4 v.cache.length f4, .int .i64 v.fuse, .bool v.down].toArray 27 (0, 0)) ∧ diskR.at_ w' w'.heap.size [.slice A4 v.secs.length c4, .slice B4 v.cache.length f4, .int .i64 v.fuse, .bool v.down] v) ∧ w'.heap[QB]? = some (.cells (recC ⟨3, xe + 1, 1, ⟨#[]⟩⟩).toArray 29 (0, 0)) ∧ w'.heap[JX]? = some (.cells (jourL ⟨⟨xa, xb, xp, xq, xe, xf⟩, xg, xm⟩).toArray 37 (0, 0)) ∧ Below w.heap.size w w' ∧ Given w') (W16.alloc (.cells #[.slice A4 v.secs.length c4, .slice B4 v.cache.length f4, .int .i64 v.fuse, .bool v.down] 27)) := by
   have hh := (T5.alloc (.cells #[.slice A4 v.secs.length c4, .slice B4 v.cache.length f4, .int .i64 v.fuse, .bool v.down] 27)).out
   exact ⟨⟨heap_alloc_new W16 _, Keeps.keeps (F := fun w' => diskR.at_ w' w'.heap.size [.slice A4 v.secs.length c4, .slice B4 v.cache.length f4, .int .i64 v.fuse, .bool v.down] v) (Later.alloc W16 _) (Rep.reads diskR O4)⟩, hh.1, hh.2.1, hh.2.2.2.2.2.2⟩
  clear T5 hb O4
  go_upto_region 16 with (fail)
  generalize W16.alloc (.cells #[.slice A4 v.secs.length c4, .slice B4 v.cache.length f4, .int .i64 v.fuse, .bool v.down] 27) = W17 at T6 ⊢
  generalize W16.heap.size = VB0 at T6 ⊢
  obtain ⟨x0, x1, x2, x3, x4, x5, x6, x7⟩ := jour_box (r := ⟨⟨xa, xb, xp, xq, xe, xf⟩, xg, xm⟩) T6.out.2.2.1
  obtain ⟨e0, e1, e2, e3⟩ := rec_box (r := ⟨3, xe + 1, 1, ⟨#[]⟩⟩) T6.out.2.1
  go_wp2_with fail
  have hsz := good_sizes Q12.out
  refine (applyI_any ⟨xa, xb, xp, xq, xe, xf⟩ ⟨3, xe + 1, 1, ⟨#[]⟩⟩ W17 T6.out.2.2.2.2 (Nat.le_trans hsz.1 (by decide)) (Nat.le_trans hsz.2 (by decide)) (by show (0 : Nat) ≤ 1048576; omega)).mono ?_
  rw [show applyP ⟨xa, xb, xp, xq, xe, xf⟩ ⟨3, xe + 1, 1, ⟨#[]⟩⟩ = (⟨va, vb, vp, vq, ve, vf⟩, true) from Q4.out]
  clear hsz x0 x1 x2 x3 x4 x5 x6 x7 e0 e1 e2 e3
  rintro e W18 hret
  obtain ⟨rfl, hb⟩ := hret.lit6
  replace T6 := T6.later hb
  clear hret hb
  have T7 : All (fun w' => w'.heap[W18.heap.size]? = some (.cells (knownC ⟨va, vb, vp, vq, ve, vf⟩).toArray 35 (0, 0)) ∧ (w'.heap[VB0]? = some (.cells [.slice A4 v.secs.length c4, .slice B4 v.cache.length f4, .int .i64 v.fuse, .bool v.down].toArray 27 (0, 0)) ∧ diskR.at_ w' w'.heap.size [.slice A4 v.secs.length c4, .slice B4 v.cache.length f4, .int .i64 v.fuse, .bool v.down] v) ∧ Below w.heap.size w w' ∧ Given w') (W18.alloc (.cells #[.int .i64 va, .string vb, .int .i64 vp, .string vq, .int .i64 ve, .int .i64 vf] 35)) := by
   have hh := (T6.alloc (.cells #[.int .i64 va, .string vb, .int .i64 vp, .string vq, .int .i64 ve, .int .i64 vf] 35)).out
   exact ⟨heap_alloc_new W18 _, hh.1, hh.2.2.2⟩
  clear T6
  go_upto_region 17 with (fail)
  generalize W18.alloc (.cells #[.int .i64 va, .string vb, .int .i64 vp, .string vq, .int .i64 ve, .int .i64 vf] 35) = W19 at T7 ⊢
  generalize W18.heap.size = KV0 at T7 ⊢
  obtain ⟨d0, d1, d2, d3⟩ := disk4 T7.out.2.1.1
  go_wp2_with fail
  refine (openJour_any [.slice A4 v.secs.length c4, .slice B4 v.cache.length f4, .int .i64 v.fuse, .bool v.down] v W19 T7.out.2.1.2 Q11.out T7.out.2.2.2).mono ?_
  rw [Q6.out]
  clear d0 d1 d2 d3
  rintro e W20 hret
  obtain ⟨rfl, hb⟩ := hret.lit8i
  replace T7 := T7.later hb
  clear hret hb
  have q7 := Q7.out
  injection q7 with h1 h2 h3 h4 h5 h6
  subst h1 h2 h3 h4 h5 h6
  have T8 : All (fun w' => w'.heap[W20.heap.size]? = some (.cells (jourL ⟨⟨ua, ub, up, uq, ue, uf⟩, ug, um⟩).toArray 37 (0, 0)) ∧ w'.heap[KV0]? = some (.cells (knownC ⟨ua, ub, up, uq, ue, uf⟩).toArray 35 (0, 0)) ∧ Below w.heap.size w w') (W20.alloc (.cells #[.int .i64 ua, .string ub, .int .i64 up, .string uq, .int .i64 ue, .int .i64 uf, .int .i64 ug, .int .i64 um] 37)) := by
   have hh := (T7.alloc (.cells #[.int .i64 ua, .string ub, .int .i64 up, .string uq, .int .i64 ue, .int .i64 uf, .int .i64 ug, .int .i64 um] 37)).out
   exact ⟨heap_alloc_new W20 _, hh.1, hh.2.2.1⟩
  clear T7
  go_upto_region 18 with (fail)
  generalize W20.alloc (.cells #[.int .i64 ua, .string ub, .int .i64 up, .string uq, .int .i64 ue, .int .i64 uf, .int .i64 ug, .int .i64 um] 37) = W21 at T8 ⊢
  generalize W20.heap.size = JU at T8 ⊢
  obtain ⟨x0, x1, x2, x3, x4, x5, x6, x7⟩ := jour_box (r := ⟨⟨ua, ub, up, uq, ue, uf⟩, ug, um⟩) T8.out.1
  obtain ⟨k0, k1, k2, k3, k4, k5⟩ := known_box (r := ⟨ua, ub, up, uq, ue, uf⟩) T8.out.2.1
  have G1 := fun a b w => known_guard .eql a b ⟨ua, ub, up, uq, ue, uf⟩ ⟨ua, ub, up, uq, ue, uf⟩ w
  have G2 := fun w => known_equal ⟨ua, ub, up, uq, ue, uf⟩ ⟨ua, ub, up, uq, ue, uf⟩ w
  rw [knownEqB_self] at G2
  unfold knownC at G1 G2
  have HB := Lib.hid T8.out.2.2
  clear T8
  go_wp2_with fail
  go_ret
  exact ⟨rfl, HB.out⟩
end Go.Proofs.YtoaaogacaibedaaGreatDoor
