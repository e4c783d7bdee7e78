/- What the theorem needs, out of many texts. -/
import Derived.Test.YtoaaogacaibedaaGreatDoorShx4
import Derived.Test.YtoaaogacaibedaaGreatDoorShx17
import Derived.Test.YtoaaogacaibedaaGreatDoorShx31
import Derived.Test.YtoaaogacaibedaaGreatDoorShx33
import Derived.Deep.Cut
namespace Go.Proofs.YtoaaogacaibedaaGreatDoor
open Go.RowKit
set_option maxRecDepth 100000
set_option linter.unusedVariables false
theorem fits_addP {d : Disk} (h : Fits d) (r : Rec) : Fits (addP d r).1 := by
 unfold addP
 split
 ·split
  ·split
   ·exact h
   ·exact fits_putLast (fits_layP h _) _ _ _
  ·exact fits_putLast h _ _ _
 ·exact h
theorem adisk4 {w : World} {g : Nat} {a b c d : Value} (h : w.heap[g]? = some (.cells [a, b, c, d].toArray 50 (0, 0))) : w.cell? ⟨g, 0, none⟩ = some a ∧ w.cell? ⟨g, 1, none⟩ = some b ∧ w.cell? ⟨g, 2, none⟩ = some c ∧ w.cell? ⟨g, 3, none⟩ = some d := ⟨var_cell h 0, var_cell h 1, var_cell h 2, var_cell h 3⟩
set_option maxRecDepth 2000000 in
set_option maxHeartbeats 16000000 in
theorem walkh_FnExactAddRec (w : World) (cs0 : List Value) (x0 : Disk) (w0 : diskR.at_ w w.heap.size cs0 x0) (k0 : OkDisk x0) (cs1 : List Value) (x1 : Rec) (w1 : recR.at_ w w.heap.size cs1 x1) (k1 : OkRec x1) (hg : Given w)
  (addRec_any : ∀ (cs : List Value) (d : Disk) (r : Rec) (w : World), diskR.at_ w w.heap.size cs d → Fits d → OkRec r → Given w → r.text.size ≤ 1048576 → Calls Tryz.prog 10 #[.agg cs.toArray, .agg (recC r).toArray] w (RetAdd w (addP d r))) :
  Calls Tryz.prog 7 #[.agg cs0.toArray, .agg cs1.toArray] w fun e w' => e = .returned (.bool true) ∧ Below w.heap.size w w' := by
 obtain ⟨A, c, B, f, rfl⟩ := disk_at_shape w0
 obtain rfl := rec_cells w1
 obtain ⟨rk, rn, ro, rt⟩ := x1
 have HG := Lib.hid hg
 have HK := Lib.hid k1
 have hk3 : rt.size ≤ maxLen := k1.2.2.2
 have hb0 : Below w.heap.size w ((w.alloc (.cells #[.slice A x0.secs.length c, .slice B x0.cache.length f, .int .i64 x0.fuse, .bool x0.down] 50)).alloc (.cells #[.int .i64 rk, .int .i64 rn, .int .i64 ro, .string rt] 59)) := Later.trans (Later.alloc w _) (Later.alloc _ _)
 have S : All (fun w' => Below w.heap.size w w' ∧ Hid (w'.heap[w.heap.size]? = some (.cells [.slice A x0.secs.length c, .slice B x0.cache.length f, .int .i64 x0.fuse, .bool x0.down].toArray 50 (0, 0))) ∧ Hid (w'.heap[w.heap.size + 1]? = some (.cells (recC ⟨rk, rn, ro, rt⟩).toArray 59 (0, 0))) ∧ Hid (diskR.at_ w' w'.heap.size [.slice A x0.secs.length c, .slice B x0.cache.length f, .int .i64 x0.fuse, .bool x0.down] x0)) ((w.alloc (.cells #[.slice A x0.secs.length c, .slice B x0.cache.length f, .int .i64 x0.fuse, .bool x0.down] 50)).alloc (.cells #[.int .i64 rk, .int .i64 rn, .int .i64 ro, .string rt] 59)) :=
  ⟨hb0, Lib.hid ((Below.heap_alloc _ _ _ (by simp)).trans (heap_alloc_new w _)), Lib.hid (heap_alloc_new' _ _ (by simp)), Lib.hid (Keeps.keeps (F := fun w' => diskR.at_ w' w'.heap.size [.slice A x0.secs.length c, .slice B x0.cache.length f, .int .i64 x0.fuse, .bool x0.down] x0) hb0 w0)⟩
 have hs0 : w.heap.size + 1 < ((w.alloc (.cells #[.slice A x0.secs.length c, .slice B x0.cache.length f, .int .i64 x0.fuse, .bool x0.down] 50)).alloc (.cells #[.int .i64 rk, .int .i64 rn, .int .i64 ro, .string rt] 59)).heap.size := by simp
 have HD0 := Lib.hid w0
 clear w0 w1 hg hb0 k0 k1
 obtain ⟨⟨dw, B1⟩, hp⟩ : ∃ p, addP x0 ⟨rk, rn, ro, rt⟩ = p := ⟨_, rfl⟩
 have HP := Lib.hid hp
 clear hp
 show Calls Tryz.prog 7 #[.agg #[.slice A x0.secs.length c, .slice B x0.cache.length f, .int .i64 x0.fuse, .bool x0.down], .agg #[.int .i64 rk, .int .i64 rn, .int .i64 ro, .string rt]] w _
 go_enter Tryz.func7, Tryz.ntmps7
 go_upto_region 2 with (fail)
 generalize (w.alloc (.cells #[.slice A x0.secs.length c, .slice B x0.cache.length f, .int .i64 x0.fuse, .bool x0.down] 50)).alloc (.cells #[.int .i64 rk, .int .i64 rn, .int .i64 ro, .string rt] 59) = W0 at S hs0 ⊢
 obtain ⟨d0, d1, d2, d3⟩ := adisk4 S.out.2.1.out
 go_wp2_with fail
 clear d0 d1 d2 d3
 refine (szDisk_room [.slice A x0.secs.length c, .slice B x0.cache.length f, .int .i64 x0.fuse, .bool x0.down] x0 1048576 W0 S.out.2.2.2.out (by omega)).mono ?_
 rintro e1 W1 ⟨⟨z, hz, hfit, rfl⟩ | rfl, hb⟩
 rotate_left
 ·replace S := S.later hb
  clear hb
  go_wp2_with fail
  go_ret
  exact ⟨rfl, S.out.1⟩
 replace S := S.later hb
 have hs1 := Nat.lt_of_lt_of_le hs0 hb.size
 have HF := Lib.hid hfit
 have HFW := Lib.hid (show Fits dw by have h9 := fits_addP hfit ⟨rk, rn, ro, rt⟩; rw [HP.out] at h9; exact h9)
 have hBB : (B1 != B1) = false := by simp
 clear hb hfit hs0
 obtain ⟨r0, r1, r2, r3⟩ := rec_box S.out.2.2.1.out
 go_wp2_with fail
 clear r0 r1 r2 r3
 refine (szRec_room ⟨rk, rn, ro, rt⟩ z W1 hk3 (by omega)).mono ?_
 rintro e2 W2 ⟨⟨z2, hz2, hfit, rfl⟩ | rfl, hb⟩
 rotate_left
 ·replace S := S.later hb
  clear hb
  go_wp2_with fail
  go_ret
  exact ⟨rfl, S.out.1⟩
 replace S := S.later hb
 have hs2 := Nat.lt_of_lt_of_le hs1 hb.size
 have HRS := Lib.hid (show rt.size ≤ 1048576 from hfit)
 clear hb hfit hs1 hk3
 go_upto_region 8 with (fail)
 go_cut [6, 7] from 16 (fun v6 v7 W' => ∃ (DW : Nat) (Aw : Option Addr) (cw : Nat) (Bw : Option Addr) (fw bw : Nat) (fpw : List Nat), v6 = .pointer (some ⟨DW, 0, none⟩) ∧ v7 = .bool B1 ∧ All (fun w' => (Below w.heap.size w w' ∧ Hid (w'.heap[w.heap.size]? = some (.cells [.slice A x0.secs.length c, .slice B x0.cache.length f, .int .i64 x0.fuse, .bool x0.down].toArray 50 (0, 0))) ∧ Hid (w'.heap[w.heap.size + 1]? = some (.cells (recC ⟨rk, rn, ro, rt⟩).toArray 59 (0, 0))) ∧ Hid (diskR.at_ w' w'.heap.size [.slice A x0.secs.length c, .slice B x0.cache.length f, .int .i64 x0.fuse, .bool x0.down] x0)) ∧ Hid (w'.heap[DW]? = some (.cells [.slice Aw dw.secs.length cw, .slice Bw dw.cache.length fw, .int .i64 dw.fuse, .bool dw.down].toArray 27 (0, 0))) ∧ Hid (diskR.own w' bw [.slice Aw dw.secs.length cw, .slice Bw dw.cache.length fw, .int .i64 dw.fuse, .bool dw.down] dw fpw)) W' ∧ (w.heap.size + 1 < DW ∧ w.heap.size + 1 < bw ∧ DW ∉ fpw))
 case first =>
  rename_i J K1 hJ hK
  refine wp_region_open 100 (fun w' => w'.heap[w.heap.size]? = some (.cells [.slice A x0.secs.length c, .slice B x0.cache.length f, .int .i64 x0.fuse, .bool x0.down].toArray 50 (0, 0)) ∧ w'.heap[w.heap.size + 1]? = some (.cells (recC ⟨rk, rn, ro, rt⟩).toArray 59 (0, 0))) (by kernel_rfl) ?_
  replace S := S.drew
  refine wpAnyL_reads [0, 2] (fuel := 9) (by kernel_rfl) ⟨S.out.2.1.out, S.out.2.2.1.out⟩ ?_
  iterate 2 (refine LexR.cons rfl ?_ (fun w' hw => ?_) ?_; rotate_left; focus (obtain ⟨hw1, hw2⟩ := hw; obtain ⟨d0, d1, d2, d3⟩ := adisk4 hw1; obtain ⟨r0, r1, r2, r3⟩ := rec_box hw2; clear hw1 hw2; go_simp; (try exact rfl)); (try go_frame))
  refine LexR.nil ?_
  have hsV : w.heap.size + 1 < W2.drew.heap.size := hs2
  generalize W2.drew = V0 at S hsV ⊢
  obtain ⟨B0, hB0⟩ : ∃ n, n = V0.heap.size := ⟨_, rfl⟩
  rw [← hB0] at hsV
  have HB0 := Lib.hid hB0
  clear hB0
  have HV : Below B0 V0 V0 := Below.refl _ _
  refine wpAnyL_two (i := 1) (j := 8) (by kernel_rfl) ?_ ?_
  ·skip
   refine lexA_get rfl ?_
   try go_frame
   go_wp2_with fail
   refine (toDisk_rep [.slice A x0.secs.length c, .slice B x0.cache.length f, .int .i64 x0.fuse, .bool x0.down] x0 V0 (S.later (HB0.out ▸ HV)).out.2.2.2.out HF.out).mono ?_
   rintro e V1 ⟨cs3, fp3, rfl, O3, hb⟩
   obtain ⟨A3, c3, B3, f3, rfl⟩ := disk_own_shape O3
   have T3 : All (fun w' => diskR.at_ w' w'.heap.size [.slice A3 x0.secs.length c3, .slice B3 x0.cache.length f3, .int .i64 x0.fuse, .bool x0.down] x0) V1 := ⟨Rep.reads diskR O3⟩
   replace HV := HV.trans (hb.mono (by have := HV.size; have := HB0.out; omega))
   clear hb O3
   go_wp2_with fail
   refine ⟨by first | exact ⟨(S.later (HB0.out ▸ HV)).out.2.1.out, (S.later (HB0.out ▸ HV)).out.2.2.1.out⟩ | exact fun _ => ⟨(S.later (HB0.out ▸ HV)).out.2.1.out, (S.later (HB0.out ▸ HV)).out.2.2.1.out⟩, ?_⟩
   refine wpAnyL_two (i := 3) (j := 8) (by kernel_rfl) ?_ ?_
   ·skip
    refine lexA_get rfl ?_
    try go_frame
    go_wp2_with fail
    refine (toRec_any ⟨rk, rn, ro, rt⟩ V1).mono ?_
    rintro e V2 ⟨rfl, hb⟩
    replace HV := HV.trans (hb.mono (by have := HV.size; have := HB0.out; omega))
    replace T3 := T3.later hb
    clear hb
    go_wp2_with fail
    refine ⟨by first | exact ⟨(S.later (HB0.out ▸ HV)).out.2.1.out, (S.later (HB0.out ▸ HV)).out.2.2.1.out⟩ | exact fun _ => ⟨(S.later (HB0.out ▸ HV)).out.2.1.out, (S.later (HB0.out ▸ HV)).out.2.2.1.out⟩, ?_⟩
    refine wpAnyL_two (i := 4) (j := 8) (by kernel_rfl) ?_ ?_
    ·skip
     refine lexA_get rfl ?_
     try go_frame
     go_wp2_with fail
     refine (addRecS_any [.slice A3 x0.secs.length c3, .slice B3 x0.cache.length f3, .int .i64 x0.fuse, .bool x0.down] x0 ⟨rk, rn, ro, rt⟩ V2 T3.out HF.out (Keeps.keeps (F := Given) (S.later (HB0.out ▸ HV)).out.1 HG.out) HRS.out).mono ?_
     rw [HP.out]
     rintro e V3 ⟨cs4, fp4, rfl, o4, hb⟩
     obtain ⟨A4, c4, B4, f4, rfl⟩ := disk_own_shape o4
     have HLT := Lib.hid (show ∀ a, a ∈ fp4 → V2.heap.size ≤ a ∧ a < V3.heap.size from fun a ha => Rep.lt diskR o4 a ha)
     have HBV : B0 ≤ V2.heap.size := by have := HV.size; have := HB0.out; omega
     have O4 : All (fun w' => diskR.own w' V2.heap.size [.slice A4 dw.secs.length c4, .slice B4 dw.cache.length f4, .int .i64 dw.fuse, .bool dw.down] dw fp4) V3 := ⟨o4⟩
     replace HV := HV.trans (hb.mono (by have := HV.size; have := HB0.out; omega))
     replace T3 := T3.later hb
     clear hb o4
     go_wp2_with fail
     refine ⟨by first | exact ⟨(S.later (HB0.out ▸ HV)).out.2.1.out, (S.later (HB0.out ▸ HV)).out.2.2.1.out⟩ | exact fun _ => ⟨(S.later (HB0.out ▸ HV)).out.2.1.out, (S.later (HB0.out ▸ HV)).out.2.2.1.out⟩, ?_⟩
     refine wpAnyL_reads [5, 6, 7] (fuel := 3) (by kernel_rfl) ⟨(S.later (HB0.out ▸ HV)).out.2.1.out, (S.later (HB0.out ▸ HV)).out.2.2.1.out⟩ ?_
     iterate 3 (refine LexR.cons rfl ?_ (fun w' hw => ?_) ?_; rotate_left; focus (clear hw; go_simp; (try exact rfl)); (try go_frame))
     refine LexR.nil (wpAnyL_writes [8, 9, 10] (by kernel_rfl) (LexW.cons rfl ?_))
     try go_frame
     go_wp2_with fail
     have hE : All (fun w' => w'.heap[V3.heap.size]? = some (.cells [.slice none 0 0, .slice none 0 0, .int .i64 0, .bool false].toArray 27 (0, 0))) (V3.alloc (.cells #[.slice none 0 0, .slice none 0 0, .int .i64 0, .bool false] 27)) := ⟨heap_alloc_new V3 _⟩
     have hEV : B0 ≤ V3.heap.size := by have := HV.size; have := HB0.out; omega
     replace HV := HV.alloc hEV (.cells #[.slice none 0 0, .slice none 0 0, .int .i64 0, .bool false] 27)
     replace T3 := T3.alloc (.cells #[.slice none 0 0, .slice none 0 0, .int .i64 0, .bool false] 27)
     replace O4 := O4.alloc (.cells #[.slice none 0 0, .slice none 0 0, .int .i64 0, .bool false] 27)
     have HL2 : ∀ a, a ∈ fp4 → a < V3.heap.size := fun a ha => (HLT.out a ha).2
     generalize V3.alloc (.cells #[.slice none 0 0, .slice none 0 0, .int .i64 0, .bool false] 27) = V4 at HV hE T3 O4 ⊢
     clear HLT
     generalize V3.heap.size = E at hE hEV HL2 ⊢
     have HEF := Lib.hid (show E ∉ fp4 from fun hm => absurd (HL2 E hm) (Nat.lt_irrefl E))
     refine ⟨by first | exact ⟨(S.later (HB0.out ▸ HV)).out.2.1.out, (S.later (HB0.out ▸ HV)).out.2.2.1.out⟩ | exact fun _ => ⟨(S.later (HB0.out ▸ HV)).out.2.1.out, (S.later (HB0.out ▸ HV)).out.2.2.1.out⟩, LexW.cons rfl ?_⟩
     try go_frame
     obtain ⟨z0, z1, z2, z3⟩ := disk4 hE.out
     have zf0 := var_frozen hE.out 0
     have zf1 := var_frozen hE.out 1
     have zf2 := var_frozen hE.out 2
     have zf3 := var_frozen hE.out 3
     have hEl := (Array.getElem?_eq_some_iff.1 hE.out).1
     have hw := putD_only V4 E (.slice A4 dw.secs.length c4) (.slice B4 dw.cache.length f4) (.int .i64 dw.fuse) (.bool dw.down)
     have HBX := Lib.hid (setD_box hE.out (.slice A4 dw.secs.length c4) (.slice B4 dw.cache.length f4) (.int .i64 dw.fuse) (.bool dw.down))
     have HOX := Lib.hid (Rep.own_only O4.out hw (fun a ha hb => HEF.out (by simp at hb; subst hb; exact ha)))
     replace HV := Rep.Only.below HV hw (by have := HV.size; have := HB0.out; omega) (fun a ha => by simp at ha; omega)
     clear hE hw O4 T3
     go_wp2_with fail
     generalize ((((V4.setCell ⟨E, 0, none⟩ (.slice A4 dw.secs.length c4)).setCell ⟨E, 1, none⟩ (.slice B4 dw.cache.length f4)).setCell ⟨E, 2, none⟩ (.int .i64 dw.fuse)).setCell ⟨E, 3, none⟩ (.bool dw.down)) = VZ at HV HBX HOX ⊢
     clear z0 z1 z2 z3 zf0 zf1 zf2 zf3 hEl
     refine ⟨by first | exact ⟨(S.later (HB0.out ▸ HV)).out.2.1.out, (S.later (HB0.out ▸ HV)).out.2.2.1.out⟩ | exact fun _ => ⟨(S.later (HB0.out ▸ HV)).out.2.1.out, (S.later (HB0.out ▸ HV)).out.2.2.1.out⟩, LexW.cons rfl ?_⟩
     try go_frame
     go_wp2_with fail
     refine ⟨by first | exact ⟨(S.later (HB0.out ▸ HV)).out.2.1.out, (S.later (HB0.out ▸ HV)).out.2.2.1.out⟩ | exact fun _ => ⟨(S.later (HB0.out ▸ HV)).out.2.1.out, (S.later (HB0.out ▸ HV)).out.2.2.1.out⟩, LexW.nil (hK _ _ (Met.intro (hJ _ _ ?_)))⟩
     (repeat apply Exists.intro)
     refine ⟨?_, rfl⟩
     exact ⟨E, A4, c4, B4, f4, V2.heap.size, fp4, rfl, rfl, ⟨(S.later (HB0.out ▸ HV)).out, HBX, HOX⟩, by omega, by omega, HEF.out⟩
    ·skip
     refine lexA_get rfl ?_
     try go_frame
     go_wp2_with fail
     have hE : All (fun w' => w'.heap[V2.heap.size]? = some (.cells [.slice none 0 0, .slice none 0 0, .int .i64 0, .bool false].toArray 27 (0, 0))) (V2.alloc (.cells #[.slice none 0 0, .slice none 0 0, .int .i64 0, .bool false] 27)) := ⟨heap_alloc_new V2 _⟩
     have hEV : B0 ≤ V2.heap.size := by have := HV.size; have := HB0.out; omega
     replace HV := HV.alloc hEV (.cells #[.slice none 0 0, .slice none 0 0, .int .i64 0, .bool false] 27)
     replace T3 := T3.alloc (.cells #[.slice none 0 0, .slice none 0 0, .int .i64 0, .bool false] 27)
     generalize V2.alloc (.cells #[.slice none 0 0, .slice none 0 0, .int .i64 0, .bool false] 27) = V3 at HV hE T3 ⊢
     generalize V2.heap.size = E at hE hEV ⊢
     refine ⟨by first | exact ⟨(S.later (HB0.out ▸ HV)).out.2.1.out, (S.later (HB0.out ▸ HV)).out.2.2.1.out⟩ | exact fun _ => ⟨(S.later (HB0.out ▸ HV)).out.2.1.out, (S.later (HB0.out ▸ HV)).out.2.2.1.out⟩, ?_⟩
     refine wpAnyL_one (i := 4) (by kernel_rfl) ?_
     refine lexA_get rfl ?_
     try go_frame
     go_wp2_with fail
     refine (addRecS_any [.slice A3 x0.secs.length c3, .slice B3 x0.cache.length f3, .int .i64 x0.fuse, .bool x0.down] x0 ⟨rk, rn, ro, rt⟩ V3 T3.out HF.out (Keeps.keeps (F := Given) (S.later (HB0.out ▸ HV)).out.1 HG.out) HRS.out).mono ?_
     rw [HP.out]
     rintro e V4 ⟨cs4, fp4, rfl, o4, hb⟩
     obtain ⟨A4, c4, B4, f4, rfl⟩ := disk_own_shape o4
     have HLT := Lib.hid (show ∀ a, a ∈ fp4 → V3.heap.size ≤ a ∧ a < V4.heap.size from fun a ha => Rep.lt diskR o4 a ha)
     have HBV : B0 ≤ V3.heap.size := by have := HV.size; have := HB0.out; omega
     have HEF := Lib.hid (show E ∉ fp4 from fun hm => by have := HLT.out _ hm; have := (Array.getElem?_eq_some_iff.1 hE.out).1; omega)
     have O4 : All (fun w' => diskR.own w' V3.heap.size [.slice A4 dw.secs.length c4, .slice B4 dw.cache.length f4, .int .i64 dw.fuse, .bool dw.down] dw fp4) V4 := ⟨o4⟩
     replace HV := HV.trans (hb.mono (by have := HV.size; have := HB0.out; omega))
     replace T3 := T3.later hb
     replace hE := hE.later hb
     clear hb o4
     go_wp2_with fail
     refine ⟨by first | exact ⟨(S.later (HB0.out ▸ HV)).out.2.1.out, (S.later (HB0.out ▸ HV)).out.2.2.1.out⟩ | exact fun _ => ⟨(S.later (HB0.out ▸ HV)).out.2.1.out, (S.later (HB0.out ▸ HV)).out.2.2.1.out⟩, ?_⟩
     refine wpAnyL_reads [5, 6, 7] (fuel := 2) (by kernel_rfl) ⟨(S.later (HB0.out ▸ HV)).out.2.1.out, (S.later (HB0.out ▸ HV)).out.2.2.1.out⟩ ?_
     iterate 3 (refine LexR.cons rfl ?_ (fun w' hw => ?_) ?_; rotate_left; focus (clear hw; go_simp; (try exact rfl)); (try go_frame))
     refine LexR.nil (wpAnyL_writes [9, 10] (by kernel_rfl) (LexW.cons rfl ?_))
     try go_frame
     obtain ⟨z0, z1, z2, z3⟩ := disk4 hE.out
     have zf0 := var_frozen hE.out 0
     have zf1 := var_frozen hE.out 1
     have zf2 := var_frozen hE.out 2
     have zf3 := var_frozen hE.out 3
     have hEl := (Array.getElem?_eq_some_iff.1 hE.out).1
     have hw := putD_only V4 E (.slice A4 dw.secs.length c4) (.slice B4 dw.cache.length f4) (.int .i64 dw.fuse) (.bool dw.down)
     have HBX := Lib.hid (setD_box hE.out (.slice A4 dw.secs.length c4) (.slice B4 dw.cache.length f4) (.int .i64 dw.fuse) (.bool dw.down))
     have HOX := Lib.hid (Rep.own_only O4.out hw (fun a ha hb => HEF.out (by simp at hb; subst hb; exact ha)))
     replace HV := Rep.Only.below HV hw (by have := HV.size; have := HB0.out; omega) (fun a ha => by simp at ha; omega)
     clear hE hw O4 T3
     go_wp2_with fail
     generalize ((((V4.setCell ⟨E, 0, none⟩ (.slice A4 dw.secs.length c4)).setCell ⟨E, 1, none⟩ (.slice B4 dw.cache.length f4)).setCell ⟨E, 2, none⟩ (.int .i64 dw.fuse)).setCell ⟨E, 3, none⟩ (.bool dw.down)) = VZ at HV HBX HOX ⊢
     clear z0 z1 z2 z3 zf0 zf1 zf2 zf3 hEl
     refine ⟨by first | exact ⟨(S.later (HB0.out ▸ HV)).out.2.1.out, (S.later (HB0.out ▸ HV)).out.2.2.1.out⟩ | exact fun _ => ⟨(S.later (HB0.out ▸ HV)).out.2.1.out, (S.later (HB0.out ▸ HV)).out.2.2.1.out⟩, LexW.cons rfl ?_⟩
     try go_frame
     go_wp2_with fail
     refine ⟨by first | exact ⟨(S.later (HB0.out ▸ HV)).out.2.1.out, (S.later (HB0.out ▸ HV)).out.2.2.1.out⟩ | exact fun _ => ⟨(S.later (HB0.out ▸ HV)).out.2.1.out, (S.later (HB0.out ▸ HV)).out.2.2.1.out⟩, LexW.nil (hK _ _ (Met.intro (hJ _ _ ?_)))⟩
     (repeat apply Exists.intro)
     refine ⟨?_, rfl⟩
     exact ⟨E, A4, c4, B4, f4, V3.heap.size, fp4, rfl, rfl, ⟨(S.later (HB0.out ▸ HV)).out, HBX, HOX⟩, by omega, by omega, HEF.out⟩
   ·skip
    refine lexA_get rfl ?_
    try go_frame
    go_wp2_with fail
    have hE : All (fun w' => w'.heap[V1.heap.size]? = some (.cells [.slice none 0 0, .slice none 0 0, .int .i64 0, .bool false].toArray 27 (0, 0))) (V1.alloc (.cells #[.slice none 0 0, .slice none 0 0, .int .i64 0, .bool false] 27)) := ⟨heap_alloc_new V1 _⟩
    have hEV : B0 ≤ V1.heap.size := by have := HV.size; have := HB0.out; omega
    replace HV := HV.alloc hEV (.cells #[.slice none 0 0, .slice none 0 0, .int .i64 0, .bool false] 27)
    replace T3 := T3.alloc (.cells #[.slice none 0 0, .slice none 0 0, .int .i64 0, .bool false] 27)
    generalize V1.alloc (.cells #[.slice none 0 0, .slice none 0 0, .int .i64 0, .bool false] 27) = V2 at HV hE T3 ⊢
    generalize V1.heap.size = E at hE hEV ⊢
    refine ⟨by first | exact ⟨(S.later (HB0.out ▸ HV)).out.2.1.out, (S.later (HB0.out ▸ HV)).out.2.2.1.out⟩ | exact fun _ => ⟨(S.later (HB0.out ▸ HV)).out.2.1.out, (S.later (HB0.out ▸ HV)).out.2.2.1.out⟩, ?_⟩
    refine wpAnyL_one (i := 3) (by kernel_rfl) ?_
    refine lexA_get rfl ?_
    try go_frame
    go_wp2_with fail
    refine (toRec_any ⟨rk, rn, ro, rt⟩ V2).mono ?_
    rintro e V3 ⟨rfl, hb⟩
    replace HV := HV.trans (hb.mono (by have := HV.size; have := HB0.out; omega))
    replace T3 := T3.later hb
    replace hE := hE.later hb
    clear hb
    go_wp2_with fail
    refine ⟨by first | exact ⟨(S.later (HB0.out ▸ HV)).out.2.1.out, (S.later (HB0.out ▸ HV)).out.2.2.1.out⟩ | exact fun _ => ⟨(S.later (HB0.out ▸ HV)).out.2.1.out, (S.later (HB0.out ▸ HV)).out.2.2.1.out⟩, ?_⟩
    refine wpAnyL_one (i := 4) (by kernel_rfl) ?_
    refine lexA_get rfl ?_
    try go_frame
    go_wp2_with fail
    refine (addRecS_any [.slice A3 x0.secs.length c3, .slice B3 x0.cache.length f3, .int .i64 x0.fuse, .bool x0.down] x0 ⟨rk, rn, ro, rt⟩ V3 T3.out HF.out (Keeps.keeps (F := Given) (S.later (HB0.out ▸ HV)).out.1 HG.out) HRS.out).mono ?_
    rw [HP.out]
    rintro e V4 ⟨cs4, fp4, rfl, o4, hb⟩
    obtain ⟨A4, c4, B4, f4, rfl⟩ := disk_own_shape o4
    have HLT := Lib.hid (show ∀ a, a ∈ fp4 → V3.heap.size ≤ a ∧ a < V4.heap.size from fun a ha => Rep.lt diskR o4 a ha)
    have HBV : B0 ≤ V3.heap.size := by have := HV.size; have := HB0.out; omega
    have HEF := Lib.hid (show E ∉ fp4 from fun hm => by have := HLT.out _ hm; have := (Array.getElem?_eq_some_iff.1 hE.out).1; omega)
    have O4 : All (fun w' => diskR.own w' V3.heap.size [.slice A4 dw.secs.length c4, .slice B4 dw.cache.length f4, .int .i64 dw.fuse, .bool dw.down] dw fp4) V4 := ⟨o4⟩
    replace HV := HV.trans (hb.mono (by have := HV.size; have := HB0.out; omega))
    replace T3 := T3.later hb
    replace hE := hE.later hb
    clear hb o4
    go_wp2_with fail
    refine ⟨by first | exact ⟨(S.later (HB0.out ▸ HV)).out.2.1.out, (S.later (HB0.out ▸ HV)).out.2.2.1.out⟩ | exact fun _ => ⟨(S.later (HB0.out ▸ HV)).out.2.1.out, (S.later (HB0.out ▸ HV)).out.2.2.1.out⟩, ?_⟩
    refine wpAnyL_reads [5, 6, 7] (fuel := 2) (by kernel_rfl) ⟨(S.later (HB0.out ▸ HV)).out.2.1.out, (S.later (HB0.out ▸ HV)).out.2.2.1.out⟩ ?_
    iterate 3 (refine LexR.cons rfl ?_ (fun w' hw => ?_) ?_; rotate_left; focus (clear hw; go_simp; (try exact rfl)); (try go_frame))
    refine LexR.nil (wpAnyL_writes [9, 10] (by kernel_rfl) (LexW.cons rfl ?_))
    try go_frame
    obtain ⟨z0, z1, z2, z3⟩ := disk4 hE.out
    have zf0 := var_frozen hE.out 0
    have zf1 := var_frozen hE.out 1
    have zf2 := var_frozen hE.out 2
    have zf3 := var_frozen hE.out 3
    have hEl := (Array.getElem?_eq_some_iff.1 hE.out).1
    have hw := putD_only V4 E (.slice A4 dw.secs.length c4) (.slice B4 dw.cache.length f4) (.int .i64 dw.fuse) (.bool dw.down)
    have HBX := Lib.hid (setD_box hE.out (.slice A4 dw.secs.length c4) (.slice B4 dw.cache.length f4) (.int .i64 dw.fuse) (.bool dw.down))
    have HOX := Lib.hid (Rep.own_only O4.out hw (fun a ha hb => HEF.out (by simp at hb; subst hb; exact ha)))
    replace HV := Rep.Only.below HV hw (by have := HV.size; have := HB0.out; omega) (fun a ha => by simp at ha; omega)
    clear hE hw O4 T3
    go_wp2_with fail
    generalize ((((V4.setCell ⟨E, 0, none⟩ (.slice A4 dw.secs.length c4)).setCell ⟨E, 1, none⟩ (.slice B4 dw.cache.length f4)).setCell ⟨E, 2, none⟩ (.int .i64 dw.fuse)).setCell ⟨E, 3, none⟩ (.bool dw.down)) = VZ at HV HBX HOX ⊢
    clear z0 z1 z2 z3 zf0 zf1 zf2 zf3 hEl
    refine ⟨by first | exact ⟨(S.later (HB0.out ▸ HV)).out.2.1.out, (S.later (HB0.out ▸ HV)).out.2.2.1.out⟩ | exact fun _ => ⟨(S.later (HB0.out ▸ HV)).out.2.1.out, (S.later (HB0.out ▸ HV)).out.2.2.1.out⟩, LexW.cons rfl ?_⟩
    try go_frame
    go_wp2_with fail
    refine ⟨by first | exact ⟨(S.later (HB0.out ▸ HV)).out.2.1.out, (S.later (HB0.out ▸ HV)).out.2.2.1.out⟩ | exact fun _ => ⟨(S.later (HB0.out ▸ HV)).out.2.1.out, (S.later (HB0.out ▸ HV)).out.2.2.1.out⟩, LexW.nil (hK _ _ (Met.intro (hJ _ _ ?_)))⟩
    (repeat apply Exists.intro)
    refine ⟨?_, rfl⟩
    exact ⟨E, A4, c4, B4, f4, V3.heap.size, fp4, rfl, rfl, ⟨(S.later (HB0.out ▸ HV)).out, HBX, HOX⟩, by omega, by omega, HEF.out⟩
  ·skip
   refine lexA_get rfl ?_
   try go_frame
   go_wp2_with fail
   have hE : All (fun w' => w'.heap[V0.heap.size]? = some (.cells [.slice none 0 0, .slice none 0 0, .int .i64 0, .bool false].toArray 27 (0, 0))) (V0.alloc (.cells #[.slice none 0 0, .slice none 0 0, .int .i64 0, .bool false] 27)) := ⟨heap_alloc_new V0 _⟩
   have hEV : B0 ≤ V0.heap.size := by have := HV.size; have := HB0.out; omega
   replace HV := HV.alloc hEV (.cells #[.slice none 0 0, .slice none 0 0, .int .i64 0, .bool false] 27)
   generalize V0.alloc (.cells #[.slice none 0 0, .slice none 0 0, .int .i64 0, .bool false] 27) = V1 at HV hE ⊢
   generalize V0.heap.size = E at hE hEV ⊢
   refine ⟨by first | exact ⟨(S.later (HB0.out ▸ HV)).out.2.1.out, (S.later (HB0.out ▸ HV)).out.2.2.1.out⟩ | exact fun _ => ⟨(S.later (HB0.out ▸ HV)).out.2.1.out, (S.later (HB0.out ▸ HV)).out.2.2.1.out⟩, ?_⟩
   refine wpAnyL_one (i := 1) (by kernel_rfl) ?_
   refine lexA_get rfl ?_
   try go_frame
   go_wp2_with fail
   refine (toDisk_rep [.slice A x0.secs.length c, .slice B x0.cache.length f, .int .i64 x0.fuse, .bool x0.down] x0 V1 (S.later (HB0.out ▸ HV)).out.2.2.2.out HF.out).mono ?_
   rintro e V2 ⟨cs3, fp3, rfl, O3, hb⟩
   obtain ⟨A3, c3, B3, f3, rfl⟩ := disk_own_shape O3
   have T3 : All (fun w' => diskR.at_ w' w'.heap.size [.slice A3 x0.secs.length c3, .slice B3 x0.cache.length f3, .int .i64 x0.fuse, .bool x0.down] x0) V2 := ⟨Rep.reads diskR O3⟩
   replace HV := HV.trans (hb.mono (by have := HV.size; have := HB0.out; omega))
   replace hE := hE.later hb
   clear hb O3
   go_wp2_with fail
   refine ⟨by first | exact ⟨(S.later (HB0.out ▸ HV)).out.2.1.out, (S.later (HB0.out ▸ HV)).out.2.2.1.out⟩ | exact fun _ => ⟨(S.later (HB0.out ▸ HV)).out.2.1.out, (S.later (HB0.out ▸ HV)).out.2.2.1.out⟩, ?_⟩
   refine wpAnyL_one (i := 3) (by kernel_rfl) ?_
   refine lexA_get rfl ?_
   try go_frame
   go_wp2_with fail
   refine (toRec_any ⟨rk, rn, ro, rt⟩ V2).mono ?_
   rintro e V3 ⟨rfl, hb⟩
   replace HV := HV.trans (hb.mono (by have := HV.size; have := HB0.out; omega))
   replace T3 := T3.later hb
   replace hE := hE.later hb
   clear hb
   go_wp2_with fail
   refine ⟨by first | exact ⟨(S.later (HB0.out ▸ HV)).out.2.1.out, (S.later (HB0.out ▸ HV)).out.2.2.1.out⟩ | exact fun _ => ⟨(S.later (HB0.out ▸ HV)).out.2.1.out, (S.later (HB0.out ▸ HV)).out.2.2.1.out⟩, ?_⟩
   refine wpAnyL_one (i := 4) (by kernel_rfl) ?_
   refine lexA_get rfl ?_
   try go_frame
   go_wp2_with fail
   refine (addRecS_any [.slice A3 x0.secs.length c3, .slice B3 x0.cache.length f3, .int .i64 x0.fuse, .bool x0.down] x0 ⟨rk, rn, ro, rt⟩ V3 T3.out HF.out (Keeps.keeps (F := Given) (S.later (HB0.out ▸ HV)).out.1 HG.out) HRS.out).mono ?_
   rw [HP.out]
   rintro e V4 ⟨cs4, fp4, rfl, o4, hb⟩
   obtain ⟨A4, c4, B4, f4, rfl⟩ := disk_own_shape o4
   have HLT := Lib.hid (show ∀ a, a ∈ fp4 → V3.heap.size ≤ a ∧ a < V4.heap.size from fun a ha => Rep.lt diskR o4 a ha)
   have HBV : B0 ≤ V3.heap.size := by have := HV.size; have := HB0.out; omega
   have HEF := Lib.hid (show E ∉ fp4 from fun hm => by have := HLT.out _ hm; have := (Array.getElem?_eq_some_iff.1 hE.out).1; omega)
   have O4 : All (fun w' => diskR.own w' V3.heap.size [.slice A4 dw.secs.length c4, .slice B4 dw.cache.length f4, .int .i64 dw.fuse, .bool dw.down] dw fp4) V4 := ⟨o4⟩
   replace HV := HV.trans (hb.mono (by have := HV.size; have := HB0.out; omega))
   replace T3 := T3.later hb
   replace hE := hE.later hb
   clear hb o4
   go_wp2_with fail
   refine ⟨by first | exact ⟨(S.later (HB0.out ▸ HV)).out.2.1.out, (S.later (HB0.out ▸ HV)).out.2.2.1.out⟩ | exact fun _ => ⟨(S.later (HB0.out ▸ HV)).out.2.1.out, (S.later (HB0.out ▸ HV)).out.2.2.1.out⟩, ?_⟩
   refine wpAnyL_reads [5, 6, 7] (fuel := 2) (by kernel_rfl) ⟨(S.later (HB0.out ▸ HV)).out.2.1.out, (S.later (HB0.out ▸ HV)).out.2.2.1.out⟩ ?_
   iterate 3 (refine LexR.cons rfl ?_ (fun w' hw => ?_) ?_; rotate_left; focus (clear hw; go_simp; (try exact rfl)); (try go_frame))
   refine LexR.nil (wpAnyL_writes [9, 10] (by kernel_rfl) (LexW.cons rfl ?_))
   try go_frame
   obtain ⟨z0, z1, z2, z3⟩ := disk4 hE.out
   have zf0 := var_frozen hE.out 0
   have zf1 := var_frozen hE.out 1
   have zf2 := var_frozen hE.out 2
   have zf3 := var_frozen hE.out 3
   have hEl := (Array.getElem?_eq_some_iff.1 hE.out).1
   have hw := putD_only V4 E (.slice A4 dw.secs.length c4) (.slice B4 dw.cache.length f4) (.int .i64 dw.fuse) (.bool dw.down)
   have HBX := Lib.hid (setD_box hE.out (.slice A4 dw.secs.length c4) (.slice B4 dw.cache.length f4) (.int .i64 dw.fuse) (.bool dw.down))
   have HOX := Lib.hid (Rep.own_only O4.out hw (fun a ha hb => HEF.out (by simp at hb; subst hb; exact ha)))
   replace HV := Rep.Only.below HV hw (by have := HV.size; have := HB0.out; omega) (fun a ha => by simp at ha; omega)
   clear hE hw O4 T3
   go_wp2_with fail
   generalize ((((V4.setCell ⟨E, 0, none⟩ (.slice A4 dw.secs.length c4)).setCell ⟨E, 1, none⟩ (.slice B4 dw.cache.length f4)).setCell ⟨E, 2, none⟩ (.int .i64 dw.fuse)).setCell ⟨E, 3, none⟩ (.bool dw.down)) = VZ at HV HBX HOX ⊢
   clear z0 z1 z2 z3 zf0 zf1 zf2 zf3 hEl
   refine ⟨by first | exact ⟨(S.later (HB0.out ▸ HV)).out.2.1.out, (S.later (HB0.out ▸ HV)).out.2.2.1.out⟩ | exact fun _ => ⟨(S.later (HB0.out ▸ HV)).out.2.1.out, (S.later (HB0.out ▸ HV)).out.2.2.1.out⟩, LexW.cons rfl ?_⟩
   try go_frame
   go_wp2_with fail
   refine ⟨by first | exact ⟨(S.later (HB0.out ▸ HV)).out.2.1.out, (S.later (HB0.out ▸ HV)).out.2.2.1.out⟩ | exact fun _ => ⟨(S.later (HB0.out ▸ HV)).out.2.1.out, (S.later (HB0.out ▸ HV)).out.2.2.1.out⟩, LexW.nil (hK _ _ (Met.intro (hJ _ _ ?_)))⟩
   (repeat apply Exists.intro)
   refine ⟨?_, rfl⟩
   exact ⟨E, A4, c4, B4, f4, V3.heap.size, fp4, rfl, rfl, ⟨(S.later (HB0.out ▸ HV)).out, HBX, HOX⟩, by omega, by omega, HEF.out⟩
 case rest =>
  clear S hs2
  obtain ⟨DW, Aw, cw, Bw, fw, bw, fpw, rfl, rfl, S, hDWf⟩ := hcut
  replace S : All (fun w' => (Below w.heap.size w w' ∧ Hid (w'.heap[w.heap.size]? = some (.cells [.slice A x0.secs.length c, .slice B x0.cache.length f, .int .i64 x0.fuse, .bool x0.down].toArray 50 (0, 0))) ∧ Hid (w'.heap[w.heap.size + 1]? = some (.cells (recC ⟨rk, rn, ro, rt⟩).toArray 59 (0, 0))) ∧ Hid (diskR.at_ w' w'.heap.size [.slice A x0.secs.length c, .slice B x0.cache.length f, .int .i64 x0.fuse, .bool x0.down] x0)) ∧ Hid (w'.heap[DW]? = some (.cells [.slice Aw dw.secs.length cw, .slice Bw dw.cache.length fw, .int .i64 dw.fuse, .bool dw.down].toArray 27 (0, 0))) ∧ Hid (diskR.own w' bw [.slice Aw dw.secs.length cw, .slice Bw dw.cache.length fw, .int .i64 dw.fuse, .bool dw.down] dw fpw)) wc := S
  go_upto_region 9 with (fail)
  obtain ⟨hDW1, hbw1, hDWf2⟩ := hDWf
  obtain ⟨d0, d1, d2, d3⟩ := adisk4 S.out.1.2.1.out
  go_wp2_with fail
  clear d0 d1 d2 d3
  refine (toDisk_rep [.slice A x0.secs.length c, .slice B x0.cache.length f, .int .i64 x0.fuse, .bool x0.down] x0 wc S.out.1.2.2.2.out HF.out).mono ?_
  rintro e3 W3 ⟨cs3, fpx, rfl, O3, hb⟩
  obtain ⟨Ax, cx, Bx, fx, rfl⟩ := disk_own_shape O3
  have HX : ∀ a, a ∈ fpx → wc.heap.size ≤ a ∧ a < W3.heap.size := fun a ha => Rep.lt diskR O3 a ha
  have HWX : ∀ a, a ∈ fpw → a < wc.heap.size := fun a ha => (Rep.lt diskR S.out.2.2.out a ha).2
  have hDWl : DW < wc.heap.size := (Array.getElem?_eq_some_iff.1 S.out.2.1.out).1
  have hbx : wc.heap.size ≤ W3.heap.size := hb.size
  replace S := S.later hb
  have S2 : All (fun w' => ((Below w.heap.size w w' ∧ Hid (w'.heap[w.heap.size]? = some (.cells [.slice A x0.secs.length c, .slice B x0.cache.length f, .int .i64 x0.fuse, .bool x0.down].toArray 50 (0, 0))) ∧ Hid (w'.heap[w.heap.size + 1]? = some (.cells (recC ⟨rk, rn, ro, rt⟩).toArray 59 (0, 0))) ∧ Hid (diskR.at_ w' w'.heap.size [.slice A x0.secs.length c, .slice B x0.cache.length f, .int .i64 x0.fuse, .bool x0.down] x0)) ∧ Hid (w'.heap[DW]? = some (.cells [.slice Aw dw.secs.length cw, .slice Bw dw.cache.length fw, .int .i64 dw.fuse, .bool dw.down].toArray 27 (0, 0))) ∧ Hid (diskR.own w' bw [.slice Aw dw.secs.length cw, .slice Bw dw.cache.length fw, .int .i64 dw.fuse, .bool dw.down] dw fpw)) ∧ Hid (w'.heap[W3.heap.size]? = some (.cells [.slice Ax x0.secs.length cx, .slice Bx x0.cache.length fx, .int .i64 x0.fuse, .bool x0.down].toArray 27 (0, 0))) ∧ Hid (diskR.own w' wc.heap.size [.slice Ax x0.secs.length cx, .slice Bx x0.cache.length fx, .int .i64 x0.fuse, .bool x0.down] x0 fpx)) (W3.alloc (.cells #[.slice Ax x0.secs.length cx, .slice Bx x0.cache.length fx, .int .i64 x0.fuse, .bool x0.down] 27)) := ⟨(S.alloc _).out, Lib.hid (heap_alloc_new W3 _), Lib.hid (Rep.own_below O3 (Later.alloc W3 _))⟩
  clear S hb O3
  go_upto_region 10 with (fail)
  generalize W3.alloc (.cells #[.slice Ax x0.secs.length cx, .slice Bx x0.cache.length fx, .int .i64 x0.fuse, .bool x0.down] 27) = W4 at S2 ⊢
  generalize W3.heap.size = DX at S2 HX hbx ⊢
  generalize wc.heap.size = bx at S2 HX HWX hDWl hbx ⊢
  replace S2 : All (fun w' => ((Below w.heap.size w w' ∧ Hid (w'.heap[w.heap.size]? = some (.cells [.slice A x0.secs.length c, .slice B x0.cache.length f, .int .i64 x0.fuse, .bool x0.down].toArray 50 (0, 0))) ∧ Hid (w'.heap[w.heap.size + 1]? = some (.cells (recC ⟨rk, rn, ro, rt⟩).toArray 59 (0, 0))) ∧ Hid (diskR.at_ w' w'.heap.size [.slice A x0.secs.length c, .slice B x0.cache.length f, .int .i64 x0.fuse, .bool x0.down] x0)) ∧ Hid (w'.heap[DW]? = some (.cells [.slice Aw dw.secs.length cw, .slice Bw dw.cache.length fw, .int .i64 dw.fuse, .bool dw.down].toArray 27 (0, 0))) ∧ Hid (diskR.own w' bw [.slice Aw dw.secs.length cw, .slice Bw dw.cache.length fw, .int .i64 dw.fuse, .bool dw.down] dw fpw)) ∧ Hid (w'.heap[DX]? = some (.cells [.slice Ax x0.secs.length cx, .slice Bx x0.cache.length fx, .int .i64 x0.fuse, .bool x0.down].toArray 27 (0, 0))) ∧ Hid (diskR.own w' bx [.slice Ax x0.secs.length cx, .slice Bx x0.cache.length fx, .int .i64 x0.fuse, .bool x0.down] x0 fpx)) W4 := S2
  have HX2 := Lib.hid HX
  have HWX2 := Lib.hid HWX
  clear HX HWX
  have hsX : DX < W4.heap.size := (Array.getElem?_eq_some_iff.1 S2.out.2.1.out).1
  have S := S2
  clear S2
  go_cut [9, 10] from 16 (fun v9 v10 W' => ∃ (DG : Nat) (Ag : Option Addr) (cg : Nat) (Bg : Option Addr) (fg bg : Nat) (fpg : List Nat), v9 = .pointer (some ⟨DG, 0, none⟩) ∧ v10 = .bool B1 ∧ All (fun w' => (((Below w.heap.size w w' ∧ Hid (w'.heap[w.heap.size]? = some (.cells [.slice A x0.secs.length c, .slice B x0.cache.length f, .int .i64 x0.fuse, .bool x0.down].toArray 50 (0, 0))) ∧ Hid (w'.heap[w.heap.size + 1]? = some (.cells (recC ⟨rk, rn, ro, rt⟩).toArray 59 (0, 0))) ∧ Hid (diskR.at_ w' w'.heap.size [.slice A x0.secs.length c, .slice B x0.cache.length f, .int .i64 x0.fuse, .bool x0.down] x0)) ∧ Hid (w'.heap[DW]? = some (.cells [.slice Aw dw.secs.length cw, .slice Bw dw.cache.length fw, .int .i64 dw.fuse, .bool dw.down].toArray 27 (0, 0))) ∧ Hid (diskR.own w' bw [.slice Aw dw.secs.length cw, .slice Bw dw.cache.length fw, .int .i64 dw.fuse, .bool dw.down] dw fpw)) ∧ Hid (w'.heap[DX]? = some (.cells [.slice Ax x0.secs.length cx, .slice Bx x0.cache.length fx, .int .i64 x0.fuse, .bool x0.down].toArray 27 (0, 0))) ∧ Hid (diskR.own w' bx [.slice Ax x0.secs.length cx, .slice Bx x0.cache.length fx, .int .i64 x0.fuse, .bool x0.down] x0 fpx)) ∧ Hid (w'.heap[DG]? = some (.cells [.slice Ag dw.secs.length cg, .slice Bg dw.cache.length fg, .int .i64 dw.fuse, .bool dw.down].toArray 27 (0, 0))) ∧ Hid (diskR.own w' bg [.slice Ag dw.secs.length cg, .slice Bg dw.cache.length fg, .int .i64 dw.fuse, .bool dw.down] dw fpg)) W' ∧ DX < DG ∧ DX < bg ∧ DG ∉ fpg)
  case first =>
   rename_i J K1 hJ hK
   refine wp_region_open 100 (fun w' => w'.heap[DX]? = some (.cells [.slice Ax x0.secs.length cx, .slice Bx x0.cache.length fx, .int .i64 x0.fuse, .bool x0.down].toArray 27 (0, 0)) ∧ w'.heap[w.heap.size + 1]? = some (.cells (recC ⟨rk, rn, ro, rt⟩).toArray 59 (0, 0))) (by kernel_rfl) ?_
   replace S := S.drew
   refine wpAnyL_reads [0, 1] (fuel := 8) (by kernel_rfl) ⟨S.out.2.1.out, S.out.1.1.2.2.1.out⟩ ?_
   iterate 2 (refine LexR.cons rfl ?_ (fun w' hw => ?_) ?_; rotate_left; focus (obtain ⟨hw1, hw2⟩ := hw; obtain ⟨d0, d1, d2, d3⟩ := disk4 hw1; obtain ⟨r0, r1, r2, r3⟩ := rec_box hw2; clear hw1 hw2; go_simp; (try exact rfl)); (try go_frame))
   refine LexR.nil ?_
   have hsV : DX < W4.drew.heap.size := hsX
   generalize W4.drew = V0 at S hsV ⊢
   obtain ⟨B0, hB0⟩ : ∃ n, n = V0.heap.size := ⟨_, rfl⟩
   rw [← hB0] at hsV
   have HB0 := Lib.hid hB0
   clear hB0
   have HV : Below B0 V0 V0 := Below.refl _ _
   refine wpAnyL_two (i := 2) (j := 7) (by kernel_rfl) ?_ ?_
   ·skip
    refine lexA_get rfl ?_
    try go_frame
    go_wp2_with fail
    refine (toRec_any ⟨rk, rn, ro, rt⟩ V0).mono ?_
    rintro e V1 ⟨rfl, hb⟩
    replace HV := HV.trans (hb.mono (by have := HV.size; have := HB0.out; omega))
    clear hb
    go_wp2_with fail
    refine ⟨by first | exact ⟨(S.later (HB0.out ▸ HV)).out.2.1.out, (S.later (HB0.out ▸ HV)).out.1.1.2.2.1.out⟩ | exact fun _ => ⟨(S.later (HB0.out ▸ HV)).out.2.1.out, (S.later (HB0.out ▸ HV)).out.1.1.2.2.1.out⟩, ?_⟩
    refine wpAnyL_two (i := 3) (j := 7) (by kernel_rfl) ?_ ?_
    ·skip
     refine lexA_get rfl ?_
     try go_frame
     go_wp2_with fail
     refine (addRec_any [.slice Ax x0.secs.length cx, .slice Bx x0.cache.length fx, .int .i64 x0.fuse, .bool x0.down] x0 ⟨rk, rn, ro, rt⟩ V1 (Rep.reads diskR (S.later (HB0.out ▸ HV)).out.2.2.out) HF.out HK.out (Keeps.keeps (F := Given) (S.later (HB0.out ▸ HV)).out.1.1.1 HG.out) HRS.out).mono ?_
     rw [HP.out]
     rintro e V2 ⟨cs4, fp4, rfl, o4, hb⟩
     obtain ⟨A4, c4, B4, f4, rfl⟩ := disk_own_shape o4
     have HLT := Lib.hid (show ∀ a, a ∈ fp4 → V1.heap.size ≤ a ∧ a < V2.heap.size from fun a ha => Rep.lt diskR o4 a ha)
     have HBV : B0 ≤ V1.heap.size := by have := HV.size; have := HB0.out; omega
     have O4 : All (fun w' => diskR.own w' V1.heap.size [.slice A4 dw.secs.length c4, .slice B4 dw.cache.length f4, .int .i64 dw.fuse, .bool dw.down] dw fp4) V2 := ⟨o4⟩
     replace HV := HV.trans (hb.mono (by have := HV.size; have := HB0.out; omega))
     clear hb o4
     go_wp2_with fail
     refine ⟨by first | exact ⟨(S.later (HB0.out ▸ HV)).out.2.1.out, (S.later (HB0.out ▸ HV)).out.1.1.2.2.1.out⟩ | exact fun _ => ⟨(S.later (HB0.out ▸ HV)).out.2.1.out, (S.later (HB0.out ▸ HV)).out.1.1.2.2.1.out⟩, ?_⟩
     refine wpAnyL_reads [4, 5, 6] (fuel := 3) (by kernel_rfl) ⟨(S.later (HB0.out ▸ HV)).out.2.1.out, (S.later (HB0.out ▸ HV)).out.1.1.2.2.1.out⟩ ?_
     iterate 3 (refine LexR.cons rfl ?_ (fun w' hw => ?_) ?_; rotate_left; focus (clear hw; go_simp; (try exact rfl)); (try go_frame))
     refine LexR.nil (wpAnyL_writes [7, 8, 9] (by kernel_rfl) (LexW.cons rfl ?_))
     try go_frame
     go_wp2_with fail
     have hE : All (fun w' => w'.heap[V2.heap.size]? = some (.cells [.slice none 0 0, .slice none 0 0, .int .i64 0, .bool false].toArray 27 (0, 0))) (V2.alloc (.cells #[.slice none 0 0, .slice none 0 0, .int .i64 0, .bool false] 27)) := ⟨heap_alloc_new V2 _⟩
     have hEV : B0 ≤ V2.heap.size := by have := HV.size; have := HB0.out; omega
     replace HV := HV.alloc hEV (.cells #[.slice none 0 0, .slice none 0 0, .int .i64 0, .bool false] 27)
     replace O4 := O4.alloc (.cells #[.slice none 0 0, .slice none 0 0, .int .i64 0, .bool false] 27)
     have HL2 : ∀ a, a ∈ fp4 → a < V2.heap.size := fun a ha => (HLT.out a ha).2
     generalize V2.alloc (.cells #[.slice none 0 0, .slice none 0 0, .int .i64 0, .bool false] 27) = V3 at HV hE O4 ⊢
     clear HLT
     generalize V2.heap.size = E at hE hEV HL2 ⊢
     have HEF := Lib.hid (show E ∉ fp4 from fun hm => absurd (HL2 E hm) (Nat.lt_irrefl E))
     refine ⟨by first | exact ⟨(S.later (HB0.out ▸ HV)).out.2.1.out, (S.later (HB0.out ▸ HV)).out.1.1.2.2.1.out⟩ | exact fun _ => ⟨(S.later (HB0.out ▸ HV)).out.2.1.out, (S.later (HB0.out ▸ HV)).out.1.1.2.2.1.out⟩, LexW.cons rfl ?_⟩
     try go_frame
     obtain ⟨z0, z1, z2, z3⟩ := disk4 hE.out
     have zf0 := var_frozen hE.out 0
     have zf1 := var_frozen hE.out 1
     have zf2 := var_frozen hE.out 2
     have zf3 := var_frozen hE.out 3
     have hEl := (Array.getElem?_eq_some_iff.1 hE.out).1
     have hw := putD_only V3 E (.slice A4 dw.secs.length c4) (.slice B4 dw.cache.length f4) (.int .i64 dw.fuse) (.bool dw.down)
     have HBX := Lib.hid (setD_box hE.out (.slice A4 dw.secs.length c4) (.slice B4 dw.cache.length f4) (.int .i64 dw.fuse) (.bool dw.down))
     have HOX := Lib.hid (Rep.own_only O4.out hw (fun a ha hb => HEF.out (by simp at hb; subst hb; exact ha)))
     replace HV := Rep.Only.below HV hw (by have := HV.size; have := HB0.out; omega) (fun a ha => by simp at ha; omega)
     clear hE hw O4
     go_wp2_with fail
     generalize ((((V3.setCell ⟨E, 0, none⟩ (.slice A4 dw.secs.length c4)).setCell ⟨E, 1, none⟩ (.slice B4 dw.cache.length f4)).setCell ⟨E, 2, none⟩ (.int .i64 dw.fuse)).setCell ⟨E, 3, none⟩ (.bool dw.down)) = VZ at HV HBX HOX ⊢
     clear z0 z1 z2 z3 zf0 zf1 zf2 zf3 hEl
     refine ⟨by first | exact ⟨(S.later (HB0.out ▸ HV)).out.2.1.out, (S.later (HB0.out ▸ HV)).out.1.1.2.2.1.out⟩ | exact fun _ => ⟨(S.later (HB0.out ▸ HV)).out.2.1.out, (S.later (HB0.out ▸ HV)).out.1.1.2.2.1.out⟩, LexW.cons rfl ?_⟩
     try go_frame
     go_wp2_with fail
     refine ⟨by first | exact ⟨(S.later (HB0.out ▸ HV)).out.2.1.out, (S.later (HB0.out ▸ HV)).out.1.1.2.2.1.out⟩ | exact fun _ => ⟨(S.later (HB0.out ▸ HV)).out.2.1.out, (S.later (HB0.out ▸ HV)).out.1.1.2.2.1.out⟩, LexW.nil (hK _ _ (Met.intro (hJ _ _ ?_)))⟩
     (repeat apply Exists.intro)
     refine ⟨?_, rfl⟩
     exact ⟨E, A4, c4, B4, f4, V1.heap.size, fp4, rfl, rfl, ⟨(S.later (HB0.out ▸ HV)).out, HBX, HOX⟩, by omega, by omega, HEF.out⟩
    ·skip
     refine lexA_get rfl ?_
     try go_frame
     go_wp2_with fail
     have hE : All (fun w' => w'.heap[V1.heap.size]? = some (.cells [.slice none 0 0, .slice none 0 0, .int .i64 0, .bool false].toArray 27 (0, 0))) (V1.alloc (.cells #[.slice none 0 0, .slice none 0 0, .int .i64 0, .bool false] 27)) := ⟨heap_alloc_new V1 _⟩
     have hEV : B0 ≤ V1.heap.size := by have := HV.size; have := HB0.out; omega
     replace HV := HV.alloc hEV (.cells #[.slice none 0 0, .slice none 0 0, .int .i64 0, .bool false] 27)
     generalize V1.alloc (.cells #[.slice none 0 0, .slice none 0 0, .int .i64 0, .bool false] 27) = V2 at HV hE ⊢
     generalize V1.heap.size = E at hE hEV ⊢
     refine ⟨by first | exact ⟨(S.later (HB0.out ▸ HV)).out.2.1.out, (S.later (HB0.out ▸ HV)).out.1.1.2.2.1.out⟩ | exact fun _ => ⟨(S.later (HB0.out ▸ HV)).out.2.1.out, (S.later (HB0.out ▸ HV)).out.1.1.2.2.1.out⟩, ?_⟩
     refine wpAnyL_one (i := 3) (by kernel_rfl) ?_
     refine lexA_get rfl ?_
     try go_frame
     go_wp2_with fail
     refine (addRec_any [.slice Ax x0.secs.length cx, .slice Bx x0.cache.length fx, .int .i64 x0.fuse, .bool x0.down] x0 ⟨rk, rn, ro, rt⟩ V2 (Rep.reads diskR (S.later (HB0.out ▸ HV)).out.2.2.out) HF.out HK.out (Keeps.keeps (F := Given) (S.later (HB0.out ▸ HV)).out.1.1.1 HG.out) HRS.out).mono ?_
     rw [HP.out]
     rintro e V3 ⟨cs4, fp4, rfl, o4, hb⟩
     obtain ⟨A4, c4, B4, f4, rfl⟩ := disk_own_shape o4
     have HLT := Lib.hid (show ∀ a, a ∈ fp4 → V2.heap.size ≤ a ∧ a < V3.heap.size from fun a ha => Rep.lt diskR o4 a ha)
     have HBV : B0 ≤ V2.heap.size := by have := HV.size; have := HB0.out; omega
     have HEF := Lib.hid (show E ∉ fp4 from fun hm => by have := HLT.out _ hm; have := (Array.getElem?_eq_some_iff.1 hE.out).1; omega)
     have O4 : All (fun w' => diskR.own w' V2.heap.size [.slice A4 dw.secs.length c4, .slice B4 dw.cache.length f4, .int .i64 dw.fuse, .bool dw.down] dw fp4) V3 := ⟨o4⟩
     replace HV := HV.trans (hb.mono (by have := HV.size; have := HB0.out; omega))
     replace hE := hE.later hb
     clear hb o4
     go_wp2_with fail
     refine ⟨by first | exact ⟨(S.later (HB0.out ▸ HV)).out.2.1.out, (S.later (HB0.out ▸ HV)).out.1.1.2.2.1.out⟩ | exact fun _ => ⟨(S.later (HB0.out ▸ HV)).out.2.1.out, (S.later (HB0.out ▸ HV)).out.1.1.2.2.1.out⟩, ?_⟩
     refine wpAnyL_reads [4, 5, 6] (fuel := 2) (by kernel_rfl) ⟨(S.later (HB0.out ▸ HV)).out.2.1.out, (S.later (HB0.out ▸ HV)).out.1.1.2.2.1.out⟩ ?_
     iterate 3 (refine LexR.cons rfl ?_ (fun w' hw => ?_) ?_; rotate_left; focus (clear hw; go_simp; (try exact rfl)); (try go_frame))
     refine LexR.nil (wpAnyL_writes [8, 9] (by kernel_rfl) (LexW.cons rfl ?_))
     try go_frame
     obtain ⟨z0, z1, z2, z3⟩ := disk4 hE.out
     have zf0 := var_frozen hE.out 0
     have zf1 := var_frozen hE.out 1
     have zf2 := var_frozen hE.out 2
     have zf3 := var_frozen hE.out 3
     have hEl := (Array.getElem?_eq_some_iff.1 hE.out).1
     have hw := putD_only V3 E (.slice A4 dw.secs.length c4) (.slice B4 dw.cache.length f4) (.int .i64 dw.fuse) (.bool dw.down)
     have HBX := Lib.hid (setD_box hE.out (.slice A4 dw.secs.length c4) (.slice B4 dw.cache.length f4) (.int .i64 dw.fuse) (.bool dw.down))
     have HOX := Lib.hid (Rep.own_only O4.out hw (fun a ha hb => HEF.out (by simp at hb; subst hb; exact ha)))
     replace HV := Rep.Only.below HV hw (by have := HV.size; have := HB0.out; omega) (fun a ha => by simp at ha; omega)
     clear hE hw O4
     go_wp2_with fail
     generalize ((((V3.setCell ⟨E, 0, none⟩ (.slice A4 dw.secs.length c4)).setCell ⟨E, 1, none⟩ (.slice B4 dw.cache.length f4)).setCell ⟨E, 2, none⟩ (.int .i64 dw.fuse)).setCell ⟨E, 3, none⟩ (.bool dw.down)) = VZ at HV HBX HOX ⊢
     clear z0 z1 z2 z3 zf0 zf1 zf2 zf3 hEl
     refine ⟨by first | exact ⟨(S.later (HB0.out ▸ HV)).out.2.1.out, (S.later (HB0.out ▸ HV)).out.1.1.2.2.1.out⟩ | exact fun _ => ⟨(S.later (HB0.out ▸ HV)).out.2.1.out, (S.later (HB0.out ▸ HV)).out.1.1.2.2.1.out⟩, LexW.cons rfl ?_⟩
     try go_frame
     go_wp2_with fail
     refine ⟨by first | exact ⟨(S.later (HB0.out ▸ HV)).out.2.1.out, (S.later (HB0.out ▸ HV)).out.1.1.2.2.1.out⟩ | exact fun _ => ⟨(S.later (HB0.out ▸ HV)).out.2.1.out, (S.later (HB0.out ▸ HV)).out.1.1.2.2.1.out⟩, LexW.nil (hK _ _ (Met.intro (hJ _ _ ?_)))⟩
     (repeat apply Exists.intro)
     refine ⟨?_, rfl⟩
     exact ⟨E, A4, c4, B4, f4, V2.heap.size, fp4, rfl, rfl, ⟨(S.later (HB0.out ▸ HV)).out, HBX, HOX⟩, by omega, by omega, HEF.out⟩
   ·skip
    refine lexA_get rfl ?_
    try go_frame
    go_wp2_with fail
    have hE : All (fun w' => w'.heap[V0.heap.size]? = some (.cells [.slice none 0 0, .slice none 0 0, .int .i64 0, .bool false].toArray 27 (0, 0))) (V0.alloc (.cells #[.slice none 0 0, .slice none 0 0, .int .i64 0, .bool false] 27)) := ⟨heap_alloc_new V0 _⟩
    have hEV : B0 ≤ V0.heap.size := by have := HV.size; have := HB0.out; omega
    replace HV := HV.alloc hEV (.cells #[.slice none 0 0, .slice none 0 0, .int .i64 0, .bool false] 27)
    generalize V0.alloc (.cells #[.slice none 0 0, .slice none 0 0, .int .i64 0, .bool false] 27) = V1 at HV hE ⊢
    generalize V0.heap.size = E at hE hEV ⊢
    refine ⟨by first | exact ⟨(S.later (HB0.out ▸ HV)).out.2.1.out, (S.later (HB0.out ▸ HV)).out.1.1.2.2.1.out⟩ | exact fun _ => ⟨(S.later (HB0.out ▸ HV)).out.2.1.out, (S.later (HB0.out ▸ HV)).out.1.1.2.2.1.out⟩, ?_⟩
    refine wpAnyL_one (i := 2) (by kernel_rfl) ?_
    refine lexA_get rfl ?_
    try go_frame
    go_wp2_with fail
    refine (toRec_any ⟨rk, rn, ro, rt⟩ V1).mono ?_
    rintro e V2 ⟨rfl, hb⟩
    replace HV := HV.trans (hb.mono (by have := HV.size; have := HB0.out; omega))
    replace hE := hE.later hb
    clear hb
    go_wp2_with fail
    refine ⟨by first | exact ⟨(S.later (HB0.out ▸ HV)).out.2.1.out, (S.later (HB0.out ▸ HV)).out.1.1.2.2.1.out⟩ | exact fun _ => ⟨(S.later (HB0.out ▸ HV)).out.2.1.out, (S.later (HB0.out ▸ HV)).out.1.1.2.2.1.out⟩, ?_⟩
    refine wpAnyL_one (i := 3) (by kernel_rfl) ?_
    refine lexA_get rfl ?_
    try go_frame
    go_wp2_with fail
    refine (addRec_any [.slice Ax x0.secs.length cx, .slice Bx x0.cache.length fx, .int .i64 x0.fuse, .bool x0.down] x0 ⟨rk, rn, ro, rt⟩ V2 (Rep.reads diskR (S.later (HB0.out ▸ HV)).out.2.2.out) HF.out HK.out (Keeps.keeps (F := Given) (S.later (HB0.out ▸ HV)).out.1.1.1 HG.out) HRS.out).mono ?_
    rw [HP.out]
    rintro e V3 ⟨cs4, fp4, rfl, o4, hb⟩
    obtain ⟨A4, c4, B4, f4, rfl⟩ := disk_own_shape o4
    have HLT := Lib.hid (show ∀ a, a ∈ fp4 → V2.heap.size ≤ a ∧ a < V3.heap.size from fun a ha => Rep.lt diskR o4 a ha)
    have HBV : B0 ≤ V2.heap.size := by have := HV.size; have := HB0.out; omega
    have HEF := Lib.hid (show E ∉ fp4 from fun hm => by have := HLT.out _ hm; have := (Array.getElem?_eq_some_iff.1 hE.out).1; omega)
    have O4 : All (fun w' => diskR.own w' V2.heap.size [.slice A4 dw.secs.length c4, .slice B4 dw.cache.length f4, .int .i64 dw.fuse, .bool dw.down] dw fp4) V3 := ⟨o4⟩
    replace HV := HV.trans (hb.mono (by have := HV.size; have := HB0.out; omega))
    replace hE := hE.later hb
    clear hb o4
    go_wp2_with fail
    refine ⟨by first | exact ⟨(S.later (HB0.out ▸ HV)).out.2.1.out, (S.later (HB0.out ▸ HV)).out.1.1.2.2.1.out⟩ | exact fun _ => ⟨(S.later (HB0.out ▸ HV)).out.2.1.out, (S.later (HB0.out ▸ HV)).out.1.1.2.2.1.out⟩, ?_⟩
    refine wpAnyL_reads [4, 5, 6] (fuel := 2) (by kernel_rfl) ⟨(S.later (HB0.out ▸ HV)).out.2.1.out, (S.later (HB0.out ▸ HV)).out.1.1.2.2.1.out⟩ ?_
    iterate 3 (refine LexR.cons rfl ?_ (fun w' hw => ?_) ?_; rotate_left; focus (clear hw; go_simp; (try exact rfl)); (try go_frame))
    refine LexR.nil (wpAnyL_writes [8, 9] (by kernel_rfl) (LexW.cons rfl ?_))
    try go_frame
    obtain ⟨z0, z1, z2, z3⟩ := disk4 hE.out
    have zf0 := var_frozen hE.out 0
    have zf1 := var_frozen hE.out 1
    have zf2 := var_frozen hE.out 2
    have zf3 := var_frozen hE.out 3
    have hEl := (Array.getElem?_eq_some_iff.1 hE.out).1
    have hw := putD_only V3 E (.slice A4 dw.secs.length c4) (.slice B4 dw.cache.length f4) (.int .i64 dw.fuse) (.bool dw.down)
    have HBX := Lib.hid (setD_box hE.out (.slice A4 dw.secs.length c4) (.slice B4 dw.cache.length f4) (.int .i64 dw.fuse) (.bool dw.down))
    have HOX := Lib.hid (Rep.own_only O4.out hw (fun a ha hb => HEF.out (by simp at hb; subst hb; exact ha)))
    replace HV := Rep.Only.below HV hw (by have := HV.size; have := HB0.out; omega) (fun a ha => by simp at ha; omega)
    clear hE hw O4
    go_wp2_with fail
    generalize ((((V3.setCell ⟨E, 0, none⟩ (.slice A4 dw.secs.length c4)).setCell ⟨E, 1, none⟩ (.slice B4 dw.cache.length f4)).setCell ⟨E, 2, none⟩ (.int .i64 dw.fuse)).setCell ⟨E, 3, none⟩ (.bool dw.down)) = VZ at HV HBX HOX ⊢
    clear z0 z1 z2 z3 zf0 zf1 zf2 zf3 hEl
    refine ⟨by first | exact ⟨(S.later (HB0.out ▸ HV)).out.2.1.out, (S.later (HB0.out ▸ HV)).out.1.1.2.2.1.out⟩ | exact fun _ => ⟨(S.later (HB0.out ▸ HV)).out.2.1.out, (S.later (HB0.out ▸ HV)).out.1.1.2.2.1.out⟩, LexW.cons rfl ?_⟩
    try go_frame
    go_wp2_with fail
    refine ⟨by first | exact ⟨(S.later (HB0.out ▸ HV)).out.2.1.out, (S.later (HB0.out ▸ HV)).out.1.1.2.2.1.out⟩ | exact fun _ => ⟨(S.later (HB0.out ▸ HV)).out.2.1.out, (S.later (HB0.out ▸ HV)).out.1.1.2.2.1.out⟩, LexW.nil (hK _ _ (Met.intro (hJ _ _ ?_)))⟩
    (repeat apply Exists.intro)
    refine ⟨?_, rfl⟩
    exact ⟨E, A4, c4, B4, f4, V2.heap.size, fp4, rfl, rfl, ⟨(S.later (HB0.out ▸ HV)).out, HBX, HOX⟩, by omega, by omega, HEF.out⟩
  case rest =>
   clear S hsX
   obtain ⟨DG, Ag, cg, Bg, fg, bg, fpg, rfl, rfl, S, hDG1, hbg1, hDGf⟩ := hcut
   replace S : All (fun w' => (((Below w.heap.size w w' ∧ Hid (w'.heap[w.heap.size]? = some (.cells [.slice A x0.secs.length c, .slice B x0.cache.length f, .int .i64 x0.fuse, .bool x0.down].toArray 50 (0, 0))) ∧ Hid (w'.heap[w.heap.size + 1]? = some (.cells (recC ⟨rk, rn, ro, rt⟩).toArray 59 (0, 0))) ∧ Hid (diskR.at_ w' w'.heap.size [.slice A x0.secs.length c, .slice B x0.cache.length f, .int .i64 x0.fuse, .bool x0.down] x0)) ∧ Hid (w'.heap[DW]? = some (.cells [.slice Aw dw.secs.length cw, .slice Bw dw.cache.length fw, .int .i64 dw.fuse, .bool dw.down].toArray 27 (0, 0))) ∧ Hid (diskR.own w' bw [.slice Aw dw.secs.length cw, .slice Bw dw.cache.length fw, .int .i64 dw.fuse, .bool dw.down] dw fpw)) ∧ Hid (w'.heap[DX]? = some (.cells [.slice Ax x0.secs.length cx, .slice Bx x0.cache.length fx, .int .i64 x0.fuse, .bool x0.down].toArray 27 (0, 0))) ∧ Hid (diskR.own w' bx [.slice Ax x0.secs.length cx, .slice Bx x0.cache.length fx, .int .i64 x0.fuse, .bool x0.down] x0 fpx)) ∧ Hid (w'.heap[DG]? = some (.cells [.slice Ag dw.secs.length cg, .slice Bg dw.cache.length fg, .int .i64 dw.fuse, .bool dw.down].toArray 27 (0, 0))) ∧ Hid (diskR.own w' bg [.slice Ag dw.secs.length cg, .slice Bg dw.cache.length fg, .int .i64 dw.fuse, .bool dw.down] dw fpg)) wc := S
   obtain ⟨u0, u1, u2, u3⟩ := disk4 S.out.2.1.out
   obtain ⟨v0, v1, v2, v3⟩ := disk4 S.out.1.1.2.1.out
   go_wp2_with fail
   clear u0 u1 u2 u3 v0 v1 v2 v3
   refine (eqDisk_same [.slice Ag dw.secs.length cg, .slice Bg dw.cache.length fg, .int .i64 dw.fuse, .bool dw.down] [.slice Aw dw.secs.length cw, .slice Bw dw.cache.length fw, .int .i64 dw.fuse, .bool dw.down] dw wc (Rep.reads diskR S.out.2.2.out) (Rep.reads diskR S.out.1.1.2.2.out) HFW.out).mono ?_
   rintro e5 W5 ⟨rfl, hb⟩
   replace S := S.later hb
   clear hb
   go_wp2_with fail
   refine wp_region_open 100 (fun w' => w'.heap[DX]? = some (.cells [.slice Ax x0.secs.length cx, .slice Bx x0.cache.length fx, .int .i64 x0.fuse, .bool x0.down].toArray 27 (0, 0)) ∧ w'.heap[w.heap.size]? = some (.cells [.slice A x0.secs.length c, .slice B x0.cache.length f, .int .i64 x0.fuse, .bool x0.down].toArray 50 (0, 0))) (by kernel_rfl) ?_
   replace S := S.drew
   refine wpAnyL_reads [0, 1] (fuel := 3) (by kernel_rfl) ⟨S.out.1.2.1.out, S.out.1.1.1.2.1.out⟩ ?_
   iterate 2 (refine LexR.cons rfl ?_ (fun w' hw => ?_) ?_; rotate_left; focus (obtain ⟨hw1, hw2⟩ := hw; obtain ⟨d0, d1, d2, d3⟩ := disk4 hw1; obtain ⟨l0, l1, l2, l3⟩ := adisk4 hw2; clear hw1 hw2; go_simp; (try exact rfl)); (try go_frame))
   refine LexR.nil ?_
   generalize W5.drew = W6 at S ⊢
   refine wpAnyL_one (i := 2) (by kernel_rfl) ?_
   refine lexA_get rfl ?_
   try go_frame
   go_wp2_with fail
   refine (toDisk_rep [.slice A x0.secs.length c, .slice B x0.cache.length f, .int .i64 x0.fuse, .bool x0.down] x0 W6 S.out.1.1.1.2.2.2.out HF.out).mono ?_
   rintro e7 W7 ⟨csB, fpB, rfl, OB, hb⟩
   have TB := Rep.reads diskR OB
   replace S := S.later hb
   clear hb OB
   go_wp2_with fail
   refine ⟨by first | exact ⟨S.out.1.2.1.out, S.out.1.1.1.2.1.out⟩ | exact fun _ => ⟨S.out.1.2.1.out, S.out.1.1.1.2.1.out⟩, ?_⟩
   refine wpAnyL_one (i := 3) (by kernel_rfl) ?_
   refine lexA_get rfl ?_
   try go_frame
   go_wp2_with fail
   refine (eqDisk_same [.slice Ax x0.secs.length cx, .slice Bx x0.cache.length fx, .int .i64 x0.fuse, .bool x0.down] csB x0 W7 (Rep.reads diskR S.out.1.2.2.out) TB HF.out).mono ?_
   rintro e8 W8 ⟨rfl, hb⟩
   replace S := S.later hb
   clear hb TB
   go_wp2_with fail
   refine ⟨by first | exact ⟨S.out.1.2.1.out, S.out.1.1.1.2.1.out⟩ | exact fun _ => ⟨S.out.1.2.1.out, S.out.1.1.1.2.1.out⟩, ?_⟩
   refine wpAnyL_writes [4] (by kernel_rfl) (LexW.cons rfl ?_)
   try go_frame
   go_wp2_with fail
   refine ⟨by first | exact ⟨S.out.1.2.1.out, S.out.1.1.1.2.1.out⟩ | exact fun _ => ⟨S.out.1.2.1.out, S.out.1.1.1.2.1.out⟩, LexW.nil ?_⟩
   obtain ⟨u0, u1, u2, u3⟩ := disk4 S.out.1.2.1.out
   go_wp2_with fail
   clear u0 u1 u2 u3
   refine (markDisk_any [.slice Ax x0.secs.length cx, .slice Bx x0.cache.length fx, .int .i64 x0.fuse, .bool x0.down] 1 x0 fpx W8 bx S.out.1.2.2.out HF.out (by omega)).mono ?_
   rintro e9 W9 ⟨rfl, _, ho⟩
   have hgl : ∀ a, a ∈ fpg → DX < a := fun a ha => Nat.lt_of_lt_of_le hbg1 (Rep.lt diskR S.out.2.2.out a ha).1
   have HGL := Lib.hid hgl
   have hbel : Below w.heap.size w W9 := Rep.Only.below S.out.1.1.1.1 ho S.out.1.1.1.1.size (fun a ha => by have := HX2.out a ha; omega)
   have S4 : All (fun w' => ((Below w.heap.size w w' ∧ Hid (w'.heap[w.heap.size]? = some (.cells [.slice A x0.secs.length c, .slice B x0.cache.length f, .int .i64 x0.fuse, .bool x0.down].toArray 50 (0, 0))) ∧ Hid (w'.heap[w.heap.size + 1]? = some (.cells (recC ⟨rk, rn, ro, rt⟩).toArray 59 (0, 0))) ∧ Hid (diskR.at_ w' w'.heap.size [.slice A x0.secs.length c, .slice B x0.cache.length f, .int .i64 x0.fuse, .bool x0.down] x0)) ∧ Hid (w'.heap[DW]? = some (.cells [.slice Aw dw.secs.length cw, .slice Bw dw.cache.length fw, .int .i64 dw.fuse, .bool dw.down].toArray 27 (0, 0))) ∧ Hid (diskR.own w' bw [.slice Aw dw.secs.length cw, .slice Bw dw.cache.length fw, .int .i64 dw.fuse, .bool dw.down] dw fpw)) ∧ Hid (w'.heap[DG]? = some (.cells [.slice Ag dw.secs.length cg, .slice Bg dw.cache.length fg, .int .i64 dw.fuse, .bool dw.down].toArray 27 (0, 0))) ∧ Hid (diskR.own w' bg [.slice Ag dw.secs.length cg, .slice Bg dw.cache.length fg, .int .i64 dw.fuse, .bool dw.down] dw fpg)) W9 := ⟨⟨⟨hbel, Lib.hid ((ho.block _ (Array.getElem?_eq_some_iff.1 S.out.1.1.1.2.1.out).1 (fun hm => by have := HX2.out _ hm; omega)).trans S.out.1.1.1.2.1.out), Lib.hid ((ho.block _ (Array.getElem?_eq_some_iff.1 S.out.1.1.1.2.2.1.out).1 (fun hm => by have := HX2.out _ hm; omega)).trans S.out.1.1.1.2.2.1.out), Lib.hid (Keeps.keeps (F := fun w' => diskR.at_ w' w'.heap.size [.slice A x0.secs.length c, .slice B x0.cache.length f, .int .i64 x0.fuse, .bool x0.down] x0) hbel HD0.out)⟩, Lib.hid ((ho.block _ (Array.getElem?_eq_some_iff.1 S.out.1.1.2.1.out).1 (fun hm => by have := HX2.out _ hm; omega)).trans S.out.1.1.2.1.out), Lib.hid (Rep.own_only S.out.1.1.2.2.out ho (fun a ha hm => by have := HX2.out _ hm; have := HWX2.out _ ha; omega))⟩, Lib.hid ((ho.block _ (Array.getElem?_eq_some_iff.1 S.out.2.1.out).1 (fun hm => by have := HX2.out _ hm; omega)).trans S.out.2.1.out), Lib.hid (Rep.own_only S.out.2.2.out ho (fun a ha hm => by have := HX2.out _ hm; have := HGL.out _ ha; omega))⟩
   clear S ho hbel hgl
   have hc1 : ¬ (((1 + cntD x0 : Nat) : Int) < 0) := by omega
   obtain ⟨u0, u1, u2, u3⟩ := disk4 S4.out.2.1.out
   obtain ⟨v0, v1, v2, v3⟩ := disk4 S4.out.1.2.1.out
   have hcx := cntD_le2 HF.out
   go_wp2_with fail
   clear u0 u1 u2 u3 v0 v1 v2 v3 hc1 hcx
   refine (eqDisk_same [.slice Ag dw.secs.length cg, .slice Bg dw.cache.length fg, .int .i64 dw.fuse, .bool dw.down] [.slice Aw dw.secs.length cw, .slice Bw dw.cache.length fw, .int .i64 dw.fuse, .bool dw.down] dw W9 (Rep.reads diskR S4.out.2.2.out) (Rep.reads diskR S4.out.1.2.2.out) HFW.out).mono ?_
   rintro e10 W10 ⟨rfl, hb⟩
   replace S4 := S4.later hb
   clear hb
   obtain ⟨u0, u1, u2, u3⟩ := disk4 S4.out.2.1.out
   go_wp2_with fail
   clear u0 u1 u2 u3
   refine (markDisk_any [.slice Ag dw.secs.length cg, .slice Bg dw.cache.length fg, .int .i64 dw.fuse, .bool dw.down] 1 dw fpg W10 bg S4.out.2.2.out HFW.out (by omega)).mono ?_
   rintro e11 W11 ⟨rfl, om, ho⟩
   have hbel : Below w.heap.size w W11 := Rep.Only.below S4.out.1.1.1 ho S4.out.1.1.1.size (fun a ha => by have := HGL.out a ha; omega)
   have S5 : All (fun w' => ((Below w.heap.size w w' ∧ Hid (w'.heap[w.heap.size]? = some (.cells [.slice A x0.secs.length c, .slice B x0.cache.length f, .int .i64 x0.fuse, .bool x0.down].toArray 50 (0, 0))) ∧ Hid (w'.heap[w.heap.size + 1]? = some (.cells (recC ⟨rk, rn, ro, rt⟩).toArray 59 (0, 0))) ∧ Hid (diskR.at_ w' w'.heap.size [.slice A x0.secs.length c, .slice B x0.cache.length f, .int .i64 x0.fuse, .bool x0.down] x0)) ∧ Hid (w'.heap[DW]? = some (.cells [.slice Aw dw.secs.length cw, .slice Bw dw.cache.length fw, .int .i64 dw.fuse, .bool dw.down].toArray 27 (0, 0))) ∧ Hid (diskR.own w' bw [.slice Aw dw.secs.length cw, .slice Bw dw.cache.length fw, .int .i64 dw.fuse, .bool dw.down] dw fpw)) ∧ Hid (w'.heap[DG]? = some (.cells [.slice Ag dw.secs.length cg, .slice Bg dw.cache.length fg, .int .i64 dw.fuse, .bool dw.down].toArray 27 (0, 0))) ∧ Hid (diskR.own w' bg [.slice Ag dw.secs.length cg, .slice Bg dw.cache.length fg, .int .i64 dw.fuse, .bool dw.down] (markD 1 dw) fpg)) W11 := ⟨⟨⟨hbel, Lib.hid ((ho.block _ (Array.getElem?_eq_some_iff.1 S4.out.1.1.2.1.out).1 (fun hm => by have := HGL.out _ hm; omega)).trans S4.out.1.1.2.1.out), Lib.hid ((ho.block _ (Array.getElem?_eq_some_iff.1 S4.out.1.1.2.2.1.out).1 (fun hm => by have := HGL.out _ hm; omega)).trans S4.out.1.1.2.2.1.out), Lib.hid (Keeps.keeps (F := fun w' => diskR.at_ w' w'.heap.size [.slice A x0.secs.length c, .slice B x0.cache.length f, .int .i64 x0.fuse, .bool x0.down] x0) hbel HD0.out)⟩, Lib.hid ((ho.block _ (Array.getElem?_eq_some_iff.1 S4.out.1.2.1.out).1 (fun hm => by have := HGL.out _ hm; omega)).trans S4.out.1.2.1.out), Lib.hid (Rep.own_only S4.out.1.2.2.out ho (fun a ha hm => by have := HGL.out _ hm; have := HWX2.out _ ha; omega))⟩, Lib.hid ((ho.block _ (Array.getElem?_eq_some_iff.1 S4.out.2.1.out).1 hDGf).trans S4.out.2.1.out), Lib.hid om⟩
   clear S4 ho hbel om
   have hcd := cntD_le2 HFW.out
   have hq1 : ¬ (((1 + cntD dw : Nat) : Int) < 0) := by omega
   have hq2 : (((1 + cntD dw : Nat) : Int) != ((1 + cntD dw : Nat) : Int)) = false := by simp
   obtain ⟨u0, u1, u2, u3⟩ := disk4 S5.out.2.1.out
   go_wp2_with fail
   clear u0 u1 u2 u3
   refine (heldDisk_any [.slice Ag dw.secs.length cg, .slice Bg dw.cache.length fg, .int .i64 dw.fuse, .bool dw.down] 1 dw W11 (Rep.reads diskR S5.out.2.2.out) HFW.out (by omega)).mono ?_
   rintro e12 W12 ⟨rfl, hb⟩
   replace S5 := S5.later hb
   clear hb
   have hs12 : DX < W12.heap.size := by have := (Array.getElem?_eq_some_iff.1 S5.out.2.1.out).1; omega
   go_upto_region 27 with (fail)
   have S := S5
   clear S5
   go_cut [14, 15] from 16 (fun v14 v15 W' => ∃ (DH : Nat) (Ah : Option Addr) (ch : Nat) (Bh : Option Addr) (fh bh : Nat) (fph : List Nat), v14 = .pointer (some ⟨DH, 0, none⟩) ∧ v15 = .bool B1 ∧ All (fun w' => ((Below w.heap.size w w' ∧ Hid (w'.heap[w.heap.size]? = some (.cells [.slice A x0.secs.length c, .slice B x0.cache.length f, .int .i64 x0.fuse, .bool x0.down].toArray 50 (0, 0))) ∧ Hid (w'.heap[w.heap.size + 1]? = some (.cells (recC ⟨rk, rn, ro, rt⟩).toArray 59 (0, 0))) ∧ Hid (diskR.at_ w' w'.heap.size [.slice A x0.secs.length c, .slice B x0.cache.length f, .int .i64 x0.fuse, .bool x0.down] x0)) ∧ Hid (w'.heap[DW]? = some (.cells [.slice Aw dw.secs.length cw, .slice Bw dw.cache.length fw, .int .i64 dw.fuse, .bool dw.down].toArray 27 (0, 0))) ∧ Hid (diskR.own w' bw [.slice Aw dw.secs.length cw, .slice Bw dw.cache.length fw, .int .i64 dw.fuse, .bool dw.down] dw fpw)) ∧ Hid (w'.heap[DG]? = some (.cells [.slice Ag dw.secs.length cg, .slice Bg dw.cache.length fg, .int .i64 dw.fuse, .bool dw.down].toArray 27 (0, 0))) ∧ Hid (diskR.own w' bg [.slice Ag dw.secs.length cg, .slice Bg dw.cache.length fg, .int .i64 dw.fuse, .bool dw.down] (markD 1 dw) fpg)) W' ∧ Hid (W'.heap[DH]? = some (.cells [.slice Ah dw.secs.length ch, .slice Bh dw.cache.length fh, .int .i64 dw.fuse, .bool dw.down].toArray 27 (0, 0))) ∧ Hid (diskR.own W' bh [.slice Ah dw.secs.length ch, .slice Bh dw.cache.length fh, .int .i64 dw.fuse, .bool dw.down] dw fph))
   case first =>
    rename_i J K1 hJ hK
    refine wp_region_open 100 (fun w' => w'.heap[w.heap.size]? = some (.cells [.slice A x0.secs.length c, .slice B x0.cache.length f, .int .i64 x0.fuse, .bool x0.down].toArray 50 (0, 0)) ∧ w'.heap[w.heap.size + 1]? = some (.cells (recC ⟨rk, rn, ro, rt⟩).toArray 59 (0, 0))) (by kernel_rfl) ?_
    replace S := S.drew
    refine wpAnyL_reads [0, 2] (fuel := 9) (by kernel_rfl) ⟨S.out.1.1.2.1.out, S.out.1.1.2.2.1.out⟩ ?_
    iterate 2 (refine LexR.cons rfl ?_ (fun w' hw => ?_) ?_; rotate_left; focus (obtain ⟨hw1, hw2⟩ := hw; obtain ⟨d0, d1, d2, d3⟩ := adisk4 hw1; obtain ⟨r0, r1, r2, r3⟩ := rec_box hw2; clear hw1 hw2; go_simp; (try exact rfl)); (try go_frame))
    refine LexR.nil ?_
    have hsV : DX < W12.drew.heap.size := hs12
    generalize W12.drew = V0 at S hsV ⊢
    obtain ⟨B0, hB0⟩ : ∃ n, n = V0.heap.size := ⟨_, rfl⟩
    rw [← hB0] at hsV
    have HB0 := Lib.hid hB0
    clear hB0
    have HV : Below B0 V0 V0 := Below.refl _ _
    refine wpAnyL_two (i := 1) (j := 8) (by kernel_rfl) ?_ ?_
    ·skip
     refine lexA_get rfl ?_
     try go_frame
     go_wp2_with fail
     refine (toDisk_rep [.slice A x0.secs.length c, .slice B x0.cache.length f, .int .i64 x0.fuse, .bool x0.down] x0 V0 (S.later (HB0.out ▸ HV)).out.1.1.2.2.2.out HF.out).mono ?_
     rintro e V1 ⟨cs3, fp3, rfl, O3, hb⟩
     obtain ⟨A3, c3, B3, f3, rfl⟩ := disk_own_shape O3
     have T3 : All (fun w' => diskR.at_ w' w'.heap.size [.slice A3 x0.secs.length c3, .slice B3 x0.cache.length f3, .int .i64 x0.fuse, .bool x0.down] x0) V1 := ⟨Rep.reads diskR O3⟩
     replace HV := HV.trans (hb.mono (by have := HV.size; have := HB0.out; omega))
     clear hb O3
     go_wp2_with fail
     refine ⟨by first | exact ⟨(S.later (HB0.out ▸ HV)).out.1.1.2.1.out, (S.later (HB0.out ▸ HV)).out.1.1.2.2.1.out⟩ | exact fun _ => ⟨(S.later (HB0.out ▸ HV)).out.1.1.2.1.out, (S.later (HB0.out ▸ HV)).out.1.1.2.2.1.out⟩, ?_⟩
     refine wpAnyL_two (i := 3) (j := 8) (by kernel_rfl) ?_ ?_
     ·skip
      refine lexA_get rfl ?_
      try go_frame
      go_wp2_with fail
      refine (toRec_any ⟨rk, rn, ro, rt⟩ V1).mono ?_
      rintro e V2 ⟨rfl, hb⟩
      replace HV := HV.trans (hb.mono (by have := HV.size; have := HB0.out; omega))
      replace T3 := T3.later hb
      clear hb
      go_wp2_with fail
      refine ⟨by first | exact ⟨(S.later (HB0.out ▸ HV)).out.1.1.2.1.out, (S.later (HB0.out ▸ HV)).out.1.1.2.2.1.out⟩ | exact fun _ => ⟨(S.later (HB0.out ▸ HV)).out.1.1.2.1.out, (S.later (HB0.out ▸ HV)).out.1.1.2.2.1.out⟩, ?_⟩
      refine wpAnyL_two (i := 4) (j := 8) (by kernel_rfl) ?_ ?_
      ·skip
       refine lexA_get rfl ?_
       try go_frame
       go_wp2_with fail
       refine (addRec_any [.slice A3 x0.secs.length c3, .slice B3 x0.cache.length f3, .int .i64 x0.fuse, .bool x0.down] x0 ⟨rk, rn, ro, rt⟩ V2 T3.out HF.out HK.out (Keeps.keeps (F := Given) (S.later (HB0.out ▸ HV)).out.1.1.1 HG.out) HRS.out).mono ?_
       rw [HP.out]
       rintro e V3 ⟨cs4, fp4, rfl, o4, hb⟩
       obtain ⟨A4, c4, B4, f4, rfl⟩ := disk_own_shape o4
       have HLT := Lib.hid (show ∀ a, a ∈ fp4 → V2.heap.size ≤ a ∧ a < V3.heap.size from fun a ha => Rep.lt diskR o4 a ha)
       have HBV : B0 ≤ V2.heap.size := by have := HV.size; have := HB0.out; omega
       have O4 : All (fun w' => diskR.own w' V2.heap.size [.slice A4 dw.secs.length c4, .slice B4 dw.cache.length f4, .int .i64 dw.fuse, .bool dw.down] dw fp4) V3 := ⟨o4⟩
       replace HV := HV.trans (hb.mono (by have := HV.size; have := HB0.out; omega))
       replace T3 := T3.later hb
       clear hb o4
       go_wp2_with fail
       refine ⟨by first | exact ⟨(S.later (HB0.out ▸ HV)).out.1.1.2.1.out, (S.later (HB0.out ▸ HV)).out.1.1.2.2.1.out⟩ | exact fun _ => ⟨(S.later (HB0.out ▸ HV)).out.1.1.2.1.out, (S.later (HB0.out ▸ HV)).out.1.1.2.2.1.out⟩, ?_⟩
       refine wpAnyL_reads [5, 6, 7] (fuel := 3) (by kernel_rfl) ⟨(S.later (HB0.out ▸ HV)).out.1.1.2.1.out, (S.later (HB0.out ▸ HV)).out.1.1.2.2.1.out⟩ ?_
       iterate 3 (refine LexR.cons rfl ?_ (fun w' hw => ?_) ?_; rotate_left; focus (clear hw; go_simp; (try exact rfl)); (try go_frame))
       refine LexR.nil (wpAnyL_writes [8, 9, 10] (by kernel_rfl) (LexW.cons rfl ?_))
       try go_frame
       go_wp2_with fail
       have hE : All (fun w' => w'.heap[V3.heap.size]? = some (.cells [.slice none 0 0, .slice none 0 0, .int .i64 0, .bool false].toArray 27 (0, 0))) (V3.alloc (.cells #[.slice none 0 0, .slice none 0 0, .int .i64 0, .bool false] 27)) := ⟨heap_alloc_new V3 _⟩
       have hEV : B0 ≤ V3.heap.size := by have := HV.size; have := HB0.out; omega
       replace HV := HV.alloc hEV (.cells #[.slice none 0 0, .slice none 0 0, .int .i64 0, .bool false] 27)
       replace T3 := T3.alloc (.cells #[.slice none 0 0, .slice none 0 0, .int .i64 0, .bool false] 27)
       replace O4 := O4.alloc (.cells #[.slice none 0 0, .slice none 0 0, .int .i64 0, .bool false] 27)
       have HL2 : ∀ a, a ∈ fp4 → a < V3.heap.size := fun a ha => (HLT.out a ha).2
       generalize V3.alloc (.cells #[.slice none 0 0, .slice none 0 0, .int .i64 0, .bool false] 27) = V4 at HV hE T3 O4 ⊢
       clear HLT
       generalize V3.heap.size = E at hE hEV HL2 ⊢
       have HEF := Lib.hid (show E ∉ fp4 from fun hm => absurd (HL2 E hm) (Nat.lt_irrefl E))
       refine ⟨by first | exact ⟨(S.later (HB0.out ▸ HV)).out.1.1.2.1.out, (S.later (HB0.out ▸ HV)).out.1.1.2.2.1.out⟩ | exact fun _ => ⟨(S.later (HB0.out ▸ HV)).out.1.1.2.1.out, (S.later (HB0.out ▸ HV)).out.1.1.2.2.1.out⟩, LexW.cons rfl ?_⟩
       try go_frame
       obtain ⟨z0, z1, z2, z3⟩ := disk4 hE.out
       have zf0 := var_frozen hE.out 0
       have zf1 := var_frozen hE.out 1
       have zf2 := var_frozen hE.out 2
       have zf3 := var_frozen hE.out 3
       have hEl := (Array.getElem?_eq_some_iff.1 hE.out).1
       have hw := putD_only V4 E (.slice A4 dw.secs.length c4) (.slice B4 dw.cache.length f4) (.int .i64 dw.fuse) (.bool dw.down)
       have HBX := Lib.hid (setD_box hE.out (.slice A4 dw.secs.length c4) (.slice B4 dw.cache.length f4) (.int .i64 dw.fuse) (.bool dw.down))
       have HOX := Lib.hid (Rep.own_only O4.out hw (fun a ha hb => HEF.out (by simp at hb; subst hb; exact ha)))
       replace HV := Rep.Only.below HV hw (by have := HV.size; have := HB0.out; omega) (fun a ha => by simp at ha; omega)
       clear hE hw O4 T3
       go_wp2_with fail
       generalize ((((V4.setCell ⟨E, 0, none⟩ (.slice A4 dw.secs.length c4)).setCell ⟨E, 1, none⟩ (.slice B4 dw.cache.length f4)).setCell ⟨E, 2, none⟩ (.int .i64 dw.fuse)).setCell ⟨E, 3, none⟩ (.bool dw.down)) = VZ at HV HBX HOX ⊢
       clear z0 z1 z2 z3 zf0 zf1 zf2 zf3 hEl
       refine ⟨by first | exact ⟨(S.later (HB0.out ▸ HV)).out.1.1.2.1.out, (S.later (HB0.out ▸ HV)).out.1.1.2.2.1.out⟩ | exact fun _ => ⟨(S.later (HB0.out ▸ HV)).out.1.1.2.1.out, (S.later (HB0.out ▸ HV)).out.1.1.2.2.1.out⟩, LexW.cons rfl ?_⟩
       try go_frame
       go_wp2_with fail
       refine ⟨by first | exact ⟨(S.later (HB0.out ▸ HV)).out.1.1.2.1.out, (S.later (HB0.out ▸ HV)).out.1.1.2.2.1.out⟩ | exact fun _ => ⟨(S.later (HB0.out ▸ HV)).out.1.1.2.1.out, (S.later (HB0.out ▸ HV)).out.1.1.2.2.1.out⟩, LexW.nil (hK _ _ (Met.intro (hJ _ _ ?_)))⟩
       (repeat apply Exists.intro)
       refine ⟨?_, rfl⟩
       exact ⟨E, A4, c4, B4, f4, V2.heap.size, fp4, rfl, rfl, S.later (HB0.out ▸ HV), HBX, HOX⟩
      ·skip
       refine lexA_get rfl ?_
       try go_frame
       go_wp2_with fail
       have hE : All (fun w' => w'.heap[V2.heap.size]? = some (.cells [.slice none 0 0, .slice none 0 0, .int .i64 0, .bool false].toArray 27 (0, 0))) (V2.alloc (.cells #[.slice none 0 0, .slice none 0 0, .int .i64 0, .bool false] 27)) := ⟨heap_alloc_new V2 _⟩
       have hEV : B0 ≤ V2.heap.size := by have := HV.size; have := HB0.out; omega
       replace HV := HV.alloc hEV (.cells #[.slice none 0 0, .slice none 0 0, .int .i64 0, .bool false] 27)
       replace T3 := T3.alloc (.cells #[.slice none 0 0, .slice none 0 0, .int .i64 0, .bool false] 27)
       generalize V2.alloc (.cells #[.slice none 0 0, .slice none 0 0, .int .i64 0, .bool false] 27) = V3 at HV hE T3 ⊢
       generalize V2.heap.size = E at hE hEV ⊢
       refine ⟨by first | exact ⟨(S.later (HB0.out ▸ HV)).out.1.1.2.1.out, (S.later (HB0.out ▸ HV)).out.1.1.2.2.1.out⟩ | exact fun _ => ⟨(S.later (HB0.out ▸ HV)).out.1.1.2.1.out, (S.later (HB0.out ▸ HV)).out.1.1.2.2.1.out⟩, ?_⟩
       refine wpAnyL_one (i := 4) (by kernel_rfl) ?_
       refine lexA_get rfl ?_
       try go_frame
       go_wp2_with fail
       refine (addRec_any [.slice A3 x0.secs.length c3, .slice B3 x0.cache.length f3, .int .i64 x0.fuse, .bool x0.down] x0 ⟨rk, rn, ro, rt⟩ V3 T3.out HF.out HK.out (Keeps.keeps (F := Given) (S.later (HB0.out ▸ HV)).out.1.1.1 HG.out) HRS.out).mono ?_
       rw [HP.out]
       rintro e V4 ⟨cs4, fp4, rfl, o4, hb⟩
       obtain ⟨A4, c4, B4, f4, rfl⟩ := disk_own_shape o4
       have HLT := Lib.hid (show ∀ a, a ∈ fp4 → V3.heap.size ≤ a ∧ a < V4.heap.size from fun a ha => Rep.lt diskR o4 a ha)
       have HBV : B0 ≤ V3.heap.size := by have := HV.size; have := HB0.out; omega
       have HEF := Lib.hid (show E ∉ fp4 from fun hm => by have := HLT.out _ hm; have := (Array.getElem?_eq_some_iff.1 hE.out).1; omega)
       have O4 : All (fun w' => diskR.own w' V3.heap.size [.slice A4 dw.secs.length c4, .slice B4 dw.cache.length f4, .int .i64 dw.fuse, .bool dw.down] dw fp4) V4 := ⟨o4⟩
       replace HV := HV.trans (hb.mono (by have := HV.size; have := HB0.out; omega))
       replace T3 := T3.later hb
       replace hE := hE.later hb
       clear hb o4
       go_wp2_with fail
       refine ⟨by first | exact ⟨(S.later (HB0.out ▸ HV)).out.1.1.2.1.out, (S.later (HB0.out ▸ HV)).out.1.1.2.2.1.out⟩ | exact fun _ => ⟨(S.later (HB0.out ▸ HV)).out.1.1.2.1.out, (S.later (HB0.out ▸ HV)).out.1.1.2.2.1.out⟩, ?_⟩
       refine wpAnyL_reads [5, 6, 7] (fuel := 2) (by kernel_rfl) ⟨(S.later (HB0.out ▸ HV)).out.1.1.2.1.out, (S.later (HB0.out ▸ HV)).out.1.1.2.2.1.out⟩ ?_
       iterate 3 (refine LexR.cons rfl ?_ (fun w' hw => ?_) ?_; rotate_left; focus (clear hw; go_simp; (try exact rfl)); (try go_frame))
       refine LexR.nil (wpAnyL_writes [9, 10] (by kernel_rfl) (LexW.cons rfl ?_))
       try go_frame
       obtain ⟨z0, z1, z2, z3⟩ := disk4 hE.out
       have zf0 := var_frozen hE.out 0
       have zf1 := var_frozen hE.out 1
       have zf2 := var_frozen hE.out 2
       have zf3 := var_frozen hE.out 3
       have hEl := (Array.getElem?_eq_some_iff.1 hE.out).1
       have hw := putD_only V4 E (.slice A4 dw.secs.length c4) (.slice B4 dw.cache.length f4) (.int .i64 dw.fuse) (.bool dw.down)
       have HBX := Lib.hid (setD_box hE.out (.slice A4 dw.secs.length c4) (.slice B4 dw.cache.length f4) (.int .i64 dw.fuse) (.bool dw.down))
       have HOX := Lib.hid (Rep.own_only O4.out hw (fun a ha hb => HEF.out (by simp at hb; subst hb; exact ha)))
       replace HV := Rep.Only.below HV hw (by have := HV.size; have := HB0.out; omega) (fun a ha => by simp at ha; omega)
       clear hE hw O4 T3
       go_wp2_with fail
       generalize ((((V4.setCell ⟨E, 0, none⟩ (.slice A4 dw.secs.length c4)).setCell ⟨E, 1, none⟩ (.slice B4 dw.cache.length f4)).setCell ⟨E, 2, none⟩ (.int .i64 dw.fuse)).setCell ⟨E, 3, none⟩ (.bool dw.down)) = VZ at HV HBX HOX ⊢
       clear z0 z1 z2 z3 zf0 zf1 zf2 zf3 hEl
       refine ⟨by first | exact ⟨(S.later (HB0.out ▸ HV)).out.1.1.2.1.out, (S.later (HB0.out ▸ HV)).out.1.1.2.2.1.out⟩ | exact fun _ => ⟨(S.later (HB0.out ▸ HV)).out.1.1.2.1.out, (S.later (HB0.out ▸ HV)).out.1.1.2.2.1.out⟩, LexW.cons rfl ?_⟩
       try go_frame
       go_wp2_with fail
       refine ⟨by first | exact ⟨(S.later (HB0.out ▸ HV)).out.1.1.2.1.out, (S.later (HB0.out ▸ HV)).out.1.1.2.2.1.out⟩ | exact fun _ => ⟨(S.later (HB0.out ▸ HV)).out.1.1.2.1.out, (S.later (HB0.out ▸ HV)).out.1.1.2.2.1.out⟩, LexW.nil (hK _ _ (Met.intro (hJ _ _ ?_)))⟩
       (repeat apply Exists.intro)
       refine ⟨?_, rfl⟩
       exact ⟨E, A4, c4, B4, f4, V3.heap.size, fp4, rfl, rfl, S.later (HB0.out ▸ HV), HBX, HOX⟩
     ·skip
      refine lexA_get rfl ?_
      try go_frame
      go_wp2_with fail
      have hE : All (fun w' => w'.heap[V1.heap.size]? = some (.cells [.slice none 0 0, .slice none 0 0, .int .i64 0, .bool false].toArray 27 (0, 0))) (V1.alloc (.cells #[.slice none 0 0, .slice none 0 0, .int .i64 0, .bool false] 27)) := ⟨heap_alloc_new V1 _⟩
      have hEV : B0 ≤ V1.heap.size := by have := HV.size; have := HB0.out; omega
      replace HV := HV.alloc hEV (.cells #[.slice none 0 0, .slice none 0 0, .int .i64 0, .bool false] 27)
      replace T3 := T3.alloc (.cells #[.slice none 0 0, .slice none 0 0, .int .i64 0, .bool false] 27)
      generalize V1.alloc (.cells #[.slice none 0 0, .slice none 0 0, .int .i64 0, .bool false] 27) = V2 at HV hE T3 ⊢
      generalize V1.heap.size = E at hE hEV ⊢
      refine ⟨by first | exact ⟨(S.later (HB0.out ▸ HV)).out.1.1.2.1.out, (S.later (HB0.out ▸ HV)).out.1.1.2.2.1.out⟩ | exact fun _ => ⟨(S.later (HB0.out ▸ HV)).out.1.1.2.1.out, (S.later (HB0.out ▸ HV)).out.1.1.2.2.1.out⟩, ?_⟩
      refine wpAnyL_one (i := 3) (by kernel_rfl) ?_
      refine lexA_get rfl ?_
      try go_frame
      go_wp2_with fail
      refine (toRec_any ⟨rk, rn, ro, rt⟩ V2).mono ?_
      rintro e V3 ⟨rfl, hb⟩
      replace HV := HV.trans (hb.mono (by have := HV.size; have := HB0.out; omega))
      replace T3 := T3.later hb
      replace hE := hE.later hb
      clear hb
      go_wp2_with fail
      refine ⟨by first | exact ⟨(S.later (HB0.out ▸ HV)).out.1.1.2.1.out, (S.later (HB0.out ▸ HV)).out.1.1.2.2.1.out⟩ | exact fun _ => ⟨(S.later (HB0.out ▸ HV)).out.1.1.2.1.out, (S.later (HB0.out ▸ HV)).out.1.1.2.2.1.out⟩, ?_⟩
      refine wpAnyL_one (i := 4) (by kernel_rfl) ?_
      refine lexA_get rfl ?_
      try go_frame
      go_wp2_with fail
      refine (addRec_any [.slice A3 x0.secs.length c3, .slice B3 x0.cache.length f3, .int .i64 x0.fuse, .bool x0.down] x0 ⟨rk, rn, ro, rt⟩ V3 T3.out HF.out HK.out (Keeps.keeps (F := Given) (S.later (HB0.out ▸ HV)).out.1.1.1 HG.out) HRS.out).mono ?_
      rw [HP.out]
      rintro e V4 ⟨cs4, fp4, rfl, o4, hb⟩
      obtain ⟨A4, c4, B4, f4, rfl⟩ := disk_own_shape o4
      have HLT := Lib.hid (show ∀ a, a ∈ fp4 → V3.heap.size ≤ a ∧ a < V4.heap.size from fun a ha => Rep.lt diskR o4 a ha)
      have HBV : B0 ≤ V3.heap.size := by have := HV.size; have := HB0.out; omega
      have HEF := Lib.hid (show E ∉ fp4 from fun hm => by have := HLT.out _ hm; have := (Array.getElem?_eq_some_iff.1 hE.out).1; omega)
      have O4 : All (fun w' => diskR.own w' V3.heap.size [.slice A4 dw.secs.length c4, .slice B4 dw.cache.length f4, .int .i64 dw.fuse, .bool dw.down] dw fp4) V4 := ⟨o4⟩
      replace HV := HV.trans (hb.mono (by have := HV.size; have := HB0.out; omega))
      replace T3 := T3.later hb
      replace hE := hE.later hb
      clear hb o4
      go_wp2_with fail
      refine ⟨by first | exact ⟨(S.later (HB0.out ▸ HV)).out.1.1.2.1.out, (S.later (HB0.out ▸ HV)).out.1.1.2.2.1.out⟩ | exact fun _ => ⟨(S.later (HB0.out ▸ HV)).out.1.1.2.1.out, (S.later (HB0.out ▸ HV)).out.1.1.2.2.1.out⟩, ?_⟩
      refine wpAnyL_reads [5, 6, 7] (fuel := 2) (by kernel_rfl) ⟨(S.later (HB0.out ▸ HV)).out.1.1.2.1.out, (S.later (HB0.out ▸ HV)).out.1.1.2.2.1.out⟩ ?_
      iterate 3 (refine LexR.cons rfl ?_ (fun w' hw => ?_) ?_; rotate_left; focus (clear hw; go_simp; (try exact rfl)); (try go_frame))
      refine LexR.nil (wpAnyL_writes [9, 10] (by kernel_rfl) (LexW.cons rfl ?_))
      try go_frame
      obtain ⟨z0, z1, z2, z3⟩ := disk4 hE.out
      have zf0 := var_frozen hE.out 0
      have zf1 := var_frozen hE.out 1
      have zf2 := var_frozen hE.out 2
      have zf3 := var_frozen hE.out 3
      have hEl := (Array.getElem?_eq_some_iff.1 hE.out).1
      have hw := putD_only V4 E (.slice A4 dw.secs.length c4) (.slice B4 dw.cache.length f4) (.int .i64 dw.fuse) (.bool dw.down)
      have HBX := Lib.hid (setD_box hE.out (.slice A4 dw.secs.length c4) (.slice B4 dw.cache.length f4) (.int .i64 dw.fuse) (.bool dw.down))
      have HOX := Lib.hid (Rep.own_only O4.out hw (fun a ha hb => HEF.out (by simp at hb; subst hb; exact ha)))
      replace HV := Rep.Only.below HV hw (by have := HV.size; have := HB0.out; omega) (fun a ha => by simp at ha; omega)
      clear hE hw O4 T3
      go_wp2_with fail
      generalize ((((V4.setCell ⟨E, 0, none⟩ (.slice A4 dw.secs.length c4)).setCell ⟨E, 1, none⟩ (.slice B4 dw.cache.length f4)).setCell ⟨E, 2, none⟩ (.int .i64 dw.fuse)).setCell ⟨E, 3, none⟩ (.bool dw.down)) = VZ at HV HBX HOX ⊢
      clear z0 z1 z2 z3 zf0 zf1 zf2 zf3 hEl
      refine ⟨by first | exact ⟨(S.later (HB0.out ▸ HV)).out.1.1.2.1.out, (S.later (HB0.out ▸ HV)).out.1.1.2.2.1.out⟩ | exact fun _ => ⟨(S.later (HB0.out ▸ HV)).out.1.1.2.1.out, (S.later (HB0.out ▸ HV)).out.1.1.2.2.1.out⟩, LexW.cons rfl ?_⟩
      try go_frame
      go_wp2_with fail
      refine ⟨by first | exact ⟨(S.later (HB0.out ▸ HV)).out.1.1.2.1.out, (S.later (HB0.out ▸ HV)).out.1.1.2.2.1.out⟩ | exact fun _ => ⟨(S.later (HB0.out ▸ HV)).out.1.1.2.1.out, (S.later (HB0.out ▸ HV)).out.1.1.2.2.1.out⟩, LexW.nil (hK _ _ (Met.intro (hJ _ _ ?_)))⟩
      (repeat apply Exists.intro)
      refine ⟨?_, rfl⟩
      exact ⟨E, A4, c4, B4, f4, V3.heap.size, fp4, rfl, rfl, S.later (HB0.out ▸ HV), HBX, HOX⟩
    ·skip
     refine lexA_get rfl ?_
     try go_frame
     go_wp2_with fail
     have hE : All (fun w' => w'.heap[V0.heap.size]? = some (.cells [.slice none 0 0, .slice none 0 0, .int .i64 0, .bool false].toArray 27 (0, 0))) (V0.alloc (.cells #[.slice none 0 0, .slice none 0 0, .int .i64 0, .bool false] 27)) := ⟨heap_alloc_new V0 _⟩
     have hEV : B0 ≤ V0.heap.size := by have := HV.size; have := HB0.out; omega
     replace HV := HV.alloc hEV (.cells #[.slice none 0 0, .slice none 0 0, .int .i64 0, .bool false] 27)
     generalize V0.alloc (.cells #[.slice none 0 0, .slice none 0 0, .int .i64 0, .bool false] 27) = V1 at HV hE ⊢
     generalize V0.heap.size = E at hE hEV ⊢
     refine ⟨by first | exact ⟨(S.later (HB0.out ▸ HV)).out.1.1.2.1.out, (S.later (HB0.out ▸ HV)).out.1.1.2.2.1.out⟩ | exact fun _ => ⟨(S.later (HB0.out ▸ HV)).out.1.1.2.1.out, (S.later (HB0.out ▸ HV)).out.1.1.2.2.1.out⟩, ?_⟩
     refine wpAnyL_one (i := 1) (by kernel_rfl) ?_
     refine lexA_get rfl ?_
     try go_frame
     go_wp2_with fail
     refine (toDisk_rep [.slice A x0.secs.length c, .slice B x0.cache.length f, .int .i64 x0.fuse, .bool x0.down] x0 V1 (S.later (HB0.out ▸ HV)).out.1.1.2.2.2.out HF.out).mono ?_
     rintro e V2 ⟨cs3, fp3, rfl, O3, hb⟩
     obtain ⟨A3, c3, B3, f3, rfl⟩ := disk_own_shape O3
     have T3 : All (fun w' => diskR.at_ w' w'.heap.size [.slice A3 x0.secs.length c3, .slice B3 x0.cache.length f3, .int .i64 x0.fuse, .bool x0.down] x0) V2 := ⟨Rep.reads diskR O3⟩
     replace HV := HV.trans (hb.mono (by have := HV.size; have := HB0.out; omega))
     replace hE := hE.later hb
     clear hb O3
     go_wp2_with fail
     refine ⟨by first | exact ⟨(S.later (HB0.out ▸ HV)).out.1.1.2.1.out, (S.later (HB0.out ▸ HV)).out.1.1.2.2.1.out⟩ | exact fun _ => ⟨(S.later (HB0.out ▸ HV)).out.1.1.2.1.out, (S.later (HB0.out ▸ HV)).out.1.1.2.2.1.out⟩, ?_⟩
     refine wpAnyL_one (i := 3) (by kernel_rfl) ?_
     refine lexA_get rfl ?_
     try go_frame
     go_wp2_with fail
     refine (toRec_any ⟨rk, rn, ro, rt⟩ V2).mono ?_
     rintro e V3 ⟨rfl, hb⟩
     replace HV := HV.trans (hb.mono (by have := HV.size; have := HB0.out; omega))
     replace T3 := T3.later hb
     replace hE := hE.later hb
     clear hb
     go_wp2_with fail
     refine ⟨by first | exact ⟨(S.later (HB0.out ▸ HV)).out.1.1.2.1.out, (S.later (HB0.out ▸ HV)).out.1.1.2.2.1.out⟩ | exact fun _ => ⟨(S.later (HB0.out ▸ HV)).out.1.1.2.1.out, (S.later (HB0.out ▸ HV)).out.1.1.2.2.1.out⟩, ?_⟩
     refine wpAnyL_one (i := 4) (by kernel_rfl) ?_
     refine lexA_get rfl ?_
     try go_frame
     go_wp2_with fail
     refine (addRec_any [.slice A3 x0.secs.length c3, .slice B3 x0.cache.length f3, .int .i64 x0.fuse, .bool x0.down] x0 ⟨rk, rn, ro, rt⟩ V3 T3.out HF.out HK.out (Keeps.keeps (F := Given) (S.later (HB0.out ▸ HV)).out.1.1.1 HG.out) HRS.out).mono ?_
     rw [HP.out]
     rintro e V4 ⟨cs4, fp4, rfl, o4, hb⟩
     obtain ⟨A4, c4, B4, f4, rfl⟩ := disk_own_shape o4
     have HLT := Lib.hid (show ∀ a, a ∈ fp4 → V3.heap.size ≤ a ∧ a < V4.heap.size from fun a ha => Rep.lt diskR o4 a ha)
     have HBV : B0 ≤ V3.heap.size := by have := HV.size; have := HB0.out; omega
     have HEF := Lib.hid (show E ∉ fp4 from fun hm => by have := HLT.out _ hm; have := (Array.getElem?_eq_some_iff.1 hE.out).1; omega)
     have O4 : All (fun w' => diskR.own w' V3.heap.size [.slice A4 dw.secs.length c4, .slice B4 dw.cache.length f4, .int .i64 dw.fuse, .bool dw.down] dw fp4) V4 := ⟨o4⟩
     replace HV := HV.trans (hb.mono (by have := HV.size; have := HB0.out; omega))
     replace T3 := T3.later hb
     replace hE := hE.later hb
     clear hb o4
     go_wp2_with fail
     refine ⟨by first | exact ⟨(S.later (HB0.out ▸ HV)).out.1.1.2.1.out, (S.later (HB0.out ▸ HV)).out.1.1.2.2.1.out⟩ | exact fun _ => ⟨(S.later (HB0.out ▸ HV)).out.1.1.2.1.out, (S.later (HB0.out ▸ HV)).out.1.1.2.2.1.out⟩, ?_⟩
     refine wpAnyL_reads [5, 6, 7] (fuel := 2) (by kernel_rfl) ⟨(S.later (HB0.out ▸ HV)).out.1.1.2.1.out, (S.later (HB0.out ▸ HV)).out.1.1.2.2.1.out⟩ ?_
     iterate 3 (refine LexR.cons rfl ?_ (fun w' hw => ?_) ?_; rotate_left; focus (clear hw; go_simp; (try exact rfl)); (try go_frame))
     refine LexR.nil (wpAnyL_writes [9, 10] (by kernel_rfl) (LexW.cons rfl ?_))
     try go_frame
     obtain ⟨z0, z1, z2, z3⟩ := disk4 hE.out
     have zf0 := var_frozen hE.out 0
     have zf1 := var_frozen hE.out 1
     have zf2 := var_frozen hE.out 2
     have zf3 := var_frozen hE.out 3
     have hEl := (Array.getElem?_eq_some_iff.1 hE.out).1
     have hw := putD_only V4 E (.slice A4 dw.secs.length c4) (.slice B4 dw.cache.length f4) (.int .i64 dw.fuse) (.bool dw.down)
     have HBX := Lib.hid (setD_box hE.out (.slice A4 dw.secs.length c4) (.slice B4 dw.cache.length f4) (.int .i64 dw.fuse) (.bool dw.down))
     have HOX := Lib.hid (Rep.own_only O4.out hw (fun a ha hb => HEF.out (by simp at hb; subst hb; exact ha)))
     replace HV := Rep.Only.below HV hw (by have := HV.size; have := HB0.out; omega) (fun a ha => by simp at ha; omega)
     clear hE hw O4 T3
     go_wp2_with fail
     generalize ((((V4.setCell ⟨E, 0, none⟩ (.slice A4 dw.secs.length c4)).setCell ⟨E, 1, none⟩ (.slice B4 dw.cache.length f4)).setCell ⟨E, 2, none⟩ (.int .i64 dw.fuse)).setCell ⟨E, 3, none⟩ (.bool dw.down)) = VZ at HV HBX HOX ⊢
     clear z0 z1 z2 z3 zf0 zf1 zf2 zf3 hEl
     refine ⟨by first | exact ⟨(S.later (HB0.out ▸ HV)).out.1.1.2.1.out, (S.later (HB0.out ▸ HV)).out.1.1.2.2.1.out⟩ | exact fun _ => ⟨(S.later (HB0.out ▸ HV)).out.1.1.2.1.out, (S.later (HB0.out ▸ HV)).out.1.1.2.2.1.out⟩, LexW.cons rfl ?_⟩
     try go_frame
     go_wp2_with fail
     refine ⟨by first | exact ⟨(S.later (HB0.out ▸ HV)).out.1.1.2.1.out, (S.later (HB0.out ▸ HV)).out.1.1.2.2.1.out⟩ | exact fun _ => ⟨(S.later (HB0.out ▸ HV)).out.1.1.2.1.out, (S.later (HB0.out ▸ HV)).out.1.1.2.2.1.out⟩, LexW.nil (hK _ _ (Met.intro (hJ _ _ ?_)))⟩
     (repeat apply Exists.intro)
     refine ⟨?_, rfl⟩
     exact ⟨E, A4, c4, B4, f4, V3.heap.size, fp4, rfl, rfl, S.later (HB0.out ▸ HV), HBX, HOX⟩
   case rest =>
    clear S hs12
    obtain ⟨DH, Ah, ch, Bh, fh, bh, fph, rfl, rfl, S, hHB, hHO⟩ := hcut
    replace S : All (fun w' => ((Below w.heap.size w w' ∧ Hid (w'.heap[w.heap.size]? = some (.cells [.slice A x0.secs.length c, .slice B x0.cache.length f, .int .i64 x0.fuse, .bool x0.down].toArray 50 (0, 0))) ∧ Hid (w'.heap[w.heap.size + 1]? = some (.cells (recC ⟨rk, rn, ro, rt⟩).toArray 59 (0, 0))) ∧ Hid (diskR.at_ w' w'.heap.size [.slice A x0.secs.length c, .slice B x0.cache.length f, .int .i64 x0.fuse, .bool x0.down] x0)) ∧ Hid (w'.heap[DW]? = some (.cells [.slice Aw dw.secs.length cw, .slice Bw dw.cache.length fw, .int .i64 dw.fuse, .bool dw.down].toArray 27 (0, 0))) ∧ Hid (diskR.own w' bw [.slice Aw dw.secs.length cw, .slice Bw dw.cache.length fw, .int .i64 dw.fuse, .bool dw.down] dw fpw)) ∧ Hid (w'.heap[DG]? = some (.cells [.slice Ag dw.secs.length cg, .slice Bg dw.cache.length fg, .int .i64 dw.fuse, .bool dw.down].toArray 27 (0, 0))) ∧ Hid (diskR.own w' bg [.slice Ag dw.secs.length cg, .slice Bg dw.cache.length fg, .int .i64 dw.fuse, .bool dw.down] (markD 1 dw) fpg)) wc := S
    obtain ⟨u0, u1, u2, u3⟩ := disk4 hHB.out
    obtain ⟨v0, v1, v2, v3⟩ := disk4 S.out.1.2.1.out
    go_wp2_with fail
    clear u0 u1 u2 u3 v0 v1 v2 v3
    refine (eqDisk_same [.slice Ah dw.secs.length ch, .slice Bh dw.cache.length fh, .int .i64 dw.fuse, .bool dw.down] [.slice Aw dw.secs.length cw, .slice Bw dw.cache.length fw, .int .i64 dw.fuse, .bool dw.down] dw wc (Rep.reads diskR hHO.out) (Rep.reads diskR S.out.1.2.2.out) HFW.out).mono ?_
    rintro e13 W13 ⟨rfl, hb⟩
    replace S := S.later hb
    clear hb hHB hHO
    obtain ⟨u0, u1, u2, u3⟩ := disk4 S.out.2.1.out
    go_wp2_with fail
    clear u0 u1 u2 u3
    refine (heldDisk_any [.slice Ag dw.secs.length cg, .slice Bg dw.cache.length fg, .int .i64 dw.fuse, .bool dw.down] 1 dw W13 (Rep.reads diskR S.out.2.2.out) HFW.out (by omega)).mono ?_
    rintro e14 W14 ⟨rfl, hb⟩
    replace S := S.later hb
    have hfin := S.out.1.1.1
    clear hb S
    go_wp2_with fail
    go_ret
    exact ⟨rfl, hfin⟩
theorem walk_FnExactAddRec (w : World) (cs0 : List Value) (x0 : Disk) (w0 : diskR.at_ w w.heap.size cs0 x0) (k0 : OkDisk x0) (cs1 : List Value) (x1 : Rec) (w1 : recR.at_ w w.heap.size cs1 x1) (k1 : OkRec x1) (hg : Given w) :
  Calls Tryz.prog 7 #[.agg cs0.toArray, .agg cs1.toArray] w fun e w' => e = .returned (.bool true) ∧ Below w.heap.size w w' :=
 walkh_FnExactAddRec w cs0 x0 w0 k0 cs1 x1 w1 k1 hg addRec_any
end Go.Proofs.YtoaaogacaibedaaGreatDoor
