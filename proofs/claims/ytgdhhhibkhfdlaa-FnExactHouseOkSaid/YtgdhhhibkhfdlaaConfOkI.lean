/- ConfOk of the program. ConfOk of the program. -/
import Derived.Test.YtgdhhhibkhfdlaaConfAt
import Derived.Test.YtgdhhhibkhfdlaaName
import Derived.Test.YtgdhhhibkhfdlaaLex
import Derived.Laws.RangeAny
import Derived.Maps.RangeWalk
import Derived.WalkSpells
namespace Go.Proofs.Ytgdhhhibkhfdlaa
open Go.RowKit
set_option linter.unusedVariables false

theorem Rep.RowsAt.take {α : Type} {R : Rep α} {w : World} {B n k : Nat} {A : Option Addr} {xs : List α} (h : Rep.RowsAt R w B A n xs) (hk : k ≤ n) : Rep.RowsAt R w B A (xs.take k).length (xs.take k) := by
  obtain ⟨hl, cells, hr, he⟩ := h
  have hkl : (xs.take k).length = k := by rw [List.length_take]; omega
  have hlen := hr.1
  have h1 : k * R.size ≤ n * R.size := Nat.mul_le_mul_right _ hk
  refine ⟨rfl, cells.take (k * R.size), ⟨?_, ?_⟩, ?_⟩
  · rw [hkl, List.length_take]
    omega
  · intro hn
    rw [hkl] at hn
    obtain ⟨ad, hA, hb, hc⟩ := hr.2 (by omega)
    refine ⟨ad, hA, hb, fun j u hu => hc j u ?_⟩
    rw [List.getElem?_take] at hu
    split at hu
    · exact hu
    · cases hu
  · intro i x hx
    have hi : i < k := by have := (List.getElem?_eq_some_iff.1 hx).1; omega
    rw [List.getElem?_take, if_pos hi] at hx
    have h2 := he i x hx
    have h3 : (i + 1) * R.size ≤ k * R.size := Nat.mul_le_mul_right _ hi
    rw [Nat.add_mul, Nat.one_mul] at h3
    have : Rep.seg R.size i (cells.take (k * R.size)) = Rep.seg R.size i cells := by
      apply List.ext_getElem?
      intro j
      by_cases hj : j < R.size
      · rw [Rep.seg_get hj, Rep.seg_get hj, List.getElem?_take, if_pos (by omega)]
      · rw [List.getElem?_eq_none (by unfold Rep.seg; rw [List.length_take]; omega), List.getElem?_eq_none (by unfold Rep.seg; rw [List.length_take]; omega)]
    rw [this]
    exact h2


set_option maxHeartbeats 2000000 in
theorem dbOk_b (d : Db) (w : World) (hd : d.name.size ≤ 1048576) : Calls Try.prog 197 #[.agg (dbC d).toArray] w (RetBool w (dbB d)) := by
  obtain ⟨b0, h0⟩ : ∃ b, nameB d.name.data.toList = b := ⟨_, rfl⟩
  obtain ⟨b1, h1⟩ : ∃ b, inI d.size 1 3 = b := ⟨_, rfl⟩
  obtain ⟨b2, h2⟩ : ∃ b, inI d.queue 0 4 = b := ⟨_, rfl⟩
  obtain ⟨b3, h3⟩ : ∃ b, inI d.wait 1 20 = b := ⟨_, rfl⟩
  obtain ⟨b4, h4⟩ : ∃ b, inI d.idle 1 20 = b := ⟨_, rfl⟩
  have HC := Lib.hid (show dbB d = (b0 && b1 && b2 && b3 && b4) by unfold dbB; rw [h0, h1, h2, h3, h4])
  unfold dbC RetBool
  cases b0
  rotate_left
  cases b1
  rotate_left
  cases b2
  rotate_left
  cases b3
  rotate_left
  cases b4
  all_goals
    go_enter Try.func197, Try.ntmps197
    go_wp2_with fail
    refine (nameOk_b h0 _ hd).mono ?_
    rintro e w2 ⟨rfl, hb2⟩
    obtain ⟨hc, hf⟩ := bcell hb2
    have hz : w.heap.size < w2.heap.size := by have := hb2.size; simp at this; omega
    go_wp2_with (first
      | (go_at_call 85; refine (within_b (by assumption) _).mono ?_; rintro e w' ⟨rfl, rfl⟩))
    go_ret
    exact ⟨by rw [HC.out]; simp, ((Below.refl _ _).alloc (Nat.le_refl _) _).trans (hb2.mono (by simp))⟩

end Go.Proofs.Ytgdhhhibkhfdlaa

namespace Go.Proofs.Ytgdhhhibkhfdlaa
open Go.RowKit
set_option linter.unusedVariables false

theorem slice_upto {P : Program} {t e : TypeId} {i : TypeInfo} (ht : P.underlying t = some (.slice e)) (hi : P.info? e = some i)
    (b off n c k : Nat) (h2 : k ≤ c) (h3 : 0 < c) (w : World) :
    (Instr.slice t (.slice (some ⟨b, off, none⟩) n c) none (some (.int .i64 (k : Int))) none).run P w = .ok (.slice (some ⟨b, off, none⟩) k c) w := by
  have a1 : (0 : Int) ≤ k := by omega
  have a2 : (k : Int) ≤ c := by omega
  have hz := sizeOf_run (P := P) (e := e) w hi
  simp [Instr.slice, run_underlying ht, Instr.sliceBounds, Instr.sliceBound, asIntOf, h2, hz, go_sem, Addr.add]

theorem put5_only (w : World) (D : Nat) (a b c d e : Value) : Rep.Only w (((((w.setCell ⟨D, 0, none⟩ a).setCell ⟨D, 1, none⟩ b).setCell ⟨D, 2, none⟩ c).setCell ⟨D, 3, none⟩ d).setCell ⟨D, 4, none⟩ e) [D] :=
  ((((Rep.Only.setCell w (by simp) _).trans (Rep.Only.setCell _ (by simp) _)).trans (Rep.Only.setCell _ (by simp) _)).trans (Rep.Only.setCell _ (by simp) _)).trans (Rep.Only.setCell _ (by simp) _)

set_option maxRecDepth 100000 in
set_option maxHeartbeats 4000000 in
theorem confOk_any (A : Option Addr) (c : Nat) (xs : List Db) (w : World) (h : Rep.RowsAt dbR w w.heap.size A xs.length xs) (hc : xs.length ≤ c) (hf : FitsDbs xs) :
    Calls Try.prog 175 #[.slice A xs.length c] w (RetBool w (confB xs)) := by
  have hn := hf.1
  have HF := Lib.hid hf.2
  obtain ⟨i0, hi0, _, _, _⟩ := info_parts Try.infoDb
  have HI := Lib.hid hi0
  clear hf hi0
  unfold RetBool
  obtain ⟨y0, hy0⟩ : ∃ y, inI (xs.length : Int) 1 3 = y := ⟨_, rfl⟩
  cases y0
  · have HE := Lib.hid (show confB xs = false from conf_bad_len fun h => by unfold inI at hy0; exact of_decide_eq_false hy0 (by omega))
    go_enter Try.func175, Try.ntmps175
    go_wp2_with (go_at_call 85; refine (within_b hy0 _).mono ?_; rintro e w' ⟨rfl, rfl⟩)
    go_ret
    exact ⟨by rw [HE.out]; rfl, Below.refl _ _⟩
  · have hlen : 1 ≤ xs.length ∧ xs.length ≤ 3 := by unfold inI at hy0; have := of_decide_eq_true hy0; omega
    obtain ⟨l1, l2⟩ := hlen
    go_enter Try.func175, Try.ntmps175
    go_wp2_with (go_at_call 85; refine (within_b hy0 _).mono ?_; rintro e w' ⟨rfl, rfl⟩)
    clear hy0
    go_loopw [13] (fun i wr => ∃ k : Nat, k ≤ xs.length ∧ i = .int .i64 k ∧ Hid (ConfTo xs k) ∧ Below w.heap.size w wr) (fun i _ => xs.length - (intOf i).toNat)
    case atStart => exact ⟨0, by omega, rfl, Lib.hid (ConfTo.zero xs), Below.refl _ _⟩
    case round =>
      obtain ⟨k, hk, rfl, hto, hb⟩ := hrel
      by_cases hlt : k < xs.length
      · obtain ⟨b, off, x, rfl, hbl, hx, c0, c1, c2, c3, c4⟩ := db_elem (h.keep fun p hp => hb.cell hp) hlt
        have HX := Lib.hid hx
        have hxs := HF.out x (List.mem_of_getElem? hx)
        clear hx
        have i1 : (0 : Int) ≤ (k : Int) := by omega
        have i2 : (k : Int) < (xs.length : Int) := by omega
        go_wp2_with fail
        have hb1 := hb.alloc hb.size (.cells #[.string x.name, .int .i64 x.size, .int .i64 x.queue, .int .i64 x.wait, .int .i64 x.idle] 81)
        have hv := heap_alloc_new wr (.cells #[.string x.name, .int .i64 x.size, .int .i64 x.queue, .int .i64 x.wait, .int .i64 x.idle] 81)
        have hs : wr.heap.size + 1 ≤ (wr.alloc (.cells #[.string x.name, .int .i64 x.size, .int .i64 x.queue, .int .i64 x.wait, .int .i64 x.idle] 81)).heap.size := by simp
        generalize hgW : wr.alloc (.cells #[.string x.name, .int .i64 x.size, .int .i64 x.queue, .int .i64 x.wait, .int .i64 x.idle] 81) = W1 at hb1 hv hs ⊢
        clear hgW c0 c1 c2 c3 c4 hb
        have hD : wr.heap.size < W1.heap.size := by omega
        clear hs
        generalize wr.heap.size = D at hv hD ⊢
        have S : All (fun w' => (Below w.heap.size w w' ∧ D < w'.heap.size) ∧ Hid (w'.heap[D]? = some (.cells #[.string x.name, .int .i64 x.size, .int .i64 x.queue, .int .i64 x.wait, .int .i64 x.idle] 81 (0, 0)))) W1 := ⟨⟨hb1, hD⟩, Lib.hid hv⟩
        clear hb1 hv hD
        have hsl := slice_upto (P := Try.prog) Try.underlying64 HI.out b off xs.length c k (by omega) (by omega)
        have HT := Lib.hid (h.take hk)
        have hkl : (xs.take k).length = k := by rw [List.length_take]; omega
        have HK := Lib.hid hkl
        obtain ⟨p, hp⟩ : ∃ p, dbAt (xs.take k) x.name = p := ⟨_, rfl⟩
        have HP := Lib.hid hp
        clear hkl hp
        refine wp_region_open 100 (fun w' => w'.cell? ⟨D, 0, none⟩ = some (.string x.name)) (by kernel_rfl) ?_
        refine wpAnyL_reads [0, 1, 2, 3, 4] (fuel := 7) (by kernel_rfl) (var_cell S.out.2.out 0) ?_
        iterate 5 (refine LexR.cons rfl ?_ (fun w' hw => ?_) ?_; rotate_left; focus (go_simp; (try exact rfl)); (try go_frame))
        refine LexR.nil ?_
        clear hsl
        refine wpAnyL_two (i := 5) (j := 9) (by kernel_rfl) ?_ ?_
        · refine lexA_get rfl ?_
          try go_frame
          go_wp2_with fail
          have C := dbAt_any (some ⟨b, off, none⟩) c (xs.take k) x.name W1.drew ((HT.out.keep fun p hp => S.drew.out.1.1.cell hp).more S.drew.out.1.1.size) (by rw [HK.out]; omega)
          rw [HK.out, HP.out] at C
          refine C.mono ?_
          clear C
          rintro e W2 ⟨rfl, hb2⟩
          replace S := S.drew.later hb2
          clear hb2
          unfold dbC
          go_wp2_with fail
          refine ⟨fun _ => var_cell S.out.2.out 0, ?_⟩
          refine wpAnyL_reads [6, 7, 8] (fuel := 3) (by kernel_rfl) (var_cell S.out.2.out 0) ?_
          iterate 3 (refine LexR.cons rfl ?_ (fun w' hw => ?_) ?_; rotate_left; focus (go_simp; (try exact rfl)); (try go_frame))
          refine LexR.nil ?_
          refine wpAnyL_writes [9, 10, 11] (by kernel_rfl) (LexW.cons rfl ?_)
          have hzD := S.out.1.2
          have S3 := S.alloc (.cells #[.string ⟨#[]⟩, .int .i64 0, .int .i64 0, .int .i64 0, .int .i64 0] 81)
          try go_frame
          go_wp2_with fail
          refine ⟨fun _ => var_cell S3.out.2.out 0, LexW.cons rfl ?_⟩
          try go_frame
          go_wp2_with fail
          have S4 := S.alloc (.cells #[.string p.1.name, .int .i64 p.1.size, .int .i64 p.1.queue, .int .i64 p.1.wait, .int .i64 p.1.idle] 81)
          generalize hgW : W2.alloc (.cells #[.string p.1.name, .int .i64 p.1.size, .int .i64 p.1.queue, .int .i64 p.1.wait, .int .i64 p.1.idle] 81) = W3 at S4 ⊢
          clear hgW S S3
          have S := S4
          clear S4
          refine ⟨fun _ => var_cell S.out.2.out 0, LexW.cons rfl ?_⟩
          try go_frame
          go_wp2_with fail
          refine ⟨fun _ => var_cell S.out.2.out 0, LexW.nil ?_⟩
          clear hzD
          obtain ⟨d1, tw⟩ := p
          cases tw
          rotate_left
          · have HE := Lib.hid (show confB xs = false by
              obtain ⟨j, z, hz, hzn⟩ := dbAt_true (xs := xs.take k) (n := x.name) (by rw [HP.out])
              have hj : j < k := by have := (List.getElem?_eq_some_iff.1 hz).1; rw [HK.out] at this; exact this
              rw [List.getElem?_take, if_pos hj] at hz
              exact conf_bad_twice HX.out hz hj hzn)
            go_wp2_with fail
            go_ret
            exact ⟨by rw [HE.out]; rfl, S.out.1.1⟩
          · have HN := Lib.hid (show ∀ j y, j < k → xs[j]? = some y → y.name ≠ x.name from fun j y hj hy => dbAt_false (xs := xs.take k) (n := x.name) (by rw [HP.out]) j y (by rw [List.getElem?_take, if_pos hj]; exact hy))
            have e0 : W3.cell? ⟨D, 0, none⟩ = some (.string x.name) := var_cell S.out.2.out 0
            have e1 : W3.cell? ⟨D, 1, none⟩ = some (.int .i64 x.size) := var_cell S.out.2.out 1
            have e2 : W3.cell? ⟨D, 2, none⟩ = some (.int .i64 x.queue) := var_cell S.out.2.out 2
            have e3 : W3.cell? ⟨D, 3, none⟩ = some (.int .i64 x.wait) := var_cell S.out.2.out 3
            have e4 : W3.cell? ⟨D, 4, none⟩ = some (.int .i64 x.idle) := var_cell S.out.2.out 4
            have zD := S.out.1.2
            obtain ⟨y, hy⟩ : ∃ y, dbB x = y := ⟨_, rfl⟩
            have HY := Lib.hid hy
            clear hy
            go_wp2_with fail
            refine (dbOk_b x W3 hxs).mono ?_
            rintro e W9 ⟨rfl, hb9⟩
            rw [HY.out]
            replace S := S.later hb9
            clear e0 e1 e2 e3 e4 zD hb9
            cases y
            · have HE := Lib.hid (conf_bad_db HX.out HY.out)
              go_wp2_with fail
              go_ret
              exact ⟨by rw [HE.out]; rfl, S.out.1.1⟩
            · have HT2 := Lib.hid (hto.out.succ HX.out HY.out HN.out)
              go_wp2_with fail
              go_roundw
              case rel => exact ⟨k + 1, by omega, by go_num, HT2, S.out.1.1⟩
              case measure => simp [intOf]; omega
        · refine lexA_get rfl ?_
          try go_frame
          go_wp2_with fail
          have hzD := S.out.1.2
          have SA := (S.alloc (.cells #[.string ⟨#[]⟩, .int .i64 0, .int .i64 0, .int .i64 0, .int .i64 0] 81)).drew
          have hv : ((W1.alloc (.cells #[.string ⟨#[]⟩, .int .i64 0, .int .i64 0, .int .i64 0, .int .i64 0] 81)).drew).heap[W1.heap.size]? = some (.cells #[.string ⟨#[]⟩, .int .i64 0, .int .i64 0, .int .i64 0, .int .i64 0] 81 (0, 0)) := heap_alloc_new W1 _
          have hz : W1.heap.size < ((W1.alloc (.cells #[.string ⟨#[]⟩, .int .i64 0, .int .i64 0, .int .i64 0, .int .i64 0] 81)).drew).heap.size := by simp
          generalize hgW : (W1.alloc (.cells #[.string ⟨#[]⟩, .int .i64 0, .int .i64 0, .int .i64 0, .int .i64 0] 81)).drew = Wa at SA hv hz ⊢
          clear hgW
          have hEw : w.heap.size ≤ W1.heap.size := S.out.1.1.size
          clear S
          generalize W1.heap.size = E at hv hz hzD hEw ⊢
          have S : All (fun w' => ((Below w.heap.size w w' ∧ D < w'.heap.size) ∧ Hid (w'.heap[D]? = some (.cells #[.string x.name, .int .i64 x.size, .int .i64 x.queue, .int .i64 x.wait, .int .i64 x.idle] 81 (0, 0)))) ∧ E < w'.heap.size ∧ Hid (w'.heap[E]? = some (.cells #[.string ⟨#[]⟩, .int .i64 0, .int .i64 0, .int .i64 0, .int .i64 0] 81 (0, 0)))) Wa := ⟨SA.out, hz, Lib.hid hv⟩
          clear SA hv hz
          refine ⟨fun _ => var_cell S.out.1.2.out 0, ?_⟩
          refine wpAnyL_one (i := 5) (by kernel_rfl) ?_
          refine lexA_get rfl ?_
          try go_frame
          go_wp2_with fail
          have C := dbAt_any (some ⟨b, off, none⟩) c (xs.take k) x.name Wa ((HT.out.keep fun p hp => S.out.1.1.1.cell hp).more S.out.1.1.1.size) (by rw [HK.out]; omega)
          rw [HK.out, HP.out] at C
          refine C.mono ?_
          clear C
          rintro e W2 ⟨rfl, hb2⟩
          replace S := S.later hb2
          clear hb2
          unfold dbC
          go_wp2_with fail
          refine ⟨fun _ => var_cell S.out.1.2.out 0, ?_⟩
          refine wpAnyL_reads [6, 7, 8] (fuel := 2) (by kernel_rfl) (var_cell S.out.1.2.out 0) ?_
          iterate 3 (refine LexR.cons rfl ?_ (fun w' hw => ?_) ?_; rotate_left; focus (go_simp; (try exact rfl)); (try go_frame))
          refine LexR.nil ?_
          refine wpAnyL_writes [10, 11] (by kernel_rfl) (LexW.cons rfl ?_)
          have q0 : W2.cell? ⟨E, 0, none⟩ = some (.string ⟨#[]⟩) := var_cell S.out.2.2.out 0
          have q1 : W2.cell? ⟨E, 1, none⟩ = some (.int .i64 0) := var_cell S.out.2.2.out 1
          have q2 : W2.cell? ⟨E, 2, none⟩ = some (.int .i64 0) := var_cell S.out.2.2.out 2
          have q3 : W2.cell? ⟨E, 3, none⟩ = some (.int .i64 0) := var_cell S.out.2.2.out 3
          have q4 : W2.cell? ⟨E, 4, none⟩ = some (.int .i64 0) := var_cell S.out.2.2.out 4
          have f0 := var_frozen S.out.2.2.out 0
          have f1 := var_frozen S.out.2.2.out 1
          have f2 := var_frozen S.out.2.2.out 2
          have f3 := var_frozen S.out.2.2.out 3
          have f4 := var_frozen S.out.2.2.out 4
          have zE := S.out.2.1
          try go_frame
          go_wp2_with fail
          have oE := put5_only W2 E (.string p.1.name) (.int .i64 p.1.size) (.int .i64 p.1.queue) (.int .i64 p.1.wait) (.int .i64 p.1.idle)
          generalize hgW : ((((W2.setCell ⟨E, 0, none⟩ (.string p.1.name)).setCell ⟨E, 1, none⟩ (.int .i64 p.1.size)).setCell ⟨E, 2, none⟩ (.int .i64 p.1.queue)).setCell ⟨E, 3, none⟩ (.int .i64 p.1.wait)).setCell ⟨E, 4, none⟩ (.int .i64 p.1.idle) = W3 at oE ⊢
          clear hgW q0 q1 q2 q3 q4 f0 f1 f2 f3 f4
          have S3 : All (fun w' => (Below w.heap.size w w' ∧ D < w'.heap.size) ∧ Hid (w'.heap[D]? = some (.cells #[.string x.name, .int .i64 x.size, .int .i64 x.queue, .int .i64 x.wait, .int .i64 x.idle] 81 (0, 0)))) W3 := ⟨⟨Rep.Only.below S.out.1.1.1 oE S.out.1.1.1.size (fun a ha => by simp at ha; omega), by have := oE.size; omega⟩, Rep.var_only S.out.1.2 oE S.out.1.1.2 (by simp; omega)⟩
          clear S oE zE hEw
          have S := S3
          clear S3
          refine ⟨fun _ => var_cell S.out.2.out 0, LexW.cons rfl ?_⟩
          try go_frame
          go_wp2_with fail
          refine ⟨fun _ => var_cell S.out.2.out 0, LexW.nil ?_⟩
          clear hzD
          obtain ⟨d1, tw⟩ := p
          cases tw
          rotate_left
          · have HE := Lib.hid (show confB xs = false by
              obtain ⟨j, z, hz, hzn⟩ := dbAt_true (xs := xs.take k) (n := x.name) (by rw [HP.out])
              have hj : j < k := by have := (List.getElem?_eq_some_iff.1 hz).1; rw [HK.out] at this; exact this
              rw [List.getElem?_take, if_pos hj] at hz
              exact conf_bad_twice HX.out hz hj hzn)
            go_wp2_with fail
            go_ret
            exact ⟨by rw [HE.out]; rfl, S.out.1.1⟩
          · have HN := Lib.hid (show ∀ j y, j < k → xs[j]? = some y → y.name ≠ x.name from fun j y hj hy => dbAt_false (xs := xs.take k) (n := x.name) (by rw [HP.out]) j y (by rw [List.getElem?_take, if_pos hj]; exact hy))
            have e0 : W3.cell? ⟨D, 0, none⟩ = some (.string x.name) := var_cell S.out.2.out 0
            have e1 : W3.cell? ⟨D, 1, none⟩ = some (.int .i64 x.size) := var_cell S.out.2.out 1
            have e2 : W3.cell? ⟨D, 2, none⟩ = some (.int .i64 x.queue) := var_cell S.out.2.out 2
            have e3 : W3.cell? ⟨D, 3, none⟩ = some (.int .i64 x.wait) := var_cell S.out.2.out 3
            have e4 : W3.cell? ⟨D, 4, none⟩ = some (.int .i64 x.idle) := var_cell S.out.2.out 4
            have zD := S.out.1.2
            obtain ⟨y, hy⟩ : ∃ y, dbB x = y := ⟨_, rfl⟩
            have HY := Lib.hid hy
            clear hy
            go_wp2_with fail
            refine (dbOk_b x W3 hxs).mono ?_
            rintro e W9 ⟨rfl, hb9⟩
            rw [HY.out]
            replace S := S.later hb9
            clear e0 e1 e2 e3 e4 zD hb9
            cases y
            · have HE := Lib.hid (conf_bad_db HX.out HY.out)
              go_wp2_with fail
              go_ret
              exact ⟨by rw [HE.out]; rfl, S.out.1.1⟩
            · have HT2 := Lib.hid (hto.out.succ HX.out HY.out HN.out)
              go_wp2_with fail
              go_roundw
              case rel => exact ⟨k + 1, by omega, by go_num, HT2, S.out.1.1⟩
              case measure => simp [intOf]; omega
      · have he : k = xs.length := by omega
        subst he
        have HE := Lib.hid (confB_yes ⟨⟨l1, l2⟩, hto.out⟩)
        go_wp2
        go_ret
        exact ⟨by rw [HE.out]; rfl, hb⟩

end Go.Proofs.Ytgdhhhibkhfdlaa
