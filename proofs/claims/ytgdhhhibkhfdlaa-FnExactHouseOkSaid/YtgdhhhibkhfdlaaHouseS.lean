/- HouseOk of the model. (By gen_l10n.py.) -/
import Derived.Test.YtgdhhhibkhfdlaaPairsS
import Derived.Test.YtgdhhhibkhfdlaaConfOkS
namespace Go.Proofs.Ytgdhhhibkhfdlaa
open Go.RowKit
set_option linter.unusedVariables false
set_option linter.unusedSimpArgs false
set_option maxRecDepth 100000

theorem owns_parts {x : Ho} {b0 b1 b2 b3 r : Bool} (h0 : inI x.epoch 1 60000 = b0) (h1 : inI x.gen 0 60000 = b1) (h2 : confB x.conf = b2) (h3 : pB (PairA x.as_ x.ls ∧ PairL x.as_ x.ls) = b3) (hr : pB (OwnsP x) = r) :
    (r = true → b0 = true ∧ b1 = true ∧ (x.gen = 0 → x.conf.length = 0) ∧ (x.gen ≠ 0 → b2 = true) ∧ b3 = true) ∧ (b0 = true → b1 = true → (x.gen = 0 → x.conf.length = 0) → (x.gen ≠ 0 → b2 = true) → b3 = true → r = true) := by
  subst hr
  constructor
  · intro hp
    obtain ⟨q0, q1, q2, q3, q4, q5⟩ := pB_true hp
    refine ⟨by rw [← h0]; unfold inI; simpa using q0, by rw [← h1]; unfold inI; simpa using q1, q2, fun hg => by rw [← h2]; exact q3 hg, by rw [← h3]; exact pB_yes ⟨q4, q5⟩⟩
  · intro q0 q1 q2 q3 q4
    subst q0 q1 q4
    have q5 := pB_true h3
    unfold inI at h0 h1
    exact pB_yes ⟨by simpa using h0, by simpa using h1, q2, fun hg => by rw [h2]; exact q3 hg, q5.1, q5.2⟩

set_option maxHeartbeats 16000000 in
theorem houseOkS_rep (cs : List Value) (x : Ho) (w : World) (h : hoR.at_ w w.heap.size cs x) (hs : FitsHo x) :
    Calls Try.prog 49 #[.agg cs.toArray] w (RetBool w (pB (HouseP x))) := by
  obtain ⟨A3, c3, A5, c5, A6, c6, rfl, h3, h5, h6⟩ := ho_cells h
  have HS := Lib.hid hs
  have S : All (fun w' => (((Below w.heap.size w w' ∧ dbsR.at_ w' w'.heap.size [.slice A3 x.conf.length c3] x.conf) ∧ akSR.at_ w' w'.heap.size [.slice A5 x.as_.length c5] x.as_) ∧ lnSR.at_ w' w'.heap.size [.slice A6 x.ls.length c6] x.ls) ∧ w'.heap[w.heap.size]? = some (.cells #[.int .i64 x.st, .int .i64 x.epoch, .int .i64 x.gen, .slice A3 x.conf.length c3, .bool x.paused, .slice A5 x.as_.length c5, .slice A6 x.ls.length c6, .int .i64 x.ticket, .int .i64 x.h.id, .int .i64 x.h.no, .int .i64 x.h.acked, .int .i64 x.h.since] 70 (0, 0))) (w.alloc (.cells #[.int .i64 x.st, .int .i64 x.epoch, .int .i64 x.gen, .slice A3 x.conf.length c3, .bool x.paused, .slice A5 x.as_.length c5, .slice A6 x.ls.length c6, .int .i64 x.ticket, .int .i64 x.h.id, .int .i64 x.h.no, .int .i64 x.h.acked, .int .i64 x.h.since] 70)) :=
    ⟨⟨⟨⟨Later.alloc w _, Rep.more dbsR (Rep.at_below h3 (Later.alloc w _)) (by simp)⟩, Rep.more akSR (Rep.at_below h5 (Later.alloc w _)) (by simp)⟩, Rep.more lnSR (Rep.at_below h6 (Later.alloc w _)) (by simp)⟩, heap_alloc_new w _⟩
  clear h h3 h5 h6 hs
  obtain ⟨bl, h9⟩ : ∃ b, pB (ListsP x) = b := ⟨_, rfl⟩
  have HLB := Lib.hid h9
  clear h9
  obtain ⟨b0, h9⟩ : ∃ b, inI x.epoch 1 60000 = b := ⟨_, rfl⟩
  have H0 := Lib.hid h9
  clear h9
  obtain ⟨b1, h9⟩ : ∃ b, inI x.gen 0 60000 = b := ⟨_, rfl⟩
  have H1 := Lib.hid h9
  clear h9
  obtain ⟨b2, h9⟩ : ∃ b, confB x.conf = b := ⟨_, rfl⟩
  have H2 := Lib.hid h9
  clear h9
  obtain ⟨b3, h9⟩ : ∃ b, pB (PairA x.as_ x.ls ∧ PairL x.as_ x.ls) = b := ⟨_, rfl⟩
  have H3 := Lib.hid h9
  clear h9
  obtain ⟨bo, h9⟩ : ∃ b, pB (OwnsP x) = b := ⟨_, rfl⟩
  have HW := Lib.hid h9
  clear h9
  have HO := Lib.hid (owns_parts H0.out H1.out H2.out H3.out HW.out).1
  have HP := Lib.hid (owns_parts H0.out H1.out H2.out H3.out HW.out).2
  obtain ⟨bz, h9⟩ : ∃ b, hdEqB x.h hdZero = b := ⟨_, rfl⟩
  have HZ := Lib.hid h9
  clear h9
  obtain ⟨a0, h9⟩ : ∃ b, inI x.h.id 1 60000 = b := ⟨_, rfl⟩
  have A0 := Lib.hid h9
  clear h9
  obtain ⟨a1, h9⟩ : ∃ b, inI x.h.no 1 20 = b := ⟨_, rfl⟩
  have A1 := Lib.hid h9
  clear h9
  obtain ⟨a2, h9⟩ : ∃ b, inI x.h.acked 0 x.h.no = b := ⟨_, rfl⟩
  have A2 := Lib.hid h9
  clear h9
  obtain ⟨a4, h9⟩ : ∃ b, inI x.h.acked 0 (wrap64 (x.h.no - 1)) = b := ⟨_, rfl⟩
  have A4 := Lib.hid h9
  clear h9
  obtain ⟨a3, h9⟩ : ∃ b, inI x.h.since 0 100000 = b := ⟨_, rfl⟩
  have A3_ := Lib.hid h9
  clear h9
  have v0 := var_cell S.out.2 0
  have v1 := var_cell S.out.2 1
  have v2 := var_cell S.out.2 2
  have v3 := var_cell S.out.2 3
  have v4 := var_cell S.out.2 4
  have v5 := var_cell S.out.2 5
  have v6 := var_cell S.out.2 6
  have v7 := var_cell S.out.2 7
  have v8 := var_cell S.out.2 8
  have v9 := var_cell S.out.2 9
  have v10 := var_cell S.out.2 10
  have v11 := var_cell S.out.2 11
  unfold RetBool
  go_enter Try.func49, Try.ntmps49
  go_wp2_with fail
  generalize w.alloc (.cells #[.int .i64 x.st, .int .i64 x.epoch, .int .i64 x.gen, .slice A3 x.conf.length c3, .bool x.paused, .slice A5 x.as_.length c5, .slice A6 x.ls.length c6, .int .i64 x.ticket, .int .i64 x.h.id, .int .i64 x.h.no, .int .i64 x.h.acked, .int .i64 x.h.since] 70) = W0 at *
  clear v0 v1 v2 v3 v4 v5 v6 v7 v8 v9 v10 v11
  refine (lists_any x A3 c3 A5 c5 A6 c6 W0 S.out.1.1.2 S.out.1.2 HS.out).mono ?_
  rw [HLB.out]
  rintro e W1 ⟨rfl, hb⟩
  replace S := S.later hb
  clear hb
  have v0 := var_cell S.out.2 0
  have v1 := var_cell S.out.2 1
  have v2 := var_cell S.out.2 2
  have v3 := var_cell S.out.2 3
  have v4 := var_cell S.out.2 4
  have v5 := var_cell S.out.2 5
  have v6 := var_cell S.out.2 6
  have v7 := var_cell S.out.2 7
  have v8 := var_cell S.out.2 8
  have v9 := var_cell S.out.2 9
  have v10 := var_cell S.out.2 10
  have v11 := var_cell S.out.2 11
  cases bl
  · have HE : Hid (pB (HouseP x) = false) := Lib.hid (pB_no (fun h => by have q := HLB.out; rw [pB_yes h.1] at q; cases q))
    go_wp2_with fail
    go_ret
    exact ⟨by rw [HE.out]; exact rfl, S.out.1.1.1.1⟩
  have HL := Lib.hid (pB_true HLB.out)
  have HE := Lib.hid (house_st HL.out)
  by_cases hst : x.st = 0
  · skip
    have s0 : (x.st == 0) = true := by simp [hst]
    have s1 : (x.st == 1) = false := by simp [hst]
    have s2 : (x.st == 2) = false := by simp [hst]
    have s3 : (x.st == 3) = false := by simp [hst]
    have s4 : (x.st == 4) = false := by simp [hst]
    have HST : Hid (stB x = ((((((((x.epoch == 0) && (x.gen == 0)) && ((x.conf.length : Int) == 0)) && !x.paused) && ((x.as_.length : Int) == 0)) && ((x.ls.length : Int) == 0)) && (x.ticket == 0)) && bz)) := Lib.hid (by unfold stB; rw [if_pos (by omega), HZ.out]; rfl)
    clear hst
    cases t0 : (x.epoch == 0)
    · skip
      go_wp2_with fail
      go_ret
      exact ⟨by rw [HE.out, HST.out, t0]; exact rfl, S.out.1.1.1.1⟩
    · skip
      cases t1 : (x.gen == 0)
      · skip
        go_wp2_with fail
        go_ret
        exact ⟨by rw [HE.out, HST.out, t0, t1]; exact rfl, S.out.1.1.1.1⟩
      · skip
        cases t2 : ((x.conf.length : Int) == 0)
        · skip
          go_wp2_with fail
          go_ret
          exact ⟨by rw [HE.out, HST.out, t0, t1, t2]; exact rfl, S.out.1.1.1.1⟩
        · skip
          cases t3 : x.paused
          · skip
            cases t4 : ((x.as_.length : Int) == 0)
            · skip
              go_wp2_with fail
              go_ret
              exact ⟨by rw [HE.out, HST.out, t0, t1, t2, t3, t4]; exact rfl, S.out.1.1.1.1⟩
            · skip
              cases t5 : ((x.ls.length : Int) == 0)
              · skip
                go_wp2_with fail
                go_ret
                exact ⟨by rw [HE.out, HST.out, t0, t1, t2, t3, t4, t5]; exact rfl, S.out.1.1.1.1⟩
              · skip
                cases t6 : (x.ticket == 0)
                · skip
                  go_wp2_with fail
                  go_ret
                  exact ⟨by rw [HE.out, HST.out, t0, t1, t2, t3, t4, t5, t6]; exact rfl, S.out.1.1.1.1⟩
                · skip
                  go_wp2_with fail
                  clear v0 v1 v2 v3 v4 v5 v6 v7 v8 v9 v10 v11
                  refine (noHand_any x.h _).mono ?_
                  rw [HZ.out]
                  rintro e W9 ⟨rfl, hb⟩
                  replace S := S.later hb
                  clear hb
                  have v0 := var_cell S.out.2 0
                  have v1 := var_cell S.out.2 1
                  have v2 := var_cell S.out.2 2
                  have v3 := var_cell S.out.2 3
                  have v4 := var_cell S.out.2 4
                  have v5 := var_cell S.out.2 5
                  have v6 := var_cell S.out.2 6
                  have v7 := var_cell S.out.2 7
                  have v8 := var_cell S.out.2 8
                  have v9 := var_cell S.out.2 9
                  have v10 := var_cell S.out.2 10
                  have v11 := var_cell S.out.2 11
                  go_wp2_with fail
                  go_ret
                  exact ⟨by rw [HE.out, HST.out, t0, t1, t2, t3, t4, t5, t6]; exact rfl, S.out.1.1.1.1⟩
          · skip
            go_wp2_with fail
            go_ret
            exact ⟨by rw [HE.out, HST.out, t0, t1, t2, t3]; exact rfl, S.out.1.1.1.1⟩
  · skip
    have n0 := hst
    clear hst
    by_cases hst : x.st = 1
    · skip
      have s0 : (x.st == 0) = false := by simp [hst]
      have s1 : (x.st == 1) = true := by simp [hst]
      have s2 : (x.st == 2) = false := by simp [hst]
      have s3 : (x.st == 3) = false := by simp [hst]
      have s4 : (x.st == 4) = false := by simp [hst]
      have HST : Hid (stB x = ((((((((x.epoch == 0) && (x.gen == 0)) && ((x.conf.length : Int) == 0)) && !x.paused) && ((x.as_.length : Int) == 0)) && ((x.ls.length : Int) == 0)) && (x.ticket == 0)) && bz)) := Lib.hid (by unfold stB; rw [if_pos (by omega), HZ.out]; rfl)
      clear hst
      cases t0 : (x.epoch == 0)
      · skip
        go_wp2_with fail
        go_ret
        exact ⟨by rw [HE.out, HST.out, t0]; exact rfl, S.out.1.1.1.1⟩
      · skip
        cases t1 : (x.gen == 0)
        · skip
          go_wp2_with fail
          go_ret
          exact ⟨by rw [HE.out, HST.out, t0, t1]; exact rfl, S.out.1.1.1.1⟩
        · skip
          cases t2 : ((x.conf.length : Int) == 0)
          · skip
            go_wp2_with fail
            go_ret
            exact ⟨by rw [HE.out, HST.out, t0, t1, t2]; exact rfl, S.out.1.1.1.1⟩
          · skip
            cases t3 : x.paused
            · skip
              cases t4 : ((x.as_.length : Int) == 0)
              · skip
                go_wp2_with fail
                go_ret
                exact ⟨by rw [HE.out, HST.out, t0, t1, t2, t3, t4]; exact rfl, S.out.1.1.1.1⟩
              · skip
                cases t5 : ((x.ls.length : Int) == 0)
                · skip
                  go_wp2_with fail
                  go_ret
                  exact ⟨by rw [HE.out, HST.out, t0, t1, t2, t3, t4, t5]; exact rfl, S.out.1.1.1.1⟩
                · skip
                  cases t6 : (x.ticket == 0)
                  · skip
                    go_wp2_with fail
                    go_ret
                    exact ⟨by rw [HE.out, HST.out, t0, t1, t2, t3, t4, t5, t6]; exact rfl, S.out.1.1.1.1⟩
                  · skip
                    go_wp2_with fail
                    clear v0 v1 v2 v3 v4 v5 v6 v7 v8 v9 v10 v11
                    refine (noHand_any x.h _).mono ?_
                    rw [HZ.out]
                    rintro e W9 ⟨rfl, hb⟩
                    replace S := S.later hb
                    clear hb
                    have v0 := var_cell S.out.2 0
                    have v1 := var_cell S.out.2 1
                    have v2 := var_cell S.out.2 2
                    have v3 := var_cell S.out.2 3
                    have v4 := var_cell S.out.2 4
                    have v5 := var_cell S.out.2 5
                    have v6 := var_cell S.out.2 6
                    have v7 := var_cell S.out.2 7
                    have v8 := var_cell S.out.2 8
                    have v9 := var_cell S.out.2 9
                    have v10 := var_cell S.out.2 10
                    have v11 := var_cell S.out.2 11
                    go_wp2_with fail
                    go_ret
                    exact ⟨by rw [HE.out, HST.out, t0, t1, t2, t3, t4, t5, t6]; exact rfl, S.out.1.1.1.1⟩
            · skip
              go_wp2_with fail
              go_ret
              exact ⟨by rw [HE.out, HST.out, t0, t1, t2, t3]; exact rfl, S.out.1.1.1.1⟩
    · skip
      have n1 := hst
      clear hst
      by_cases hst : x.st = 2
      · skip
        have s0 : (x.st == 0) = false := by simp [hst]
        have s1 : (x.st == 1) = false := by simp [hst]
        have s2 : (x.st == 2) = true := by simp [hst]
        have s3 : (x.st == 3) = false := by simp [hst]
        have s4 : (x.st == 4) = false := by simp [hst]
        have HST : Hid (stB x = (bo && bz)) := Lib.hid (by unfold stB; rw [if_neg (by omega), if_pos hst, HW.out, HZ.out])
        clear hst
        go_wp2_with fail
        refine (l1In_b H0.out _).mono ?_
        rintro e w1 ⟨rfl, rfl⟩
        cases b0
        · skip
          obtain rfl : bo = false := by cases bo; rfl; exact absurd (HO.out rfl).1 (by simp)
          go_wp2_with fail
          go_ret
          exact ⟨by rw [HE.out, HST.out]; exact rfl, S.out.1.1.1.1⟩
        go_wp2_with fail
        refine (l1In_b H1.out _).mono ?_
        rintro e w1 ⟨rfl, rfl⟩
        cases b1
        · skip
          obtain rfl : bo = false := by cases bo; rfl; exact absurd (HO.out rfl).2.1 (by simp)
          go_wp2_with fail
          go_ret
          exact ⟨by rw [HE.out, HST.out]; exact rfl, S.out.1.1.1.1⟩
        by_cases hg : x.gen = 0
        · have g1 : (x.gen == 0) = true := by simp [hg]
          have g2 : decide ((0 : Int) < x.gen) = false := by (simp; try omega)
          by_cases hc : x.conf.length = 0
          · have l1 : decide ((0 : Int) < (x.conf.length : Int)) = false := decide_eq_false (by omega)
            have l2 : decide (0 < x.conf.length) = false := decide_eq_false (by omega)
            have HPP : Hid (b3 = true → bo = true) := Lib.hid (fun q => HP.out (by simp) (by simp) (fun _ => hc) (fun h => absurd hg h) q)
            clear hg hc HP
            go_wp2_with fail
            clear v0 v1 v2 v3 v4 v5 v6 v7 v8 v9 v10 v11
            refine (pairs_any x A3 c3 A5 c5 A6 c6 _ S.out.1.1.2 S.out.1.2 HS.out HL.out.1).mono ?_
            rw [H3.out]
            rintro e W9 ⟨rfl, hb⟩
            replace S := S.later hb
            clear hb
            have v0 := var_cell S.out.2 0
            have v1 := var_cell S.out.2 1
            have v2 := var_cell S.out.2 2
            have v3 := var_cell S.out.2 3
            have v4 := var_cell S.out.2 4
            have v5 := var_cell S.out.2 5
            have v6 := var_cell S.out.2 6
            have v7 := var_cell S.out.2 7
            have v8 := var_cell S.out.2 8
            have v9 := var_cell S.out.2 9
            have v10 := var_cell S.out.2 10
            have v11 := var_cell S.out.2 11
            obtain rfl : b3 = bo := by
              cases b3
              · cases bo
                · rfl
                · have := (HO.out rfl).2.2.2.2; cases this
              · exact (HPP.out rfl).symm
            cases b3
            · skip
              go_wp2_with fail
              go_ret
              exact ⟨by rw [HE.out, HST.out]; exact rfl, S.out.1.1.1.1⟩
            · skip
              go_wp2_with fail
              clear v0 v1 v2 v3 v4 v5 v6 v7 v8 v9 v10 v11
              refine (noHand_any x.h _).mono ?_
              rw [HZ.out]
              rintro e W9 ⟨rfl, hb⟩
              replace S := S.later hb
              clear hb
              have v0 := var_cell S.out.2 0
              have v1 := var_cell S.out.2 1
              have v2 := var_cell S.out.2 2
              have v3 := var_cell S.out.2 3
              have v4 := var_cell S.out.2 4
              have v5 := var_cell S.out.2 5
              have v6 := var_cell S.out.2 6
              have v7 := var_cell S.out.2 7
              have v8 := var_cell S.out.2 8
              have v9 := var_cell S.out.2 9
              have v10 := var_cell S.out.2 10
              have v11 := var_cell S.out.2 11
              go_wp2_with fail
              go_ret
              exact ⟨by rw [HE.out, HST.out]; exact rfl, S.out.1.1.1.1⟩
          · have l1 : decide ((0 : Int) < (x.conf.length : Int)) = true := decide_eq_true (by omega)
            have l2 : decide (0 < x.conf.length) = true := decide_eq_true (by omega)
            obtain rfl : bo = false := by cases bo; rfl; exact absurd ((HO.out rfl).2.2.1 hg) hc
            clear hg hc
            go_wp2_with fail
            go_ret
            exact ⟨by rw [HE.out, HST.out]; exact rfl, S.out.1.1.1.1⟩
        · have g1 : (x.gen == 0) = false := by simp [hg]
          have g2 : decide ((0 : Int) < x.gen) = true := by
            have q := H1.out
            unfold inI at q
            have q2 := of_decide_eq_true q
            simp
            omega
          have HG := Lib.hid hg
          clear hg
          go_wp2_with fail
          clear v0 v1 v2 v3 v4 v5 v6 v7 v8 v9 v10 v11
          refine (confOkS_any A3 c3 x.conf _ (dbs_rows S.out.1.1.1.2).2 HS.out.1).mono ?_
          rw [H2.out]
          rintro e W9 ⟨rfl, hb⟩
          replace S := S.later hb
          clear hb
          have v0 := var_cell S.out.2 0
          have v1 := var_cell S.out.2 1
          have v2 := var_cell S.out.2 2
          have v3 := var_cell S.out.2 3
          have v4 := var_cell S.out.2 4
          have v5 := var_cell S.out.2 5
          have v6 := var_cell S.out.2 6
          have v7 := var_cell S.out.2 7
          have v8 := var_cell S.out.2 8
          have v9 := var_cell S.out.2 9
          have v10 := var_cell S.out.2 10
          have v11 := var_cell S.out.2 11
          cases b2
          · skip
            obtain rfl : bo = false := by cases bo; rfl; exact absurd ((HO.out rfl).2.2.2.1 HG.out) (by simp)
            go_wp2_with fail
            go_ret
            exact ⟨by rw [HE.out, HST.out]; exact rfl, S.out.1.1.1.1⟩
          · skip
            have HPP : Hid (b3 = true → bo = true) := Lib.hid (fun q => HP.out (by simp) (by simp) (fun h => absurd h HG.out) (fun _ => rfl) q)
            clear HP
            go_wp2_with fail
            clear v0 v1 v2 v3 v4 v5 v6 v7 v8 v9 v10 v11
            refine (pairs_any x A3 c3 A5 c5 A6 c6 _ S.out.1.1.2 S.out.1.2 HS.out HL.out.1).mono ?_
            rw [H3.out]
            rintro e W9 ⟨rfl, hb⟩
            replace S := S.later hb
            clear hb
            have v0 := var_cell S.out.2 0
            have v1 := var_cell S.out.2 1
            have v2 := var_cell S.out.2 2
            have v3 := var_cell S.out.2 3
            have v4 := var_cell S.out.2 4
            have v5 := var_cell S.out.2 5
            have v6 := var_cell S.out.2 6
            have v7 := var_cell S.out.2 7
            have v8 := var_cell S.out.2 8
            have v9 := var_cell S.out.2 9
            have v10 := var_cell S.out.2 10
            have v11 := var_cell S.out.2 11
            obtain rfl : b3 = bo := by
              cases b3
              · cases bo
                · rfl
                · have := (HO.out rfl).2.2.2.2; cases this
              · exact (HPP.out rfl).symm
            cases b3
            · skip
              go_wp2_with fail
              go_ret
              exact ⟨by rw [HE.out, HST.out]; exact rfl, S.out.1.1.1.1⟩
            · skip
              go_wp2_with fail
              clear v0 v1 v2 v3 v4 v5 v6 v7 v8 v9 v10 v11
              refine (noHand_any x.h _).mono ?_
              rw [HZ.out]
              rintro e W9 ⟨rfl, hb⟩
              replace S := S.later hb
              clear hb
              have v0 := var_cell S.out.2 0
              have v1 := var_cell S.out.2 1
              have v2 := var_cell S.out.2 2
              have v3 := var_cell S.out.2 3
              have v4 := var_cell S.out.2 4
              have v5 := var_cell S.out.2 5
              have v6 := var_cell S.out.2 6
              have v7 := var_cell S.out.2 7
              have v8 := var_cell S.out.2 8
              have v9 := var_cell S.out.2 9
              have v10 := var_cell S.out.2 10
              have v11 := var_cell S.out.2 11
              go_wp2_with fail
              go_ret
              exact ⟨by rw [HE.out, HST.out]; exact rfl, S.out.1.1.1.1⟩
      · skip
        have n2 := hst
        clear hst
        by_cases hst : x.st = 3
        · skip
          have s0 : (x.st == 0) = false := by simp [hst]
          have s1 : (x.st == 1) = false := by simp [hst]
          have s2 : (x.st == 2) = false := by simp [hst]
          have s3 : (x.st == 3) = true := by simp [hst]
          have s4 : (x.st == 4) = false := by simp [hst]
          have HST : Hid (stB x = ((bo && (x.h.id == x.epoch)) && ((a1 && a2) && a3))) := Lib.hid (by
            unfold stB; rw [if_neg (by omega), if_neg (by omega), if_pos hst, HW.out]
            cases bo
            · rfl
            cases te : (x.h.id == x.epoch)
            · rfl
            have e0 := (HO.out rfl).1
            unfold handB
            rw [A1.out, A2.out, A3_.out, eq_of_beq te, H0.out, e0]
            rfl)
          clear hst
          go_wp2_with fail
          refine (l1In_b H0.out _).mono ?_
          rintro e w1 ⟨rfl, rfl⟩
          cases b0
          · skip
            obtain rfl : bo = false := by cases bo; rfl; exact absurd (HO.out rfl).1 (by simp)
            go_wp2_with fail
            go_ret
            exact ⟨by rw [HE.out, HST.out]; exact rfl, S.out.1.1.1.1⟩
          go_wp2_with fail
          refine (l1In_b H1.out _).mono ?_
          rintro e w1 ⟨rfl, rfl⟩
          cases b1
          · skip
            obtain rfl : bo = false := by cases bo; rfl; exact absurd (HO.out rfl).2.1 (by simp)
            go_wp2_with fail
            go_ret
            exact ⟨by rw [HE.out, HST.out]; exact rfl, S.out.1.1.1.1⟩
          by_cases hg : x.gen = 0
          · have g1 : (x.gen == 0) = true := by simp [hg]
            have g2 : decide ((0 : Int) < x.gen) = false := by (simp; try omega)
            by_cases hc : x.conf.length = 0
            · have l1 : decide ((0 : Int) < (x.conf.length : Int)) = false := decide_eq_false (by omega)
              have l2 : decide (0 < x.conf.length) = false := decide_eq_false (by omega)
              have HPP : Hid (b3 = true → bo = true) := Lib.hid (fun q => HP.out (by simp) (by simp) (fun _ => hc) (fun h => absurd hg h) q)
              clear hg hc HP
              go_wp2_with fail
              clear v0 v1 v2 v3 v4 v5 v6 v7 v8 v9 v10 v11
              refine (pairs_any x A3 c3 A5 c5 A6 c6 _ S.out.1.1.2 S.out.1.2 HS.out HL.out.1).mono ?_
              rw [H3.out]
              rintro e W9 ⟨rfl, hb⟩
              replace S := S.later hb
              clear hb
              have v0 := var_cell S.out.2 0
              have v1 := var_cell S.out.2 1
              have v2 := var_cell S.out.2 2
              have v3 := var_cell S.out.2 3
              have v4 := var_cell S.out.2 4
              have v5 := var_cell S.out.2 5
              have v6 := var_cell S.out.2 6
              have v7 := var_cell S.out.2 7
              have v8 := var_cell S.out.2 8
              have v9 := var_cell S.out.2 9
              have v10 := var_cell S.out.2 10
              have v11 := var_cell S.out.2 11
              obtain rfl : b3 = bo := by
                cases b3
                · cases bo
                  · rfl
                  · have := (HO.out rfl).2.2.2.2; cases this
                · exact (HPP.out rfl).symm
              cases b3
              · skip
                go_wp2_with fail
                go_ret
                exact ⟨by rw [HE.out, HST.out]; exact rfl, S.out.1.1.1.1⟩
              · skip
                cases te : (x.h.id == x.epoch)
                · skip
                  go_wp2_with fail
                  go_ret
                  exact ⟨by rw [HE.out, HST.out, te]; exact rfl, S.out.1.1.1.1⟩
                · skip
                  go_wp2_with fail
                  refine (l1In_b A1.out _).mono ?_
                  rintro e w1 ⟨rfl, rfl⟩
                  cases a1
                  · skip
                    go_wp2_with fail
                    go_ret
                    exact ⟨by rw [HE.out, HST.out, te]; exact rfl, S.out.1.1.1.1⟩
                  · skip
                    go_wp2_with fail
                    refine (l1In_b A2.out _).mono ?_
                    rintro e w1 ⟨rfl, rfl⟩
                    cases a2
                    · skip
                      go_wp2_with fail
                      go_ret
                      exact ⟨by rw [HE.out, HST.out, te]; exact rfl, S.out.1.1.1.1⟩
                    · skip
                      go_wp2_with fail
                      refine (l9Time_any _ _).mono ?_
                      rw [A3_.out]
                      rintro e w1 ⟨rfl, rfl⟩
                      go_wp2_with fail
                      go_ret
                      exact ⟨by rw [HE.out, HST.out, te]; exact rfl, S.out.1.1.1.1⟩
            · have l1 : decide ((0 : Int) < (x.conf.length : Int)) = true := decide_eq_true (by omega)
              have l2 : decide (0 < x.conf.length) = true := decide_eq_true (by omega)
              obtain rfl : bo = false := by cases bo; rfl; exact absurd ((HO.out rfl).2.2.1 hg) hc
              clear hg hc
              go_wp2_with fail
              go_ret
              exact ⟨by rw [HE.out, HST.out]; exact rfl, S.out.1.1.1.1⟩
          · have g1 : (x.gen == 0) = false := by simp [hg]
            have g2 : decide ((0 : Int) < x.gen) = true := by
              have q := H1.out
              unfold inI at q
              have q2 := of_decide_eq_true q
              simp
              omega
            have HG := Lib.hid hg
            clear hg
            go_wp2_with fail
            clear v0 v1 v2 v3 v4 v5 v6 v7 v8 v9 v10 v11
            refine (confOkS_any A3 c3 x.conf _ (dbs_rows S.out.1.1.1.2).2 HS.out.1).mono ?_
            rw [H2.out]
            rintro e W9 ⟨rfl, hb⟩
            replace S := S.later hb
            clear hb
            have v0 := var_cell S.out.2 0
            have v1 := var_cell S.out.2 1
            have v2 := var_cell S.out.2 2
            have v3 := var_cell S.out.2 3
            have v4 := var_cell S.out.2 4
            have v5 := var_cell S.out.2 5
            have v6 := var_cell S.out.2 6
            have v7 := var_cell S.out.2 7
            have v8 := var_cell S.out.2 8
            have v9 := var_cell S.out.2 9
            have v10 := var_cell S.out.2 10
            have v11 := var_cell S.out.2 11
            cases b2
            · skip
              obtain rfl : bo = false := by cases bo; rfl; exact absurd ((HO.out rfl).2.2.2.1 HG.out) (by simp)
              go_wp2_with fail
              go_ret
              exact ⟨by rw [HE.out, HST.out]; exact rfl, S.out.1.1.1.1⟩
            · skip
              have HPP : Hid (b3 = true → bo = true) := Lib.hid (fun q => HP.out (by simp) (by simp) (fun h => absurd h HG.out) (fun _ => rfl) q)
              clear HP
              go_wp2_with fail
              clear v0 v1 v2 v3 v4 v5 v6 v7 v8 v9 v10 v11
              refine (pairs_any x A3 c3 A5 c5 A6 c6 _ S.out.1.1.2 S.out.1.2 HS.out HL.out.1).mono ?_
              rw [H3.out]
              rintro e W9 ⟨rfl, hb⟩
              replace S := S.later hb
              clear hb
              have v0 := var_cell S.out.2 0
              have v1 := var_cell S.out.2 1
              have v2 := var_cell S.out.2 2
              have v3 := var_cell S.out.2 3
              have v4 := var_cell S.out.2 4
              have v5 := var_cell S.out.2 5
              have v6 := var_cell S.out.2 6
              have v7 := var_cell S.out.2 7
              have v8 := var_cell S.out.2 8
              have v9 := var_cell S.out.2 9
              have v10 := var_cell S.out.2 10
              have v11 := var_cell S.out.2 11
              obtain rfl : b3 = bo := by
                cases b3
                · cases bo
                  · rfl
                  · have := (HO.out rfl).2.2.2.2; cases this
                · exact (HPP.out rfl).symm
              cases b3
              · skip
                go_wp2_with fail
                go_ret
                exact ⟨by rw [HE.out, HST.out]; exact rfl, S.out.1.1.1.1⟩
              · skip
                cases te : (x.h.id == x.epoch)
                · skip
                  go_wp2_with fail
                  go_ret
                  exact ⟨by rw [HE.out, HST.out, te]; exact rfl, S.out.1.1.1.1⟩
                · skip
                  go_wp2_with fail
                  refine (l1In_b A1.out _).mono ?_
                  rintro e w1 ⟨rfl, rfl⟩
                  cases a1
                  · skip
                    go_wp2_with fail
                    go_ret
                    exact ⟨by rw [HE.out, HST.out, te]; exact rfl, S.out.1.1.1.1⟩
                  · skip
                    go_wp2_with fail
                    refine (l1In_b A2.out _).mono ?_
                    rintro e w1 ⟨rfl, rfl⟩
                    cases a2
                    · skip
                      go_wp2_with fail
                      go_ret
                      exact ⟨by rw [HE.out, HST.out, te]; exact rfl, S.out.1.1.1.1⟩
                    · skip
                      go_wp2_with fail
                      refine (l9Time_any _ _).mono ?_
                      rw [A3_.out]
                      rintro e w1 ⟨rfl, rfl⟩
                      go_wp2_with fail
                      go_ret
                      exact ⟨by rw [HE.out, HST.out, te]; exact rfl, S.out.1.1.1.1⟩
        · skip
          have n3 := hst
          clear hst
          by_cases hst : x.st = 4
          · skip
            have s0 : (x.st == 0) = false := by simp [hst]
            have s1 : (x.st == 1) = false := by simp [hst]
            have s2 : (x.st == 2) = false := by simp [hst]
            have s3 : (x.st == 3) = false := by simp [hst]
            have s4 : (x.st == 4) = true := by simp [hst]
            have HST : Hid (stB x = ((((x.epoch == 0) && (x.gen == 0)) && ((x.conf.length : Int) == 0)) && (((a0 && a1) && a4) && a3))) := Lib.hid (by
              unfold stB; rw [if_neg (by omega), if_neg (by omega), if_neg (by omega), if_pos hst, ← hand_wrap]
              unfold handB nothB
              rw [A0.out, A1.out, A4.out, A3_.out])
            clear hst
            cases t0 : (x.epoch == 0)
            · skip
              go_wp2_with fail
              go_ret
              exact ⟨by rw [HE.out, HST.out, t0]; exact rfl, S.out.1.1.1.1⟩
            · skip
              cases t1 : (x.gen == 0)
              · skip
                go_wp2_with fail
                go_ret
                exact ⟨by rw [HE.out, HST.out, t0, t1]; exact rfl, S.out.1.1.1.1⟩
              · skip
                cases t2 : ((x.conf.length : Int) == 0)
                · skip
                  go_wp2_with fail
                  go_ret
                  exact ⟨by rw [HE.out, HST.out, t0, t1, t2]; exact rfl, S.out.1.1.1.1⟩
                · skip
                  go_wp2_with fail
                  refine (l1In_b A0.out _).mono ?_
                  rintro e w1 ⟨rfl, rfl⟩
                  cases a0
                  · skip
                    go_wp2_with fail
                    go_ret
                    exact ⟨by rw [HE.out, HST.out, t0, t1, t2]; exact rfl, S.out.1.1.1.1⟩
                  · skip
                    go_wp2_with fail
                    refine (l1In_b A1.out _).mono ?_
                    rintro e w1 ⟨rfl, rfl⟩
                    cases a1
                    · skip
                      go_wp2_with fail
                      go_ret
                      exact ⟨by rw [HE.out, HST.out, t0, t1, t2]; exact rfl, S.out.1.1.1.1⟩
                    · skip
                      go_wp2_with fail
                      refine (l1In_b A4.out _).mono ?_
                      rintro e w1 ⟨rfl, rfl⟩
                      cases a4
                      · skip
                        go_wp2_with fail
                        go_ret
                        exact ⟨by rw [HE.out, HST.out, t0, t1, t2]; exact rfl, S.out.1.1.1.1⟩
                      · skip
                        go_wp2_with fail
                        refine (l9Time_any _ _).mono ?_
                        rw [A3_.out]
                        rintro e w1 ⟨rfl, rfl⟩
                        go_wp2_with fail
                        go_ret
                        exact ⟨by rw [HE.out, HST.out, t0, t1, t2]; exact rfl, S.out.1.1.1.1⟩
          · skip
            have n4 := hst
            clear hst
            have s0 : (x.st == 0) = false := by simp [n0]
            have s1 : (x.st == 1) = false := by simp [n1]
            have s2 : (x.st == 2) = false := by simp [n2]
            have s3 : (x.st == 3) = false := by simp [n3]
            have s4 : (x.st == 4) = false := by simp [n4]
            have HST : Hid (stB x = false) := Lib.hid (by unfold stB; rw [if_neg (by omega), if_neg n2, if_neg n3, if_neg n4])
            clear n0 n1 n2 n3 n4
            go_wp2_with fail
            go_ret
            exact ⟨by rw [HE.out, HST.out]; exact rfl, S.out.1.1.1.1⟩

noncomputable def houseB (x : Ho) : Bool := pB (HouseP x)

theorem houseOkSX_rep (cs : List Value) (x : Ho) (w : World) (h : hoR.at_ w w.heap.size cs x) (hs : FitsHo x) :
    Calls Try.prog 49 #[.agg cs.toArray] w (fun e w' => e = .returned (.bool (houseB x)) ∧ Below w.heap.size w w') := houseOkS_rep cs x w h hs

theorem houseOkX_rep (cs : List Value) (x : Ho) (w : World) (h : hoR.at_ w w.heap.size cs x) (hs : FitsHo x) :
    Calls Try.prog 48 #[.agg cs.toArray] w (fun e w' => e = .returned (.bool (houseB x)) ∧ Below w.heap.size w w') := houseOk_rep cs x w h hs


end Go.Proofs.Ytgdhhhibkhfdlaa
