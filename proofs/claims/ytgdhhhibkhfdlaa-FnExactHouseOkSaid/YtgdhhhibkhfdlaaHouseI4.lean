/- ownsOk and HouseOk of the program. (By gen_l10k.py.) -/
import Derived.Test.YtgdhhhibkhfdlaaHouseI3
import Derived.Test.YtgdhhhibkhfdlaaTickI
import Derived.IntWalk
namespace Go.Proofs.Ytgdhhhibkhfdlaa
open Go.RowKit
set_option linter.unusedVariables false
set_option linter.unusedSimpArgs false
set_option maxRecDepth 100000

set_option maxHeartbeats 8000000 in
theorem ownsOk_any (x : Ho) (A3 : Option Addr) (c3 : Nat) (A5 : Option Addr) (c5 : Nat) (A6 : Option Addr) (c6 : Nat) (w : World) (h3 : dbsR.at_ w w.heap.size [.slice A3 x.conf.length c3] x.conf) (h5 : akSR.at_ w w.heap.size [.slice A5 x.as_.length c5] x.as_) (h6 : lnSR.at_ w w.heap.size [.slice A6 x.ls.length c6] x.ls) (hs : FitsHo x) :
    Calls Try.prog 124 #[.agg #[.int .i64 x.st, .int .i64 x.epoch, .int .i64 x.gen, .slice A3 x.conf.length c3, .bool x.paused, .slice A5 x.as_.length c5, .slice A6 x.ls.length c6, .int .i64 x.ticket, .int .i64 x.h.id, .int .i64 x.h.no, .int .i64 x.h.acked, .int .i64 x.h.since]] w (RetBool w (pB (OwnsP x))) := by
  have HS := Lib.hid hs
  have S : All (fun w' => (((Below w.heap.size w w' ∧ dbsR.at_ w' w'.heap.size [.slice A3 x.conf.length c3] x.conf) ∧ akSR.at_ w' w'.heap.size [.slice A5 x.as_.length c5] x.as_) ∧ lnSR.at_ w' w'.heap.size [.slice A6 x.ls.length c6] x.ls) ∧ w'.heap[w.heap.size]? = some (.cells #[.int .i64 x.st, .int .i64 x.epoch, .int .i64 x.gen, .slice A3 x.conf.length c3, .bool x.paused, .slice A5 x.as_.length c5, .slice A6 x.ls.length c6, .int .i64 x.ticket, .int .i64 x.h.id, .int .i64 x.h.no, .int .i64 x.h.acked, .int .i64 x.h.since] 70 (0, 0))) (w.alloc (.cells #[.int .i64 x.st, .int .i64 x.epoch, .int .i64 x.gen, .slice A3 x.conf.length c3, .bool x.paused, .slice A5 x.as_.length c5, .slice A6 x.ls.length c6, .int .i64 x.ticket, .int .i64 x.h.id, .int .i64 x.h.no, .int .i64 x.h.acked, .int .i64 x.h.since] 70)) :=
    ⟨⟨⟨⟨Later.alloc w _, Rep.more dbsR (Rep.at_below h3 (Later.alloc w _)) (by simp)⟩, Rep.more akSR (Rep.at_below h5 (Later.alloc w _)) (by simp)⟩, Rep.more lnSR (Rep.at_below h6 (Later.alloc w _)) (by simp)⟩, heap_alloc_new w _⟩
  clear h3 h5 h6 hs
  obtain ⟨b0, h0⟩ : ∃ b, inI x.epoch 1 60000 = b := ⟨_, rfl⟩
  obtain ⟨b1, h1⟩ : ∃ b, inI x.gen 0 60000 = b := ⟨_, rfl⟩
  obtain ⟨b2, h2⟩ : ∃ b, confB x.conf = b := ⟨_, rfl⟩
  obtain ⟨b3, h3⟩ : ∃ b, pB (PairA x.as_ x.ls ∧ PairL x.as_ x.ls) = b := ⟨_, rfl⟩
  have H0 := Lib.hid h0
  have H1 := Lib.hid h1
  have H2 := Lib.hid h2
  have H3 := Lib.hid h3
  have HO : Hid (pB (OwnsP x) = true → b0 = true ∧ b1 = true ∧ (x.gen = 0 → x.conf.length = 0) ∧ (x.gen ≠ 0 → b2 = true) ∧ b3 = true) := Lib.hid (fun hp => by
    obtain ⟨q0, q1, q2, q3, q4, q5⟩ := pB_true hp
    refine ⟨by rw [← h0]; unfold inI; simpa using q0, by rw [← h1]; unfold inI; simpa using q1, q2, fun hg => by rw [← h2]; exact q3 hg, by rw [← h3]; exact pB_yes ⟨q4, q5⟩⟩)
  have HP : Hid (b0 = true → b1 = true → (x.gen = 0 → x.conf.length = 0) → (x.gen ≠ 0 → b2 = true) → b3 = true → pB (OwnsP x) = true) := Lib.hid (fun q0 q1 q2 q3 q4 => by
    subst q0 q1 q4
    have q5 := pB_true h3
    unfold inI at h0 h1
    exact pB_yes ⟨by simpa using h0, by simpa using h1, q2, fun hg => by rw [h2]; exact q3 hg, q5.1, q5.2⟩)
  clear h0 h1 h2 h3
  obtain ⟨r, hr⟩ : ∃ r, pB (OwnsP x) = r := ⟨_, rfl⟩
  rw [hr] at HO HP ⊢
  clear hr
  have v1 := var_cell S.out.2 1
  have v2 := var_cell S.out.2 2
  have v3 := var_cell S.out.2 3
  have v5 := var_cell S.out.2 5
  have v6 := var_cell S.out.2 6
  unfold RetBool
  go_enter Try.func124, Try.ntmps124
  go_wp2_with fail
  generalize w.alloc (.cells #[.int .i64 x.st, .int .i64 x.epoch, .int .i64 x.gen, .slice A3 x.conf.length c3, .bool x.paused, .slice A5 x.as_.length c5, .slice A6 x.ls.length c6, .int .i64 x.ticket, .int .i64 x.h.id, .int .i64 x.h.no, .int .i64 x.h.acked, .int .i64 x.h.since] 70) = W0 at *
  refine (within_b H0.out _).mono ?_
  rintro e w1 ⟨rfl, rfl⟩
  cases b0
  · obtain rfl : r = false := by cases r; rfl; have := (HO.out rfl).1; cases this
    go_wp2_with fail
    go_ret
    exact ⟨rfl, S.out.1.1.1.1⟩
  go_wp2_with fail
  refine (within_b H1.out _).mono ?_
  rintro e w1 ⟨rfl, rfl⟩
  cases b1
  · obtain rfl : r = false := by cases r; rfl; have := (HO.out rfl).2.1; cases this
    go_wp2_with fail
    go_ret
    exact ⟨rfl, S.out.1.1.1.1⟩
  by_cases hg : x.gen = 0
  · have g1 : (x.gen == 0) = true := by simp [hg]
    have g2 : (x.gen != 0) = false := by simp [hg]
    by_cases hc : x.conf.length = 0
    · have l1 : ((x.conf.length : Int) != 0) = false := by simp [hc]
      have HPP : Hid (b3 = true → r = true) := Lib.hid (fun q => HP.out (by simp) (by simp) (fun _ => hc) (fun h => absurd hg h) q)
      clear hg hc HP
      go_wp2_with fail
      refine (leasesOk_any A5 c5 x.as_ A6 c6 x.ls _ S.out.1.1.2 S.out.1.2 HS.out.2.1.1 HS.out.2.2.1).mono ?_
      rw [H3.out]
      rintro e W2 ⟨rfl, hb⟩
      replace S := S.later hb
      clear hb
      obtain rfl : b3 = r := by
        cases b3
        · cases r
          · rfl
          · have := (HO.out rfl).2.2.2.2; cases this
        · exact (HPP.out rfl).symm
      go_wp2_with fail
      go_ret
      exact ⟨rfl, S.out.1.1.1.1⟩
    · have l1 : ((x.conf.length : Int) != 0) = true := by rw [bne_iff_ne]; omega
      obtain rfl : r = false := by cases r; rfl; exact absurd ((HO.out rfl).2.2.1 hg) hc
      clear hg hc
      go_wp2_with fail
      go_ret
      exact ⟨rfl, S.out.1.1.1.1⟩
  · have g1 : (x.gen == 0) = false := by simp [hg]
    have g2 : (x.gen != 0) = true := by simp [hg]
    have HG := Lib.hid hg
    clear hg
    go_wp2_with fail
    refine (confOk_any A3 c3 x.conf W0 (dbs_rows S.out.1.1.1.2).2 (dbs_rows S.out.1.1.1.2).1.1 HS.out.1).mono ?_
    rw [H2.out]
    rintro e W1 ⟨rfl, hb⟩
    replace S := S.later hb
    clear hb v1 v2 v3 v5 v6
    have v5 := var_cell S.out.2 5
    have v6 := var_cell S.out.2 6
    cases b2
    · obtain rfl : r = false := by cases r; rfl; have := (HO.out rfl).2.2.2.1 HG.out; cases this
      go_wp2_with fail
      go_ret
      exact ⟨rfl, S.out.1.1.1.1⟩
    · have HPP : Hid (b3 = true → r = true) := Lib.hid (fun q => HP.out (by simp) (by simp) (fun h => absurd h HG.out) (fun _ => rfl) q)
      clear HP
      go_wp2_with fail
      refine (leasesOk_any A5 c5 x.as_ A6 c6 x.ls _ S.out.1.1.2 S.out.1.2 HS.out.2.1.1 HS.out.2.2.1).mono ?_
      rw [H3.out]
      rintro e W2 ⟨rfl, hb⟩
      replace S := S.later hb
      clear hb
      obtain rfl : b3 = r := by
        cases b3
        · cases r
          · rfl
          · have := (HO.out rfl).2.2.2.2; cases this
        · exact (HPP.out rfl).symm
      go_wp2_with fail
      go_ret
      exact ⟨rfl, S.out.1.1.1.1⟩


def hdZero : Hd := ⟨0, 0, 0, 0⟩
theorem handZ_iff (h : Hd) : hdEqB h hdZero = true ↔ HandZ h := by
  unfold hdEqB hdZero HandZ
  simp only [Bool.and_eq_true, beq_iff_eq]
theorem akB_ticket {y : Ak} (h : akB y = true) (hs : y.st = 2) : 0 ≤ y.ticket := by
  unfold akB inI at h
  rw [if_neg (by omega), if_neg (by omega), if_pos hs] at h
  simp only [Bool.and_eq_true, decide_eq_true_eq] at h
  exact h.2.2.1.1
theorem hand_wrap (h : Hd) : handB h (wrap64 (h.no - 1)) = handB h (h.no - 1) := by
  unfold handB
  by_cases hn : 1 ≤ h.no ∧ h.no ≤ 20
  · have e : wrap64 (h.no - 1) = h.no - 1 := by unfold wrap64; omega
    rw [e]
  · have : inI h.no 1 20 = false := by unfold inI; simp [hn]
    rw [this]; simp
/-- What a state asks, as the program reckons it. -/
noncomputable def stB (x : Ho) : Bool :=
  if x.st = 0 ∨ x.st = 1 then ((((nothB x && !x.paused) && ((x.as_.length : Int) == 0)) && ((x.ls.length : Int) == 0)) && (x.ticket == 0)) && hdEqB x.h hdZero
  else if x.st = 2 then pB (OwnsP x) && hdEqB x.h hdZero
  else if x.st = 3 then (pB (OwnsP x) && (x.h.id == x.epoch)) && handB x.h x.h.no
  else if x.st = 4 then nothB x && handB x.h (x.h.no - 1)
  else false
theorem stB_iff (x : Ho) : stB x = true ↔ StP x := by
  have hp : ∀ p : Prop, pB p = true ↔ p := fun p => ⟨pB_true, pB_yes⟩
  unfold stB StP
  by_cases h1 : x.st = 0 ∨ x.st = 1
  · rw [if_pos h1, if_pos h1]
    simp only [Bool.and_eq_true, nothB_iff, handZ_iff, beq_iff_eq, Bool.not_eq_true', and_assoc, Int.natCast_eq_zero]
  · rw [if_neg h1, if_neg h1]
    by_cases h2 : x.st = 2
    · rw [if_pos h2, if_pos h2]
      simp only [Bool.and_eq_true, handZ_iff, hp]
    · rw [if_neg h2, if_neg h2]
      by_cases h3 : x.st = 3
      · rw [if_pos h3, if_pos h3]
        simp only [Bool.and_eq_true, handB_iff, beq_iff_eq, hp, and_assoc]
      · rw [if_neg h3, if_neg h3]
        by_cases h4 : x.st = 4
        · rw [if_pos h4, if_pos h4]
          simp only [Bool.and_eq_true, handB_iff, nothB_iff]
        · rw [if_neg h4, if_neg h4]
          simp
theorem house_st {x : Ho} (h : ListsP x) : pB (HouseP x) = stB x := pB_of (by
  rw [stB_iff]
  exact ⟨fun hs => ⟨h, hs⟩, fun hs => hs.2⟩)

set_option maxHeartbeats 16000000 in
theorem houseOk_rep (cs : List Value) (x : Ho) (w : World) (h : hoR.at_ w w.heap.size cs x) (hs : FitsHo x) :
    Calls Try.prog 48 #[.agg cs.toArray] w (RetBool w (pB (HouseP x))) := by
  obtain ⟨A3, c3, A5, c5, A6, c6, rfl, h3, h5, h6⟩ := ho_cells h
  have HS := Lib.hid hs
  have S : All (fun w' => (((Below w.heap.size w w' ∧ dbsR.at_ w' w'.heap.size [.slice A3 x.conf.length c3] x.conf) ∧ akSR.at_ w' w'.heap.size [.slice A5 x.as_.length c5] x.as_) ∧ lnSR.at_ w' w'.heap.size [.slice A6 x.ls.length c6] x.ls) ∧ w'.heap[w.heap.size]? = some (.cells #[.int .i64 x.st, .int .i64 x.epoch, .int .i64 x.gen, .slice A3 x.conf.length c3, .bool x.paused, .slice A5 x.as_.length c5, .slice A6 x.ls.length c6, .int .i64 x.ticket, .int .i64 x.h.id, .int .i64 x.h.no, .int .i64 x.h.acked, .int .i64 x.h.since] 70 (0, 0))) (w.alloc (.cells #[.int .i64 x.st, .int .i64 x.epoch, .int .i64 x.gen, .slice A3 x.conf.length c3, .bool x.paused, .slice A5 x.as_.length c5, .slice A6 x.ls.length c6, .int .i64 x.ticket, .int .i64 x.h.id, .int .i64 x.h.no, .int .i64 x.h.acked, .int .i64 x.h.since] 70)) :=
    ⟨⟨⟨⟨Later.alloc w _, Rep.more dbsR (Rep.at_below h3 (Later.alloc w _)) (by simp)⟩, Rep.more akSR (Rep.at_below h5 (Later.alloc w _)) (by simp)⟩, Rep.more lnSR (Rep.at_below h6 (Later.alloc w _)) (by simp)⟩, heap_alloc_new w _⟩
  clear h h3 h5 h6 hs
  obtain ⟨b0, h0⟩ : ∃ b, pB (AscA x.as_ ∧ x.as_.length ≤ 6) = b := ⟨_, rfl⟩
  obtain ⟨b1, h1⟩ : ∃ b, pB (AscL x.ls ∧ x.ls.length ≤ 9) = b := ⟨_, rfl⟩
  obtain ⟨b2, h2⟩ : ∃ b, pB (ApartP x.as_ x.ls) = b := ⟨_, rfl⟩
  obtain ⟨b3, h3⟩ : ∃ b, pB (TickP x.as_ x.ticket ∧ (0 ≤ x.ticket ∧ x.ticket ≤ 65535)) = b := ⟨_, rfl⟩
  have H0 := Lib.hid h0
  have H1 := Lib.hid h1
  have H2 := Lib.hid h2
  have H3 := Lib.hid h3
  have HO : Hid (∀ b : Bool, (b0 && b1 && b2 && b3) = b → pB (HouseP x) = (b && stB x)) := Lib.hid (fun b hb => by
    cases b
    · refine pB_no (fun hp => ?_)
      obtain ⟨⟨q0, q1, q2, q3, q4, q5, q6⟩, _⟩ := hp
      rw [← h0, ← h1, ← h2, ← h3, pB_yes ⟨q0, q4⟩, pB_yes ⟨q1, q5⟩, pB_yes q2, pB_yes ⟨q3, q6⟩] at hb
      cases hb
    · simp only [Bool.and_eq_true] at hb
      obtain ⟨⟨⟨rfl, rfl⟩, rfl⟩, rfl⟩ := hb
      have q0 := pB_true h0
      have q1 := pB_true h1
      have q3 := pB_true h3
      rw [house_st ⟨q0.1, q1.1, pB_true h2, q3.1, q0.2, q1.2, q3.2⟩]
      simp)
  clear h0 h1 h2 h3
  obtain ⟨bn, hbn⟩ : ∃ b, nothB x = b := ⟨_, rfl⟩
  obtain ⟨bo, hbo⟩ : ∃ b, pB (OwnsP x) = b := ⟨_, rfl⟩
  obtain ⟨bz, hbz⟩ : ∃ b, hdEqB x.h hdZero = b := ⟨_, rfl⟩
  have G1 : ∀ a b w, (eqGuard .eql 68 a b (.agg #[.int .i64 x.h.id, .int .i64 x.h.no, .int .i64 x.h.acked, .int .i64 x.h.since]) (.agg #[.int .i64 0, .int .i64 0, .int .i64 0, .int .i64 0])).run Try.prog w = .ok () w := fun a b w => hd_guard .eql a b x.h hdZero w
  have G2 : ∀ w, (Op.equalIn 10000 68 (.agg #[.int .i64 x.h.id, .int .i64 x.h.no, .int .i64 x.h.acked, .int .i64 x.h.since]) (.agg #[.int .i64 0, .int .i64 0, .int .i64 0, .int .i64 0])).run Try.prog w = .ok bz w := fun w => by rw [← hbz]; exact hd_equal x.h hdZero w
  have HN := Lib.hid hbn
  have HW := Lib.hid hbo
  have HZ := Lib.hid hbz
  clear hbn hbo hbz
  have v0 := var_cell S.out.2 0
  have v1 := var_cell S.out.2 1
  have v2 := var_cell S.out.2 2
  have v3 := var_cell S.out.2 3
  have v4 := var_cell S.out.2 4
  have v5 := var_cell S.out.2 5
  have v6 := var_cell S.out.2 6
  have v7 := var_cell S.out.2 7
  have v8 := var_cell S.out.2 8
  have v9 := var_cell S.out.2 9
  have v10 := var_cell S.out.2 10
  have v11 := var_cell S.out.2 11
  unfold RetBool
  go_enter Try.func48, Try.ntmps48
  go_wp2_with fail
  generalize w.alloc (.cells #[.int .i64 x.st, .int .i64 x.epoch, .int .i64 x.gen, .slice A3 x.conf.length c3, .bool x.paused, .slice A5 x.as_.length c5, .slice A6 x.ls.length c6, .int .i64 x.ticket, .int .i64 x.h.id, .int .i64 x.h.no, .int .i64 x.h.acked, .int .i64 x.h.since] 70) = W0 at *
  clear v0 v1 v2 v3 v4 v5 v6 v7 v8 v9 v10 v11
  refine (askersOk_any A5 c5 x.as_ W0 S.out.1.1.2 HS.out.2.1).mono ?_
  rw [H0.out]
  rintro e W1 ⟨rfl, hb⟩
  replace S := S.later hb
  clear hb
  have v0 := var_cell S.out.2 0
  have v1 := var_cell S.out.2 1
  have v2 := var_cell S.out.2 2
  have v3 := var_cell S.out.2 3
  have v4 := var_cell S.out.2 4
  have v5 := var_cell S.out.2 5
  have v6 := var_cell S.out.2 6
  have v7 := var_cell S.out.2 7
  have v8 := var_cell S.out.2 8
  have v9 := var_cell S.out.2 9
  have v10 := var_cell S.out.2 10
  have v11 := var_cell S.out.2 11
  cases b0
  · have HE := Lib.hid (HO.out false rfl)
    go_wp2_with fail
    go_ret
    exact ⟨by rw [HE.out]; exact rfl, S.out.1.1.1.1⟩
  go_wp2_with fail
  clear v0 v1 v2 v3 v4 v5 v6 v7 v8 v9 v10 v11
  refine (linesOk_any A6 c6 x.ls W1 S.out.1.2 HS.out.2.2).mono ?_
  rw [H1.out]
  rintro e W2 ⟨rfl, hb⟩
  replace S := S.later hb
  clear hb
  have v0 := var_cell S.out.2 0
  have v1 := var_cell S.out.2 1
  have v2 := var_cell S.out.2 2
  have v3 := var_cell S.out.2 3
  have v4 := var_cell S.out.2 4
  have v5 := var_cell S.out.2 5
  have v6 := var_cell S.out.2 6
  have v7 := var_cell S.out.2 7
  have v8 := var_cell S.out.2 8
  have v9 := var_cell S.out.2 9
  have v10 := var_cell S.out.2 10
  have v11 := var_cell S.out.2 11
  cases b1
  · have HE := Lib.hid (HO.out false rfl)
    go_wp2_with fail
    go_ret
    exact ⟨by rw [HE.out]; exact rfl, S.out.1.1.1.1⟩
  go_wp2_with fail
  clear v0 v1 v2 v3 v4 v5 v6 v7 v8 v9 v10 v11
  refine (apart_any A5 c5 x.as_ A6 c6 x.ls W2 S.out.1.1.2 S.out.1.2 HS.out.2.1.1 HS.out.2.2.1).mono ?_
  rw [H2.out]
  rintro e W3 ⟨rfl, hb⟩
  replace S := S.later hb
  clear hb
  have v0 := var_cell S.out.2 0
  have v1 := var_cell S.out.2 1
  have v2 := var_cell S.out.2 2
  have v3 := var_cell S.out.2 3
  have v4 := var_cell S.out.2 4
  have v5 := var_cell S.out.2 5
  have v6 := var_cell S.out.2 6
  have v7 := var_cell S.out.2 7
  have v8 := var_cell S.out.2 8
  have v9 := var_cell S.out.2 9
  have v10 := var_cell S.out.2 10
  have v11 := var_cell S.out.2 11
  cases b2
  · have HE := Lib.hid (HO.out false rfl)
    go_wp2_with fail
    go_ret
    exact ⟨by rw [HE.out]; exact rfl, S.out.1.1.1.1⟩
  go_wp2_with fail
  clear v0 v1 v2 v3 v4 v5 v6 v7 v8 v9 v10 v11
  refine (ticketsOk_any A5 c5 x.as_ x.ticket W3 S.out.1.1.2 HS.out.2.1.1 (fun i y hy hst => akB_ticket ((pB_true H0.out).1 i y hy).1 hst)).mono ?_
  rw [H3.out]
  rintro e W4 ⟨rfl, hb⟩
  replace S := S.later hb
  clear hb
  have v0 := var_cell S.out.2 0
  have v1 := var_cell S.out.2 1
  have v2 := var_cell S.out.2 2
  have v3 := var_cell S.out.2 3
  have v4 := var_cell S.out.2 4
  have v5 := var_cell S.out.2 5
  have v6 := var_cell S.out.2 6
  have v7 := var_cell S.out.2 7
  have v8 := var_cell S.out.2 8
  have v9 := var_cell S.out.2 9
  have v10 := var_cell S.out.2 10
  have v11 := var_cell S.out.2 11
  cases b3
  · have HE := Lib.hid (HO.out false rfl)
    go_wp2_with fail
    go_ret
    exact ⟨by rw [HE.out]; exact rfl, S.out.1.1.1.1⟩
  have HE := HO.out true rfl
  rw [Bool.true_and] at HE
  replace HE := Lib.hid HE
  clear HO
  by_cases hst : x.st = 0
  · skip
    have s0 : (x.st == 0) = true := by simp [hst]
    have HST : Hid (stB x = (((((bn && !x.paused) && ((x.as_.length : Int) == 0)) && ((x.ls.length : Int) == 0)) && (x.ticket == 0)) && bz)) := Lib.hid (by unfold stB; rw [if_pos (by omega), HN.out, HZ.out])
    clear hst
    go_wp2_with fail
    clear v0 v1 v2 v3 v4 v5 v6 v7 v8 v9 v10 v11
    refine (ownsNothing_any x A3 c3 A5 c5 A6 c6 _).mono ?_
    rw [HN.out]
    rintro e W9 ⟨rfl, hb⟩
    replace S := S.later hb
    clear hb
    have v0 := var_cell S.out.2 0
    have v1 := var_cell S.out.2 1
    have v2 := var_cell S.out.2 2
    have v3 := var_cell S.out.2 3
    have v4 := var_cell S.out.2 4
    have v5 := var_cell S.out.2 5
    have v6 := var_cell S.out.2 6
    have v7 := var_cell S.out.2 7
    have v8 := var_cell S.out.2 8
    have v9 := var_cell S.out.2 9
    have v10 := var_cell S.out.2 10
    have v11 := var_cell S.out.2 11
    cases bn
    · skip
      go_wp2_with fail
      go_ret
      exact ⟨by rw [HE.out, HST.out]; simp, S.out.1.1.1.1⟩
    · skip
      cases t0 : x.paused
      · skip
        cases t1 : ((x.as_.length : Int) == 0)
        · skip
          go_wp2_with fail
          go_ret
          exact ⟨by rw [HE.out, HST.out, t0, t1]; exact rfl, S.out.1.1.1.1⟩
        · skip
          cases t2 : ((x.ls.length : Int) == 0)
          · skip
            go_wp2_with fail
            go_ret
            exact ⟨by rw [HE.out, HST.out, t0, t1, t2]; exact rfl, S.out.1.1.1.1⟩
          · skip
            cases t3 : (x.ticket == 0)
            · skip
              go_wp2_with fail
              go_ret
              exact ⟨by rw [HE.out, HST.out, t0, t1, t2, t3]; exact rfl, S.out.1.1.1.1⟩
            · skip
              go_wp2_with fail
              go_ret
              exact ⟨by rw [HE.out, HST.out, t0, t1, t2, t3]; exact rfl, S.out.1.1.1.1⟩
      · skip
        go_wp2_with fail
        go_ret
        exact ⟨by rw [HE.out, HST.out, t0]; exact rfl, S.out.1.1.1.1⟩
  · skip
    have n0 := hst
    clear hst
    by_cases hst : x.st = 1
    · skip
      have s0 : (x.st == 0) = false := by simp [n0]
      have s1 : (x.st == 1) = true := by simp [hst]
      have HST : Hid (stB x = (((((bn && !x.paused) && ((x.as_.length : Int) == 0)) && ((x.ls.length : Int) == 0)) && (x.ticket == 0)) && bz)) := Lib.hid (by unfold stB; rw [if_pos (by omega), HN.out, HZ.out])
      clear hst
      go_wp2_with fail
      clear v0 v1 v2 v3 v4 v5 v6 v7 v8 v9 v10 v11
      refine (ownsNothing_any x A3 c3 A5 c5 A6 c6 _).mono ?_
      rw [HN.out]
      rintro e W9 ⟨rfl, hb⟩
      replace S := S.later hb
      clear hb
      have v0 := var_cell S.out.2 0
      have v1 := var_cell S.out.2 1
      have v2 := var_cell S.out.2 2
      have v3 := var_cell S.out.2 3
      have v4 := var_cell S.out.2 4
      have v5 := var_cell S.out.2 5
      have v6 := var_cell S.out.2 6
      have v7 := var_cell S.out.2 7
      have v8 := var_cell S.out.2 8
      have v9 := var_cell S.out.2 9
      have v10 := var_cell S.out.2 10
      have v11 := var_cell S.out.2 11
      cases bn
      · skip
        go_wp2_with fail
        go_ret
        exact ⟨by rw [HE.out, HST.out]; simp, S.out.1.1.1.1⟩
      · skip
        cases t0 : x.paused
        · skip
          cases t1 : ((x.as_.length : Int) == 0)
          · skip
            go_wp2_with fail
            go_ret
            exact ⟨by rw [HE.out, HST.out, t0, t1]; exact rfl, S.out.1.1.1.1⟩
          · skip
            cases t2 : ((x.ls.length : Int) == 0)
            · skip
              go_wp2_with fail
              go_ret
              exact ⟨by rw [HE.out, HST.out, t0, t1, t2]; exact rfl, S.out.1.1.1.1⟩
            · skip
              cases t3 : (x.ticket == 0)
              · skip
                go_wp2_with fail
                go_ret
                exact ⟨by rw [HE.out, HST.out, t0, t1, t2, t3]; exact rfl, S.out.1.1.1.1⟩
              · skip
                go_wp2_with fail
                go_ret
                exact ⟨by rw [HE.out, HST.out, t0, t1, t2, t3]; exact rfl, S.out.1.1.1.1⟩
        · skip
          go_wp2_with fail
          go_ret
          exact ⟨by rw [HE.out, HST.out, t0]; exact rfl, S.out.1.1.1.1⟩
    · skip
      have n1 := hst
      clear hst
      by_cases hst : x.st = 2
      · skip
        have s0 : (x.st == 0) = false := by simp [n0]
        have s1 : (x.st == 1) = false := by simp [n1]
        have s2 : (x.st == 2) = true := by simp [hst]
        have HST : Hid (stB x = (bo && bz)) := Lib.hid (by unfold stB; rw [if_neg (by omega), if_pos hst, HW.out, HZ.out])
        clear hst
        go_wp2_with fail
        clear v0 v1 v2 v3 v4 v5 v6 v7 v8 v9 v10 v11
        refine (ownsOk_any x A3 c3 A5 c5 A6 c6 _ S.out.1.1.1.2 S.out.1.1.2 S.out.1.2 HS.out).mono ?_
        rw [HW.out]
        rintro e W9 ⟨rfl, hb⟩
        replace S := S.later hb
        clear hb
        have v0 := var_cell S.out.2 0
        have v1 := var_cell S.out.2 1
        have v2 := var_cell S.out.2 2
        have v3 := var_cell S.out.2 3
        have v4 := var_cell S.out.2 4
        have v5 := var_cell S.out.2 5
        have v6 := var_cell S.out.2 6
        have v7 := var_cell S.out.2 7
        have v8 := var_cell S.out.2 8
        have v9 := var_cell S.out.2 9
        have v10 := var_cell S.out.2 10
        have v11 := var_cell S.out.2 11
        cases bo
        · skip
          go_wp2_with fail
          go_ret
          exact ⟨by rw [HE.out, HST.out]; exact rfl, S.out.1.1.1.1⟩
        · skip
          go_wp2_with fail
          go_ret
          exact ⟨by rw [HE.out, HST.out]; exact rfl, S.out.1.1.1.1⟩
      · skip
        have n2 := hst
        clear hst
        by_cases hst : x.st = 3
        · skip
          have s0 : (x.st == 0) = false := by simp [n0]
          have s1 : (x.st == 1) = false := by simp [n1]
          have s2 : (x.st == 2) = false := by simp [n2]
          have s3 : (x.st == 3) = true := by simp [hst]
          have HST : Hid (stB x = ((bo && (x.h.id == x.epoch)) && handB x.h x.h.no)) := Lib.hid (by unfold stB; rw [if_neg (by omega), if_neg (by omega), if_pos hst, HW.out])
          clear hst
          go_wp2_with fail
          clear v0 v1 v2 v3 v4 v5 v6 v7 v8 v9 v10 v11
          refine (ownsOk_any x A3 c3 A5 c5 A6 c6 _ S.out.1.1.1.2 S.out.1.1.2 S.out.1.2 HS.out).mono ?_
          rw [HW.out]
          rintro e W9 ⟨rfl, hb⟩
          replace S := S.later hb
          clear hb
          have v0 := var_cell S.out.2 0
          have v1 := var_cell S.out.2 1
          have v2 := var_cell S.out.2 2
          have v3 := var_cell S.out.2 3
          have v4 := var_cell S.out.2 4
          have v5 := var_cell S.out.2 5
          have v6 := var_cell S.out.2 6
          have v7 := var_cell S.out.2 7
          have v8 := var_cell S.out.2 8
          have v9 := var_cell S.out.2 9
          have v10 := var_cell S.out.2 10
          have v11 := var_cell S.out.2 11
          cases bo
          · skip
            go_wp2_with fail
            go_ret
            exact ⟨by rw [HE.out, HST.out]; exact rfl, S.out.1.1.1.1⟩
          · skip
            cases te : (x.h.id == x.epoch)
            · skip
              go_wp2_with fail
              go_ret
              exact ⟨by rw [HE.out, HST.out, te]; exact rfl, S.out.1.1.1.1⟩
            · skip
              go_wp2_with fail
              clear v0 v1 v2 v3 v4 v5 v6 v7 v8 v9 v10 v11
              refine (handOk_any x.h x.h.no _).mono ?_
              rintro e W9 ⟨rfl, hb⟩
              replace S := S.later hb
              clear hb
              have v0 := var_cell S.out.2 0
              have v1 := var_cell S.out.2 1
              have v2 := var_cell S.out.2 2
              have v3 := var_cell S.out.2 3
              have v4 := var_cell S.out.2 4
              have v5 := var_cell S.out.2 5
              have v6 := var_cell S.out.2 6
              have v7 := var_cell S.out.2 7
              have v8 := var_cell S.out.2 8
              have v9 := var_cell S.out.2 9
              have v10 := var_cell S.out.2 10
              have v11 := var_cell S.out.2 11
              go_wp2_with fail
              go_ret
              exact ⟨by rw [HE.out, HST.out, te]; exact rfl, S.out.1.1.1.1⟩
        · skip
          have n3 := hst
          clear hst
          by_cases hst : x.st = 4
          · skip
            have s0 : (x.st == 0) = false := by simp [n0]
            have s1 : (x.st == 1) = false := by simp [n1]
            have s2 : (x.st == 2) = false := by simp [n2]
            have s3 : (x.st == 3) = false := by simp [n3]
            have s4 : (x.st == 4) = true := by simp [hst]
            have HST : Hid (stB x = (bn && handB x.h (x.h.no - 1))) := Lib.hid (by unfold stB; rw [if_neg (by omega), if_neg (by omega), if_neg (by omega), if_pos hst, HN.out])
            clear hst
            go_wp2_with fail
            clear v0 v1 v2 v3 v4 v5 v6 v7 v8 v9 v10 v11
            refine (ownsNothing_any x A3 c3 A5 c5 A6 c6 _).mono ?_
            rw [HN.out]
            rintro e W9 ⟨rfl, hb⟩
            replace S := S.later hb
            clear hb
            have v0 := var_cell S.out.2 0
            have v1 := var_cell S.out.2 1
            have v2 := var_cell S.out.2 2
            have v3 := var_cell S.out.2 3
            have v4 := var_cell S.out.2 4
            have v5 := var_cell S.out.2 5
            have v6 := var_cell S.out.2 6
            have v7 := var_cell S.out.2 7
            have v8 := var_cell S.out.2 8
            have v9 := var_cell S.out.2 9
            have v10 := var_cell S.out.2 10
            have v11 := var_cell S.out.2 11
            cases bn
            · skip
              go_wp2_with fail
              go_ret
              exact ⟨by rw [HE.out, HST.out]; exact rfl, S.out.1.1.1.1⟩
            · skip
              go_wp2_with fail
              clear v0 v1 v2 v3 v4 v5 v6 v7 v8 v9 v10 v11
              refine (handOk_any x.h (wrap64 (x.h.no - 1)) _).mono ?_
              rintro e W9 ⟨rfl, hb⟩
              replace S := S.later hb
              clear hb
              have v0 := var_cell S.out.2 0
              have v1 := var_cell S.out.2 1
              have v2 := var_cell S.out.2 2
              have v3 := var_cell S.out.2 3
              have v4 := var_cell S.out.2 4
              have v5 := var_cell S.out.2 5
              have v6 := var_cell S.out.2 6
              have v7 := var_cell S.out.2 7
              have v8 := var_cell S.out.2 8
              have v9 := var_cell S.out.2 9
              have v10 := var_cell S.out.2 10
              have v11 := var_cell S.out.2 11
              go_wp2_with fail
              go_ret
              exact ⟨by rw [HE.out, HST.out, ← hand_wrap]; exact rfl, S.out.1.1.1.1⟩
          · skip
            have n4 := hst
            clear hst
            have s0 : (x.st == 0) = false := by simp [n0]
            have s1 : (x.st == 1) = false := by simp [n1]
            have s2 : (x.st == 2) = false := by simp [n2]
            have s3 : (x.st == 3) = false := by simp [n3]
            have s4 : (x.st == 4) = false := by simp [n4]
            have HST : Hid (stB x = false) := Lib.hid (by unfold stB; rw [if_neg (by omega), if_neg n2, if_neg n3, if_neg n4])
            clear n0 n1 n2 n3 n4
            go_wp2_with fail
            go_ret
            exact ⟨by rw [HE.out, HST.out]; exact rfl, S.out.1.1.1.1⟩

end Go.Proofs.Ytgdhhhibkhfdlaa
