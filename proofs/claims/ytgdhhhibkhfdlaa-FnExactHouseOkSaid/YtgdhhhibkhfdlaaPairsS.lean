/- l10Lent, l10NoHand and l10Pairs of the model. (By gen_l10m.py.) -/
import Derived.Test.YtgdhhhibkhfdlaaListsS
import Derived.Test.YtgdhhhibkhfdlaaHouseI4
namespace Go.Proofs.Ytgdhhhibkhfdlaa
open Go.RowKit
set_option linter.unusedVariables false
set_option linter.unusedSimpArgs false
set_option maxRecDepth 100000

set_option maxHeartbeats 8000000 in
theorem lentS_any (a : Ak) (y : Ln) (w : World) : Calls Try.prog 179 #[.agg (akC a).toArray, .agg (lnC y).toArray] w (RetBool w (lentB a y)) := by
  unfold akC lnC RetBool lentB
  have hb : Below w.heap.size w ((w.alloc (.cells #[.int .i64 a.sock, .string a.db, .int .i64 a.st, .int .i64 a.ticket, .int .i64 a.since, .string a.q, .int .i64 a.line, .int .i64 a.lease] 50)).alloc (.cells #[.int .i64 y.sock, .string y.db, .int .i64 y.gen, .int .i64 y.st, .int .i64 y.since, .int .i64 y.asker, .int .i64 y.lease] 52)) := Later.trans (Later.alloc w _) (Later.alloc _ _)
  have hV := (Below.heap_alloc (w.alloc (.cells #[.int .i64 a.sock, .string a.db, .int .i64 a.st, .int .i64 a.ticket, .int .i64 a.since, .string a.q, .int .i64 a.line, .int .i64 a.lease] 50)) (.cells #[.int .i64 y.sock, .string y.db, .int .i64 y.gen, .int .i64 y.st, .int .i64 y.since, .int .i64 y.asker, .int .i64 y.lease] 52) w.heap.size (by simp)).trans (heap_alloc_new w (.cells #[.int .i64 a.sock, .string a.db, .int .i64 a.st, .int .i64 a.ticket, .int .i64 a.since, .string a.q, .int .i64 a.line, .int .i64 a.lease] 50))
  have hU : ((w.alloc (.cells #[.int .i64 a.sock, .string a.db, .int .i64 a.st, .int .i64 a.ticket, .int .i64 a.since, .string a.q, .int .i64 a.line, .int .i64 a.lease] 50)).alloc (.cells #[.int .i64 y.sock, .string y.db, .int .i64 y.gen, .int .i64 y.st, .int .i64 y.since, .int .i64 y.asker, .int .i64 y.lease] 52)).heap[w.heap.size + 1]? = some (.cells #[.int .i64 y.sock, .string y.db, .int .i64 y.gen, .int .i64 y.st, .int .i64 y.since, .int .i64 y.asker, .int .i64 y.lease] 52 (0, 0)) := heap_alloc_new' _ _ (by simp)
  go_enter Try.func179, Try.ntmps179
  go_upto_region 1 with (fail)
  generalize (w.alloc (.cells #[.int .i64 a.sock, .string a.db, .int .i64 a.st, .int .i64 a.ticket, .int .i64 a.since, .string a.q, .int .i64 a.line, .int .i64 a.lease] 50)).alloc (.cells #[.int .i64 y.sock, .string y.db, .int .i64 y.gen, .int .i64 y.st, .int .i64 y.since, .int .i64 y.asker, .int .i64 y.lease] 52) = W1 at *
  have v0 := var_cell hV 0
  have v1 := var_cell hV 1
  have v2 := var_cell hV 2
  have v6 := var_cell hV 6
  have v7 := var_cell hV 7
  have u0 := var_cell hU 0
  have u1 := var_cell hU 1
  have u3 := var_cell hU 3
  have u5 := var_cell hU 5
  have u6 := var_cell hU 6
  cases t1 : (a.line == y.sock)
  · skip
    go_wp2_with fail
    go_ret
    exact ⟨by (try simp only [t1, Bool.and_true, Bool.true_and, Bool.and_false, Bool.false_and, Bool.or_false, Bool.or_true, Bool.false_or]); exact rfl, hb⟩
  · skip
    cases t2 : (y.asker == a.sock)
    · skip
      go_wp2_with fail
      go_ret
      exact ⟨by (try simp only [t1, t2, Bool.and_true, Bool.true_and, Bool.and_false, Bool.false_and, Bool.or_false, Bool.or_true, Bool.false_or]); exact rfl, hb⟩
    · skip
      cases t3 : (a.lease == y.lease)
      · skip
        go_wp2_with fail
        go_ret
        exact ⟨by (try simp only [t1, t2, t3, Bool.and_true, Bool.true_and, Bool.and_false, Bool.false_and, Bool.or_false, Bool.or_true, Bool.false_or]); exact rfl, hb⟩
      · skip
        cases t4 : (a.db.toList == y.db.toList)
        · skip
          go_wp2_with fail
          go_ret
          exact ⟨by (try simp only [t1, t2, t3, t4, Bool.and_true, Bool.true_and, Bool.and_false, Bool.false_and, Bool.or_false, Bool.or_true, Bool.false_or]); exact rfl, hb⟩
        · skip
          rcases st34 a.st with hs | hs | ⟨hs3, hs4⟩
          · have s3 : (a.st == 3) = true := by simp [hs]
            have s4 : (a.st == 4) = false := by simp [hs]
            clear hs
            cases t5 : (y.st == 1)
            · skip
              go_wp2_with fail
              go_ret
              exact ⟨by (try simp only [t1, t2, t3, t4, s3, s4, t5, Bool.and_true, Bool.true_and, Bool.and_false, Bool.false_and, Bool.or_false, Bool.or_true, Bool.false_or]); exact rfl, hb⟩
            · skip
              go_wp2_with fail
              go_ret
              exact ⟨by (try simp only [t1, t2, t3, t4, s3, s4, t5, Bool.and_true, Bool.true_and, Bool.and_false, Bool.false_and, Bool.or_false, Bool.or_true, Bool.false_or]); exact rfl, hb⟩
          · have s3 : (a.st == 3) = false := by simp [hs]
            have s4 : (a.st == 4) = true := by simp [hs]
            clear hs
            cases t6 : (y.st == 2)
            · skip
              go_wp2_with fail
              go_ret
              exact ⟨by (try simp only [t1, t2, t3, t4, s3, s4, t6, Bool.and_true, Bool.true_and, Bool.and_false, Bool.false_and, Bool.or_false, Bool.or_true, Bool.false_or]); exact rfl, hb⟩
            · skip
              go_wp2_with fail
              go_ret
              exact ⟨by (try simp only [t1, t2, t3, t4, s3, s4, t6, Bool.and_true, Bool.true_and, Bool.and_false, Bool.false_and, Bool.or_false, Bool.or_true, Bool.false_or]); exact rfl, hb⟩
          · skip
            go_wp2_with fail
            go_ret
            exact ⟨by (try simp only [t1, t2, t3, t4, hs3, hs4, Bool.and_true, Bool.true_and, Bool.and_false, Bool.false_and, Bool.or_false, Bool.or_true, Bool.false_or]); exact rfl, hb⟩

set_option maxHeartbeats 4000000 in
theorem noHand_any (h : Hd) (w : World) : Calls Try.prog 127 #[.agg #[.int .i64 h.id, .int .i64 h.no, .int .i64 h.acked, .int .i64 h.since]] w (RetBool w (hdEqB h hdZero)) := by
  obtain ⟨u, hu⟩ : ∃ u, hdEqB h hdZero = u := ⟨_, rfl⟩
  have G1 : ∀ a b w, (eqGuard .eql 68 a b (.agg #[.int .i64 h.id, .int .i64 h.no, .int .i64 h.acked, .int .i64 h.since]) (.agg #[.int .i64 0, .int .i64 0, .int .i64 0, .int .i64 0])).run Try.prog w = .ok () w := fun a b w => hd_guard .eql a b h hdZero w
  have G2 : ∀ w, (Op.equalIn 10000 68 (.agg #[.int .i64 h.id, .int .i64 h.no, .int .i64 h.acked, .int .i64 h.since]) (.agg #[.int .i64 0, .int .i64 0, .int .i64 0, .int .i64 0])).run Try.prog w = .ok u w := fun w => by rw [← hu]; exact hd_equal h hdZero w
  rw [hu]
  have hb := Later.alloc w (.cells #[.int .i64 h.id, .int .i64 h.no, .int .i64 h.acked, .int .i64 h.since] 68)
  clear hu
  unfold RetBool
  go_enter Try.func127, Try.ntmps127
  go_wp2_with fail
  go_ret
  exact ⟨rfl, hb⟩

theorem akB_st {y : Ak} (h : akB y = true) (h3 : 3 ≤ y.st) : y.st = 3 ∨ y.st = 4 := by
  unfold akB at h
  by_cases a3 : y.st = 3
  · exact .inl a3
  by_cases a4 : y.st = 4
  · exact .inr a4
  rw [if_neg (by omega), if_neg (by omega), if_neg (by omega), if_neg a3, if_neg a4] at h
  simp at h

set_option maxHeartbeats 16000000 in
theorem pairs_any (x : Ho) (A3 : Option Addr) (c3 : Nat) (A5 : Option Addr) (c5 : Nat) (A6 : Option Addr) (c6 : Nat) (w : World) (h5 : akSR.at_ w w.heap.size [.slice A5 x.as_.length c5] x.as_) (h6 : lnSR.at_ w w.heap.size [.slice A6 x.ls.length c6] x.ls) (hs : FitsHo x) (ha : AscA x.as_) :
    Calls Try.prog 129 #[.agg #[.int .i64 x.st, .int .i64 x.epoch, .int .i64 x.gen, .slice A3 x.conf.length c3, .bool x.paused, .slice A5 x.as_.length c5, .slice A6 x.ls.length c6, .int .i64 x.ticket, .int .i64 x.h.id, .int .i64 x.h.no, .int .i64 x.h.acked, .int .i64 x.h.since]] w (RetBool w (pB (PairA x.as_ x.ls ∧ PairL x.as_ x.ls))) := by
  have HAS := Lib.hid ha
  have hn5 : x.as_.length ≤ 1048576 := hs.2.1.1
  have hn6 : x.ls.length ≤ 1048576 := hs.2.2.1
  have hl6 : x.ls.length ≤ 9223372036854775807 := by omega
  have hl5 : x.as_.length ≤ 9223372036854775807 := by omega
  have S : All (fun w' => ((Below w.heap.size w w' ∧ akSR.at_ w' w'.heap.size [.slice A5 x.as_.length c5] x.as_) ∧ lnSR.at_ w' w'.heap.size [.slice A6 x.ls.length c6] x.ls) ∧ w'.heap[w.heap.size]? = some (.cells #[.int .i64 x.st, .int .i64 x.epoch, .int .i64 x.gen, .slice A3 x.conf.length c3, .bool x.paused, .slice A5 x.as_.length c5, .slice A6 x.ls.length c6, .int .i64 x.ticket, .int .i64 x.h.id, .int .i64 x.h.no, .int .i64 x.h.acked, .int .i64 x.h.since] 70 (0, 0))) (w.alloc (.cells #[.int .i64 x.st, .int .i64 x.epoch, .int .i64 x.gen, .slice A3 x.conf.length c3, .bool x.paused, .slice A5 x.as_.length c5, .slice A6 x.ls.length c6, .int .i64 x.ticket, .int .i64 x.h.id, .int .i64 x.h.no, .int .i64 x.h.acked, .int .i64 x.h.since] 70)) :=
    ⟨⟨⟨Later.alloc w _, Rep.more akSR (Rep.at_below h5 (Later.alloc w _)) (by simp)⟩, Rep.more lnSR (Rep.at_below h6 (Later.alloc w _)) (by simp)⟩, heap_alloc_new w _⟩
  clear h5 h6 hs ha
  unfold RetBool
  go_enter Try.func129, Try.ntmps129
  go_wp2_with fail
  generalize w.alloc (.cells #[.int .i64 x.st, .int .i64 x.epoch, .int .i64 x.gen, .slice A3 x.conf.length c3, .bool x.paused, .slice A5 x.as_.length c5, .slice A6 x.ls.length c6, .int .i64 x.ticket, .int .i64 x.h.id, .int .i64 x.h.no, .int .i64 x.h.acked, .int .i64 x.h.since] 70) = W0 at *
  go_loopw [3] (fun i wr => ∃ k : Nat, k ≤ x.as_.length ∧ i = .int .i64 k ∧ Hid (∀ (i : Nat) a, i < k → x.as_[i]? = some a → (a.st = 3 ∨ a.st = 4) → hasLP a x.ls) ∧ All (fun w' => ((Below w.heap.size w w' ∧ akSR.at_ w' w'.heap.size [.slice A5 x.as_.length c5] x.as_) ∧ lnSR.at_ w' w'.heap.size [.slice A6 x.ls.length c6] x.ls) ∧ w'.heap[w.heap.size]? = some (.cells #[.int .i64 x.st, .int .i64 x.epoch, .int .i64 x.gen, .slice A3 x.conf.length c3, .bool x.paused, .slice A5 x.as_.length c5, .slice A6 x.ls.length c6, .int .i64 x.ticket, .int .i64 x.h.id, .int .i64 x.h.no, .int .i64 x.h.acked, .int .i64 x.h.since] 70 (0, 0))) wr) (fun i _ => x.as_.length - (intOf i).toNat)
  case atStart => exact ⟨0, by omega, rfl, Lib.hid (fun i y hi => by omega), S⟩
  case round =>
    clear S
    obtain ⟨k, hk, rfl, HU, S⟩ := hrel
    have q5 := var_cell S.out.2 5
    by_cases hlt : k < x.as_.length
    · obtain ⟨b, off, a, rfl, hbl, hy, e0, e1, e2, e3, e4, e5, e6, e7⟩ := ak_elem (akS_rows S.out.1.1.2).2 hlt
      have HY := Lib.hid hy
      have HNX : Hid (∀ _ : (a.st = 3 ∨ a.st = 4) → hasLP a x.ls, ∀ (i : Nat) a, i < k + 1 → x.as_[i]? = some a → (a.st = 3 ∨ a.st = 4) → hasLP a x.ls) := Lib.hid (fun hq i z hi hz hs => by
        by_cases e : i = k
        · subst e; rw [HY.out] at hz; injection hz with hz; subst hz; exact hq hs
        · exact HU.out i z (by omega) hz hs)
      clear hy HU
      have k1 : (k : Int) < (x.as_.length : Int) := by omega
      have k2 : (0 : Int) ≤ (k : Int) := by omega
      by_cases h3 : 3 ≤ a.st
      · have t3 : decide ((3 : Int) ≤ a.st) = true := by simp [h3]
        have HST := Lib.hid (akB_st ((HAS.out k a HY.out).1) h3)
        clear h3
        go_wp2_with fail
        rcases lnAt_cases x.ls a.line with hc | ⟨i2, y, hy, hsid, hc⟩
        · have HN := Lib.hid (show lnF a.line x.ls 0 = -1 from hc)
          have HE := Lib.hid (pB_no (p := PairA x.as_ x.ls ∧ PairL x.as_ x.ls) (fun h9 => by have h8 := h9.1 k a HY.out HST.out; have h7 := hasL_no hc; rw [pB_yes h8] at h7; cases h7))
          have T : All (fun w' => ((Below w.heap.size w w' ∧ akSR.at_ w' w'.heap.size [.slice (some ⟨b, off, none⟩) x.as_.length c5] x.as_) ∧ lnSR.at_ w' w'.heap.size [.slice A6 x.ls.length c6] x.ls) ∧ (w'.heap[w.heap.size]? = some (.cells #[.int .i64 x.st, .int .i64 x.epoch, .int .i64 x.gen, .slice A3 x.conf.length c3, .bool x.paused, .slice (some ⟨b, off, none⟩) x.as_.length c5, .slice A6 x.ls.length c6, .int .i64 x.ticket, .int .i64 x.h.id, .int .i64 x.h.no, .int .i64 x.h.acked, .int .i64 x.h.since] 70 (0, 0)) ∧ (w'.cell? ⟨b, off + k * 8, none⟩ = some (.int .i64 a.sock) ∧ w'.cell? ⟨b, off + k * 8 + 1, none⟩ = some (.string a.db) ∧ w'.cell? ⟨b, off + k * 8 + 2, none⟩ = some (.int .i64 a.st) ∧ w'.cell? ⟨b, off + k * 8 + 3, none⟩ = some (.int .i64 a.ticket) ∧ w'.cell? ⟨b, off + k * 8 + 4, none⟩ = some (.int .i64 a.since) ∧ w'.cell? ⟨b, off + k * 8 + 5, none⟩ = some (.string a.q) ∧ w'.cell? ⟨b, off + k * 8 + 6, none⟩ = some (.int .i64 a.line) ∧ w'.cell? ⟨b, off + k * 8 + 7, none⟩ = some (.int .i64 a.lease)))) wr := ⟨S.out.1, S.out.2, e0, e1, e2, e3, e4, e5, e6, e7⟩
          clear S HNX hc q5 e0 e1 e2 e3 e4 e5 e6 e7
          refine wp_region_open 100 (fun w' => w'.heap[w.heap.size]? = some (.cells #[.int .i64 x.st, .int .i64 x.epoch, .int .i64 x.gen, .slice A3 x.conf.length c3, .bool x.paused, .slice (some ⟨b, off, none⟩) x.as_.length c5, .slice A6 x.ls.length c6, .int .i64 x.ticket, .int .i64 x.h.id, .int .i64 x.h.no, .int .i64 x.h.acked, .int .i64 x.h.since] 70 (0, 0)) ∧ (w'.cell? ⟨b, off + k * 8, none⟩ = some (.int .i64 a.sock) ∧ w'.cell? ⟨b, off + k * 8 + 1, none⟩ = some (.string a.db) ∧ w'.cell? ⟨b, off + k * 8 + 2, none⟩ = some (.int .i64 a.st) ∧ w'.cell? ⟨b, off + k * 8 + 3, none⟩ = some (.int .i64 a.ticket) ∧ w'.cell? ⟨b, off + k * 8 + 4, none⟩ = some (.int .i64 a.since) ∧ w'.cell? ⟨b, off + k * 8 + 5, none⟩ = some (.string a.q) ∧ w'.cell? ⟨b, off + k * 8 + 6, none⟩ = some (.int .i64 a.line) ∧ w'.cell? ⟨b, off + k * 8 + 7, none⟩ = some (.int .i64 a.lease))) (by kernel_rfl) ?_
          replace T := T.drew
          refine wpAnyL_readsG [0, 1, 2, 3, 4, 5, 6, 7] (fuel := 2) (by kernel_rfl) T.out.2 ?_
          refine LexRG.yes rfl (by first | rfl | (simp [Region.wanted, yielded]; done)) ?_ (fun w' hw => ?_) ?_
          rotate_left
          focus (clear hw; go_simp; (try exact rfl))
          try go_frame
          refine LexRG.yes rfl (by first | rfl | (simp [Region.wanted, yielded]; done)) ?_ (fun w' hw => ?_) ?_
          rotate_left
          focus (have hw2 := hw.1; have q6 := var_cell hw2 6; clear hw2; clear hw; go_simp; (try exact rfl))
          try go_frame
          refine LexRG.yes rfl (by first | rfl | (simp [Region.wanted, yielded]; done)) ?_ (fun w' hw => ?_) ?_
          rotate_left
          focus (clear hw; go_simp; (try exact rfl))
          try go_frame
          refine LexRG.yes rfl (by first | rfl | (simp [Region.wanted, yielded]; done)) ?_ (fun w' hw => ?_) ?_
          rotate_left
          focus (have hw2 := hw.1; have q5 := var_cell hw2 5; clear hw2; clear hw; go_simp; (try exact rfl))
          try go_frame
          refine LexRG.yes rfl (by first | rfl | (simp [Region.wanted, yielded]; done)) ?_ (fun w' hw => ?_) ?_
          rotate_left
          focus (clear hw; go_simp; (try exact rfl))
          try go_frame
          refine LexRG.yes rfl (by first | rfl | (simp [Region.wanted, yielded]; done)) ?_ (fun w' hw => ?_) ?_
          rotate_left
          focus (clear hw; go_simp; (try exact rfl))
          try go_frame
          refine LexRG.yes rfl (by first | rfl | (simp [Region.wanted, yielded]; done)) ?_ (fun w' hw => ?_) ?_
          rotate_left
          focus (clear hw; go_simp; (try exact rfl))
          try go_frame
          refine LexRG.yes rfl (by first | rfl | (simp [Region.wanted, yielded]; done)) ?_ (fun w' hw => ?_) ?_
          rotate_left
          focus (obtain ⟨g0, g1, g2, g3, g4, g5, g6, g7⟩ := hw.2; clear hw; go_simp; (try exact rfl))
          try go_frame
          refine LexRG.nil ?_
          refine wpAnyL_one (i := 8) (by kernel_rfl) ?_
          refine lexA_get rfl ?_
          try go_frame
          go_wp2_with fail
          refine (lnAtS_any A6 c6 x.ls a.line wr.drew (lnS_rows T.out.1.2).2 hl6).mono ?_
          rw [HN.out]
          rintro e V1 ⟨rfl, hb⟩
          replace T := T.later hb
          clear hb
          go_wp2_with fail
          refine ⟨fun _ => T.out.2, ?_⟩
          refine wpAnyL_writes [9] (by kernel_rfl) (LexW.cons rfl ?_)
          try go_frame
          go_wp2_with fail
          refine ⟨fun _ => T.out.2, LexW.nil ?_⟩
          go_upto_region 6 with (fail)
          refine wp_region_open 100 (fun w' => w'.heap[w.heap.size]? = some (.cells #[.int .i64 x.st, .int .i64 x.epoch, .int .i64 x.gen, .slice A3 x.conf.length c3, .bool x.paused, .slice (some ⟨b, off, none⟩) x.as_.length c5, .slice A6 x.ls.length c6, .int .i64 x.ticket, .int .i64 x.h.id, .int .i64 x.h.no, .int .i64 x.h.acked, .int .i64 x.h.since] 70 (0, 0)) ∧ (w'.cell? ⟨b, off + k * 8, none⟩ = some (.int .i64 a.sock) ∧ w'.cell? ⟨b, off + k * 8 + 1, none⟩ = some (.string a.db) ∧ w'.cell? ⟨b, off + k * 8 + 2, none⟩ = some (.int .i64 a.st) ∧ w'.cell? ⟨b, off + k * 8 + 3, none⟩ = some (.int .i64 a.ticket) ∧ w'.cell? ⟨b, off + k * 8 + 4, none⟩ = some (.int .i64 a.since) ∧ w'.cell? ⟨b, off + k * 8 + 5, none⟩ = some (.string a.q) ∧ w'.cell? ⟨b, off + k * 8 + 6, none⟩ = some (.int .i64 a.line) ∧ w'.cell? ⟨b, off + k * 8 + 7, none⟩ = some (.int .i64 a.lease))) (by kernel_rfl) ?_
          replace T := T.drew
          refine wpAnyL_readsG [0, 1, 2, 3, 4, 5, 6, 7, 8, 9, 10, 11, 12] (fuel := 3) (by kernel_rfl) T.out.2 ?_
          refine LexRG.yes rfl (by first | rfl | (simp [Region.wanted, yielded]; done)) ?_ (fun w' hw => ?_) ?_
          rotate_left
          focus (clear hw; go_simp; (try exact rfl))
          try go_frame
          refine LexRG.yes rfl (by first | rfl | (simp [Region.wanted, yielded]; done)) ?_ (fun w' hw => ?_) ?_
          rotate_left
          focus (clear hw; go_simp; (try exact rfl))
          try go_frame
          refine LexRG.yes rfl (by first | rfl | (simp [Region.wanted, yielded]; done)) ?_ (fun w' hw => ?_) ?_
          rotate_left
          focus (clear hw; go_simp; (try exact rfl))
          try go_frame
          refine LexRG.no rfl (by first | rfl | (simp [Region.wanted, yielded]; done)) ?_
          try go_frame
          refine LexRG.no rfl (by first | rfl | (simp [Region.wanted, yielded]; done)) ?_
          try go_frame
          refine LexRG.no rfl (by first | rfl | (simp [Region.wanted, yielded]; done)) ?_
          try go_frame
          refine LexRG.no rfl (by first | rfl | (simp [Region.wanted, yielded]; done)) ?_
          try go_frame
          refine LexRG.no rfl (by first | rfl | (simp [Region.wanted, yielded]; done)) ?_
          try go_frame
          refine LexRG.no rfl (by first | rfl | (simp [Region.wanted, yielded]; done)) ?_
          try go_frame
          refine LexRG.no rfl (by first | rfl | (simp [Region.wanted, yielded]; done)) ?_
          try go_frame
          refine LexRG.no rfl (by first | rfl | (simp [Region.wanted, yielded]; done)) ?_
          try go_frame
          refine LexRG.no rfl (by first | rfl | (simp [Region.wanted, yielded]; done)) ?_
          try go_frame
          refine LexRG.no rfl (by first | rfl | (simp [Region.wanted, yielded]; done)) ?_
          try go_frame
          refine LexRG.nil ?_
          refine wpAnyL_one (i := 13) (by kernel_rfl) ?_
          refine lexA_get rfl ?_
          try go_frame
          go_wp2_with fail
          refine ⟨fun _ => T.out.2, ?_⟩
          refine wpAnyL_readsG [14] (fuel := 1) (by kernel_rfl) T.out.2 ?_
          refine LexRG.no rfl (by first | rfl | (simp [Region.wanted, yielded]; done)) ?_
          try go_frame
          refine LexRG.nil ?_
          refine wpAnyL_writes [15] (by kernel_rfl) (LexW.cons rfl ?_)
          try go_frame
          go_wp2_with fail
          refine ⟨fun _ => T.out.2, LexW.nil ?_⟩
          go_wp2_with fail
          go_ret
          exact ⟨by rw [HE.out]; exact rfl, T.out.1.1.1⟩
        · clear hsid
          have HN := Lib.hid (show lnF a.line x.ls 0 = (i2 : Int) from hc)
          have HHL := Lib.hid (hasL_yes hc hy)
          have hil : i2 < x.ls.length := (List.getElem?_eq_some_iff.1 hy).1
          have i1 : (i2 : Int) < (x.ls.length : Int) := by omega
          have i0 : (0 : Int) ≤ (i2 : Int) := by omega
          have in_ : decide ((i2 : Int) < 0) = false := by (simp; try omega)
          obtain ⟨b6, off6, z, rfl, _, hz, g0, g1, g2, g3, g4, g5, g6⟩ := ln_elem (lnS_rows S.out.1.2).2 hil
          rw [hy] at hz
          injection hz with hz
          subst hz
          have T : All (fun w' => ((Below w.heap.size w w' ∧ akSR.at_ w' w'.heap.size [.slice (some ⟨b, off, none⟩) x.as_.length c5] x.as_) ∧ lnSR.at_ w' w'.heap.size [.slice (some ⟨b6, off6, none⟩) x.ls.length c6] x.ls) ∧ (w'.heap[w.heap.size]? = some (.cells #[.int .i64 x.st, .int .i64 x.epoch, .int .i64 x.gen, .slice A3 x.conf.length c3, .bool x.paused, .slice (some ⟨b, off, none⟩) x.as_.length c5, .slice (some ⟨b6, off6, none⟩) x.ls.length c6, .int .i64 x.ticket, .int .i64 x.h.id, .int .i64 x.h.no, .int .i64 x.h.acked, .int .i64 x.h.since] 70 (0, 0)) ∧ ((w'.cell? ⟨b, off + k * 8, none⟩ = some (.int .i64 a.sock) ∧ w'.cell? ⟨b, off + k * 8 + 1, none⟩ = some (.string a.db) ∧ w'.cell? ⟨b, off + k * 8 + 2, none⟩ = some (.int .i64 a.st) ∧ w'.cell? ⟨b, off + k * 8 + 3, none⟩ = some (.int .i64 a.ticket) ∧ w'.cell? ⟨b, off + k * 8 + 4, none⟩ = some (.int .i64 a.since) ∧ w'.cell? ⟨b, off + k * 8 + 5, none⟩ = some (.string a.q) ∧ w'.cell? ⟨b, off + k * 8 + 6, none⟩ = some (.int .i64 a.line) ∧ w'.cell? ⟨b, off + k * 8 + 7, none⟩ = some (.int .i64 a.lease)) ∧ (w'.cell? ⟨b6, off6 + i2 * 7, none⟩ = some (.int .i64 y.sock) ∧ w'.cell? ⟨b6, off6 + i2 * 7 + 1, none⟩ = some (.string y.db) ∧ w'.cell? ⟨b6, off6 + i2 * 7 + 2, none⟩ = some (.int .i64 y.gen) ∧ w'.cell? ⟨b6, off6 + i2 * 7 + 3, none⟩ = some (.int .i64 y.st) ∧ w'.cell? ⟨b6, off6 + i2 * 7 + 4, none⟩ = some (.int .i64 y.since) ∧ w'.cell? ⟨b6, off6 + i2 * 7 + 5, none⟩ = some (.int .i64 y.asker) ∧ w'.cell? ⟨b6, off6 + i2 * 7 + 6, none⟩ = some (.int .i64 y.lease))))) wr := ⟨S.out.1, S.out.2, ⟨e0, e1, e2, e3, e4, e5, e6, e7⟩, g0, g1, g2, g3, g4, g5, g6⟩
          obtain ⟨u, hu⟩ : ∃ u, lentB a y = u := ⟨_, rfl⟩
          have HLB := Lib.hid hu
          clear hu
          clear S hc hy hil q5 e0 e1 e2 e3 e4 e5 e6 e7 g0 g1 g2 g3 g4 g5 g6
          refine wp_region_open 100 (fun w' => w'.heap[w.heap.size]? = some (.cells #[.int .i64 x.st, .int .i64 x.epoch, .int .i64 x.gen, .slice A3 x.conf.length c3, .bool x.paused, .slice (some ⟨b, off, none⟩) x.as_.length c5, .slice (some ⟨b6, off6, none⟩) x.ls.length c6, .int .i64 x.ticket, .int .i64 x.h.id, .int .i64 x.h.no, .int .i64 x.h.acked, .int .i64 x.h.since] 70 (0, 0)) ∧ ((w'.cell? ⟨b, off + k * 8, none⟩ = some (.int .i64 a.sock) ∧ w'.cell? ⟨b, off + k * 8 + 1, none⟩ = some (.string a.db) ∧ w'.cell? ⟨b, off + k * 8 + 2, none⟩ = some (.int .i64 a.st) ∧ w'.cell? ⟨b, off + k * 8 + 3, none⟩ = some (.int .i64 a.ticket) ∧ w'.cell? ⟨b, off + k * 8 + 4, none⟩ = some (.int .i64 a.since) ∧ w'.cell? ⟨b, off + k * 8 + 5, none⟩ = some (.string a.q) ∧ w'.cell? ⟨b, off + k * 8 + 6, none⟩ = some (.int .i64 a.line) ∧ w'.cell? ⟨b, off + k * 8 + 7, none⟩ = some (.int .i64 a.lease)) ∧ (w'.cell? ⟨b6, off6 + i2 * 7, none⟩ = some (.int .i64 y.sock) ∧ w'.cell? ⟨b6, off6 + i2 * 7 + 1, none⟩ = some (.string y.db) ∧ w'.cell? ⟨b6, off6 + i2 * 7 + 2, none⟩ = some (.int .i64 y.gen) ∧ w'.cell? ⟨b6, off6 + i2 * 7 + 3, none⟩ = some (.int .i64 y.st) ∧ w'.cell? ⟨b6, off6 + i2 * 7 + 4, none⟩ = some (.int .i64 y.since) ∧ w'.cell? ⟨b6, off6 + i2 * 7 + 5, none⟩ = some (.int .i64 y.asker) ∧ w'.cell? ⟨b6, off6 + i2 * 7 + 6, none⟩ = some (.int .i64 y.lease)))) (by kernel_rfl) ?_
          replace T := T.drew
          refine wpAnyL_readsG [0, 1, 2, 3, 4, 5, 6, 7] (fuel := 2) (by kernel_rfl) T.out.2 ?_
          refine LexRG.yes rfl (by first | rfl | (simp [Region.wanted, yielded]; done)) ?_ (fun w' hw => ?_) ?_
          rotate_left
          focus (clear hw; go_simp; (try exact rfl))
          try go_frame
          refine LexRG.yes rfl (by first | rfl | (simp [Region.wanted, yielded]; done)) ?_ (fun w' hw => ?_) ?_
          rotate_left
          focus (have hw2 := hw.1; have q6 := var_cell hw2 6; clear hw2; clear hw; go_simp; (try exact rfl))
          try go_frame
          refine LexRG.yes rfl (by first | rfl | (simp [Region.wanted, yielded]; done)) ?_ (fun w' hw => ?_) ?_
          rotate_left
          focus (clear hw; go_simp; (try exact rfl))
          try go_frame
          refine LexRG.yes rfl (by first | rfl | (simp [Region.wanted, yielded]; done)) ?_ (fun w' hw => ?_) ?_
          rotate_left
          focus (have hw2 := hw.1; have q5 := var_cell hw2 5; clear hw2; clear hw; go_simp; (try exact rfl))
          try go_frame
          refine LexRG.yes rfl (by first | rfl | (simp [Region.wanted, yielded]; done)) ?_ (fun w' hw => ?_) ?_
          rotate_left
          focus (clear hw; go_simp; (try exact rfl))
          try go_frame
          refine LexRG.yes rfl (by first | rfl | (simp [Region.wanted, yielded]; done)) ?_ (fun w' hw => ?_) ?_
          rotate_left
          focus (clear hw; go_simp; (try exact rfl))
          try go_frame
          refine LexRG.yes rfl (by first | rfl | (simp [Region.wanted, yielded]; done)) ?_ (fun w' hw => ?_) ?_
          rotate_left
          focus (clear hw; go_simp; (try exact rfl))
          try go_frame
          refine LexRG.yes rfl (by first | rfl | (simp [Region.wanted, yielded]; done)) ?_ (fun w' hw => ?_) ?_
          rotate_left
          focus (obtain ⟨g0, g1, g2, g3, g4, g5, g6, g7⟩ := hw.2.1; clear hw; go_simp; (try exact rfl))
          try go_frame
          refine LexRG.nil ?_
          refine wpAnyL_one (i := 8) (by kernel_rfl) ?_
          refine lexA_get rfl ?_
          try go_frame
          go_wp2_with fail
          refine (lnAtS_any (some ⟨b6, off6, none⟩) c6 x.ls a.line wr.drew (lnS_rows T.out.1.2).2 hl6).mono ?_
          rw [HN.out]
          rintro e V1 ⟨rfl, hb⟩
          replace T := T.later hb
          clear hb
          go_wp2_with fail
          refine ⟨fun _ => T.out.2, ?_⟩
          refine wpAnyL_writes [9] (by kernel_rfl) (LexW.cons rfl ?_)
          try go_frame
          go_wp2_with fail
          refine ⟨fun _ => T.out.2, LexW.nil ?_⟩
          go_upto_region 6 with (fail)
          refine wp_region_open 100 (fun w' => w'.heap[w.heap.size]? = some (.cells #[.int .i64 x.st, .int .i64 x.epoch, .int .i64 x.gen, .slice A3 x.conf.length c3, .bool x.paused, .slice (some ⟨b, off, none⟩) x.as_.length c5, .slice (some ⟨b6, off6, none⟩) x.ls.length c6, .int .i64 x.ticket, .int .i64 x.h.id, .int .i64 x.h.no, .int .i64 x.h.acked, .int .i64 x.h.since] 70 (0, 0)) ∧ ((w'.cell? ⟨b, off + k * 8, none⟩ = some (.int .i64 a.sock) ∧ w'.cell? ⟨b, off + k * 8 + 1, none⟩ = some (.string a.db) ∧ w'.cell? ⟨b, off + k * 8 + 2, none⟩ = some (.int .i64 a.st) ∧ w'.cell? ⟨b, off + k * 8 + 3, none⟩ = some (.int .i64 a.ticket) ∧ w'.cell? ⟨b, off + k * 8 + 4, none⟩ = some (.int .i64 a.since) ∧ w'.cell? ⟨b, off + k * 8 + 5, none⟩ = some (.string a.q) ∧ w'.cell? ⟨b, off + k * 8 + 6, none⟩ = some (.int .i64 a.line) ∧ w'.cell? ⟨b, off + k * 8 + 7, none⟩ = some (.int .i64 a.lease)) ∧ (w'.cell? ⟨b6, off6 + i2 * 7, none⟩ = some (.int .i64 y.sock) ∧ w'.cell? ⟨b6, off6 + i2 * 7 + 1, none⟩ = some (.string y.db) ∧ w'.cell? ⟨b6, off6 + i2 * 7 + 2, none⟩ = some (.int .i64 y.gen) ∧ w'.cell? ⟨b6, off6 + i2 * 7 + 3, none⟩ = some (.int .i64 y.st) ∧ w'.cell? ⟨b6, off6 + i2 * 7 + 4, none⟩ = some (.int .i64 y.since) ∧ w'.cell? ⟨b6, off6 + i2 * 7 + 5, none⟩ = some (.int .i64 y.asker) ∧ w'.cell? ⟨b6, off6 + i2 * 7 + 6, none⟩ = some (.int .i64 y.lease)))) (by kernel_rfl) ?_
          replace T := T.drew
          refine wpAnyL_readsG [0, 1, 2, 3, 4, 5, 6, 7, 8, 9, 10, 11, 12] (fuel := 3) (by kernel_rfl) T.out.2 ?_
          refine LexRG.yes rfl (by first | rfl | (simp [Region.wanted, yielded]; done)) ?_ (fun w' hw => ?_) ?_
          rotate_left
          focus (clear hw; go_simp; (try exact rfl))
          try go_frame
          refine LexRG.yes rfl (by first | rfl | (simp [Region.wanted, yielded]; done)) ?_ (fun w' hw => ?_) ?_
          rotate_left
          focus (clear hw; go_simp; (try exact rfl))
          try go_frame
          refine LexRG.yes rfl (by first | rfl | (simp [Region.wanted, yielded]; done)) ?_ (fun w' hw => ?_) ?_
          rotate_left
          focus (clear hw; go_simp; (try exact rfl))
          try go_frame
          refine LexRG.yes rfl (by first | rfl | (simp [Region.wanted, yielded]; done)) ?_ (fun w' hw => ?_) ?_
          rotate_left
          focus (clear hw; go_simp; (try exact rfl))
          try go_frame
          refine LexRG.yes rfl (by first | rfl | (simp [Region.wanted, yielded]; done)) ?_ (fun w' hw => ?_) ?_
          rotate_left
          focus (have hw2 := hw.1; have q5 := var_cell hw2 5; clear hw2; clear hw; go_simp; (try exact rfl))
          try go_frame
          refine LexRG.yes rfl (by first | rfl | (simp [Region.wanted, yielded]; done)) ?_ (fun w' hw => ?_) ?_
          rotate_left
          focus (clear hw; go_simp; (try exact rfl))
          try go_frame
          refine LexRG.yes rfl (by first | rfl | (simp [Region.wanted, yielded]; done)) ?_ (fun w' hw => ?_) ?_
          rotate_left
          focus (clear hw; go_simp; (try exact rfl))
          try go_frame
          refine LexRG.yes rfl (by first | rfl | (simp [Region.wanted, yielded]; done)) ?_ (fun w' hw => ?_) ?_
          rotate_left
          focus (obtain ⟨g0, g1, g2, g3, g4, g5, g6, g7⟩ := hw.2.1; clear hw; go_simp; (try exact rfl))
          try go_frame
          refine LexRG.yes rfl (by first | rfl | (simp [Region.wanted, yielded]; done)) ?_ (fun w' hw => ?_) ?_
          rotate_left
          focus (clear hw; go_simp; (try exact rfl))
          try go_frame
          refine LexRG.yes rfl (by first | rfl | (simp [Region.wanted, yielded]; done)) ?_ (fun w' hw => ?_) ?_
          rotate_left
          focus (have hw2 := hw.1; have q6 := var_cell hw2 6; clear hw2; clear hw; go_simp; (try exact rfl))
          try go_frame
          refine LexRG.yes rfl (by first | rfl | (simp [Region.wanted, yielded]; done)) ?_ (fun w' hw => ?_) ?_
          rotate_left
          focus (clear hw; go_simp; (try exact rfl))
          try go_frame
          refine LexRG.yes rfl (by first | rfl | (simp [Region.wanted, yielded]; done)) ?_ (fun w' hw => ?_) ?_
          rotate_left
          focus (clear hw; go_simp; (try exact rfl))
          try go_frame
          refine LexRG.yes rfl (by first | rfl | (simp [Region.wanted, yielded]; done)) ?_ (fun w' hw => ?_) ?_
          rotate_left
          focus (obtain ⟨g0, g1, g2, g3, g4, g5, g6⟩ := hw.2.2; clear hw; go_simp; (try exact rfl))
          try go_frame
          refine LexRG.nil ?_
          refine wpAnyL_one (i := 13) (by kernel_rfl) ?_
          refine lexA_get rfl ?_
          try go_frame
          go_wp2_with fail
          refine (lentS_any a y _).mono ?_
          rw [HLB.out]
          rintro e Y1 ⟨rfl, hb⟩
          replace T := T.later hb
          clear hb
          go_wp2_with fail
          refine ⟨fun _ => T.out.2, ?_⟩
          refine wpAnyL_readsG [14] (fuel := 1) (by kernel_rfl) T.out.2 ?_
          refine LexRG.yes rfl (by first | rfl | (simp [Region.wanted, yielded]; done)) ?_ (fun w' hw => ?_) ?_
          rotate_left
          focus (clear hw; go_simp; (try exact rfl))
          try go_frame
          refine LexRG.nil ?_
          refine wpAnyL_writes [15] (by kernel_rfl) (LexW.cons rfl ?_)
          try go_frame
          go_wp2_with fail
          refine ⟨fun _ => T.out.2, LexW.nil ?_⟩
          cases u
          · have HE := Lib.hid (pB_no (p := PairA x.as_ x.ls ∧ PairL x.as_ x.ls) (fun h9 => by have h8 := HHL.out; rw [pB_yes (h9.1 k a HY.out HST.out), HLB.out] at h8; cases h8))
            go_wp2_with fail
            go_ret
            exact ⟨by rw [HE.out]; exact rfl, T.out.1.1.1⟩
          · have HQ := Lib.hid (HNX.out (fun _ => pB_true (HHL.out.trans HLB.out)))
            have S4 : All (fun w' => ((Below w.heap.size w w' ∧ akSR.at_ w' w'.heap.size [.slice (some ⟨b, off, none⟩) x.as_.length c5] x.as_) ∧ lnSR.at_ w' w'.heap.size [.slice (some ⟨b6, off6, none⟩) x.ls.length c6] x.ls) ∧ w'.heap[w.heap.size]? = some (.cells #[.int .i64 x.st, .int .i64 x.epoch, .int .i64 x.gen, .slice A3 x.conf.length c3, .bool x.paused, .slice (some ⟨b, off, none⟩) x.as_.length c5, .slice (some ⟨b6, off6, none⟩) x.ls.length c6, .int .i64 x.ticket, .int .i64 x.h.id, .int .i64 x.h.no, .int .i64 x.h.acked, .int .i64 x.h.since] 70 (0, 0))) _ := ⟨T.out.1, T.out.2.1⟩
            clear HNX
            go_wp2_with fail
            go_roundw
            case rel => exact ⟨k + 1, by omega, by go_num, HQ, S4⟩
            case measure => simp [intOf]; omega
      · have t3 : decide ((3 : Int) ≤ a.st) = false := by simp [h3]
        have HQ := Lib.hid (HNX.out (fun hs => by omega))
        clear h3 HNX
        go_wp2_with fail
        go_roundw
        case rel => exact ⟨k + 1, by omega, by go_num, HQ, S⟩
        case measure => simp [intOf]; omega
    · have he : k = x.as_.length := by omega
      subst he
      have HA := Lib.hid (show PairA x.as_ x.ls from fun i y hy => HU.out i y (List.getElem?_eq_some_iff.1 hy).1 hy)
      clear HU hlt hk
      obtain ⟨Wm, rfl⟩ : ∃ wo : World, wo = wr := ⟨_, rfl⟩
      go_wp2_with fail
      clear q5
      go_loopw [5] (fun i wr => ∃ k : Nat, k ≤ x.ls.length ∧ i = .int .i64 k ∧ Hid (∀ (i : Nat) a, i < k → x.ls[i]? = some a → a.st ≠ 0 → hasAP a x.as_) ∧ All (fun w' => ((Below w.heap.size w w' ∧ akSR.at_ w' w'.heap.size [.slice A5 x.as_.length c5] x.as_) ∧ lnSR.at_ w' w'.heap.size [.slice A6 x.ls.length c6] x.ls) ∧ w'.heap[w.heap.size]? = some (.cells #[.int .i64 x.st, .int .i64 x.epoch, .int .i64 x.gen, .slice A3 x.conf.length c3, .bool x.paused, .slice A5 x.as_.length c5, .slice A6 x.ls.length c6, .int .i64 x.ticket, .int .i64 x.h.id, .int .i64 x.h.no, .int .i64 x.h.acked, .int .i64 x.h.since] 70 (0, 0))) wr) (fun i _ => x.ls.length - (intOf i).toNat)
      case atStart => exact ⟨0, by omega, rfl, Lib.hid (fun i y hi => by omega), S⟩
      case round =>
        clear S
        obtain ⟨k, hk, rfl, HU, S⟩ := hrel
        have q6 := var_cell S.out.2 6
        by_cases hlt : k < x.ls.length
        · obtain ⟨b6, off6, y, rfl, hbl, hy, e0, e1, e2, e3, e4, e5, e6⟩ := ln_elem (lnS_rows S.out.1.2).2 hlt
          have HY := Lib.hid hy
          have HNX : Hid (∀ _ : y.st ≠ 0 → hasAP y x.as_, ∀ (i : Nat) a, i < k + 1 → x.ls[i]? = some a → a.st ≠ 0 → hasAP a x.as_) := Lib.hid (fun hq i z hi hz hs => by
            by_cases e : i = k
            · subst e; rw [HY.out] at hz; injection hz with hz; subst hz; exact hq hs
            · exact HU.out i z (by omega) hz hs)
          clear hy HU
          have k1 : (k : Int) < (x.ls.length : Int) := by omega
          have k2 : (0 : Int) ≤ (k : Int) := by omega
          by_cases h0 : y.st = 0
          · have t0 : (y.st != 0) = false := by simp [h0]
            have HQ := Lib.hid (HNX.out (fun h => absurd h0 h))
            clear h0 HNX
            go_wp2_with fail
            go_roundw
            case rel => exact ⟨k + 1, by omega, by go_num, HQ, S⟩
            case measure => simp [intOf]; omega
          · have t0 : (y.st != 0) = true := by simp [h0]
            have HST := Lib.hid h0
            clear h0
            go_wp2_with fail
            rcases akAt_cases x.as_ y.asker with hc | ⟨i2, a, ha, hsid, hc⟩
            · have HN := Lib.hid (show akF y.asker x.as_ 0 = -1 from hc)
              have HE := Lib.hid (pB_no (p := PairA x.as_ x.ls ∧ PairL x.as_ x.ls) (fun h9 => by have h8 := h9.2 k y HY.out HST.out; have h7 := hasA_no hc; rw [pB_yes h8] at h7; cases h7))
              have T : All (fun w' => ((Below w.heap.size w w' ∧ akSR.at_ w' w'.heap.size [.slice A5 x.as_.length c5] x.as_) ∧ lnSR.at_ w' w'.heap.size [.slice (some ⟨b6, off6, none⟩) x.ls.length c6] x.ls) ∧ (w'.heap[w.heap.size]? = some (.cells #[.int .i64 x.st, .int .i64 x.epoch, .int .i64 x.gen, .slice A3 x.conf.length c3, .bool x.paused, .slice A5 x.as_.length c5, .slice (some ⟨b6, off6, none⟩) x.ls.length c6, .int .i64 x.ticket, .int .i64 x.h.id, .int .i64 x.h.no, .int .i64 x.h.acked, .int .i64 x.h.since] 70 (0, 0)) ∧ (w'.cell? ⟨b6, off6 + k * 7, none⟩ = some (.int .i64 y.sock) ∧ w'.cell? ⟨b6, off6 + k * 7 + 1, none⟩ = some (.string y.db) ∧ w'.cell? ⟨b6, off6 + k * 7 + 2, none⟩ = some (.int .i64 y.gen) ∧ w'.cell? ⟨b6, off6 + k * 7 + 3, none⟩ = some (.int .i64 y.st) ∧ w'.cell? ⟨b6, off6 + k * 7 + 4, none⟩ = some (.int .i64 y.since) ∧ w'.cell? ⟨b6, off6 + k * 7 + 5, none⟩ = some (.int .i64 y.asker) ∧ w'.cell? ⟨b6, off6 + k * 7 + 6, none⟩ = some (.int .i64 y.lease)))) wr := ⟨S.out.1, S.out.2, e0, e1, e2, e3, e4, e5, e6⟩
              clear S HNX hc q6 e0 e1 e2 e3 e4 e5 e6
              refine wp_region_open 100 (fun w' => w'.heap[w.heap.size]? = some (.cells #[.int .i64 x.st, .int .i64 x.epoch, .int .i64 x.gen, .slice A3 x.conf.length c3, .bool x.paused, .slice A5 x.as_.length c5, .slice (some ⟨b6, off6, none⟩) x.ls.length c6, .int .i64 x.ticket, .int .i64 x.h.id, .int .i64 x.h.no, .int .i64 x.h.acked, .int .i64 x.h.since] 70 (0, 0)) ∧ (w'.cell? ⟨b6, off6 + k * 7, none⟩ = some (.int .i64 y.sock) ∧ w'.cell? ⟨b6, off6 + k * 7 + 1, none⟩ = some (.string y.db) ∧ w'.cell? ⟨b6, off6 + k * 7 + 2, none⟩ = some (.int .i64 y.gen) ∧ w'.cell? ⟨b6, off6 + k * 7 + 3, none⟩ = some (.int .i64 y.st) ∧ w'.cell? ⟨b6, off6 + k * 7 + 4, none⟩ = some (.int .i64 y.since) ∧ w'.cell? ⟨b6, off6 + k * 7 + 5, none⟩ = some (.int .i64 y.asker) ∧ w'.cell? ⟨b6, off6 + k * 7 + 6, none⟩ = some (.int .i64 y.lease))) (by kernel_rfl) ?_
              replace T := T.drew
              refine wpAnyL_readsG [0, 1, 2, 3, 4, 5, 6, 7] (fuel := 2) (by kernel_rfl) T.out.2 ?_
              refine LexRG.yes rfl (by first | rfl | (simp [Region.wanted, yielded]; done)) ?_ (fun w' hw => ?_) ?_
              rotate_left
              focus (clear hw; go_simp; (try exact rfl))
              try go_frame
              refine LexRG.yes rfl (by first | rfl | (simp [Region.wanted, yielded]; done)) ?_ (fun w' hw => ?_) ?_
              rotate_left
              focus (have hw2 := hw.1; have q5 := var_cell hw2 5; clear hw2; clear hw; go_simp; (try exact rfl))
              try go_frame
              refine LexRG.yes rfl (by first | rfl | (simp [Region.wanted, yielded]; done)) ?_ (fun w' hw => ?_) ?_
              rotate_left
              focus (clear hw; go_simp; (try exact rfl))
              try go_frame
              refine LexRG.yes rfl (by first | rfl | (simp [Region.wanted, yielded]; done)) ?_ (fun w' hw => ?_) ?_
              rotate_left
              focus (have hw2 := hw.1; have q6 := var_cell hw2 6; clear hw2; clear hw; go_simp; (try exact rfl))
              try go_frame
              refine LexRG.yes rfl (by first | rfl | (simp [Region.wanted, yielded]; done)) ?_ (fun w' hw => ?_) ?_
              rotate_left
              focus (clear hw; go_simp; (try exact rfl))
              try go_frame
              refine LexRG.yes rfl (by first | rfl | (simp [Region.wanted, yielded]; done)) ?_ (fun w' hw => ?_) ?_
              rotate_left
              focus (clear hw; go_simp; (try exact rfl))
              try go_frame
              refine LexRG.yes rfl (by first | rfl | (simp [Region.wanted, yielded]; done)) ?_ (fun w' hw => ?_) ?_
              rotate_left
              focus (clear hw; go_simp; (try exact rfl))
              try go_frame
              refine LexRG.yes rfl (by first | rfl | (simp [Region.wanted, yielded]; done)) ?_ (fun w' hw => ?_) ?_
              rotate_left
              focus (obtain ⟨g0, g1, g2, g3, g4, g5, g6⟩ := hw.2; clear hw; go_simp; (try exact rfl))
              try go_frame
              refine LexRG.nil ?_
              refine wpAnyL_one (i := 8) (by kernel_rfl) ?_
              refine lexA_get rfl ?_
              try go_frame
              go_wp2_with fail
              refine (akAtS_any A5 c5 x.as_ y.asker wr.drew (akS_rows T.out.1.1.2).2 hl5).mono ?_
              rw [HN.out]
              rintro e V1 ⟨rfl, hb⟩
              replace T := T.later hb
              clear hb
              go_wp2_with fail
              refine ⟨fun _ => T.out.2, ?_⟩
              refine wpAnyL_writes [9] (by kernel_rfl) (LexW.cons rfl ?_)
              try go_frame
              go_wp2_with fail
              refine ⟨fun _ => T.out.2, LexW.nil ?_⟩
              go_upto_region 13 with (fail)
              refine wp_region_open 100 (fun w' => w'.heap[w.heap.size]? = some (.cells #[.int .i64 x.st, .int .i64 x.epoch, .int .i64 x.gen, .slice A3 x.conf.length c3, .bool x.paused, .slice A5 x.as_.length c5, .slice (some ⟨b6, off6, none⟩) x.ls.length c6, .int .i64 x.ticket, .int .i64 x.h.id, .int .i64 x.h.no, .int .i64 x.h.acked, .int .i64 x.h.since] 70 (0, 0)) ∧ (w'.cell? ⟨b6, off6 + k * 7, none⟩ = some (.int .i64 y.sock) ∧ w'.cell? ⟨b6, off6 + k * 7 + 1, none⟩ = some (.string y.db) ∧ w'.cell? ⟨b6, off6 + k * 7 + 2, none⟩ = some (.int .i64 y.gen) ∧ w'.cell? ⟨b6, off6 + k * 7 + 3, none⟩ = some (.int .i64 y.st) ∧ w'.cell? ⟨b6, off6 + k * 7 + 4, none⟩ = some (.int .i64 y.since) ∧ w'.cell? ⟨b6, off6 + k * 7 + 5, none⟩ = some (.int .i64 y.asker) ∧ w'.cell? ⟨b6, off6 + k * 7 + 6, none⟩ = some (.int .i64 y.lease))) (by kernel_rfl) ?_
              replace T := T.drew
              refine wpAnyL_readsG [0, 1, 2, 3, 4, 5, 6, 7, 8, 9, 10, 11, 12] (fuel := 3) (by kernel_rfl) T.out.2 ?_
              refine LexRG.yes rfl (by first | rfl | (simp [Region.wanted, yielded]; done)) ?_ (fun w' hw => ?_) ?_
              rotate_left
              focus (clear hw; go_simp; (try exact rfl))
              try go_frame
              refine LexRG.yes rfl (by first | rfl | (simp [Region.wanted, yielded]; done)) ?_ (fun w' hw => ?_) ?_
              rotate_left
              focus (clear hw; go_simp; (try exact rfl))
              try go_frame
              refine LexRG.yes rfl (by first | rfl | (simp [Region.wanted, yielded]; done)) ?_ (fun w' hw => ?_) ?_
              rotate_left
              focus (clear hw; go_simp; (try exact rfl))
              try go_frame
              refine LexRG.no rfl (by first | rfl | (simp [Region.wanted, yielded]; done)) ?_
              try go_frame
              refine LexRG.no rfl (by first | rfl | (simp [Region.wanted, yielded]; done)) ?_
              try go_frame
              refine LexRG.no rfl (by first | rfl | (simp [Region.wanted, yielded]; done)) ?_
              try go_frame
              refine LexRG.no rfl (by first | rfl | (simp [Region.wanted, yielded]; done)) ?_
              try go_frame
              refine LexRG.no rfl (by first | rfl | (simp [Region.wanted, yielded]; done)) ?_
              try go_frame
              refine LexRG.no rfl (by first | rfl | (simp [Region.wanted, yielded]; done)) ?_
              try go_frame
              refine LexRG.no rfl (by first | rfl | (simp [Region.wanted, yielded]; done)) ?_
              try go_frame
              refine LexRG.no rfl (by first | rfl | (simp [Region.wanted, yielded]; done)) ?_
              try go_frame
              refine LexRG.no rfl (by first | rfl | (simp [Region.wanted, yielded]; done)) ?_
              try go_frame
              refine LexRG.no rfl (by first | rfl | (simp [Region.wanted, yielded]; done)) ?_
              try go_frame
              refine LexRG.nil ?_
              refine wpAnyL_one (i := 13) (by kernel_rfl) ?_
              refine lexA_get rfl ?_
              try go_frame
              go_wp2_with fail
              refine ⟨fun _ => T.out.2, ?_⟩
              refine wpAnyL_readsG [14] (fuel := 1) (by kernel_rfl) T.out.2 ?_
              refine LexRG.no rfl (by first | rfl | (simp [Region.wanted, yielded]; done)) ?_
              try go_frame
              refine LexRG.nil ?_
              refine wpAnyL_writes [15] (by kernel_rfl) (LexW.cons rfl ?_)
              try go_frame
              go_wp2_with fail
              refine ⟨fun _ => T.out.2, LexW.nil ?_⟩
              go_wp2_with fail
              go_ret
              exact ⟨by rw [HE.out]; exact rfl, T.out.1.1.1⟩
            · clear hsid
              have HN := Lib.hid (show akF y.asker x.as_ 0 = (i2 : Int) from hc)
              have HHL := Lib.hid (hasA_yes hc ha)
              have hil : i2 < x.as_.length := (List.getElem?_eq_some_iff.1 ha).1
              have i1 : (i2 : Int) < (x.as_.length : Int) := by omega
              have i0 : (0 : Int) ≤ (i2 : Int) := by omega
              have in_ : decide ((i2 : Int) < 0) = false := by (simp; try omega)
              obtain ⟨b, off, z, rfl, _, hz, g0, g1, g2, g3, g4, g5, g6, g7⟩ := ak_elem (akS_rows S.out.1.1.2).2 hil
              rw [ha] at hz
              injection hz with hz
              subst hz
              have T : All (fun w' => ((Below w.heap.size w w' ∧ akSR.at_ w' w'.heap.size [.slice (some ⟨b, off, none⟩) x.as_.length c5] x.as_) ∧ lnSR.at_ w' w'.heap.size [.slice (some ⟨b6, off6, none⟩) x.ls.length c6] x.ls) ∧ (w'.heap[w.heap.size]? = some (.cells #[.int .i64 x.st, .int .i64 x.epoch, .int .i64 x.gen, .slice A3 x.conf.length c3, .bool x.paused, .slice (some ⟨b, off, none⟩) x.as_.length c5, .slice (some ⟨b6, off6, none⟩) x.ls.length c6, .int .i64 x.ticket, .int .i64 x.h.id, .int .i64 x.h.no, .int .i64 x.h.acked, .int .i64 x.h.since] 70 (0, 0)) ∧ ((w'.cell? ⟨b6, off6 + k * 7, none⟩ = some (.int .i64 y.sock) ∧ w'.cell? ⟨b6, off6 + k * 7 + 1, none⟩ = some (.string y.db) ∧ w'.cell? ⟨b6, off6 + k * 7 + 2, none⟩ = some (.int .i64 y.gen) ∧ w'.cell? ⟨b6, off6 + k * 7 + 3, none⟩ = some (.int .i64 y.st) ∧ w'.cell? ⟨b6, off6 + k * 7 + 4, none⟩ = some (.int .i64 y.since) ∧ w'.cell? ⟨b6, off6 + k * 7 + 5, none⟩ = some (.int .i64 y.asker) ∧ w'.cell? ⟨b6, off6 + k * 7 + 6, none⟩ = some (.int .i64 y.lease)) ∧ (w'.cell? ⟨b, off + i2 * 8, none⟩ = some (.int .i64 a.sock) ∧ w'.cell? ⟨b, off + i2 * 8 + 1, none⟩ = some (.string a.db) ∧ w'.cell? ⟨b, off + i2 * 8 + 2, none⟩ = some (.int .i64 a.st) ∧ w'.cell? ⟨b, off + i2 * 8 + 3, none⟩ = some (.int .i64 a.ticket) ∧ w'.cell? ⟨b, off + i2 * 8 + 4, none⟩ = some (.int .i64 a.since) ∧ w'.cell? ⟨b, off + i2 * 8 + 5, none⟩ = some (.string a.q) ∧ w'.cell? ⟨b, off + i2 * 8 + 6, none⟩ = some (.int .i64 a.line) ∧ w'.cell? ⟨b, off + i2 * 8 + 7, none⟩ = some (.int .i64 a.lease))))) wr := ⟨S.out.1, S.out.2, ⟨e0, e1, e2, e3, e4, e5, e6⟩, g0, g1, g2, g3, g4, g5, g6, g7⟩
              obtain ⟨u, hu⟩ : ∃ u, lentB a y = u := ⟨_, rfl⟩
              have HLB := Lib.hid hu
              clear hu
              clear S hc ha hil q6 e0 e1 e2 e3 e4 e5 e6 g0 g1 g2 g3 g4 g5 g6 g7
              refine wp_region_open 100 (fun w' => w'.heap[w.heap.size]? = some (.cells #[.int .i64 x.st, .int .i64 x.epoch, .int .i64 x.gen, .slice A3 x.conf.length c3, .bool x.paused, .slice (some ⟨b, off, none⟩) x.as_.length c5, .slice (some ⟨b6, off6, none⟩) x.ls.length c6, .int .i64 x.ticket, .int .i64 x.h.id, .int .i64 x.h.no, .int .i64 x.h.acked, .int .i64 x.h.since] 70 (0, 0)) ∧ ((w'.cell? ⟨b6, off6 + k * 7, none⟩ = some (.int .i64 y.sock) ∧ w'.cell? ⟨b6, off6 + k * 7 + 1, none⟩ = some (.string y.db) ∧ w'.cell? ⟨b6, off6 + k * 7 + 2, none⟩ = some (.int .i64 y.gen) ∧ w'.cell? ⟨b6, off6 + k * 7 + 3, none⟩ = some (.int .i64 y.st) ∧ w'.cell? ⟨b6, off6 + k * 7 + 4, none⟩ = some (.int .i64 y.since) ∧ w'.cell? ⟨b6, off6 + k * 7 + 5, none⟩ = some (.int .i64 y.asker) ∧ w'.cell? ⟨b6, off6 + k * 7 + 6, none⟩ = some (.int .i64 y.lease)) ∧ (w'.cell? ⟨b, off + i2 * 8, none⟩ = some (.int .i64 a.sock) ∧ w'.cell? ⟨b, off + i2 * 8 + 1, none⟩ = some (.string a.db) ∧ w'.cell? ⟨b, off + i2 * 8 + 2, none⟩ = some (.int .i64 a.st) ∧ w'.cell? ⟨b, off + i2 * 8 + 3, none⟩ = some (.int .i64 a.ticket) ∧ w'.cell? ⟨b, off + i2 * 8 + 4, none⟩ = some (.int .i64 a.since) ∧ w'.cell? ⟨b, off + i2 * 8 + 5, none⟩ = some (.string a.q) ∧ w'.cell? ⟨b, off + i2 * 8 + 6, none⟩ = some (.int .i64 a.line) ∧ w'.cell? ⟨b, off + i2 * 8 + 7, none⟩ = some (.int .i64 a.lease)))) (by kernel_rfl) ?_
              replace T := T.drew
              refine wpAnyL_readsG [0, 1, 2, 3, 4, 5, 6, 7] (fuel := 2) (by kernel_rfl) T.out.2 ?_
              refine LexRG.yes rfl (by first | rfl | (simp [Region.wanted, yielded]; done)) ?_ (fun w' hw => ?_) ?_
              rotate_left
              focus (clear hw; go_simp; (try exact rfl))
              try go_frame
              refine LexRG.yes rfl (by first | rfl | (simp [Region.wanted, yielded]; done)) ?_ (fun w' hw => ?_) ?_
              rotate_left
              focus (have hw2 := hw.1; have q5 := var_cell hw2 5; clear hw2; clear hw; go_simp; (try exact rfl))
              try go_frame
              refine LexRG.yes rfl (by first | rfl | (simp [Region.wanted, yielded]; done)) ?_ (fun w' hw => ?_) ?_
              rotate_left
              focus (clear hw; go_simp; (try exact rfl))
              try go_frame
              refine LexRG.yes rfl (by first | rfl | (simp [Region.wanted, yielded]; done)) ?_ (fun w' hw => ?_) ?_
              rotate_left
              focus (have hw2 := hw.1; have q6 := var_cell hw2 6; clear hw2; clear hw; go_simp; (try exact rfl))
              try go_frame
              refine LexRG.yes rfl (by first | rfl | (simp [Region.wanted, yielded]; done)) ?_ (fun w' hw => ?_) ?_
              rotate_left
              focus (clear hw; go_simp; (try exact rfl))
              try go_frame
              refine LexRG.yes rfl (by first | rfl | (simp [Region.wanted, yielded]; done)) ?_ (fun w' hw => ?_) ?_
              rotate_left
              focus (clear hw; go_simp; (try exact rfl))
              try go_frame
              refine LexRG.yes rfl (by first | rfl | (simp [Region.wanted, yielded]; done)) ?_ (fun w' hw => ?_) ?_
              rotate_left
              focus (clear hw; go_simp; (try exact rfl))
              try go_frame
              refine LexRG.yes rfl (by first | rfl | (simp [Region.wanted, yielded]; done)) ?_ (fun w' hw => ?_) ?_
              rotate_left
              focus (obtain ⟨g0, g1, g2, g3, g4, g5, g6⟩ := hw.2.1; clear hw; go_simp; (try exact rfl))
              try go_frame
              refine LexRG.nil ?_
              refine wpAnyL_one (i := 8) (by kernel_rfl) ?_
              refine lexA_get rfl ?_
              try go_frame
              go_wp2_with fail
              refine (akAtS_any (some ⟨b, off, none⟩) c5 x.as_ y.asker wr.drew (akS_rows T.out.1.1.2).2 hl5).mono ?_
              rw [HN.out]
              rintro e V1 ⟨rfl, hb⟩
              replace T := T.later hb
              clear hb
              go_wp2_with fail
              refine ⟨fun _ => T.out.2, ?_⟩
              refine wpAnyL_writes [9] (by kernel_rfl) (LexW.cons rfl ?_)
              try go_frame
              go_wp2_with fail
              refine ⟨fun _ => T.out.2, LexW.nil ?_⟩
              go_upto_region 13 with (fail)
              refine wp_region_open 100 (fun w' => w'.heap[w.heap.size]? = some (.cells #[.int .i64 x.st, .int .i64 x.epoch, .int .i64 x.gen, .slice A3 x.conf.length c3, .bool x.paused, .slice (some ⟨b, off, none⟩) x.as_.length c5, .slice (some ⟨b6, off6, none⟩) x.ls.length c6, .int .i64 x.ticket, .int .i64 x.h.id, .int .i64 x.h.no, .int .i64 x.h.acked, .int .i64 x.h.since] 70 (0, 0)) ∧ ((w'.cell? ⟨b6, off6 + k * 7, none⟩ = some (.int .i64 y.sock) ∧ w'.cell? ⟨b6, off6 + k * 7 + 1, none⟩ = some (.string y.db) ∧ w'.cell? ⟨b6, off6 + k * 7 + 2, none⟩ = some (.int .i64 y.gen) ∧ w'.cell? ⟨b6, off6 + k * 7 + 3, none⟩ = some (.int .i64 y.st) ∧ w'.cell? ⟨b6, off6 + k * 7 + 4, none⟩ = some (.int .i64 y.since) ∧ w'.cell? ⟨b6, off6 + k * 7 + 5, none⟩ = some (.int .i64 y.asker) ∧ w'.cell? ⟨b6, off6 + k * 7 + 6, none⟩ = some (.int .i64 y.lease)) ∧ (w'.cell? ⟨b, off + i2 * 8, none⟩ = some (.int .i64 a.sock) ∧ w'.cell? ⟨b, off + i2 * 8 + 1, none⟩ = some (.string a.db) ∧ w'.cell? ⟨b, off + i2 * 8 + 2, none⟩ = some (.int .i64 a.st) ∧ w'.cell? ⟨b, off + i2 * 8 + 3, none⟩ = some (.int .i64 a.ticket) ∧ w'.cell? ⟨b, off + i2 * 8 + 4, none⟩ = some (.int .i64 a.since) ∧ w'.cell? ⟨b, off + i2 * 8 + 5, none⟩ = some (.string a.q) ∧ w'.cell? ⟨b, off + i2 * 8 + 6, none⟩ = some (.int .i64 a.line) ∧ w'.cell? ⟨b, off + i2 * 8 + 7, none⟩ = some (.int .i64 a.lease)))) (by kernel_rfl) ?_
              replace T := T.drew
              refine wpAnyL_readsG [0, 1, 2, 3, 4, 5, 6, 7, 8, 9, 10, 11, 12] (fuel := 3) (by kernel_rfl) T.out.2 ?_
              refine LexRG.yes rfl (by first | rfl | (simp [Region.wanted, yielded]; done)) ?_ (fun w' hw => ?_) ?_
              rotate_left
              focus (clear hw; go_simp; (try exact rfl))
              try go_frame
              refine LexRG.yes rfl (by first | rfl | (simp [Region.wanted, yielded]; done)) ?_ (fun w' hw => ?_) ?_
              rotate_left
              focus (clear hw; go_simp; (try exact rfl))
              try go_frame
              refine LexRG.yes rfl (by first | rfl | (simp [Region.wanted, yielded]; done)) ?_ (fun w' hw => ?_) ?_
              rotate_left
              focus (clear hw; go_simp; (try exact rfl))
              try go_frame
              refine LexRG.yes rfl (by first | rfl | (simp [Region.wanted, yielded]; done)) ?_ (fun w' hw => ?_) ?_
              rotate_left
              focus (clear hw; go_simp; (try exact rfl))
              try go_frame
              refine LexRG.yes rfl (by first | rfl | (simp [Region.wanted, yielded]; done)) ?_ (fun w' hw => ?_) ?_
              rotate_left
              focus (have hw2 := hw.1; have q5 := var_cell hw2 5; clear hw2; clear hw; go_simp; (try exact rfl))
              try go_frame
              refine LexRG.yes rfl (by first | rfl | (simp [Region.wanted, yielded]; done)) ?_ (fun w' hw => ?_) ?_
              rotate_left
              focus (clear hw; go_simp; (try exact rfl))
              try go_frame
              refine LexRG.yes rfl (by first | rfl | (simp [Region.wanted, yielded]; done)) ?_ (fun w' hw => ?_) ?_
              rotate_left
              focus (clear hw; go_simp; (try exact rfl))
              try go_frame
              refine LexRG.yes rfl (by first | rfl | (simp [Region.wanted, yielded]; done)) ?_ (fun w' hw => ?_) ?_
              rotate_left
              focus (obtain ⟨g0, g1, g2, g3, g4, g5, g6, g7⟩ := hw.2.2; clear hw; go_simp; (try exact rfl))
              try go_frame
              refine LexRG.yes rfl (by first | rfl | (simp [Region.wanted, yielded]; done)) ?_ (fun w' hw => ?_) ?_
              rotate_left
              focus (clear hw; go_simp; (try exact rfl))
              try go_frame
              refine LexRG.yes rfl (by first | rfl | (simp [Region.wanted, yielded]; done)) ?_ (fun w' hw => ?_) ?_
              rotate_left
              focus (have hw2 := hw.1; have q6 := var_cell hw2 6; clear hw2; clear hw; go_simp; (try exact rfl))
              try go_frame
              refine LexRG.yes rfl (by first | rfl | (simp [Region.wanted, yielded]; done)) ?_ (fun w' hw => ?_) ?_
              rotate_left
              focus (clear hw; go_simp; (try exact rfl))
              try go_frame
              refine LexRG.yes rfl (by first | rfl | (simp [Region.wanted, yielded]; done)) ?_ (fun w' hw => ?_) ?_
              rotate_left
              focus (clear hw; go_simp; (try exact rfl))
              try go_frame
              refine LexRG.yes rfl (by first | rfl | (simp [Region.wanted, yielded]; done)) ?_ (fun w' hw => ?_) ?_
              rotate_left
              focus (obtain ⟨g0, g1, g2, g3, g4, g5, g6⟩ := hw.2.1; clear hw; go_simp; (try exact rfl))
              try go_frame
              refine LexRG.nil ?_
              refine wpAnyL_one (i := 13) (by kernel_rfl) ?_
              refine lexA_get rfl ?_
              try go_frame
              go_wp2_with fail
              refine (lentS_any a y _).mono ?_
              rw [HLB.out]
              rintro e Y1 ⟨rfl, hb⟩
              replace T := T.later hb
              clear hb
              go_wp2_with fail
              refine ⟨fun _ => T.out.2, ?_⟩
              refine wpAnyL_readsG [14] (fuel := 1) (by kernel_rfl) T.out.2 ?_
              refine LexRG.yes rfl (by first | rfl | (simp [Region.wanted, yielded]; done)) ?_ (fun w' hw => ?_) ?_
              rotate_left
              focus (clear hw; go_simp; (try exact rfl))
              try go_frame
              refine LexRG.nil ?_
              refine wpAnyL_writes [15] (by kernel_rfl) (LexW.cons rfl ?_)
              try go_frame
              go_wp2_with fail
              refine ⟨fun _ => T.out.2, LexW.nil ?_⟩
              cases u
              · have HE := Lib.hid (pB_no (p := PairA x.as_ x.ls ∧ PairL x.as_ x.ls) (fun h9 => by have h8 := HHL.out; rw [pB_yes (h9.2 k y HY.out HST.out), HLB.out] at h8; cases h8))
                go_wp2_with fail
                go_ret
                exact ⟨by rw [HE.out]; exact rfl, T.out.1.1.1⟩
              · have HQ := Lib.hid (HNX.out (fun _ => pB_true (HHL.out.trans HLB.out)))
                have S4 : All (fun w' => ((Below w.heap.size w w' ∧ akSR.at_ w' w'.heap.size [.slice (some ⟨b, off, none⟩) x.as_.length c5] x.as_) ∧ lnSR.at_ w' w'.heap.size [.slice (some ⟨b6, off6, none⟩) x.ls.length c6] x.ls) ∧ w'.heap[w.heap.size]? = some (.cells #[.int .i64 x.st, .int .i64 x.epoch, .int .i64 x.gen, .slice A3 x.conf.length c3, .bool x.paused, .slice (some ⟨b, off, none⟩) x.as_.length c5, .slice (some ⟨b6, off6, none⟩) x.ls.length c6, .int .i64 x.ticket, .int .i64 x.h.id, .int .i64 x.h.no, .int .i64 x.h.acked, .int .i64 x.h.since] 70 (0, 0))) _ := ⟨T.out.1, T.out.2.1⟩
                clear HNX
                go_wp2_with fail
                go_roundw
                case rel => exact ⟨k + 1, by omega, by go_num, HQ, S4⟩
                case measure => simp [intOf]; omega
        · have he : k = x.ls.length := by omega
          subst he
          have HE := Lib.hid (pB_yes (p := PairA x.as_ x.ls ∧ PairL x.as_ x.ls) ⟨HA.out, fun i y hy => HU.out i y (List.getElem?_eq_some_iff.1 hy).1 hy⟩)
          go_wp2_with fail
          go_ret
          exact ⟨by rw [HE.out]; exact rfl, S.out.1.1.1⟩

end Go.Proofs.Ytgdhhhibkhfdlaa
