/- LineOk of the program and of the model. (By gen_l9a.py.) -/
import Derived.Test.YtgdhhhibkhfdlaaAskP
import Derived.Test.YtgdhhhibkhfdlaaFLLine
namespace Go.Proofs.Ytgdhhhibkhfdlaa
open Go.RowKit
set_option linter.unusedVariables false
set_option linter.unusedSimpArgs false

theorem st3 (s : Int) : s = 0 ∨ s = 1 ∨ s = 2 ∨ ((s == 0) = false ∧ (s == 1) = false ∧ (s == 2) = false ∧ inI s 1 2 = false) := by
  by_cases h0 : s = 0; · exact .inl h0
  by_cases h1 : s = 1; · exact .inr (.inl h1)
  by_cases h2 : s = 2; · exact .inr (.inr (.inl h2))
  exact .inr (.inr (.inr ⟨by simpa using h0, by simpa using h1, by simpa using h2, by unfold inI; simp; omega⟩))
def lnB (x : Ln) : Bool := inI x.sock 1 9999 && (nameB x.db.data.toList && (inI x.gen 1 60000 && (
  if x.st = 0 then inI x.since 0 100000 && (x.asker == 0 && x.lease == 0)
  else if x.st = 1 ∨ x.st = 2 then x.since == 0 && (inI x.asker 1 9999 && decide (1 ≤ x.lease))
  else false)))
set_option maxRecDepth 100000 in
set_option maxHeartbeats 8000000 in
theorem lnB_any (x : Ln) (w : World) (hf : FitsLn x) : Calls Try.prog 42 #[.agg (lnC x).toArray] w (RetBool w (lnB x)) := by
  obtain ⟨sock, db, gen, st, since, asker, lease⟩ := x
  unfold RetBool lnC
  have hdb : db.size ≤ 1048576 := hf
  clear hf
  rcases st3  st with rfl | rfl | rfl | ⟨h0, h1, h2, h3⟩
  · skip
    obtain ⟨v, hv⟩ : ∃ v, lnB ⟨sock, db, gen, 0, since, asker, lease⟩ = v := ⟨_, rfl⟩
    rw [hv]
    have HV := Lib.hid hv
    clear hv
    go_enter Try.func42, Try.ntmps42
    go_wp2_with fail
    have S : All (fun w' => Below w.heap.size w w' ∧ w'.heap[w.heap.size]? = some (.cells #[.int .i64 sock, .string db, .int .i64 gen, .int .i64 0, .int .i64 since, .int .i64 asker, .int .i64 lease] 52 (0, 0))) (w.alloc (.cells #[.int .i64 sock, .string db, .int .i64 gen, .int .i64 0, .int .i64 since, .int .i64 asker, .int .i64 lease] 52)) := ⟨Later.alloc w _, heap_alloc_new w _⟩
    generalize w.alloc (.cells #[.int .i64 sock, .string db, .int .i64 gen, .int .i64 0, .int .i64 since, .int .i64 asker, .int .i64 lease] 52) = W0 at S ⊢
    refine (sockNumOk_any sock _).mono ?_
    rintro e w1 ⟨rfl, rfl⟩
    by_cases t0 : inI sock 1 9999 = true
    · rw [t0]
      have Ht0 := Lib.hid t0
      clear t0
      have c0 := var_cell S.out.2 0
      have c1 := var_cell S.out.2 1
      have c2 := var_cell S.out.2 2
      have c3 := var_cell S.out.2 3
      have c4 := var_cell S.out.2 4
      have c5 := var_cell S.out.2 5
      have c6 := var_cell S.out.2 6
      go_wp2_with fail
      clear c0 c1 c2 c3 c4 c5 c6
      refine (nameOk_b (b := nameB db.data.toList) rfl _ hdb).mono ?_
      rintro e W1 ⟨rfl, hb⟩
      replace S := S.later hb
      clear hb
      by_cases t1 : nameB db.data.toList = true
      · rw [t1]
        have Ht1 := Lib.hid t1
        clear t1
        have c0 := var_cell S.out.2 0
        have c1 := var_cell S.out.2 1
        have c2 := var_cell S.out.2 2
        have c3 := var_cell S.out.2 3
        have c4 := var_cell S.out.2 4
        have c5 := var_cell S.out.2 5
        have c6 := var_cell S.out.2 6
        go_wp2_with fail
        clear c0 c1 c2 c3 c4 c5 c6
        refine (within_b (b := inI gen 1 60000) rfl _).mono ?_
        rintro e w1 ⟨rfl, rfl⟩
        by_cases t2 : inI gen 1 60000 = true
        · rw [t2]
          have Ht2 := Lib.hid t2
          clear t2
          have c0 := var_cell S.out.2 0
          have c1 := var_cell S.out.2 1
          have c2 := var_cell S.out.2 2
          have c3 := var_cell S.out.2 3
          have c4 := var_cell S.out.2 4
          have c5 := var_cell S.out.2 5
          have c6 := var_cell S.out.2 6
          go_wp2_with fail
          clear c0 c1 c2 c3 c4 c5 c6
          refine (timeOk_any since _).mono ?_
          rintro e w1 ⟨rfl, rfl⟩
          by_cases t3 : inI since 0 100000 = true
          · rw [t3]
            have Ht3 := Lib.hid t3
            clear t3
            by_cases t4 : ¬ asker = 0
            · skip
              have zt4 : (asker != 0) = true := by simp [t4]
              have et4 : (asker == 0) = false := by simp; omega
              have Ht4 := Lib.hid (show ¬ asker = 0 from by omega)
              clear t4
              have c0 := var_cell S.out.2 0
              have c1 := var_cell S.out.2 1
              have c2 := var_cell S.out.2 2
              have c3 := var_cell S.out.2 3
              have c4 := var_cell S.out.2 4
              have c5 := var_cell S.out.2 5
              have c6 := var_cell S.out.2 6
              go_wp2_with fail
              go_ret
              exact ⟨by rw [← HV.out]; first | (simp [lnB, lnEqB, ByteArray.toList_mk, Ht0.out, Ht1.out, Ht2.out, Ht3.out, Ht4.out]; done) | (simp [lnB, Ht0.out, Ht1.out, Ht2.out, Ht3.out, Ht4.out]; done), S.out.1⟩
            · skip
              have zt4 : (asker != 0) = false := by simpa using t4
              have et4 : (asker == 0) = true := by simp; omega
              have Ht4 := Lib.hid (show asker = 0 from by omega)
              clear t4
              by_cases t5 : ¬ lease = 0
              · skip
                have zt5 : (lease != 0) = true := by simp [t5]
                have et5 : (lease == 0) = false := by simp; omega
                have Ht5 := Lib.hid (show ¬ lease = 0 from by omega)
                clear t5
                have c0 := var_cell S.out.2 0
                have c1 := var_cell S.out.2 1
                have c2 := var_cell S.out.2 2
                have c3 := var_cell S.out.2 3
                have c4 := var_cell S.out.2 4
                have c5 := var_cell S.out.2 5
                have c6 := var_cell S.out.2 6
                go_wp2_with fail
                go_ret
                exact ⟨by rw [← HV.out]; first | (simp [lnB, lnEqB, ByteArray.toList_mk, Ht0.out, Ht1.out, Ht2.out, Ht3.out, Ht4.out, Ht5.out]; done) | (simp [lnB, Ht0.out, Ht1.out, Ht2.out, Ht3.out, Ht4.out, Ht5.out]; done), S.out.1⟩
              · skip
                have zt5 : (lease != 0) = false := by simpa using t5
                have et5 : (lease == 0) = true := by simp; omega
                have Ht5 := Lib.hid (show lease = 0 from by omega)
                clear t5
                have c0 := var_cell S.out.2 0
                have c1 := var_cell S.out.2 1
                have c2 := var_cell S.out.2 2
                have c3 := var_cell S.out.2 3
                have c4 := var_cell S.out.2 4
                have c5 := var_cell S.out.2 5
                have c6 := var_cell S.out.2 6
                go_wp2_with fail
                go_ret
                exact ⟨by rw [← HV.out]; first | (simp [lnB, lnEqB, ByteArray.toList_mk, Ht0.out, Ht1.out, Ht2.out, Ht3.out, Ht4.out, Ht5.out]; done) | (simp [lnB, Ht0.out, Ht1.out, Ht2.out, Ht3.out, Ht4.out, Ht5.out]; done), S.out.1⟩
          · replace t3 : inI since 0 100000 = false := by simpa using t3
            rw [t3]
            have Ht3 := Lib.hid t3
            clear t3
            have c0 := var_cell S.out.2 0
            have c1 := var_cell S.out.2 1
            have c2 := var_cell S.out.2 2
            have c3 := var_cell S.out.2 3
            have c4 := var_cell S.out.2 4
            have c5 := var_cell S.out.2 5
            have c6 := var_cell S.out.2 6
            go_wp2_with fail
            go_ret
            exact ⟨by rw [← HV.out]; first | (simp [lnB, lnEqB, ByteArray.toList_mk, Ht0.out, Ht1.out, Ht2.out, Ht3.out]; done) | (simp [lnB, Ht0.out, Ht1.out, Ht2.out, Ht3.out]; done), S.out.1⟩
        · replace t2 : inI gen 1 60000 = false := by simpa using t2
          rw [t2]
          have Ht2 := Lib.hid t2
          clear t2
          have c0 := var_cell S.out.2 0
          have c1 := var_cell S.out.2 1
          have c2 := var_cell S.out.2 2
          have c3 := var_cell S.out.2 3
          have c4 := var_cell S.out.2 4
          have c5 := var_cell S.out.2 5
          have c6 := var_cell S.out.2 6
          go_wp2_with fail
          go_ret
          exact ⟨by rw [← HV.out]; first | (simp [lnB, lnEqB, ByteArray.toList_mk, Ht0.out, Ht1.out, Ht2.out]; done) | (simp [lnB, Ht0.out, Ht1.out, Ht2.out]; done), S.out.1⟩
      · replace t1 : nameB db.data.toList = false := by simpa using t1
        rw [t1]
        have Ht1 := Lib.hid t1
        clear t1
        have c0 := var_cell S.out.2 0
        have c1 := var_cell S.out.2 1
        have c2 := var_cell S.out.2 2
        have c3 := var_cell S.out.2 3
        have c4 := var_cell S.out.2 4
        have c5 := var_cell S.out.2 5
        have c6 := var_cell S.out.2 6
        go_wp2_with fail
        go_ret
        exact ⟨by rw [← HV.out]; first | (simp [lnB, lnEqB, ByteArray.toList_mk, Ht0.out, Ht1.out]; done) | (simp [lnB, Ht0.out, Ht1.out]; done), S.out.1⟩
    · replace t0 : inI sock 1 9999 = false := by simpa using t0
      rw [t0]
      have Ht0 := Lib.hid t0
      clear t0
      have c0 := var_cell S.out.2 0
      have c1 := var_cell S.out.2 1
      have c2 := var_cell S.out.2 2
      have c3 := var_cell S.out.2 3
      have c4 := var_cell S.out.2 4
      have c5 := var_cell S.out.2 5
      have c6 := var_cell S.out.2 6
      go_wp2_with fail
      go_ret
      exact ⟨by rw [← HV.out]; first | (simp [lnB, lnEqB, ByteArray.toList_mk, Ht0.out]; done) | (simp [lnB, Ht0.out]; done), S.out.1⟩
  · skip
    obtain ⟨v, hv⟩ : ∃ v, lnB ⟨sock, db, gen, 1, since, asker, lease⟩ = v := ⟨_, rfl⟩
    rw [hv]
    have HV := Lib.hid hv
    clear hv
    go_enter Try.func42, Try.ntmps42
    go_wp2_with fail
    have S : All (fun w' => Below w.heap.size w w' ∧ w'.heap[w.heap.size]? = some (.cells #[.int .i64 sock, .string db, .int .i64 gen, .int .i64 1, .int .i64 since, .int .i64 asker, .int .i64 lease] 52 (0, 0))) (w.alloc (.cells #[.int .i64 sock, .string db, .int .i64 gen, .int .i64 1, .int .i64 since, .int .i64 asker, .int .i64 lease] 52)) := ⟨Later.alloc w _, heap_alloc_new w _⟩
    generalize w.alloc (.cells #[.int .i64 sock, .string db, .int .i64 gen, .int .i64 1, .int .i64 since, .int .i64 asker, .int .i64 lease] 52) = W0 at S ⊢
    refine (sockNumOk_any sock _).mono ?_
    rintro e w1 ⟨rfl, rfl⟩
    by_cases t0 : inI sock 1 9999 = true
    · rw [t0]
      have Ht0 := Lib.hid t0
      clear t0
      have c0 := var_cell S.out.2 0
      have c1 := var_cell S.out.2 1
      have c2 := var_cell S.out.2 2
      have c3 := var_cell S.out.2 3
      have c4 := var_cell S.out.2 4
      have c5 := var_cell S.out.2 5
      have c6 := var_cell S.out.2 6
      go_wp2_with fail
      clear c0 c1 c2 c3 c4 c5 c6
      refine (nameOk_b (b := nameB db.data.toList) rfl _ hdb).mono ?_
      rintro e W1 ⟨rfl, hb⟩
      replace S := S.later hb
      clear hb
      by_cases t1 : nameB db.data.toList = true
      · rw [t1]
        have Ht1 := Lib.hid t1
        clear t1
        have c0 := var_cell S.out.2 0
        have c1 := var_cell S.out.2 1
        have c2 := var_cell S.out.2 2
        have c3 := var_cell S.out.2 3
        have c4 := var_cell S.out.2 4
        have c5 := var_cell S.out.2 5
        have c6 := var_cell S.out.2 6
        go_wp2_with fail
        clear c0 c1 c2 c3 c4 c5 c6
        refine (within_b (b := inI gen 1 60000) rfl _).mono ?_
        rintro e w1 ⟨rfl, rfl⟩
        by_cases t2 : inI gen 1 60000 = true
        · rw [t2]
          have Ht2 := Lib.hid t2
          clear t2
          by_cases t3 : ¬ since = 0
          · skip
            have zt3 : (since != 0) = true := by simp [t3]
            have et3 : (since == 0) = false := by simp; omega
            have Ht3 := Lib.hid (show ¬ since = 0 from by omega)
            clear t3
            have c0 := var_cell S.out.2 0
            have c1 := var_cell S.out.2 1
            have c2 := var_cell S.out.2 2
            have c3 := var_cell S.out.2 3
            have c4 := var_cell S.out.2 4
            have c5 := var_cell S.out.2 5
            have c6 := var_cell S.out.2 6
            go_wp2_with fail
            go_ret
            exact ⟨by rw [← HV.out]; first | (simp [lnB, lnEqB, ByteArray.toList_mk, Ht0.out, Ht1.out, Ht2.out, Ht3.out]; done) | (simp [lnB, Ht0.out, Ht1.out, Ht2.out, Ht3.out]; done), S.out.1⟩
          · skip
            have zt3 : (since != 0) = false := by simpa using t3
            have et3 : (since == 0) = true := by simp; omega
            have Ht3 := Lib.hid (show since = 0 from by omega)
            clear t3
            have c0 := var_cell S.out.2 0
            have c1 := var_cell S.out.2 1
            have c2 := var_cell S.out.2 2
            have c3 := var_cell S.out.2 3
            have c4 := var_cell S.out.2 4
            have c5 := var_cell S.out.2 5
            have c6 := var_cell S.out.2 6
            go_wp2_with fail
            clear c0 c1 c2 c3 c4 c5 c6
            refine (sockNumOk_any asker _).mono ?_
            rintro e w1 ⟨rfl, rfl⟩
            by_cases t4 : inI asker 1 9999 = true
            · rw [t4]
              have Ht4 := Lib.hid t4
              clear t4
              by_cases t5 : ¬ 1 ≤ lease
              · skip
                have zt5 : ¬ 1 ≤ lease := by omega
                have Ht5 := Lib.hid (show decide (1 ≤ lease) = false from by simpa using zt5)
                clear t5
                have c0 := var_cell S.out.2 0
                have c1 := var_cell S.out.2 1
                have c2 := var_cell S.out.2 2
                have c3 := var_cell S.out.2 3
                have c4 := var_cell S.out.2 4
                have c5 := var_cell S.out.2 5
                have c6 := var_cell S.out.2 6
                go_wp2_with fail
                go_ret
                exact ⟨by rw [← HV.out]; first | (simp [lnB, lnEqB, ByteArray.toList_mk, Ht0.out, Ht1.out, Ht2.out, Ht3.out, Ht4.out, Ht5.out]; done) | (simp [lnB, Ht0.out, Ht1.out, Ht2.out, Ht3.out, Ht4.out, Ht5.out]; done), S.out.1⟩
              · skip
                have zt5 : 1 ≤ lease := by omega
                have Ht5 := Lib.hid (show decide (1 ≤ lease) = true from by simpa using zt5)
                clear t5
                have c0 := var_cell S.out.2 0
                have c1 := var_cell S.out.2 1
                have c2 := var_cell S.out.2 2
                have c3 := var_cell S.out.2 3
                have c4 := var_cell S.out.2 4
                have c5 := var_cell S.out.2 5
                have c6 := var_cell S.out.2 6
                go_wp2_with fail
                go_ret
                exact ⟨by rw [← HV.out]; first | (simp [lnB, lnEqB, ByteArray.toList_mk, Ht0.out, Ht1.out, Ht2.out, Ht3.out, Ht4.out, Ht5.out]; done) | (simp [lnB, Ht0.out, Ht1.out, Ht2.out, Ht3.out, Ht4.out, Ht5.out]; done), S.out.1⟩
            · replace t4 : inI asker 1 9999 = false := by simpa using t4
              rw [t4]
              have Ht4 := Lib.hid t4
              clear t4
              have c0 := var_cell S.out.2 0
              have c1 := var_cell S.out.2 1
              have c2 := var_cell S.out.2 2
              have c3 := var_cell S.out.2 3
              have c4 := var_cell S.out.2 4
              have c5 := var_cell S.out.2 5
              have c6 := var_cell S.out.2 6
              go_wp2_with fail
              go_ret
              exact ⟨by rw [← HV.out]; first | (simp [lnB, lnEqB, ByteArray.toList_mk, Ht0.out, Ht1.out, Ht2.out, Ht3.out, Ht4.out]; done) | (simp [lnB, Ht0.out, Ht1.out, Ht2.out, Ht3.out, Ht4.out]; done), S.out.1⟩
        · replace t2 : inI gen 1 60000 = false := by simpa using t2
          rw [t2]
          have Ht2 := Lib.hid t2
          clear t2
          have c0 := var_cell S.out.2 0
          have c1 := var_cell S.out.2 1
          have c2 := var_cell S.out.2 2
          have c3 := var_cell S.out.2 3
          have c4 := var_cell S.out.2 4
          have c5 := var_cell S.out.2 5
          have c6 := var_cell S.out.2 6
          go_wp2_with fail
          go_ret
          exact ⟨by rw [← HV.out]; first | (simp [lnB, lnEqB, ByteArray.toList_mk, Ht0.out, Ht1.out, Ht2.out]; done) | (simp [lnB, Ht0.out, Ht1.out, Ht2.out]; done), S.out.1⟩
      · replace t1 : nameB db.data.toList = false := by simpa using t1
        rw [t1]
        have Ht1 := Lib.hid t1
        clear t1
        have c0 := var_cell S.out.2 0
        have c1 := var_cell S.out.2 1
        have c2 := var_cell S.out.2 2
        have c3 := var_cell S.out.2 3
        have c4 := var_cell S.out.2 4
        have c5 := var_cell S.out.2 5
        have c6 := var_cell S.out.2 6
        go_wp2_with fail
        go_ret
        exact ⟨by rw [← HV.out]; first | (simp [lnB, lnEqB, ByteArray.toList_mk, Ht0.out, Ht1.out]; done) | (simp [lnB, Ht0.out, Ht1.out]; done), S.out.1⟩
    · replace t0 : inI sock 1 9999 = false := by simpa using t0
      rw [t0]
      have Ht0 := Lib.hid t0
      clear t0
      have c0 := var_cell S.out.2 0
      have c1 := var_cell S.out.2 1
      have c2 := var_cell S.out.2 2
      have c3 := var_cell S.out.2 3
      have c4 := var_cell S.out.2 4
      have c5 := var_cell S.out.2 5
      have c6 := var_cell S.out.2 6
      go_wp2_with fail
      go_ret
      exact ⟨by rw [← HV.out]; first | (simp [lnB, lnEqB, ByteArray.toList_mk, Ht0.out]; done) | (simp [lnB, Ht0.out]; done), S.out.1⟩
  · skip
    obtain ⟨v, hv⟩ : ∃ v, lnB ⟨sock, db, gen, 2, since, asker, lease⟩ = v := ⟨_, rfl⟩
    rw [hv]
    have HV := Lib.hid hv
    clear hv
    go_enter Try.func42, Try.ntmps42
    go_wp2_with fail
    have S : All (fun w' => Below w.heap.size w w' ∧ w'.heap[w.heap.size]? = some (.cells #[.int .i64 sock, .string db, .int .i64 gen, .int .i64 2, .int .i64 since, .int .i64 asker, .int .i64 lease] 52 (0, 0))) (w.alloc (.cells #[.int .i64 sock, .string db, .int .i64 gen, .int .i64 2, .int .i64 since, .int .i64 asker, .int .i64 lease] 52)) := ⟨Later.alloc w _, heap_alloc_new w _⟩
    generalize w.alloc (.cells #[.int .i64 sock, .string db, .int .i64 gen, .int .i64 2, .int .i64 since, .int .i64 asker, .int .i64 lease] 52) = W0 at S ⊢
    refine (sockNumOk_any sock _).mono ?_
    rintro e w1 ⟨rfl, rfl⟩
    by_cases t0 : inI sock 1 9999 = true
    · rw [t0]
      have Ht0 := Lib.hid t0
      clear t0
      have c0 := var_cell S.out.2 0
      have c1 := var_cell S.out.2 1
      have c2 := var_cell S.out.2 2
      have c3 := var_cell S.out.2 3
      have c4 := var_cell S.out.2 4
      have c5 := var_cell S.out.2 5
      have c6 := var_cell S.out.2 6
      go_wp2_with fail
      clear c0 c1 c2 c3 c4 c5 c6
      refine (nameOk_b (b := nameB db.data.toList) rfl _ hdb).mono ?_
      rintro e W1 ⟨rfl, hb⟩
      replace S := S.later hb
      clear hb
      by_cases t1 : nameB db.data.toList = true
      · rw [t1]
        have Ht1 := Lib.hid t1
        clear t1
        have c0 := var_cell S.out.2 0
        have c1 := var_cell S.out.2 1
        have c2 := var_cell S.out.2 2
        have c3 := var_cell S.out.2 3
        have c4 := var_cell S.out.2 4
        have c5 := var_cell S.out.2 5
        have c6 := var_cell S.out.2 6
        go_wp2_with fail
        clear c0 c1 c2 c3 c4 c5 c6
        refine (within_b (b := inI gen 1 60000) rfl _).mono ?_
        rintro e w1 ⟨rfl, rfl⟩
        by_cases t2 : inI gen 1 60000 = true
        · rw [t2]
          have Ht2 := Lib.hid t2
          clear t2
          by_cases t3 : ¬ since = 0
          · skip
            have zt3 : (since != 0) = true := by simp [t3]
            have et3 : (since == 0) = false := by simp; omega
            have Ht3 := Lib.hid (show ¬ since = 0 from by omega)
            clear t3
            have c0 := var_cell S.out.2 0
            have c1 := var_cell S.out.2 1
            have c2 := var_cell S.out.2 2
            have c3 := var_cell S.out.2 3
            have c4 := var_cell S.out.2 4
            have c5 := var_cell S.out.2 5
            have c6 := var_cell S.out.2 6
            go_wp2_with fail
            go_ret
            exact ⟨by rw [← HV.out]; first | (simp [lnB, lnEqB, ByteArray.toList_mk, Ht0.out, Ht1.out, Ht2.out, Ht3.out]; done) | (simp [lnB, Ht0.out, Ht1.out, Ht2.out, Ht3.out]; done), S.out.1⟩
          · skip
            have zt3 : (since != 0) = false := by simpa using t3
            have et3 : (since == 0) = true := by simp; omega
            have Ht3 := Lib.hid (show since = 0 from by omega)
            clear t3
            have c0 := var_cell S.out.2 0
            have c1 := var_cell S.out.2 1
            have c2 := var_cell S.out.2 2
            have c3 := var_cell S.out.2 3
            have c4 := var_cell S.out.2 4
            have c5 := var_cell S.out.2 5
            have c6 := var_cell S.out.2 6
            go_wp2_with fail
            clear c0 c1 c2 c3 c4 c5 c6
            refine (sockNumOk_any asker _).mono ?_
            rintro e w1 ⟨rfl, rfl⟩
            by_cases t4 : inI asker 1 9999 = true
            · rw [t4]
              have Ht4 := Lib.hid t4
              clear t4
              by_cases t5 : ¬ 1 ≤ lease
              · skip
                have zt5 : ¬ 1 ≤ lease := by omega
                have Ht5 := Lib.hid (show decide (1 ≤ lease) = false from by simpa using zt5)
                clear t5
                have c0 := var_cell S.out.2 0
                have c1 := var_cell S.out.2 1
                have c2 := var_cell S.out.2 2
                have c3 := var_cell S.out.2 3
                have c4 := var_cell S.out.2 4
                have c5 := var_cell S.out.2 5
                have c6 := var_cell S.out.2 6
                go_wp2_with fail
                go_ret
                exact ⟨by rw [← HV.out]; first | (simp [lnB, lnEqB, ByteArray.toList_mk, Ht0.out, Ht1.out, Ht2.out, Ht3.out, Ht4.out, Ht5.out]; done) | (simp [lnB, Ht0.out, Ht1.out, Ht2.out, Ht3.out, Ht4.out, Ht5.out]; done), S.out.1⟩
              · skip
                have zt5 : 1 ≤ lease := by omega
                have Ht5 := Lib.hid (show decide (1 ≤ lease) = true from by simpa using zt5)
                clear t5
                have c0 := var_cell S.out.2 0
                have c1 := var_cell S.out.2 1
                have c2 := var_cell S.out.2 2
                have c3 := var_cell S.out.2 3
                have c4 := var_cell S.out.2 4
                have c5 := var_cell S.out.2 5
                have c6 := var_cell S.out.2 6
                go_wp2_with fail
                go_ret
                exact ⟨by rw [← HV.out]; first | (simp [lnB, lnEqB, ByteArray.toList_mk, Ht0.out, Ht1.out, Ht2.out, Ht3.out, Ht4.out, Ht5.out]; done) | (simp [lnB, Ht0.out, Ht1.out, Ht2.out, Ht3.out, Ht4.out, Ht5.out]; done), S.out.1⟩
            · replace t4 : inI asker 1 9999 = false := by simpa using t4
              rw [t4]
              have Ht4 := Lib.hid t4
              clear t4
              have c0 := var_cell S.out.2 0
              have c1 := var_cell S.out.2 1
              have c2 := var_cell S.out.2 2
              have c3 := var_cell S.out.2 3
              have c4 := var_cell S.out.2 4
              have c5 := var_cell S.out.2 5
              have c6 := var_cell S.out.2 6
              go_wp2_with fail
              go_ret
              exact ⟨by rw [← HV.out]; first | (simp [lnB, lnEqB, ByteArray.toList_mk, Ht0.out, Ht1.out, Ht2.out, Ht3.out, Ht4.out]; done) | (simp [lnB, Ht0.out, Ht1.out, Ht2.out, Ht3.out, Ht4.out]; done), S.out.1⟩
        · replace t2 : inI gen 1 60000 = false := by simpa using t2
          rw [t2]
          have Ht2 := Lib.hid t2
          clear t2
          have c0 := var_cell S.out.2 0
          have c1 := var_cell S.out.2 1
          have c2 := var_cell S.out.2 2
          have c3 := var_cell S.out.2 3
          have c4 := var_cell S.out.2 4
          have c5 := var_cell S.out.2 5
          have c6 := var_cell S.out.2 6
          go_wp2_with fail
          go_ret
          exact ⟨by rw [← HV.out]; first | (simp [lnB, lnEqB, ByteArray.toList_mk, Ht0.out, Ht1.out, Ht2.out]; done) | (simp [lnB, Ht0.out, Ht1.out, Ht2.out]; done), S.out.1⟩
      · replace t1 : nameB db.data.toList = false := by simpa using t1
        rw [t1]
        have Ht1 := Lib.hid t1
        clear t1
        have c0 := var_cell S.out.2 0
        have c1 := var_cell S.out.2 1
        have c2 := var_cell S.out.2 2
        have c3 := var_cell S.out.2 3
        have c4 := var_cell S.out.2 4
        have c5 := var_cell S.out.2 5
        have c6 := var_cell S.out.2 6
        go_wp2_with fail
        go_ret
        exact ⟨by rw [← HV.out]; first | (simp [lnB, lnEqB, ByteArray.toList_mk, Ht0.out, Ht1.out]; done) | (simp [lnB, Ht0.out, Ht1.out]; done), S.out.1⟩
    · replace t0 : inI sock 1 9999 = false := by simpa using t0
      rw [t0]
      have Ht0 := Lib.hid t0
      clear t0
      have c0 := var_cell S.out.2 0
      have c1 := var_cell S.out.2 1
      have c2 := var_cell S.out.2 2
      have c3 := var_cell S.out.2 3
      have c4 := var_cell S.out.2 4
      have c5 := var_cell S.out.2 5
      have c6 := var_cell S.out.2 6
      go_wp2_with fail
      go_ret
      exact ⟨by rw [← HV.out]; first | (simp [lnB, lnEqB, ByteArray.toList_mk, Ht0.out]; done) | (simp [lnB, Ht0.out]; done), S.out.1⟩
  · skip
    obtain ⟨v, hv⟩ : ∃ v, lnB ⟨sock, db, gen, st, since, asker, lease⟩ = v := ⟨_, rfl⟩
    rw [hv]
    have HV := Lib.hid hv
    clear hv
    go_enter Try.func42, Try.ntmps42
    go_wp2_with fail
    have S : All (fun w' => Below w.heap.size w w' ∧ w'.heap[w.heap.size]? = some (.cells #[.int .i64 sock, .string db, .int .i64 gen, .int .i64 st, .int .i64 since, .int .i64 asker, .int .i64 lease] 52 (0, 0))) (w.alloc (.cells #[.int .i64 sock, .string db, .int .i64 gen, .int .i64 st, .int .i64 since, .int .i64 asker, .int .i64 lease] 52)) := ⟨Later.alloc w _, heap_alloc_new w _⟩
    generalize w.alloc (.cells #[.int .i64 sock, .string db, .int .i64 gen, .int .i64 st, .int .i64 since, .int .i64 asker, .int .i64 lease] 52) = W0 at S ⊢
    refine (sockNumOk_any sock _).mono ?_
    rintro e w1 ⟨rfl, rfl⟩
    by_cases t3 : inI sock 1 9999 = true
    · rw [t3]
      have Ht3 := Lib.hid t3
      clear t3
      have c0 := var_cell S.out.2 0
      have c1 := var_cell S.out.2 1
      have c2 := var_cell S.out.2 2
      have c3 := var_cell S.out.2 3
      have c4 := var_cell S.out.2 4
      have c5 := var_cell S.out.2 5
      have c6 := var_cell S.out.2 6
      go_wp2_with fail
      clear c0 c1 c2 c3 c4 c5 c6
      refine (nameOk_b (b := nameB db.data.toList) rfl _ hdb).mono ?_
      rintro e W1 ⟨rfl, hb⟩
      replace S := S.later hb
      clear hb
      by_cases t4 : nameB db.data.toList = true
      · rw [t4]
        have Ht4 := Lib.hid t4
        clear t4
        have c0 := var_cell S.out.2 0
        have c1 := var_cell S.out.2 1
        have c2 := var_cell S.out.2 2
        have c3 := var_cell S.out.2 3
        have c4 := var_cell S.out.2 4
        have c5 := var_cell S.out.2 5
        have c6 := var_cell S.out.2 6
        go_wp2_with fail
        clear c0 c1 c2 c3 c4 c5 c6
        refine (within_b (b := inI gen 1 60000) rfl _).mono ?_
        rintro e w1 ⟨rfl, rfl⟩
        by_cases t5 : inI gen 1 60000 = true
        · rw [t5]
          have Ht5 := Lib.hid t5
          clear t5
          have c0 := var_cell S.out.2 0
          have c1 := var_cell S.out.2 1
          have c2 := var_cell S.out.2 2
          have c3 := var_cell S.out.2 3
          have c4 := var_cell S.out.2 4
          have c5 := var_cell S.out.2 5
          have c6 := var_cell S.out.2 6
          go_wp2_with fail
          go_ret
          exact ⟨by rw [← HV.out]; first | (simp [lnB, lnEqB, ByteArray.toList_mk, (show ¬ st = 0 from by simpa using h0), (show ¬ st = 1 from by simpa using h1), (show ¬ st = 2 from by simpa using h2), Ht3.out, Ht4.out, Ht5.out]; done) | (simp [lnB, (show ¬ st = 0 from by simpa using h0), (show ¬ st = 1 from by simpa using h1), (show ¬ st = 2 from by simpa using h2), Ht3.out, Ht4.out, Ht5.out]; done), S.out.1⟩
        · replace t5 : inI gen 1 60000 = false := by simpa using t5
          rw [t5]
          have Ht5 := Lib.hid t5
          clear t5
          have c0 := var_cell S.out.2 0
          have c1 := var_cell S.out.2 1
          have c2 := var_cell S.out.2 2
          have c3 := var_cell S.out.2 3
          have c4 := var_cell S.out.2 4
          have c5 := var_cell S.out.2 5
          have c6 := var_cell S.out.2 6
          go_wp2_with fail
          go_ret
          exact ⟨by rw [← HV.out]; first | (simp [lnB, lnEqB, ByteArray.toList_mk, (show ¬ st = 0 from by simpa using h0), (show ¬ st = 1 from by simpa using h1), (show ¬ st = 2 from by simpa using h2), Ht3.out, Ht4.out, Ht5.out]; done) | (simp [lnB, (show ¬ st = 0 from by simpa using h0), (show ¬ st = 1 from by simpa using h1), (show ¬ st = 2 from by simpa using h2), Ht3.out, Ht4.out, Ht5.out]; done), S.out.1⟩
      · replace t4 : nameB db.data.toList = false := by simpa using t4
        rw [t4]
        have Ht4 := Lib.hid t4
        clear t4
        have c0 := var_cell S.out.2 0
        have c1 := var_cell S.out.2 1
        have c2 := var_cell S.out.2 2
        have c3 := var_cell S.out.2 3
        have c4 := var_cell S.out.2 4
        have c5 := var_cell S.out.2 5
        have c6 := var_cell S.out.2 6
        go_wp2_with fail
        go_ret
        exact ⟨by rw [← HV.out]; first | (simp [lnB, lnEqB, ByteArray.toList_mk, (show ¬ st = 0 from by simpa using h0), (show ¬ st = 1 from by simpa using h1), (show ¬ st = 2 from by simpa using h2), Ht3.out, Ht4.out]; done) | (simp [lnB, (show ¬ st = 0 from by simpa using h0), (show ¬ st = 1 from by simpa using h1), (show ¬ st = 2 from by simpa using h2), Ht3.out, Ht4.out]; done), S.out.1⟩
    · replace t3 : inI sock 1 9999 = false := by simpa using t3
      rw [t3]
      have Ht3 := Lib.hid t3
      clear t3
      have c0 := var_cell S.out.2 0
      have c1 := var_cell S.out.2 1
      have c2 := var_cell S.out.2 2
      have c3 := var_cell S.out.2 3
      have c4 := var_cell S.out.2 4
      have c5 := var_cell S.out.2 5
      have c6 := var_cell S.out.2 6
      go_wp2_with fail
      go_ret
      exact ⟨by rw [← HV.out]; first | (simp [lnB, lnEqB, ByteArray.toList_mk, (show ¬ st = 0 from by simpa using h0), (show ¬ st = 1 from by simpa using h1), (show ¬ st = 2 from by simpa using h2), Ht3.out]; done) | (simp [lnB, (show ¬ st = 0 from by simpa using h0), (show ¬ st = 1 from by simpa using h1), (show ¬ st = 2 from by simpa using h2), Ht3.out]; done), S.out.1⟩

set_option maxRecDepth 100000 in
set_option maxHeartbeats 8000000 in
theorem lnBS_any (x : Ln) (w : World) (hf : FitsLn x) : Calls Try.prog 43 #[.agg (lnC x).toArray] w (RetBool w (lnB x)) := by
  obtain ⟨sock, db, gen, st, since, asker, lease⟩ := x
  unfold RetBool lnC
  have hdb : db.size ≤ 1048576 := hf
  clear hf
  rcases st3  st with rfl | rfl | rfl | ⟨h0, h1, h2, h3⟩
  · skip
    obtain ⟨v, hv⟩ : ∃ v, lnB ⟨sock, db, gen, 0, since, asker, lease⟩ = v := ⟨_, rfl⟩
    rw [hv]
    have HV := Lib.hid hv
    clear hv
    go_enter Try.func43, Try.ntmps43
    go_wp2_with fail
    have S : All (fun w' => Below w.heap.size w w' ∧ w'.heap[w.heap.size]? = some (.cells #[.int .i64 sock, .string db, .int .i64 gen, .int .i64 0, .int .i64 since, .int .i64 asker, .int .i64 lease] 52 (0, 0))) (w.alloc (.cells #[.int .i64 sock, .string db, .int .i64 gen, .int .i64 0, .int .i64 since, .int .i64 asker, .int .i64 lease] 52)) := ⟨Later.alloc w _, heap_alloc_new w _⟩
    generalize w.alloc (.cells #[.int .i64 sock, .string db, .int .i64 gen, .int .i64 0, .int .i64 since, .int .i64 asker, .int .i64 lease] 52) = W0 at S ⊢
    refine (l1In_b (b := inI sock 1 9999) rfl _).mono ?_
    rintro e w1 ⟨rfl, rfl⟩
    by_cases t0 : inI sock 1 9999 = true
    · rw [t0]
      have Ht0 := Lib.hid t0
      clear t0
      have c0 := var_cell S.out.2 0
      have c1 := var_cell S.out.2 1
      have c2 := var_cell S.out.2 2
      have c3 := var_cell S.out.2 3
      have c4 := var_cell S.out.2 4
      have c5 := var_cell S.out.2 5
      have c6 := var_cell S.out.2 6
      go_wp2_with fail
      clear c0 c1 c2 c3 c4 c5 c6
      refine (l1Name_b (b := nameB db.data.toList) rfl _ hdb).mono ?_
      rintro e w1 ⟨rfl, rfl⟩
      by_cases t1 : nameB db.data.toList = true
      · rw [t1]
        have Ht1 := Lib.hid t1
        clear t1
        have c0 := var_cell S.out.2 0
        have c1 := var_cell S.out.2 1
        have c2 := var_cell S.out.2 2
        have c3 := var_cell S.out.2 3
        have c4 := var_cell S.out.2 4
        have c5 := var_cell S.out.2 5
        have c6 := var_cell S.out.2 6
        go_wp2_with fail
        clear c0 c1 c2 c3 c4 c5 c6
        refine (l1In_b (b := inI gen 1 60000) rfl _).mono ?_
        rintro e w1 ⟨rfl, rfl⟩
        by_cases t2 : inI gen 1 60000 = true
        · rw [t2]
          have Ht2 := Lib.hid t2
          clear t2
          have c0 := var_cell S.out.2 0
          have c1 := var_cell S.out.2 1
          have c2 := var_cell S.out.2 2
          have c3 := var_cell S.out.2 3
          have c4 := var_cell S.out.2 4
          have c5 := var_cell S.out.2 5
          have c6 := var_cell S.out.2 6
          go_wp2_with fail
          clear c0 c1 c2 c3 c4 c5 c6
          refine (l9Time_any since _).mono ?_
          rintro e w1 ⟨rfl, rfl⟩
          by_cases t3 : inI since 0 100000 = true
          · rw [t3]
            have Ht3 := Lib.hid t3
            clear t3
            by_cases t4 : ¬ asker = 0
            · skip
              have zt4 : (asker != 0) = true := by simp [t4]
              have et4 : (asker == 0) = false := by simp; omega
              have Ht4 := Lib.hid (show ¬ asker = 0 from by omega)
              clear t4
              have c0 := var_cell S.out.2 0
              have c1 := var_cell S.out.2 1
              have c2 := var_cell S.out.2 2
              have c3 := var_cell S.out.2 3
              have c4 := var_cell S.out.2 4
              have c5 := var_cell S.out.2 5
              have c6 := var_cell S.out.2 6
              go_wp2_with fail
              go_ret
              exact ⟨by rw [← HV.out]; first | (simp [lnB, lnEqB, ByteArray.toList_mk, Ht0.out, Ht1.out, Ht2.out, Ht3.out, Ht4.out]; done) | (simp [lnB, Ht0.out, Ht1.out, Ht2.out, Ht3.out, Ht4.out]; done), S.out.1⟩
            · skip
              have zt4 : (asker != 0) = false := by simpa using t4
              have et4 : (asker == 0) = true := by simp; omega
              have Ht4 := Lib.hid (show asker = 0 from by omega)
              clear t4
              by_cases t5 : ¬ lease = 0
              · skip
                have zt5 : (lease != 0) = true := by simp [t5]
                have et5 : (lease == 0) = false := by simp; omega
                have Ht5 := Lib.hid (show ¬ lease = 0 from by omega)
                clear t5
                have c0 := var_cell S.out.2 0
                have c1 := var_cell S.out.2 1
                have c2 := var_cell S.out.2 2
                have c3 := var_cell S.out.2 3
                have c4 := var_cell S.out.2 4
                have c5 := var_cell S.out.2 5
                have c6 := var_cell S.out.2 6
                go_wp2_with fail
                go_ret
                exact ⟨by rw [← HV.out]; first | (simp [lnB, lnEqB, ByteArray.toList_mk, Ht0.out, Ht1.out, Ht2.out, Ht3.out, Ht4.out, Ht5.out]; done) | (simp [lnB, Ht0.out, Ht1.out, Ht2.out, Ht3.out, Ht4.out, Ht5.out]; done), S.out.1⟩
              · skip
                have zt5 : (lease != 0) = false := by simpa using t5
                have et5 : (lease == 0) = true := by simp; omega
                have Ht5 := Lib.hid (show lease = 0 from by omega)
                clear t5
                have c0 := var_cell S.out.2 0
                have c1 := var_cell S.out.2 1
                have c2 := var_cell S.out.2 2
                have c3 := var_cell S.out.2 3
                have c4 := var_cell S.out.2 4
                have c5 := var_cell S.out.2 5
                have c6 := var_cell S.out.2 6
                go_wp2_with fail
                go_ret
                exact ⟨by rw [← HV.out]; first | (simp [lnB, lnEqB, ByteArray.toList_mk, Ht0.out, Ht1.out, Ht2.out, Ht3.out, Ht4.out, Ht5.out]; done) | (simp [lnB, Ht0.out, Ht1.out, Ht2.out, Ht3.out, Ht4.out, Ht5.out]; done), S.out.1⟩
          · replace t3 : inI since 0 100000 = false := by simpa using t3
            rw [t3]
            have Ht3 := Lib.hid t3
            clear t3
            have c0 := var_cell S.out.2 0
            have c1 := var_cell S.out.2 1
            have c2 := var_cell S.out.2 2
            have c3 := var_cell S.out.2 3
            have c4 := var_cell S.out.2 4
            have c5 := var_cell S.out.2 5
            have c6 := var_cell S.out.2 6
            go_wp2_with fail
            go_ret
            exact ⟨by rw [← HV.out]; first | (simp [lnB, lnEqB, ByteArray.toList_mk, Ht0.out, Ht1.out, Ht2.out, Ht3.out]; done) | (simp [lnB, Ht0.out, Ht1.out, Ht2.out, Ht3.out]; done), S.out.1⟩
        · replace t2 : inI gen 1 60000 = false := by simpa using t2
          rw [t2]
          have Ht2 := Lib.hid t2
          clear t2
          have c0 := var_cell S.out.2 0
          have c1 := var_cell S.out.2 1
          have c2 := var_cell S.out.2 2
          have c3 := var_cell S.out.2 3
          have c4 := var_cell S.out.2 4
          have c5 := var_cell S.out.2 5
          have c6 := var_cell S.out.2 6
          go_wp2_with fail
          go_ret
          exact ⟨by rw [← HV.out]; first | (simp [lnB, lnEqB, ByteArray.toList_mk, Ht0.out, Ht1.out, Ht2.out]; done) | (simp [lnB, Ht0.out, Ht1.out, Ht2.out]; done), S.out.1⟩
      · replace t1 : nameB db.data.toList = false := by simpa using t1
        rw [t1]
        have Ht1 := Lib.hid t1
        clear t1
        have c0 := var_cell S.out.2 0
        have c1 := var_cell S.out.2 1
        have c2 := var_cell S.out.2 2
        have c3 := var_cell S.out.2 3
        have c4 := var_cell S.out.2 4
        have c5 := var_cell S.out.2 5
        have c6 := var_cell S.out.2 6
        go_wp2_with fail
        go_ret
        exact ⟨by rw [← HV.out]; first | (simp [lnB, lnEqB, ByteArray.toList_mk, Ht0.out, Ht1.out]; done) | (simp [lnB, Ht0.out, Ht1.out]; done), S.out.1⟩
    · replace t0 : inI sock 1 9999 = false := by simpa using t0
      rw [t0]
      have Ht0 := Lib.hid t0
      clear t0
      have c0 := var_cell S.out.2 0
      have c1 := var_cell S.out.2 1
      have c2 := var_cell S.out.2 2
      have c3 := var_cell S.out.2 3
      have c4 := var_cell S.out.2 4
      have c5 := var_cell S.out.2 5
      have c6 := var_cell S.out.2 6
      go_wp2_with fail
      go_ret
      exact ⟨by rw [← HV.out]; first | (simp [lnB, lnEqB, ByteArray.toList_mk, Ht0.out]; done) | (simp [lnB, Ht0.out]; done), S.out.1⟩
  · skip
    obtain ⟨v, hv⟩ : ∃ v, lnB ⟨sock, db, gen, 1, since, asker, lease⟩ = v := ⟨_, rfl⟩
    rw [hv]
    have HV := Lib.hid hv
    clear hv
    go_enter Try.func43, Try.ntmps43
    go_wp2_with fail
    have S : All (fun w' => Below w.heap.size w w' ∧ w'.heap[w.heap.size]? = some (.cells #[.int .i64 sock, .string db, .int .i64 gen, .int .i64 1, .int .i64 since, .int .i64 asker, .int .i64 lease] 52 (0, 0))) (w.alloc (.cells #[.int .i64 sock, .string db, .int .i64 gen, .int .i64 1, .int .i64 since, .int .i64 asker, .int .i64 lease] 52)) := ⟨Later.alloc w _, heap_alloc_new w _⟩
    generalize w.alloc (.cells #[.int .i64 sock, .string db, .int .i64 gen, .int .i64 1, .int .i64 since, .int .i64 asker, .int .i64 lease] 52) = W0 at S ⊢
    refine (l1In_b (b := inI sock 1 9999) rfl _).mono ?_
    rintro e w1 ⟨rfl, rfl⟩
    by_cases t0 : inI sock 1 9999 = true
    · rw [t0]
      have Ht0 := Lib.hid t0
      clear t0
      have c0 := var_cell S.out.2 0
      have c1 := var_cell S.out.2 1
      have c2 := var_cell S.out.2 2
      have c3 := var_cell S.out.2 3
      have c4 := var_cell S.out.2 4
      have c5 := var_cell S.out.2 5
      have c6 := var_cell S.out.2 6
      go_wp2_with fail
      clear c0 c1 c2 c3 c4 c5 c6
      refine (l1Name_b (b := nameB db.data.toList) rfl _ hdb).mono ?_
      rintro e w1 ⟨rfl, rfl⟩
      by_cases t1 : nameB db.data.toList = true
      · rw [t1]
        have Ht1 := Lib.hid t1
        clear t1
        have c0 := var_cell S.out.2 0
        have c1 := var_cell S.out.2 1
        have c2 := var_cell S.out.2 2
        have c3 := var_cell S.out.2 3
        have c4 := var_cell S.out.2 4
        have c5 := var_cell S.out.2 5
        have c6 := var_cell S.out.2 6
        go_wp2_with fail
        clear c0 c1 c2 c3 c4 c5 c6
        refine (l1In_b (b := inI gen 1 60000) rfl _).mono ?_
        rintro e w1 ⟨rfl, rfl⟩
        by_cases t2 : inI gen 1 60000 = true
        · rw [t2]
          have Ht2 := Lib.hid t2
          clear t2
          have c0 := var_cell S.out.2 0
          have c1 := var_cell S.out.2 1
          have c2 := var_cell S.out.2 2
          have c3 := var_cell S.out.2 3
          have c4 := var_cell S.out.2 4
          have c5 := var_cell S.out.2 5
          have c6 := var_cell S.out.2 6
          go_wp2_with fail
          clear c0 c1 c2 c3 c4 c5 c6
          refine (l1In_b (b := true) (by decide) _).mono ?_
          rintro e w1 ⟨rfl, rfl⟩
          by_cases t3 : ¬ since = 0
          · skip
            have zt3 : (since != 0) = true := by simp [t3]
            have et3 : (since == 0) = false := by simp; omega
            have Ht3 := Lib.hid (show ¬ since = 0 from by omega)
            clear t3
            have c0 := var_cell S.out.2 0
            have c1 := var_cell S.out.2 1
            have c2 := var_cell S.out.2 2
            have c3 := var_cell S.out.2 3
            have c4 := var_cell S.out.2 4
            have c5 := var_cell S.out.2 5
            have c6 := var_cell S.out.2 6
            go_wp2_with fail
            go_ret
            exact ⟨by rw [← HV.out]; first | (simp [lnB, lnEqB, ByteArray.toList_mk, Ht0.out, Ht1.out, Ht2.out, Ht3.out]; done) | (simp [lnB, Ht0.out, Ht1.out, Ht2.out, Ht3.out]; done), S.out.1⟩
          · skip
            have zt3 : (since != 0) = false := by simpa using t3
            have et3 : (since == 0) = true := by simp; omega
            have Ht3 := Lib.hid (show since = 0 from by omega)
            clear t3
            have c0 := var_cell S.out.2 0
            have c1 := var_cell S.out.2 1
            have c2 := var_cell S.out.2 2
            have c3 := var_cell S.out.2 3
            have c4 := var_cell S.out.2 4
            have c5 := var_cell S.out.2 5
            have c6 := var_cell S.out.2 6
            go_wp2_with fail
            clear c0 c1 c2 c3 c4 c5 c6
            refine (l1In_b (b := inI asker 1 9999) rfl _).mono ?_
            rintro e w1 ⟨rfl, rfl⟩
            by_cases t4 : inI asker 1 9999 = true
            · rw [t4]
              have Ht4 := Lib.hid t4
              clear t4
              by_cases t5 : ¬ 1 ≤ lease
              · skip
                have zt5 : ¬ 1 ≤ lease := by omega
                have Ht5 := Lib.hid (show decide (1 ≤ lease) = false from by simpa using zt5)
                clear t5
                have c0 := var_cell S.out.2 0
                have c1 := var_cell S.out.2 1
                have c2 := var_cell S.out.2 2
                have c3 := var_cell S.out.2 3
                have c4 := var_cell S.out.2 4
                have c5 := var_cell S.out.2 5
                have c6 := var_cell S.out.2 6
                go_wp2_with fail
                go_ret
                exact ⟨by rw [← HV.out]; first | (simp [lnB, lnEqB, ByteArray.toList_mk, Ht0.out, Ht1.out, Ht2.out, Ht3.out, Ht4.out, Ht5.out]; done) | (simp [lnB, Ht0.out, Ht1.out, Ht2.out, Ht3.out, Ht4.out, Ht5.out]; done), S.out.1⟩
              · skip
                have zt5 : 1 ≤ lease := by omega
                have Ht5 := Lib.hid (show decide (1 ≤ lease) = true from by simpa using zt5)
                clear t5
                have c0 := var_cell S.out.2 0
                have c1 := var_cell S.out.2 1
                have c2 := var_cell S.out.2 2
                have c3 := var_cell S.out.2 3
                have c4 := var_cell S.out.2 4
                have c5 := var_cell S.out.2 5
                have c6 := var_cell S.out.2 6
                go_wp2_with fail
                go_ret
                exact ⟨by rw [← HV.out]; first | (simp [lnB, lnEqB, ByteArray.toList_mk, Ht0.out, Ht1.out, Ht2.out, Ht3.out, Ht4.out, Ht5.out]; done) | (simp [lnB, Ht0.out, Ht1.out, Ht2.out, Ht3.out, Ht4.out, Ht5.out]; done), S.out.1⟩
            · replace t4 : inI asker 1 9999 = false := by simpa using t4
              rw [t4]
              have Ht4 := Lib.hid t4
              clear t4
              have c0 := var_cell S.out.2 0
              have c1 := var_cell S.out.2 1
              have c2 := var_cell S.out.2 2
              have c3 := var_cell S.out.2 3
              have c4 := var_cell S.out.2 4
              have c5 := var_cell S.out.2 5
              have c6 := var_cell S.out.2 6
              go_wp2_with fail
              go_ret
              exact ⟨by rw [← HV.out]; first | (simp [lnB, lnEqB, ByteArray.toList_mk, Ht0.out, Ht1.out, Ht2.out, Ht3.out, Ht4.out]; done) | (simp [lnB, Ht0.out, Ht1.out, Ht2.out, Ht3.out, Ht4.out]; done), S.out.1⟩
        · replace t2 : inI gen 1 60000 = false := by simpa using t2
          rw [t2]
          have Ht2 := Lib.hid t2
          clear t2
          have c0 := var_cell S.out.2 0
          have c1 := var_cell S.out.2 1
          have c2 := var_cell S.out.2 2
          have c3 := var_cell S.out.2 3
          have c4 := var_cell S.out.2 4
          have c5 := var_cell S.out.2 5
          have c6 := var_cell S.out.2 6
          go_wp2_with fail
          go_ret
          exact ⟨by rw [← HV.out]; first | (simp [lnB, lnEqB, ByteArray.toList_mk, Ht0.out, Ht1.out, Ht2.out]; done) | (simp [lnB, Ht0.out, Ht1.out, Ht2.out]; done), S.out.1⟩
      · replace t1 : nameB db.data.toList = false := by simpa using t1
        rw [t1]
        have Ht1 := Lib.hid t1
        clear t1
        have c0 := var_cell S.out.2 0
        have c1 := var_cell S.out.2 1
        have c2 := var_cell S.out.2 2
        have c3 := var_cell S.out.2 3
        have c4 := var_cell S.out.2 4
        have c5 := var_cell S.out.2 5
        have c6 := var_cell S.out.2 6
        go_wp2_with fail
        go_ret
        exact ⟨by rw [← HV.out]; first | (simp [lnB, lnEqB, ByteArray.toList_mk, Ht0.out, Ht1.out]; done) | (simp [lnB, Ht0.out, Ht1.out]; done), S.out.1⟩
    · replace t0 : inI sock 1 9999 = false := by simpa using t0
      rw [t0]
      have Ht0 := Lib.hid t0
      clear t0
      have c0 := var_cell S.out.2 0
      have c1 := var_cell S.out.2 1
      have c2 := var_cell S.out.2 2
      have c3 := var_cell S.out.2 3
      have c4 := var_cell S.out.2 4
      have c5 := var_cell S.out.2 5
      have c6 := var_cell S.out.2 6
      go_wp2_with fail
      go_ret
      exact ⟨by rw [← HV.out]; first | (simp [lnB, lnEqB, ByteArray.toList_mk, Ht0.out]; done) | (simp [lnB, Ht0.out]; done), S.out.1⟩
  · skip
    obtain ⟨v, hv⟩ : ∃ v, lnB ⟨sock, db, gen, 2, since, asker, lease⟩ = v := ⟨_, rfl⟩
    rw [hv]
    have HV := Lib.hid hv
    clear hv
    go_enter Try.func43, Try.ntmps43
    go_wp2_with fail
    have S : All (fun w' => Below w.heap.size w w' ∧ w'.heap[w.heap.size]? = some (.cells #[.int .i64 sock, .string db, .int .i64 gen, .int .i64 2, .int .i64 since, .int .i64 asker, .int .i64 lease] 52 (0, 0))) (w.alloc (.cells #[.int .i64 sock, .string db, .int .i64 gen, .int .i64 2, .int .i64 since, .int .i64 asker, .int .i64 lease] 52)) := ⟨Later.alloc w _, heap_alloc_new w _⟩
    generalize w.alloc (.cells #[.int .i64 sock, .string db, .int .i64 gen, .int .i64 2, .int .i64 since, .int .i64 asker, .int .i64 lease] 52) = W0 at S ⊢
    refine (l1In_b (b := inI sock 1 9999) rfl _).mono ?_
    rintro e w1 ⟨rfl, rfl⟩
    by_cases t0 : inI sock 1 9999 = true
    · rw [t0]
      have Ht0 := Lib.hid t0
      clear t0
      have c0 := var_cell S.out.2 0
      have c1 := var_cell S.out.2 1
      have c2 := var_cell S.out.2 2
      have c3 := var_cell S.out.2 3
      have c4 := var_cell S.out.2 4
      have c5 := var_cell S.out.2 5
      have c6 := var_cell S.out.2 6
      go_wp2_with fail
      clear c0 c1 c2 c3 c4 c5 c6
      refine (l1Name_b (b := nameB db.data.toList) rfl _ hdb).mono ?_
      rintro e w1 ⟨rfl, rfl⟩
      by_cases t1 : nameB db.data.toList = true
      · rw [t1]
        have Ht1 := Lib.hid t1
        clear t1
        have c0 := var_cell S.out.2 0
        have c1 := var_cell S.out.2 1
        have c2 := var_cell S.out.2 2
        have c3 := var_cell S.out.2 3
        have c4 := var_cell S.out.2 4
        have c5 := var_cell S.out.2 5
        have c6 := var_cell S.out.2 6
        go_wp2_with fail
        clear c0 c1 c2 c3 c4 c5 c6
        refine (l1In_b (b := inI gen 1 60000) rfl _).mono ?_
        rintro e w1 ⟨rfl, rfl⟩
        by_cases t2 : inI gen 1 60000 = true
        · rw [t2]
          have Ht2 := Lib.hid t2
          clear t2
          have c0 := var_cell S.out.2 0
          have c1 := var_cell S.out.2 1
          have c2 := var_cell S.out.2 2
          have c3 := var_cell S.out.2 3
          have c4 := var_cell S.out.2 4
          have c5 := var_cell S.out.2 5
          have c6 := var_cell S.out.2 6
          go_wp2_with fail
          clear c0 c1 c2 c3 c4 c5 c6
          refine (l1In_b (b := true) (by decide) _).mono ?_
          rintro e w1 ⟨rfl, rfl⟩
          by_cases t3 : ¬ since = 0
          · skip
            have zt3 : (since != 0) = true := by simp [t3]
            have et3 : (since == 0) = false := by simp; omega
            have Ht3 := Lib.hid (show ¬ since = 0 from by omega)
            clear t3
            have c0 := var_cell S.out.2 0
            have c1 := var_cell S.out.2 1
            have c2 := var_cell S.out.2 2
            have c3 := var_cell S.out.2 3
            have c4 := var_cell S.out.2 4
            have c5 := var_cell S.out.2 5
            have c6 := var_cell S.out.2 6
            go_wp2_with fail
            go_ret
            exact ⟨by rw [← HV.out]; first | (simp [lnB, lnEqB, ByteArray.toList_mk, Ht0.out, Ht1.out, Ht2.out, Ht3.out]; done) | (simp [lnB, Ht0.out, Ht1.out, Ht2.out, Ht3.out]; done), S.out.1⟩
          · skip
            have zt3 : (since != 0) = false := by simpa using t3
            have et3 : (since == 0) = true := by simp; omega
            have Ht3 := Lib.hid (show since = 0 from by omega)
            clear t3
            have c0 := var_cell S.out.2 0
            have c1 := var_cell S.out.2 1
            have c2 := var_cell S.out.2 2
            have c3 := var_cell S.out.2 3
            have c4 := var_cell S.out.2 4
            have c5 := var_cell S.out.2 5
            have c6 := var_cell S.out.2 6
            go_wp2_with fail
            clear c0 c1 c2 c3 c4 c5 c6
            refine (l1In_b (b := inI asker 1 9999) rfl _).mono ?_
            rintro e w1 ⟨rfl, rfl⟩
            by_cases t4 : inI asker 1 9999 = true
            · rw [t4]
              have Ht4 := Lib.hid t4
              clear t4
              by_cases t5 : ¬ 1 ≤ lease
              · skip
                have zt5 : ¬ 1 ≤ lease := by omega
                have Ht5 := Lib.hid (show decide (1 ≤ lease) = false from by simpa using zt5)
                clear t5
                have c0 := var_cell S.out.2 0
                have c1 := var_cell S.out.2 1
                have c2 := var_cell S.out.2 2
                have c3 := var_cell S.out.2 3
                have c4 := var_cell S.out.2 4
                have c5 := var_cell S.out.2 5
                have c6 := var_cell S.out.2 6
                go_wp2_with fail
                go_ret
                exact ⟨by rw [← HV.out]; first | (simp [lnB, lnEqB, ByteArray.toList_mk, Ht0.out, Ht1.out, Ht2.out, Ht3.out, Ht4.out, Ht5.out]; done) | (simp [lnB, Ht0.out, Ht1.out, Ht2.out, Ht3.out, Ht4.out, Ht5.out]; done), S.out.1⟩
              · skip
                have zt5 : 1 ≤ lease := by omega
                have Ht5 := Lib.hid (show decide (1 ≤ lease) = true from by simpa using zt5)
                clear t5
                have c0 := var_cell S.out.2 0
                have c1 := var_cell S.out.2 1
                have c2 := var_cell S.out.2 2
                have c3 := var_cell S.out.2 3
                have c4 := var_cell S.out.2 4
                have c5 := var_cell S.out.2 5
                have c6 := var_cell S.out.2 6
                go_wp2_with fail
                go_ret
                exact ⟨by rw [← HV.out]; first | (simp [lnB, lnEqB, ByteArray.toList_mk, Ht0.out, Ht1.out, Ht2.out, Ht3.out, Ht4.out, Ht5.out]; done) | (simp [lnB, Ht0.out, Ht1.out, Ht2.out, Ht3.out, Ht4.out, Ht5.out]; done), S.out.1⟩
            · replace t4 : inI asker 1 9999 = false := by simpa using t4
              rw [t4]
              have Ht4 := Lib.hid t4
              clear t4
              have c0 := var_cell S.out.2 0
              have c1 := var_cell S.out.2 1
              have c2 := var_cell S.out.2 2
              have c3 := var_cell S.out.2 3
              have c4 := var_cell S.out.2 4
              have c5 := var_cell S.out.2 5
              have c6 := var_cell S.out.2 6
              go_wp2_with fail
              go_ret
              exact ⟨by rw [← HV.out]; first | (simp [lnB, lnEqB, ByteArray.toList_mk, Ht0.out, Ht1.out, Ht2.out, Ht3.out, Ht4.out]; done) | (simp [lnB, Ht0.out, Ht1.out, Ht2.out, Ht3.out, Ht4.out]; done), S.out.1⟩
        · replace t2 : inI gen 1 60000 = false := by simpa using t2
          rw [t2]
          have Ht2 := Lib.hid t2
          clear t2
          have c0 := var_cell S.out.2 0
          have c1 := var_cell S.out.2 1
          have c2 := var_cell S.out.2 2
          have c3 := var_cell S.out.2 3
          have c4 := var_cell S.out.2 4
          have c5 := var_cell S.out.2 5
          have c6 := var_cell S.out.2 6
          go_wp2_with fail
          go_ret
          exact ⟨by rw [← HV.out]; first | (simp [lnB, lnEqB, ByteArray.toList_mk, Ht0.out, Ht1.out, Ht2.out]; done) | (simp [lnB, Ht0.out, Ht1.out, Ht2.out]; done), S.out.1⟩
      · replace t1 : nameB db.data.toList = false := by simpa using t1
        rw [t1]
        have Ht1 := Lib.hid t1
        clear t1
        have c0 := var_cell S.out.2 0
        have c1 := var_cell S.out.2 1
        have c2 := var_cell S.out.2 2
        have c3 := var_cell S.out.2 3
        have c4 := var_cell S.out.2 4
        have c5 := var_cell S.out.2 5
        have c6 := var_cell S.out.2 6
        go_wp2_with fail
        go_ret
        exact ⟨by rw [← HV.out]; first | (simp [lnB, lnEqB, ByteArray.toList_mk, Ht0.out, Ht1.out]; done) | (simp [lnB, Ht0.out, Ht1.out]; done), S.out.1⟩
    · replace t0 : inI sock 1 9999 = false := by simpa using t0
      rw [t0]
      have Ht0 := Lib.hid t0
      clear t0
      have c0 := var_cell S.out.2 0
      have c1 := var_cell S.out.2 1
      have c2 := var_cell S.out.2 2
      have c3 := var_cell S.out.2 3
      have c4 := var_cell S.out.2 4
      have c5 := var_cell S.out.2 5
      have c6 := var_cell S.out.2 6
      go_wp2_with fail
      go_ret
      exact ⟨by rw [← HV.out]; first | (simp [lnB, lnEqB, ByteArray.toList_mk, Ht0.out]; done) | (simp [lnB, Ht0.out]; done), S.out.1⟩
  · skip
    obtain ⟨v, hv⟩ : ∃ v, lnB ⟨sock, db, gen, st, since, asker, lease⟩ = v := ⟨_, rfl⟩
    rw [hv]
    have HV := Lib.hid hv
    clear hv
    go_enter Try.func43, Try.ntmps43
    go_wp2_with fail
    have S : All (fun w' => Below w.heap.size w w' ∧ w'.heap[w.heap.size]? = some (.cells #[.int .i64 sock, .string db, .int .i64 gen, .int .i64 st, .int .i64 since, .int .i64 asker, .int .i64 lease] 52 (0, 0))) (w.alloc (.cells #[.int .i64 sock, .string db, .int .i64 gen, .int .i64 st, .int .i64 since, .int .i64 asker, .int .i64 lease] 52)) := ⟨Later.alloc w _, heap_alloc_new w _⟩
    generalize w.alloc (.cells #[.int .i64 sock, .string db, .int .i64 gen, .int .i64 st, .int .i64 since, .int .i64 asker, .int .i64 lease] 52) = W0 at S ⊢
    refine (l1In_b (b := inI sock 1 9999) rfl _).mono ?_
    rintro e w1 ⟨rfl, rfl⟩
    by_cases t3 : inI sock 1 9999 = true
    · rw [t3]
      have Ht3 := Lib.hid t3
      clear t3
      have c0 := var_cell S.out.2 0
      have c1 := var_cell S.out.2 1
      have c2 := var_cell S.out.2 2
      have c3 := var_cell S.out.2 3
      have c4 := var_cell S.out.2 4
      have c5 := var_cell S.out.2 5
      have c6 := var_cell S.out.2 6
      go_wp2_with fail
      clear c0 c1 c2 c3 c4 c5 c6
      refine (l1Name_b (b := nameB db.data.toList) rfl _ hdb).mono ?_
      rintro e w1 ⟨rfl, rfl⟩
      by_cases t4 : nameB db.data.toList = true
      · rw [t4]
        have Ht4 := Lib.hid t4
        clear t4
        have c0 := var_cell S.out.2 0
        have c1 := var_cell S.out.2 1
        have c2 := var_cell S.out.2 2
        have c3 := var_cell S.out.2 3
        have c4 := var_cell S.out.2 4
        have c5 := var_cell S.out.2 5
        have c6 := var_cell S.out.2 6
        go_wp2_with fail
        clear c0 c1 c2 c3 c4 c5 c6
        refine (l1In_b (b := inI gen 1 60000) rfl _).mono ?_
        rintro e w1 ⟨rfl, rfl⟩
        by_cases t5 : inI gen 1 60000 = true
        · rw [t5]
          have Ht5 := Lib.hid t5
          clear t5
          have c0 := var_cell S.out.2 0
          have c1 := var_cell S.out.2 1
          have c2 := var_cell S.out.2 2
          have c3 := var_cell S.out.2 3
          have c4 := var_cell S.out.2 4
          have c5 := var_cell S.out.2 5
          have c6 := var_cell S.out.2 6
          go_wp2_with fail
          clear c0 c1 c2 c3 c4 c5 c6
          refine (l1In_b (b := false) h3 _).mono ?_
          rintro e w1 ⟨rfl, rfl⟩
          have c0 := var_cell S.out.2 0
          have c1 := var_cell S.out.2 1
          have c2 := var_cell S.out.2 2
          have c3 := var_cell S.out.2 3
          have c4 := var_cell S.out.2 4
          have c5 := var_cell S.out.2 5
          have c6 := var_cell S.out.2 6
          go_wp2_with fail
          go_ret
          exact ⟨by rw [← HV.out]; first | (simp [lnB, lnEqB, ByteArray.toList_mk, (show ¬ st = 0 from by simpa using h0), (show ¬ st = 1 from by simpa using h1), (show ¬ st = 2 from by simpa using h2), Ht3.out, Ht4.out, Ht5.out]; done) | (simp [lnB, (show ¬ st = 0 from by simpa using h0), (show ¬ st = 1 from by simpa using h1), (show ¬ st = 2 from by simpa using h2), Ht3.out, Ht4.out, Ht5.out]; done), S.out.1⟩
        · replace t5 : inI gen 1 60000 = false := by simpa using t5
          rw [t5]
          have Ht5 := Lib.hid t5
          clear t5
          have c0 := var_cell S.out.2 0
          have c1 := var_cell S.out.2 1
          have c2 := var_cell S.out.2 2
          have c3 := var_cell S.out.2 3
          have c4 := var_cell S.out.2 4
          have c5 := var_cell S.out.2 5
          have c6 := var_cell S.out.2 6
          go_wp2_with fail
          go_ret
          exact ⟨by rw [← HV.out]; first | (simp [lnB, lnEqB, ByteArray.toList_mk, (show ¬ st = 0 from by simpa using h0), (show ¬ st = 1 from by simpa using h1), (show ¬ st = 2 from by simpa using h2), Ht3.out, Ht4.out, Ht5.out]; done) | (simp [lnB, (show ¬ st = 0 from by simpa using h0), (show ¬ st = 1 from by simpa using h1), (show ¬ st = 2 from by simpa using h2), Ht3.out, Ht4.out, Ht5.out]; done), S.out.1⟩
      · replace t4 : nameB db.data.toList = false := by simpa using t4
        rw [t4]
        have Ht4 := Lib.hid t4
        clear t4
        have c0 := var_cell S.out.2 0
        have c1 := var_cell S.out.2 1
        have c2 := var_cell S.out.2 2
        have c3 := var_cell S.out.2 3
        have c4 := var_cell S.out.2 4
        have c5 := var_cell S.out.2 5
        have c6 := var_cell S.out.2 6
        go_wp2_with fail
        go_ret
        exact ⟨by rw [← HV.out]; first | (simp [lnB, lnEqB, ByteArray.toList_mk, (show ¬ st = 0 from by simpa using h0), (show ¬ st = 1 from by simpa using h1), (show ¬ st = 2 from by simpa using h2), Ht3.out, Ht4.out]; done) | (simp [lnB, (show ¬ st = 0 from by simpa using h0), (show ¬ st = 1 from by simpa using h1), (show ¬ st = 2 from by simpa using h2), Ht3.out, Ht4.out]; done), S.out.1⟩
    · replace t3 : inI sock 1 9999 = false := by simpa using t3
      rw [t3]
      have Ht3 := Lib.hid t3
      clear t3
      have c0 := var_cell S.out.2 0
      have c1 := var_cell S.out.2 1
      have c2 := var_cell S.out.2 2
      have c3 := var_cell S.out.2 3
      have c4 := var_cell S.out.2 4
      have c5 := var_cell S.out.2 5
      have c6 := var_cell S.out.2 6
      go_wp2_with fail
      go_ret
      exact ⟨by rw [← HV.out]; first | (simp [lnB, lnEqB, ByteArray.toList_mk, (show ¬ st = 0 from by simpa using h0), (show ¬ st = 1 from by simpa using h1), (show ¬ st = 2 from by simpa using h2), Ht3.out]; done) | (simp [lnB, (show ¬ st = 0 from by simpa using h0), (show ¬ st = 1 from by simpa using h1), (show ¬ st = 2 from by simpa using h2), Ht3.out]; done), S.out.1⟩

end Go.Proofs.Ytgdhhhibkhfdlaa
