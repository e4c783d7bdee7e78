/- AskerOk of the model. (By gen_l9a.py.) -/
import Derived.Test.YtgdhhhibkhfdlaaAskP
namespace Go.Proofs.Ytgdhhhibkhfdlaa
open Go.RowKit
set_option linter.unusedVariables false
set_option linter.unusedSimpArgs false

set_option maxRecDepth 100000 in
set_option maxHeartbeats 8000000 in
theorem akBS_any (x : Ak) (w : World) (hf : FitsAk x) : Calls Try.prog 41 #[.agg (akC x).toArray] w (RetBool w (akB x)) := by
  obtain ⟨sock, db, st, ticket, since, q, line, lease⟩ := x
  unfold RetBool akC
  obtain ⟨hdb, hq⟩ := hf
  replace hdb : db.size ≤ 1048576 := hdb
  replace hq : q.size ≤ 1048576 := hq
  rcases st5  st with rfl | rfl | rfl | rfl | rfl | ⟨h0, h1, h2, h3, h4, h5, h6⟩
  · skip
    obtain ⟨v, hv⟩ : ∃ v, akB ⟨sock, db, 0, ticket, since, q, line, lease⟩ = v := ⟨_, rfl⟩
    rw [hv]
    have HV := Lib.hid hv
    clear hv
    go_enter Try.func41, Try.ntmps41
    go_wp2_with fail
    have S : All (fun w' => Below w.heap.size w w' ∧ w'.heap[w.heap.size]? = some (.cells #[.int .i64 sock, .string db, .int .i64 0, .int .i64 ticket, .int .i64 since, .string q, .int .i64 line, .int .i64 lease] 50 (0, 0))) (w.alloc (.cells #[.int .i64 sock, .string db, .int .i64 0, .int .i64 ticket, .int .i64 since, .string q, .int .i64 line, .int .i64 lease] 50)) := ⟨Later.alloc w _, heap_alloc_new w _⟩
    generalize w.alloc (.cells #[.int .i64 sock, .string db, .int .i64 0, .int .i64 ticket, .int .i64 since, .string q, .int .i64 line, .int .i64 lease] 50) = W0 at S ⊢
    refine (l1In_b (b := inI sock 1 9999) rfl _).mono ?_
    rintro e w1 ⟨rfl, rfl⟩
    by_cases t0 : inI sock 1 9999 = true
    · rw [t0]
      have Ht0 := Lib.hid t0
      clear t0
      by_cases t1 : ¬ ticket = 0
      · skip
        have zt1 : (ticket != 0) = true := by simp [t1]
        have et1 : (ticket == 0) = false := by simp; omega
        have Ht1 := Lib.hid (show ¬ ticket = 0 from by omega)
        clear t1
        have c0 := var_cell S.out.2 0
        have c1 := var_cell S.out.2 1
        have c2 := var_cell S.out.2 2
        have c3 := var_cell S.out.2 3
        have c4 := var_cell S.out.2 4
        have c5 := var_cell S.out.2 5
        have c6 := var_cell S.out.2 6
        have c7 := var_cell S.out.2 7
        go_wp2_with fail
        go_ret
        exact ⟨by rw [← HV.out]; first | (simp [akB, akEqB, ByteArray.toList_mk, Ht0.out, Ht1.out]; done) | (simp [akB, Ht0.out, Ht1.out]; done), S.out.1⟩
      · skip
        have zt1 : (ticket != 0) = false := by simpa using t1
        have et1 : (ticket == 0) = true := by simp; omega
        have Ht1 := Lib.hid (show ticket = 0 from by omega)
        clear t1
        by_cases t2 : ¬ since = 0
        · skip
          have zt2 : (since != 0) = true := by simp [t2]
          have et2 : (since == 0) = false := by simp; omega
          have Ht2 := Lib.hid (show ¬ since = 0 from by omega)
          clear t2
          have c0 := var_cell S.out.2 0
          have c1 := var_cell S.out.2 1
          have c2 := var_cell S.out.2 2
          have c3 := var_cell S.out.2 3
          have c4 := var_cell S.out.2 4
          have c5 := var_cell S.out.2 5
          have c6 := var_cell S.out.2 6
          have c7 := var_cell S.out.2 7
          go_wp2_with fail
          go_ret
          exact ⟨by rw [← HV.out]; first | (simp [akB, akEqB, ByteArray.toList_mk, Ht0.out, Ht1.out, Ht2.out]; done) | (simp [akB, Ht0.out, Ht1.out, Ht2.out]; done), S.out.1⟩
        · skip
          have zt2 : (since != 0) = false := by simpa using t2
          have et2 : (since == 0) = true := by simp; omega
          have Ht2 := Lib.hid (show since = 0 from by omega)
          clear t2
          by_cases t3 : ¬ q = ⟨#[]⟩
          · skip
            have zt3 : (q.toList == []) = false := by simpa using fun h => t3 (empty_of h)
            have yt3 : (q.toList != []) = true := by simpa using fun h => t3 (empty_of h)
            have xt3 : q.toList.isEmpty = false := by simpa using fun h => t3 (empty_of h)
            have Ht3 := Lib.hid (show ¬ q.toList = [] from fun h => t3 (empty_of h))
            clear t3
            have c0 := var_cell S.out.2 0
            have c1 := var_cell S.out.2 1
            have c2 := var_cell S.out.2 2
            have c3 := var_cell S.out.2 3
            have c4 := var_cell S.out.2 4
            have c5 := var_cell S.out.2 5
            have c6 := var_cell S.out.2 6
            have c7 := var_cell S.out.2 7
            go_wp2_with fail
            go_ret
            exact ⟨by rw [← HV.out]; first | (simp [akB, akEqB, ByteArray.toList_mk, Ht0.out, Ht1.out, Ht2.out, Ht3.out]; done) | (simp [akB, Ht0.out, Ht1.out, Ht2.out, Ht3.out]; done), S.out.1⟩
          · skip
            replace t3 : q = ⟨#[]⟩ := by simpa using t3
            have zt3 : (q.toList == []) = true := by rw [t3, ByteArray.toList_mk]; rfl
            have yt3 : (q.toList != []) = false := by rw [t3, ByteArray.toList_mk]; rfl
            have xt3 : q.toList.isEmpty = true := by rw [t3, ByteArray.toList_mk]; rfl
            have Ht3 := Lib.hid t3
            clear t3
            by_cases t4 : ¬ line = 0
            · skip
              have zt4 : (line != 0) = true := by simp [t4]
              have et4 : (line == 0) = false := by simp; omega
              have Ht4 := Lib.hid (show ¬ line = 0 from by omega)
              clear t4
              have c0 := var_cell S.out.2 0
              have c1 := var_cell S.out.2 1
              have c2 := var_cell S.out.2 2
              have c3 := var_cell S.out.2 3
              have c4 := var_cell S.out.2 4
              have c5 := var_cell S.out.2 5
              have c6 := var_cell S.out.2 6
              have c7 := var_cell S.out.2 7
              go_wp2_with fail
              go_ret
              exact ⟨by rw [← HV.out]; first | (simp [akB, akEqB, ByteArray.toList_mk, Ht0.out, Ht1.out, Ht2.out, Ht3.out, Ht4.out]; done) | (simp [akB, Ht0.out, Ht1.out, Ht2.out, Ht3.out, Ht4.out]; done), S.out.1⟩
            · skip
              have zt4 : (line != 0) = false := by simpa using t4
              have et4 : (line == 0) = true := by simp; omega
              have Ht4 := Lib.hid (show line = 0 from by omega)
              clear t4
              by_cases t5 : ¬ lease = 0
              · skip
                have zt5 : (lease != 0) = true := by simp [t5]
                have et5 : (lease == 0) = false := by simp; omega
                have Ht5 := Lib.hid (show ¬ lease = 0 from by omega)
                clear t5
                have c0 := var_cell S.out.2 0
                have c1 := var_cell S.out.2 1
                have c2 := var_cell S.out.2 2
                have c3 := var_cell S.out.2 3
                have c4 := var_cell S.out.2 4
                have c5 := var_cell S.out.2 5
                have c6 := var_cell S.out.2 6
                have c7 := var_cell S.out.2 7
                go_wp2_with fail
                go_ret
                exact ⟨by rw [← HV.out]; first | (simp [akB, akEqB, ByteArray.toList_mk, Ht0.out, Ht1.out, Ht2.out, Ht3.out, Ht4.out, Ht5.out]; done) | (simp [akB, Ht0.out, Ht1.out, Ht2.out, Ht3.out, Ht4.out, Ht5.out]; done), S.out.1⟩
              · skip
                have zt5 : (lease != 0) = false := by simpa using t5
                have et5 : (lease == 0) = true := by simp; omega
                have Ht5 := Lib.hid (show lease = 0 from by omega)
                clear t5
                by_cases t6 : ¬ db = ⟨#[]⟩
                · skip
                  have zt6 : (db.toList == []) = false := by simpa using fun h => t6 (empty_of h)
                  have yt6 : (db.toList != []) = true := by simpa using fun h => t6 (empty_of h)
                  have xt6 : db.toList.isEmpty = false := by simpa using fun h => t6 (empty_of h)
                  have Ht6 := Lib.hid (show ¬ db.toList = [] from fun h => t6 (empty_of h))
                  clear t6
                  have c0 := var_cell S.out.2 0
                  have c1 := var_cell S.out.2 1
                  have c2 := var_cell S.out.2 2
                  have c3 := var_cell S.out.2 3
                  have c4 := var_cell S.out.2 4
                  have c5 := var_cell S.out.2 5
                  have c6 := var_cell S.out.2 6
                  have c7 := var_cell S.out.2 7
                  go_wp2_with fail
                  go_ret
                  exact ⟨by rw [← HV.out]; first | (simp [akB, akEqB, ByteArray.toList_mk, Ht0.out, Ht1.out, Ht2.out, Ht3.out, Ht4.out, Ht5.out, Ht6.out]; done) | (simp [akB, Ht0.out, Ht1.out, Ht2.out, Ht3.out, Ht4.out, Ht5.out, Ht6.out]; done), S.out.1⟩
                · skip
                  replace t6 : db = ⟨#[]⟩ := by simpa using t6
                  have zt6 : (db.toList == []) = true := by rw [t6, ByteArray.toList_mk]; rfl
                  have yt6 : (db.toList != []) = false := by rw [t6, ByteArray.toList_mk]; rfl
                  have xt6 : db.toList.isEmpty = true := by rw [t6, ByteArray.toList_mk]; rfl
                  have Ht6 := Lib.hid t6
                  clear t6
                  have c0 := var_cell S.out.2 0
                  have c1 := var_cell S.out.2 1
                  have c2 := var_cell S.out.2 2
                  have c3 := var_cell S.out.2 3
                  have c4 := var_cell S.out.2 4
                  have c5 := var_cell S.out.2 5
                  have c6 := var_cell S.out.2 6
                  have c7 := var_cell S.out.2 7
                  go_wp2_with fail
                  go_ret
                  exact ⟨by rw [← HV.out]; first | (simp [akB, akEqB, ByteArray.toList_mk, Ht0.out, Ht1.out, Ht2.out, Ht3.out, Ht4.out, Ht5.out, Ht6.out]; done) | (simp [akB, Ht0.out, Ht1.out, Ht2.out, Ht3.out, Ht4.out, Ht5.out, Ht6.out]; done), S.out.1⟩
    · replace t0 : inI sock 1 9999 = false := by simpa using t0
      rw [t0]
      have Ht0 := Lib.hid t0
      clear t0
      have c0 := var_cell S.out.2 0
      have c1 := var_cell S.out.2 1
      have c2 := var_cell S.out.2 2
      have c3 := var_cell S.out.2 3
      have c4 := var_cell S.out.2 4
      have c5 := var_cell S.out.2 5
      have c6 := var_cell S.out.2 6
      have c7 := var_cell S.out.2 7
      go_wp2_with fail
      go_ret
      exact ⟨by rw [← HV.out]; first | (simp [akB, akEqB, ByteArray.toList_mk, Ht0.out]; done) | (simp [akB, Ht0.out]; done), S.out.1⟩
  · skip
    obtain ⟨v, hv⟩ : ∃ v, akB ⟨sock, db, 1, ticket, since, q, line, lease⟩ = v := ⟨_, rfl⟩
    rw [hv]
    have HV := Lib.hid hv
    clear hv
    go_enter Try.func41, Try.ntmps41
    go_wp2_with fail
    have S : All (fun w' => Below w.heap.size w w' ∧ w'.heap[w.heap.size]? = some (.cells #[.int .i64 sock, .string db, .int .i64 1, .int .i64 ticket, .int .i64 since, .string q, .int .i64 line, .int .i64 lease] 50 (0, 0))) (w.alloc (.cells #[.int .i64 sock, .string db, .int .i64 1, .int .i64 ticket, .int .i64 since, .string q, .int .i64 line, .int .i64 lease] 50)) := ⟨Later.alloc w _, heap_alloc_new w _⟩
    generalize w.alloc (.cells #[.int .i64 sock, .string db, .int .i64 1, .int .i64 ticket, .int .i64 since, .string q, .int .i64 line, .int .i64 lease] 50) = W0 at S ⊢
    refine (l1In_b (b := inI sock 1 9999) rfl _).mono ?_
    rintro e w1 ⟨rfl, rfl⟩
    by_cases t0 : inI sock 1 9999 = true
    · rw [t0]
      have Ht0 := Lib.hid t0
      clear t0
      by_cases t1 : ¬ ticket = 0
      · skip
        have zt1 : (ticket != 0) = true := by simp [t1]
        have et1 : (ticket == 0) = false := by simp; omega
        have Ht1 := Lib.hid (show ¬ ticket = 0 from by omega)
        clear t1
        have c0 := var_cell S.out.2 0
        have c1 := var_cell S.out.2 1
        have c2 := var_cell S.out.2 2
        have c3 := var_cell S.out.2 3
        have c4 := var_cell S.out.2 4
        have c5 := var_cell S.out.2 5
        have c6 := var_cell S.out.2 6
        have c7 := var_cell S.out.2 7
        go_wp2_with fail
        go_ret
        exact ⟨by rw [← HV.out]; first | (simp [akB, akEqB, ByteArray.toList_mk, Ht0.out, Ht1.out]; done) | (simp [akB, Ht0.out, Ht1.out]; done), S.out.1⟩
      · skip
        have zt1 : (ticket != 0) = false := by simpa using t1
        have et1 : (ticket == 0) = true := by simp; omega
        have Ht1 := Lib.hid (show ticket = 0 from by omega)
        clear t1
        by_cases t2 : ¬ since = 0
        · skip
          have zt2 : (since != 0) = true := by simp [t2]
          have et2 : (since == 0) = false := by simp; omega
          have Ht2 := Lib.hid (show ¬ since = 0 from by omega)
          clear t2
          have c0 := var_cell S.out.2 0
          have c1 := var_cell S.out.2 1
          have c2 := var_cell S.out.2 2
          have c3 := var_cell S.out.2 3
          have c4 := var_cell S.out.2 4
          have c5 := var_cell S.out.2 5
          have c6 := var_cell S.out.2 6
          have c7 := var_cell S.out.2 7
          go_wp2_with fail
          go_ret
          exact ⟨by rw [← HV.out]; first | (simp [akB, akEqB, ByteArray.toList_mk, Ht0.out, Ht1.out, Ht2.out]; done) | (simp [akB, Ht0.out, Ht1.out, Ht2.out]; done), S.out.1⟩
        · skip
          have zt2 : (since != 0) = false := by simpa using t2
          have et2 : (since == 0) = true := by simp; omega
          have Ht2 := Lib.hid (show since = 0 from by omega)
          clear t2
          by_cases t3 : ¬ q = ⟨#[]⟩
          · skip
            have zt3 : (q.toList == []) = false := by simpa using fun h => t3 (empty_of h)
            have yt3 : (q.toList != []) = true := by simpa using fun h => t3 (empty_of h)
            have xt3 : q.toList.isEmpty = false := by simpa using fun h => t3 (empty_of h)
            have Ht3 := Lib.hid (show ¬ q.toList = [] from fun h => t3 (empty_of h))
            clear t3
            have c0 := var_cell S.out.2 0
            have c1 := var_cell S.out.2 1
            have c2 := var_cell S.out.2 2
            have c3 := var_cell S.out.2 3
            have c4 := var_cell S.out.2 4
            have c5 := var_cell S.out.2 5
            have c6 := var_cell S.out.2 6
            have c7 := var_cell S.out.2 7
            go_wp2_with fail
            go_ret
            exact ⟨by rw [← HV.out]; first | (simp [akB, akEqB, ByteArray.toList_mk, Ht0.out, Ht1.out, Ht2.out, Ht3.out]; done) | (simp [akB, Ht0.out, Ht1.out, Ht2.out, Ht3.out]; done), S.out.1⟩
          · skip
            replace t3 : q = ⟨#[]⟩ := by simpa using t3
            have zt3 : (q.toList == []) = true := by rw [t3, ByteArray.toList_mk]; rfl
            have yt3 : (q.toList != []) = false := by rw [t3, ByteArray.toList_mk]; rfl
            have xt3 : q.toList.isEmpty = true := by rw [t3, ByteArray.toList_mk]; rfl
            have Ht3 := Lib.hid t3
            clear t3
            by_cases t4 : ¬ line = 0
            · skip
              have zt4 : (line != 0) = true := by simp [t4]
              have et4 : (line == 0) = false := by simp; omega
              have Ht4 := Lib.hid (show ¬ line = 0 from by omega)
              clear t4
              have c0 := var_cell S.out.2 0
              have c1 := var_cell S.out.2 1
              have c2 := var_cell S.out.2 2
              have c3 := var_cell S.out.2 3
              have c4 := var_cell S.out.2 4
              have c5 := var_cell S.out.2 5
              have c6 := var_cell S.out.2 6
              have c7 := var_cell S.out.2 7
              go_wp2_with fail
              go_ret
              exact ⟨by rw [← HV.out]; first | (simp [akB, akEqB, ByteArray.toList_mk, Ht0.out, Ht1.out, Ht2.out, Ht3.out, Ht4.out]; done) | (simp [akB, Ht0.out, Ht1.out, Ht2.out, Ht3.out, Ht4.out]; done), S.out.1⟩
            · skip
              have zt4 : (line != 0) = false := by simpa using t4
              have et4 : (line == 0) = true := by simp; omega
              have Ht4 := Lib.hid (show line = 0 from by omega)
              clear t4
              by_cases t5 : ¬ lease = 0
              · skip
                have zt5 : (lease != 0) = true := by simp [t5]
                have et5 : (lease == 0) = false := by simp; omega
                have Ht5 := Lib.hid (show ¬ lease = 0 from by omega)
                clear t5
                have c0 := var_cell S.out.2 0
                have c1 := var_cell S.out.2 1
                have c2 := var_cell S.out.2 2
                have c3 := var_cell S.out.2 3
                have c4 := var_cell S.out.2 4
                have c5 := var_cell S.out.2 5
                have c6 := var_cell S.out.2 6
                have c7 := var_cell S.out.2 7
                go_wp2_with fail
                go_ret
                exact ⟨by rw [← HV.out]; first | (simp [akB, akEqB, ByteArray.toList_mk, Ht0.out, Ht1.out, Ht2.out, Ht3.out, Ht4.out, Ht5.out]; done) | (simp [akB, Ht0.out, Ht1.out, Ht2.out, Ht3.out, Ht4.out, Ht5.out]; done), S.out.1⟩
              · skip
                have zt5 : (lease != 0) = false := by simpa using t5
                have et5 : (lease == 0) = true := by simp; omega
                have Ht5 := Lib.hid (show lease = 0 from by omega)
                clear t5
                have c0 := var_cell S.out.2 0
                have c1 := var_cell S.out.2 1
                have c2 := var_cell S.out.2 2
                have c3 := var_cell S.out.2 3
                have c4 := var_cell S.out.2 4
                have c5 := var_cell S.out.2 5
                have c6 := var_cell S.out.2 6
                have c7 := var_cell S.out.2 7
                go_wp2_with fail
                clear c0 c1 c2 c3 c4 c5 c6 c7
                refine (l1Name_b (b := nameB db.data.toList) rfl _ hdb).mono ?_
                rintro e w1 ⟨rfl, rfl⟩
                by_cases t6 : nameB db.data.toList = true
                · rw [t6]
                  have Ht6 := Lib.hid t6
                  clear t6
                  have c0 := var_cell S.out.2 0
                  have c1 := var_cell S.out.2 1
                  have c2 := var_cell S.out.2 2
                  have c3 := var_cell S.out.2 3
                  have c4 := var_cell S.out.2 4
                  have c5 := var_cell S.out.2 5
                  have c6 := var_cell S.out.2 6
                  have c7 := var_cell S.out.2 7
                  go_wp2_with fail
                  go_ret
                  exact ⟨by rw [← HV.out]; first | (simp [akB, akEqB, ByteArray.toList_mk, Ht0.out, Ht1.out, Ht2.out, Ht3.out, Ht4.out, Ht5.out, Ht6.out]; done) | (simp [akB, Ht0.out, Ht1.out, Ht2.out, Ht3.out, Ht4.out, Ht5.out, Ht6.out]; done), S.out.1⟩
                · replace t6 : nameB db.data.toList = false := by simpa using t6
                  rw [t6]
                  have Ht6 := Lib.hid t6
                  clear t6
                  have c0 := var_cell S.out.2 0
                  have c1 := var_cell S.out.2 1
                  have c2 := var_cell S.out.2 2
                  have c3 := var_cell S.out.2 3
                  have c4 := var_cell S.out.2 4
                  have c5 := var_cell S.out.2 5
                  have c6 := var_cell S.out.2 6
                  have c7 := var_cell S.out.2 7
                  go_wp2_with fail
                  go_ret
                  exact ⟨by rw [← HV.out]; first | (simp [akB, akEqB, ByteArray.toList_mk, Ht0.out, Ht1.out, Ht2.out, Ht3.out, Ht4.out, Ht5.out, Ht6.out]; done) | (simp [akB, Ht0.out, Ht1.out, Ht2.out, Ht3.out, Ht4.out, Ht5.out, Ht6.out]; done), S.out.1⟩
    · replace t0 : inI sock 1 9999 = false := by simpa using t0
      rw [t0]
      have Ht0 := Lib.hid t0
      clear t0
      have c0 := var_cell S.out.2 0
      have c1 := var_cell S.out.2 1
      have c2 := var_cell S.out.2 2
      have c3 := var_cell S.out.2 3
      have c4 := var_cell S.out.2 4
      have c5 := var_cell S.out.2 5
      have c6 := var_cell S.out.2 6
      have c7 := var_cell S.out.2 7
      go_wp2_with fail
      go_ret
      exact ⟨by rw [← HV.out]; first | (simp [akB, akEqB, ByteArray.toList_mk, Ht0.out]; done) | (simp [akB, Ht0.out]; done), S.out.1⟩
  · skip
    obtain ⟨v, hv⟩ : ∃ v, akB ⟨sock, db, 2, ticket, since, q, line, lease⟩ = v := ⟨_, rfl⟩
    rw [hv]
    have HV := Lib.hid hv
    clear hv
    go_enter Try.func41, Try.ntmps41
    go_wp2_with fail
    have S : All (fun w' => Below w.heap.size w w' ∧ w'.heap[w.heap.size]? = some (.cells #[.int .i64 sock, .string db, .int .i64 2, .int .i64 ticket, .int .i64 since, .string q, .int .i64 line, .int .i64 lease] 50 (0, 0))) (w.alloc (.cells #[.int .i64 sock, .string db, .int .i64 2, .int .i64 ticket, .int .i64 since, .string q, .int .i64 line, .int .i64 lease] 50)) := ⟨Later.alloc w _, heap_alloc_new w _⟩
    generalize w.alloc (.cells #[.int .i64 sock, .string db, .int .i64 2, .int .i64 ticket, .int .i64 since, .string q, .int .i64 line, .int .i64 lease] 50) = W0 at S ⊢
    refine (l1In_b (b := inI sock 1 9999) rfl _).mono ?_
    rintro e w1 ⟨rfl, rfl⟩
    by_cases t0 : inI sock 1 9999 = true
    · rw [t0]
      have Ht0 := Lib.hid t0
      clear t0
      by_cases t1 : ¬ line = 0
      · skip
        have zt1 : (line != 0) = true := by simp [t1]
        have et1 : (line == 0) = false := by simp; omega
        have Ht1 := Lib.hid (show ¬ line = 0 from by omega)
        clear t1
        have c0 := var_cell S.out.2 0
        have c1 := var_cell S.out.2 1
        have c2 := var_cell S.out.2 2
        have c3 := var_cell S.out.2 3
        have c4 := var_cell S.out.2 4
        have c5 := var_cell S.out.2 5
        have c6 := var_cell S.out.2 6
        have c7 := var_cell S.out.2 7
        go_wp2_with fail
        go_ret
        exact ⟨by rw [← HV.out]; first | (simp [akB, akEqB, ByteArray.toList_mk, Ht0.out, Ht1.out]; done) | (simp [akB, Ht0.out, Ht1.out]; done), S.out.1⟩
      · skip
        have zt1 : (line != 0) = false := by simpa using t1
        have et1 : (line == 0) = true := by simp; omega
        have Ht1 := Lib.hid (show line = 0 from by omega)
        clear t1
        by_cases t2 : ¬ lease = 0
        · skip
          have zt2 : (lease != 0) = true := by simp [t2]
          have et2 : (lease == 0) = false := by simp; omega
          have Ht2 := Lib.hid (show ¬ lease = 0 from by omega)
          clear t2
          have c0 := var_cell S.out.2 0
          have c1 := var_cell S.out.2 1
          have c2 := var_cell S.out.2 2
          have c3 := var_cell S.out.2 3
          have c4 := var_cell S.out.2 4
          have c5 := var_cell S.out.2 5
          have c6 := var_cell S.out.2 6
          have c7 := var_cell S.out.2 7
          go_wp2_with fail
          go_ret
          exact ⟨by rw [← HV.out]; first | (simp [akB, akEqB, ByteArray.toList_mk, Ht0.out, Ht1.out, Ht2.out]; done) | (simp [akB, Ht0.out, Ht1.out, Ht2.out]; done), S.out.1⟩
        · skip
          have zt2 : (lease != 0) = false := by simpa using t2
          have et2 : (lease == 0) = true := by simp; omega
          have Ht2 := Lib.hid (show lease = 0 from by omega)
          clear t2
          have c0 := var_cell S.out.2 0
          have c1 := var_cell S.out.2 1
          have c2 := var_cell S.out.2 2
          have c3 := var_cell S.out.2 3
          have c4 := var_cell S.out.2 4
          have c5 := var_cell S.out.2 5
          have c6 := var_cell S.out.2 6
          have c7 := var_cell S.out.2 7
          go_wp2_with fail
          clear c0 c1 c2 c3 c4 c5 c6 c7
          refine (l1Name_b (b := nameB db.data.toList) rfl _ hdb).mono ?_
          rintro e w1 ⟨rfl, rfl⟩
          by_cases t3 : nameB db.data.toList = true
          · rw [t3]
            have Ht3 := Lib.hid t3
            clear t3
            have c0 := var_cell S.out.2 0
            have c1 := var_cell S.out.2 1
            have c2 := var_cell S.out.2 2
            have c3 := var_cell S.out.2 3
            have c4 := var_cell S.out.2 4
            have c5 := var_cell S.out.2 5
            have c6 := var_cell S.out.2 6
            have c7 := var_cell S.out.2 7
            go_wp2_with fail
            clear c0 c1 c2 c3 c4 c5 c6 c7
            refine (l1In_b (b := inI ticket 0 65535) rfl _).mono ?_
            rintro e w1 ⟨rfl, rfl⟩
            by_cases t4 : inI ticket 0 65535 = true
            · rw [t4]
              have Ht4 := Lib.hid t4
              clear t4
              have c0 := var_cell S.out.2 0
              have c1 := var_cell S.out.2 1
              have c2 := var_cell S.out.2 2
              have c3 := var_cell S.out.2 3
              have c4 := var_cell S.out.2 4
              have c5 := var_cell S.out.2 5
              have c6 := var_cell S.out.2 6
              have c7 := var_cell S.out.2 7
              go_wp2_with fail
              clear c0 c1 c2 c3 c4 c5 c6 c7
              refine (l9Time_any since _).mono ?_
              rintro e w1 ⟨rfl, rfl⟩
              by_cases t5 : inI since 0 100000 = true
              · rw [t5]
                have Ht5 := Lib.hid t5
                clear t5
                have c0 := var_cell S.out.2 0
                have c1 := var_cell S.out.2 1
                have c2 := var_cell S.out.2 2
                have c3 := var_cell S.out.2 3
                have c4 := var_cell S.out.2 4
                have c5 := var_cell S.out.2 5
                have c6 := var_cell S.out.2 6
                have c7 := var_cell S.out.2 7
                go_wp2_with fail
                clear c0 c1 c2 c3 c4 c5 c6 c7
                refine (textOkS_any q _ (by omega)).mono ?_
                rintro e w1 ⟨rfl, rfl⟩
                by_cases t6 : okB q.data.toList = true
                · rw [t6]
                  have Ht6 := Lib.hid t6
                  clear t6
                  have c0 := var_cell S.out.2 0
                  have c1 := var_cell S.out.2 1
                  have c2 := var_cell S.out.2 2
                  have c3 := var_cell S.out.2 3
                  have c4 := var_cell S.out.2 4
                  have c5 := var_cell S.out.2 5
                  have c6 := var_cell S.out.2 6
                  have c7 := var_cell S.out.2 7
                  go_wp2_with fail
                  go_ret
                  exact ⟨by rw [← HV.out]; first | (simp [akB, akEqB, ByteArray.toList_mk, Ht0.out, Ht1.out, Ht2.out, Ht3.out, Ht4.out, Ht5.out, Ht6.out]; done) | (simp [akB, Ht0.out, Ht1.out, Ht2.out, Ht3.out, Ht4.out, Ht5.out, Ht6.out]; done), S.out.1⟩
                · replace t6 : okB q.data.toList = false := by simpa using t6
                  rw [t6]
                  have Ht6 := Lib.hid t6
                  clear t6
                  have c0 := var_cell S.out.2 0
                  have c1 := var_cell S.out.2 1
                  have c2 := var_cell S.out.2 2
                  have c3 := var_cell S.out.2 3
                  have c4 := var_cell S.out.2 4
                  have c5 := var_cell S.out.2 5
                  have c6 := var_cell S.out.2 6
                  have c7 := var_cell S.out.2 7
                  go_wp2_with fail
                  go_ret
                  exact ⟨by rw [← HV.out]; first | (simp [akB, akEqB, ByteArray.toList_mk, Ht0.out, Ht1.out, Ht2.out, Ht3.out, Ht4.out, Ht5.out, Ht6.out]; done) | (simp [akB, Ht0.out, Ht1.out, Ht2.out, Ht3.out, Ht4.out, Ht5.out, Ht6.out]; done), S.out.1⟩
              · replace t5 : inI since 0 100000 = false := by simpa using t5
                rw [t5]
                have Ht5 := Lib.hid t5
                clear t5
                have c0 := var_cell S.out.2 0
                have c1 := var_cell S.out.2 1
                have c2 := var_cell S.out.2 2
                have c3 := var_cell S.out.2 3
                have c4 := var_cell S.out.2 4
                have c5 := var_cell S.out.2 5
                have c6 := var_cell S.out.2 6
                have c7 := var_cell S.out.2 7
                go_wp2_with fail
                go_ret
                exact ⟨by rw [← HV.out]; first | (simp [akB, akEqB, ByteArray.toList_mk, Ht0.out, Ht1.out, Ht2.out, Ht3.out, Ht4.out, Ht5.out]; done) | (simp [akB, Ht0.out, Ht1.out, Ht2.out, Ht3.out, Ht4.out, Ht5.out]; done), S.out.1⟩
            · replace t4 : inI ticket 0 65535 = false := by simpa using t4
              rw [t4]
              have Ht4 := Lib.hid t4
              clear t4
              have c0 := var_cell S.out.2 0
              have c1 := var_cell S.out.2 1
              have c2 := var_cell S.out.2 2
              have c3 := var_cell S.out.2 3
              have c4 := var_cell S.out.2 4
              have c5 := var_cell S.out.2 5
              have c6 := var_cell S.out.2 6
              have c7 := var_cell S.out.2 7
              go_wp2_with fail
              go_ret
              exact ⟨by rw [← HV.out]; first | (simp [akB, akEqB, ByteArray.toList_mk, Ht0.out, Ht1.out, Ht2.out, Ht3.out, Ht4.out]; done) | (simp [akB, Ht0.out, Ht1.out, Ht2.out, Ht3.out, Ht4.out]; done), S.out.1⟩
          · replace t3 : nameB db.data.toList = false := by simpa using t3
            rw [t3]
            have Ht3 := Lib.hid t3
            clear t3
            have c0 := var_cell S.out.2 0
            have c1 := var_cell S.out.2 1
            have c2 := var_cell S.out.2 2
            have c3 := var_cell S.out.2 3
            have c4 := var_cell S.out.2 4
            have c5 := var_cell S.out.2 5
            have c6 := var_cell S.out.2 6
            have c7 := var_cell S.out.2 7
            go_wp2_with fail
            go_ret
            exact ⟨by rw [← HV.out]; first | (simp [akB, akEqB, ByteArray.toList_mk, Ht0.out, Ht1.out, Ht2.out, Ht3.out]; done) | (simp [akB, Ht0.out, Ht1.out, Ht2.out, Ht3.out]; done), S.out.1⟩
    · replace t0 : inI sock 1 9999 = false := by simpa using t0
      rw [t0]
      have Ht0 := Lib.hid t0
      clear t0
      have c0 := var_cell S.out.2 0
      have c1 := var_cell S.out.2 1
      have c2 := var_cell S.out.2 2
      have c3 := var_cell S.out.2 3
      have c4 := var_cell S.out.2 4
      have c5 := var_cell S.out.2 5
      have c6 := var_cell S.out.2 6
      have c7 := var_cell S.out.2 7
      go_wp2_with fail
      go_ret
      exact ⟨by rw [← HV.out]; first | (simp [akB, akEqB, ByteArray.toList_mk, Ht0.out]; done) | (simp [akB, Ht0.out]; done), S.out.1⟩
  · skip
    obtain ⟨v, hv⟩ : ∃ v, akB ⟨sock, db, 3, ticket, since, q, line, lease⟩ = v := ⟨_, rfl⟩
    rw [hv]
    have HV := Lib.hid hv
    clear hv
    go_enter Try.func41, Try.ntmps41
    go_wp2_with fail
    have S : All (fun w' => Below w.heap.size w w' ∧ w'.heap[w.heap.size]? = some (.cells #[.int .i64 sock, .string db, .int .i64 3, .int .i64 ticket, .int .i64 since, .string q, .int .i64 line, .int .i64 lease] 50 (0, 0))) (w.alloc (.cells #[.int .i64 sock, .string db, .int .i64 3, .int .i64 ticket, .int .i64 since, .string q, .int .i64 line, .int .i64 lease] 50)) := ⟨Later.alloc w _, heap_alloc_new w _⟩
    generalize w.alloc (.cells #[.int .i64 sock, .string db, .int .i64 3, .int .i64 ticket, .int .i64 since, .string q, .int .i64 line, .int .i64 lease] 50) = W0 at S ⊢
    refine (l1In_b (b := inI sock 1 9999) rfl _).mono ?_
    rintro e w1 ⟨rfl, rfl⟩
    by_cases t0 : inI sock 1 9999 = true
    · rw [t0]
      have Ht0 := Lib.hid t0
      clear t0
      by_cases t1 : ¬ ticket = 0
      · skip
        have zt1 : (ticket != 0) = true := by simp [t1]
        have et1 : (ticket == 0) = false := by simp; omega
        have Ht1 := Lib.hid (show ¬ ticket = 0 from by omega)
        clear t1
        have c0 := var_cell S.out.2 0
        have c1 := var_cell S.out.2 1
        have c2 := var_cell S.out.2 2
        have c3 := var_cell S.out.2 3
        have c4 := var_cell S.out.2 4
        have c5 := var_cell S.out.2 5
        have c6 := var_cell S.out.2 6
        have c7 := var_cell S.out.2 7
        go_wp2_with fail
        go_ret
        exact ⟨by rw [← HV.out]; first | (simp [akB, akEqB, ByteArray.toList_mk, Ht0.out, Ht1.out]; done) | (simp [akB, Ht0.out, Ht1.out]; done), S.out.1⟩
      · skip
        have zt1 : (ticket != 0) = false := by simpa using t1
        have et1 : (ticket == 0) = true := by simp; omega
        have Ht1 := Lib.hid (show ticket = 0 from by omega)
        clear t1
        by_cases t2 : ¬ since = 0
        · skip
          have zt2 : (since != 0) = true := by simp [t2]
          have et2 : (since == 0) = false := by simp; omega
          have Ht2 := Lib.hid (show ¬ since = 0 from by omega)
          clear t2
          have c0 := var_cell S.out.2 0
          have c1 := var_cell S.out.2 1
          have c2 := var_cell S.out.2 2
          have c3 := var_cell S.out.2 3
          have c4 := var_cell S.out.2 4
          have c5 := var_cell S.out.2 5
          have c6 := var_cell S.out.2 6
          have c7 := var_cell S.out.2 7
          go_wp2_with fail
          go_ret
          exact ⟨by rw [← HV.out]; first | (simp [akB, akEqB, ByteArray.toList_mk, Ht0.out, Ht1.out, Ht2.out]; done) | (simp [akB, Ht0.out, Ht1.out, Ht2.out]; done), S.out.1⟩
        · skip
          have zt2 : (since != 0) = false := by simpa using t2
          have et2 : (since == 0) = true := by simp; omega
          have Ht2 := Lib.hid (show since = 0 from by omega)
          clear t2
          by_cases t3 : ¬ q = ⟨#[]⟩
          · skip
            have zt3 : (q.toList == []) = false := by simpa using fun h => t3 (empty_of h)
            have yt3 : (q.toList != []) = true := by simpa using fun h => t3 (empty_of h)
            have xt3 : q.toList.isEmpty = false := by simpa using fun h => t3 (empty_of h)
            have Ht3 := Lib.hid (show ¬ q.toList = [] from fun h => t3 (empty_of h))
            clear t3
            have c0 := var_cell S.out.2 0
            have c1 := var_cell S.out.2 1
            have c2 := var_cell S.out.2 2
            have c3 := var_cell S.out.2 3
            have c4 := var_cell S.out.2 4
            have c5 := var_cell S.out.2 5
            have c6 := var_cell S.out.2 6
            have c7 := var_cell S.out.2 7
            go_wp2_with fail
            go_ret
            exact ⟨by rw [← HV.out]; first | (simp [akB, akEqB, ByteArray.toList_mk, Ht0.out, Ht1.out, Ht2.out, Ht3.out]; done) | (simp [akB, Ht0.out, Ht1.out, Ht2.out, Ht3.out]; done), S.out.1⟩
          · skip
            replace t3 : q = ⟨#[]⟩ := by simpa using t3
            have zt3 : (q.toList == []) = true := by rw [t3, ByteArray.toList_mk]; rfl
            have yt3 : (q.toList != []) = false := by rw [t3, ByteArray.toList_mk]; rfl
            have xt3 : q.toList.isEmpty = true := by rw [t3, ByteArray.toList_mk]; rfl
            have Ht3 := Lib.hid t3
            clear t3
            have c0 := var_cell S.out.2 0
            have c1 := var_cell S.out.2 1
            have c2 := var_cell S.out.2 2
            have c3 := var_cell S.out.2 3
            have c4 := var_cell S.out.2 4
            have c5 := var_cell S.out.2 5
            have c6 := var_cell S.out.2 6
            have c7 := var_cell S.out.2 7
            go_wp2_with fail
            clear c0 c1 c2 c3 c4 c5 c6 c7
            refine (l1Name_b (b := nameB db.data.toList) rfl _ hdb).mono ?_
            rintro e w1 ⟨rfl, rfl⟩
            by_cases t4 : nameB db.data.toList = true
            · rw [t4]
              have Ht4 := Lib.hid t4
              clear t4
              have c0 := var_cell S.out.2 0
              have c1 := var_cell S.out.2 1
              have c2 := var_cell S.out.2 2
              have c3 := var_cell S.out.2 3
              have c4 := var_cell S.out.2 4
              have c5 := var_cell S.out.2 5
              have c6 := var_cell S.out.2 6
              have c7 := var_cell S.out.2 7
              go_wp2_with fail
              clear c0 c1 c2 c3 c4 c5 c6 c7
              refine (l1In_b (b := inI line 1 9999) rfl _).mono ?_
              rintro e w1 ⟨rfl, rfl⟩
              by_cases t5 : inI line 1 9999 = true
              · rw [t5]
                have Ht5 := Lib.hid t5
                clear t5
                by_cases t6 : ¬ 1 ≤ lease
                · skip
                  have zt6 : ¬ 1 ≤ lease := by omega
                  have Ht6 := Lib.hid (show decide (1 ≤ lease) = false from by simpa using zt6)
                  clear t6
                  have c0 := var_cell S.out.2 0
                  have c1 := var_cell S.out.2 1
                  have c2 := var_cell S.out.2 2
                  have c3 := var_cell S.out.2 3
                  have c4 := var_cell S.out.2 4
                  have c5 := var_cell S.out.2 5
                  have c6 := var_cell S.out.2 6
                  have c7 := var_cell S.out.2 7
                  go_wp2_with fail
                  go_ret
                  exact ⟨by rw [← HV.out]; first | (simp [akB, akEqB, ByteArray.toList_mk, Ht0.out, Ht1.out, Ht2.out, Ht3.out, Ht4.out, Ht5.out, Ht6.out]; done) | (simp [akB, Ht0.out, Ht1.out, Ht2.out, Ht3.out, Ht4.out, Ht5.out, Ht6.out]; done), S.out.1⟩
                · skip
                  have zt6 : 1 ≤ lease := by omega
                  have Ht6 := Lib.hid (show decide (1 ≤ lease) = true from by simpa using zt6)
                  clear t6
                  have c0 := var_cell S.out.2 0
                  have c1 := var_cell S.out.2 1
                  have c2 := var_cell S.out.2 2
                  have c3 := var_cell S.out.2 3
                  have c4 := var_cell S.out.2 4
                  have c5 := var_cell S.out.2 5
                  have c6 := var_cell S.out.2 6
                  have c7 := var_cell S.out.2 7
                  go_wp2_with fail
                  go_ret
                  exact ⟨by rw [← HV.out]; first | (simp [akB, akEqB, ByteArray.toList_mk, Ht0.out, Ht1.out, Ht2.out, Ht3.out, Ht4.out, Ht5.out, Ht6.out]; done) | (simp [akB, Ht0.out, Ht1.out, Ht2.out, Ht3.out, Ht4.out, Ht5.out, Ht6.out]; done), S.out.1⟩
              · replace t5 : inI line 1 9999 = false := by simpa using t5
                rw [t5]
                have Ht5 := Lib.hid t5
                clear t5
                have c0 := var_cell S.out.2 0
                have c1 := var_cell S.out.2 1
                have c2 := var_cell S.out.2 2
                have c3 := var_cell S.out.2 3
                have c4 := var_cell S.out.2 4
                have c5 := var_cell S.out.2 5
                have c6 := var_cell S.out.2 6
                have c7 := var_cell S.out.2 7
                go_wp2_with fail
                go_ret
                exact ⟨by rw [← HV.out]; first | (simp [akB, akEqB, ByteArray.toList_mk, Ht0.out, Ht1.out, Ht2.out, Ht3.out, Ht4.out, Ht5.out]; done) | (simp [akB, Ht0.out, Ht1.out, Ht2.out, Ht3.out, Ht4.out, Ht5.out]; done), S.out.1⟩
            · replace t4 : nameB db.data.toList = false := by simpa using t4
              rw [t4]
              have Ht4 := Lib.hid t4
              clear t4
              have c0 := var_cell S.out.2 0
              have c1 := var_cell S.out.2 1
              have c2 := var_cell S.out.2 2
              have c3 := var_cell S.out.2 3
              have c4 := var_cell S.out.2 4
              have c5 := var_cell S.out.2 5
              have c6 := var_cell S.out.2 6
              have c7 := var_cell S.out.2 7
              go_wp2_with fail
              go_ret
              exact ⟨by rw [← HV.out]; first | (simp [akB, akEqB, ByteArray.toList_mk, Ht0.out, Ht1.out, Ht2.out, Ht3.out, Ht4.out]; done) | (simp [akB, Ht0.out, Ht1.out, Ht2.out, Ht3.out, Ht4.out]; done), S.out.1⟩
    · replace t0 : inI sock 1 9999 = false := by simpa using t0
      rw [t0]
      have Ht0 := Lib.hid t0
      clear t0
      have c0 := var_cell S.out.2 0
      have c1 := var_cell S.out.2 1
      have c2 := var_cell S.out.2 2
      have c3 := var_cell S.out.2 3
      have c4 := var_cell S.out.2 4
      have c5 := var_cell S.out.2 5
      have c6 := var_cell S.out.2 6
      have c7 := var_cell S.out.2 7
      go_wp2_with fail
      go_ret
      exact ⟨by rw [← HV.out]; first | (simp [akB, akEqB, ByteArray.toList_mk, Ht0.out]; done) | (simp [akB, Ht0.out]; done), S.out.1⟩
  · skip
    obtain ⟨v, hv⟩ : ∃ v, akB ⟨sock, db, 4, ticket, since, q, line, lease⟩ = v := ⟨_, rfl⟩
    rw [hv]
    have HV := Lib.hid hv
    clear hv
    go_enter Try.func41, Try.ntmps41
    go_wp2_with fail
    have S : All (fun w' => Below w.heap.size w w' ∧ w'.heap[w.heap.size]? = some (.cells #[.int .i64 sock, .string db, .int .i64 4, .int .i64 ticket, .int .i64 since, .string q, .int .i64 line, .int .i64 lease] 50 (0, 0))) (w.alloc (.cells #[.int .i64 sock, .string db, .int .i64 4, .int .i64 ticket, .int .i64 since, .string q, .int .i64 line, .int .i64 lease] 50)) := ⟨Later.alloc w _, heap_alloc_new w _⟩
    generalize w.alloc (.cells #[.int .i64 sock, .string db, .int .i64 4, .int .i64 ticket, .int .i64 since, .string q, .int .i64 line, .int .i64 lease] 50) = W0 at S ⊢
    refine (l1In_b (b := inI sock 1 9999) rfl _).mono ?_
    rintro e w1 ⟨rfl, rfl⟩
    by_cases t0 : inI sock 1 9999 = true
    · rw [t0]
      have Ht0 := Lib.hid t0
      clear t0
      by_cases t1 : ¬ ticket = 0
      · skip
        have zt1 : (ticket != 0) = true := by simp [t1]
        have et1 : (ticket == 0) = false := by simp; omega
        have Ht1 := Lib.hid (show ¬ ticket = 0 from by omega)
        clear t1
        have c0 := var_cell S.out.2 0
        have c1 := var_cell S.out.2 1
        have c2 := var_cell S.out.2 2
        have c3 := var_cell S.out.2 3
        have c4 := var_cell S.out.2 4
        have c5 := var_cell S.out.2 5
        have c6 := var_cell S.out.2 6
        have c7 := var_cell S.out.2 7
        go_wp2_with fail
        go_ret
        exact ⟨by rw [← HV.out]; first | (simp [akB, akEqB, ByteArray.toList_mk, Ht0.out, Ht1.out]; done) | (simp [akB, Ht0.out, Ht1.out]; done), S.out.1⟩
      · skip
        have zt1 : (ticket != 0) = false := by simpa using t1
        have et1 : (ticket == 0) = true := by simp; omega
        have Ht1 := Lib.hid (show ticket = 0 from by omega)
        clear t1
        by_cases t2 : ¬ since = 0
        · skip
          have zt2 : (since != 0) = true := by simp [t2]
          have et2 : (since == 0) = false := by simp; omega
          have Ht2 := Lib.hid (show ¬ since = 0 from by omega)
          clear t2
          have c0 := var_cell S.out.2 0
          have c1 := var_cell S.out.2 1
          have c2 := var_cell S.out.2 2
          have c3 := var_cell S.out.2 3
          have c4 := var_cell S.out.2 4
          have c5 := var_cell S.out.2 5
          have c6 := var_cell S.out.2 6
          have c7 := var_cell S.out.2 7
          go_wp2_with fail
          go_ret
          exact ⟨by rw [← HV.out]; first | (simp [akB, akEqB, ByteArray.toList_mk, Ht0.out, Ht1.out, Ht2.out]; done) | (simp [akB, Ht0.out, Ht1.out, Ht2.out]; done), S.out.1⟩
        · skip
          have zt2 : (since != 0) = false := by simpa using t2
          have et2 : (since == 0) = true := by simp; omega
          have Ht2 := Lib.hid (show since = 0 from by omega)
          clear t2
          by_cases t3 : ¬ q = ⟨#[]⟩
          · skip
            have zt3 : (q.toList == []) = false := by simpa using fun h => t3 (empty_of h)
            have yt3 : (q.toList != []) = true := by simpa using fun h => t3 (empty_of h)
            have xt3 : q.toList.isEmpty = false := by simpa using fun h => t3 (empty_of h)
            have Ht3 := Lib.hid (show ¬ q.toList = [] from fun h => t3 (empty_of h))
            clear t3
            have c0 := var_cell S.out.2 0
            have c1 := var_cell S.out.2 1
            have c2 := var_cell S.out.2 2
            have c3 := var_cell S.out.2 3
            have c4 := var_cell S.out.2 4
            have c5 := var_cell S.out.2 5
            have c6 := var_cell S.out.2 6
            have c7 := var_cell S.out.2 7
            go_wp2_with fail
            go_ret
            exact ⟨by rw [← HV.out]; first | (simp [akB, akEqB, ByteArray.toList_mk, Ht0.out, Ht1.out, Ht2.out, Ht3.out]; done) | (simp [akB, Ht0.out, Ht1.out, Ht2.out, Ht3.out]; done), S.out.1⟩
          · skip
            replace t3 : q = ⟨#[]⟩ := by simpa using t3
            have zt3 : (q.toList == []) = true := by rw [t3, ByteArray.toList_mk]; rfl
            have yt3 : (q.toList != []) = false := by rw [t3, ByteArray.toList_mk]; rfl
            have xt3 : q.toList.isEmpty = true := by rw [t3, ByteArray.toList_mk]; rfl
            have Ht3 := Lib.hid t3
            clear t3
            have c0 := var_cell S.out.2 0
            have c1 := var_cell S.out.2 1
            have c2 := var_cell S.out.2 2
            have c3 := var_cell S.out.2 3
            have c4 := var_cell S.out.2 4
            have c5 := var_cell S.out.2 5
            have c6 := var_cell S.out.2 6
            have c7 := var_cell S.out.2 7
            go_wp2_with fail
            clear c0 c1 c2 c3 c4 c5 c6 c7
            refine (l1Name_b (b := nameB db.data.toList) rfl _ hdb).mono ?_
            rintro e w1 ⟨rfl, rfl⟩
            by_cases t4 : nameB db.data.toList = true
            · rw [t4]
              have Ht4 := Lib.hid t4
              clear t4
              have c0 := var_cell S.out.2 0
              have c1 := var_cell S.out.2 1
              have c2 := var_cell S.out.2 2
              have c3 := var_cell S.out.2 3
              have c4 := var_cell S.out.2 4
              have c5 := var_cell S.out.2 5
              have c6 := var_cell S.out.2 6
              have c7 := var_cell S.out.2 7
              go_wp2_with fail
              clear c0 c1 c2 c3 c4 c5 c6 c7
              refine (l1In_b (b := inI line 1 9999) rfl _).mono ?_
              rintro e w1 ⟨rfl, rfl⟩
              by_cases t5 : inI line 1 9999 = true
              · rw [t5]
                have Ht5 := Lib.hid t5
                clear t5
                by_cases t6 : ¬ 1 ≤ lease
                · skip
                  have zt6 : ¬ 1 ≤ lease := by omega
                  have Ht6 := Lib.hid (show decide (1 ≤ lease) = false from by simpa using zt6)
                  clear t6
                  have c0 := var_cell S.out.2 0
                  have c1 := var_cell S.out.2 1
                  have c2 := var_cell S.out.2 2
                  have c3 := var_cell S.out.2 3
                  have c4 := var_cell S.out.2 4
                  have c5 := var_cell S.out.2 5
                  have c6 := var_cell S.out.2 6
                  have c7 := var_cell S.out.2 7
                  go_wp2_with fail
                  go_ret
                  exact ⟨by rw [← HV.out]; first | (simp [akB, akEqB, ByteArray.toList_mk, Ht0.out, Ht1.out, Ht2.out, Ht3.out, Ht4.out, Ht5.out, Ht6.out]; done) | (simp [akB, Ht0.out, Ht1.out, Ht2.out, Ht3.out, Ht4.out, Ht5.out, Ht6.out]; done), S.out.1⟩
                · skip
                  have zt6 : 1 ≤ lease := by omega
                  have Ht6 := Lib.hid (show decide (1 ≤ lease) = true from by simpa using zt6)
                  clear t6
                  have c0 := var_cell S.out.2 0
                  have c1 := var_cell S.out.2 1
                  have c2 := var_cell S.out.2 2
                  have c3 := var_cell S.out.2 3
                  have c4 := var_cell S.out.2 4
                  have c5 := var_cell S.out.2 5
                  have c6 := var_cell S.out.2 6
                  have c7 := var_cell S.out.2 7
                  go_wp2_with fail
                  go_ret
                  exact ⟨by rw [← HV.out]; first | (simp [akB, akEqB, ByteArray.toList_mk, Ht0.out, Ht1.out, Ht2.out, Ht3.out, Ht4.out, Ht5.out, Ht6.out]; done) | (simp [akB, Ht0.out, Ht1.out, Ht2.out, Ht3.out, Ht4.out, Ht5.out, Ht6.out]; done), S.out.1⟩
              · replace t5 : inI line 1 9999 = false := by simpa using t5
                rw [t5]
                have Ht5 := Lib.hid t5
                clear t5
                have c0 := var_cell S.out.2 0
                have c1 := var_cell S.out.2 1
                have c2 := var_cell S.out.2 2
                have c3 := var_cell S.out.2 3
                have c4 := var_cell S.out.2 4
                have c5 := var_cell S.out.2 5
                have c6 := var_cell S.out.2 6
                have c7 := var_cell S.out.2 7
                go_wp2_with fail
                go_ret
                exact ⟨by rw [← HV.out]; first | (simp [akB, akEqB, ByteArray.toList_mk, Ht0.out, Ht1.out, Ht2.out, Ht3.out, Ht4.out, Ht5.out]; done) | (simp [akB, Ht0.out, Ht1.out, Ht2.out, Ht3.out, Ht4.out, Ht5.out]; done), S.out.1⟩
            · replace t4 : nameB db.data.toList = false := by simpa using t4
              rw [t4]
              have Ht4 := Lib.hid t4
              clear t4
              have c0 := var_cell S.out.2 0
              have c1 := var_cell S.out.2 1
              have c2 := var_cell S.out.2 2
              have c3 := var_cell S.out.2 3
              have c4 := var_cell S.out.2 4
              have c5 := var_cell S.out.2 5
              have c6 := var_cell S.out.2 6
              have c7 := var_cell S.out.2 7
              go_wp2_with fail
              go_ret
              exact ⟨by rw [← HV.out]; first | (simp [akB, akEqB, ByteArray.toList_mk, Ht0.out, Ht1.out, Ht2.out, Ht3.out, Ht4.out]; done) | (simp [akB, Ht0.out, Ht1.out, Ht2.out, Ht3.out, Ht4.out]; done), S.out.1⟩
    · replace t0 : inI sock 1 9999 = false := by simpa using t0
      rw [t0]
      have Ht0 := Lib.hid t0
      clear t0
      have c0 := var_cell S.out.2 0
      have c1 := var_cell S.out.2 1
      have c2 := var_cell S.out.2 2
      have c3 := var_cell S.out.2 3
      have c4 := var_cell S.out.2 4
      have c5 := var_cell S.out.2 5
      have c6 := var_cell S.out.2 6
      have c7 := var_cell S.out.2 7
      go_wp2_with fail
      go_ret
      exact ⟨by rw [← HV.out]; first | (simp [akB, akEqB, ByteArray.toList_mk, Ht0.out]; done) | (simp [akB, Ht0.out]; done), S.out.1⟩
  · skip
    obtain ⟨v, hv⟩ : ∃ v, akB ⟨sock, db, st, ticket, since, q, line, lease⟩ = v := ⟨_, rfl⟩
    rw [hv]
    have HV := Lib.hid hv
    clear hv
    go_enter Try.func41, Try.ntmps41
    go_wp2_with fail
    have S : All (fun w' => Below w.heap.size w w' ∧ w'.heap[w.heap.size]? = some (.cells #[.int .i64 sock, .string db, .int .i64 st, .int .i64 ticket, .int .i64 since, .string q, .int .i64 line, .int .i64 lease] 50 (0, 0))) (w.alloc (.cells #[.int .i64 sock, .string db, .int .i64 st, .int .i64 ticket, .int .i64 since, .string q, .int .i64 line, .int .i64 lease] 50)) := ⟨Later.alloc w _, heap_alloc_new w _⟩
    generalize w.alloc (.cells #[.int .i64 sock, .string db, .int .i64 st, .int .i64 ticket, .int .i64 since, .string q, .int .i64 line, .int .i64 lease] 50) = W0 at S ⊢
    refine (l1In_b (b := inI sock 1 9999) rfl _).mono ?_
    rintro e w1 ⟨rfl, rfl⟩
    by_cases t5 : inI sock 1 9999 = true
    · rw [t5]
      have Ht5 := Lib.hid t5
      clear t5
      by_cases t6 : ¬ ticket = 0
      · skip
        have zt6 : (ticket != 0) = true := by simp [t6]
        have et6 : (ticket == 0) = false := by simp; omega
        have Ht6 := Lib.hid (show ¬ ticket = 0 from by omega)
        clear t6
        have c0 := var_cell S.out.2 0
        have c1 := var_cell S.out.2 1
        have c2 := var_cell S.out.2 2
        have c3 := var_cell S.out.2 3
        have c4 := var_cell S.out.2 4
        have c5 := var_cell S.out.2 5
        have c6 := var_cell S.out.2 6
        have c7 := var_cell S.out.2 7
        go_wp2_with fail
        go_ret
        exact ⟨by rw [← HV.out]; first | (simp [akB, akEqB, ByteArray.toList_mk, (show ¬ st = 0 from by simpa using h0), (show ¬ st = 1 from by simpa using h1), (show ¬ st = 2 from by simpa using h2), (show ¬ st = 3 from by simpa using h3), (show ¬ st = 4 from by simpa using h4), Ht5.out, Ht6.out]; done) | (simp [akB, (show ¬ st = 0 from by simpa using h0), (show ¬ st = 1 from by simpa using h1), (show ¬ st = 2 from by simpa using h2), (show ¬ st = 3 from by simpa using h3), (show ¬ st = 4 from by simpa using h4), Ht5.out, Ht6.out]; done), S.out.1⟩
      · skip
        have zt6 : (ticket != 0) = false := by simpa using t6
        have et6 : (ticket == 0) = true := by simp; omega
        have Ht6 := Lib.hid (show ticket = 0 from by omega)
        clear t6
        by_cases t7 : ¬ since = 0
        · skip
          have zt7 : (since != 0) = true := by simp [t7]
          have et7 : (since == 0) = false := by simp; omega
          have Ht7 := Lib.hid (show ¬ since = 0 from by omega)
          clear t7
          have c0 := var_cell S.out.2 0
          have c1 := var_cell S.out.2 1
          have c2 := var_cell S.out.2 2
          have c3 := var_cell S.out.2 3
          have c4 := var_cell S.out.2 4
          have c5 := var_cell S.out.2 5
          have c6 := var_cell S.out.2 6
          have c7 := var_cell S.out.2 7
          go_wp2_with fail
          go_ret
          exact ⟨by rw [← HV.out]; first | (simp [akB, akEqB, ByteArray.toList_mk, (show ¬ st = 0 from by simpa using h0), (show ¬ st = 1 from by simpa using h1), (show ¬ st = 2 from by simpa using h2), (show ¬ st = 3 from by simpa using h3), (show ¬ st = 4 from by simpa using h4), Ht5.out, Ht6.out, Ht7.out]; done) | (simp [akB, (show ¬ st = 0 from by simpa using h0), (show ¬ st = 1 from by simpa using h1), (show ¬ st = 2 from by simpa using h2), (show ¬ st = 3 from by simpa using h3), (show ¬ st = 4 from by simpa using h4), Ht5.out, Ht6.out, Ht7.out]; done), S.out.1⟩
        · skip
          have zt7 : (since != 0) = false := by simpa using t7
          have et7 : (since == 0) = true := by simp; omega
          have Ht7 := Lib.hid (show since = 0 from by omega)
          clear t7
          by_cases t8 : ¬ q = ⟨#[]⟩
          · skip
            have zt8 : (q.toList == []) = false := by simpa using fun h => t8 (empty_of h)
            have yt8 : (q.toList != []) = true := by simpa using fun h => t8 (empty_of h)
            have xt8 : q.toList.isEmpty = false := by simpa using fun h => t8 (empty_of h)
            have Ht8 := Lib.hid (show ¬ q.toList = [] from fun h => t8 (empty_of h))
            clear t8
            have c0 := var_cell S.out.2 0
            have c1 := var_cell S.out.2 1
            have c2 := var_cell S.out.2 2
            have c3 := var_cell S.out.2 3
            have c4 := var_cell S.out.2 4
            have c5 := var_cell S.out.2 5
            have c6 := var_cell S.out.2 6
            have c7 := var_cell S.out.2 7
            go_wp2_with fail
            go_ret
            exact ⟨by rw [← HV.out]; first | (simp [akB, akEqB, ByteArray.toList_mk, (show ¬ st = 0 from by simpa using h0), (show ¬ st = 1 from by simpa using h1), (show ¬ st = 2 from by simpa using h2), (show ¬ st = 3 from by simpa using h3), (show ¬ st = 4 from by simpa using h4), Ht5.out, Ht6.out, Ht7.out, Ht8.out]; done) | (simp [akB, (show ¬ st = 0 from by simpa using h0), (show ¬ st = 1 from by simpa using h1), (show ¬ st = 2 from by simpa using h2), (show ¬ st = 3 from by simpa using h3), (show ¬ st = 4 from by simpa using h4), Ht5.out, Ht6.out, Ht7.out, Ht8.out]; done), S.out.1⟩
          · skip
            replace t8 : q = ⟨#[]⟩ := by simpa using t8
            have zt8 : (q.toList == []) = true := by rw [t8, ByteArray.toList_mk]; rfl
            have yt8 : (q.toList != []) = false := by rw [t8, ByteArray.toList_mk]; rfl
            have xt8 : q.toList.isEmpty = true := by rw [t8, ByteArray.toList_mk]; rfl
            have Ht8 := Lib.hid t8
            clear t8
            by_cases tx : ¬ st < 3
            · skip
              have ztx : ¬ st < 3 := by omega
              clear tx
              have c0 := var_cell S.out.2 0
              have c1 := var_cell S.out.2 1
              have c2 := var_cell S.out.2 2
              have c3 := var_cell S.out.2 3
              have c4 := var_cell S.out.2 4
              have c5 := var_cell S.out.2 5
              have c6 := var_cell S.out.2 6
              have c7 := var_cell S.out.2 7
              go_wp2_with fail
              go_ret
              exact ⟨by rw [← HV.out]; first | (simp [akB, akEqB, ByteArray.toList_mk, (show ¬ st = 0 from by simpa using h0), (show ¬ st = 1 from by simpa using h1), (show ¬ st = 2 from by simpa using h2), (show ¬ st = 3 from by simpa using h3), (show ¬ st = 4 from by simpa using h4), Ht5.out, Ht6.out, Ht7.out, Ht8.out]; done) | (simp [akB, (show ¬ st = 0 from by simpa using h0), (show ¬ st = 1 from by simpa using h1), (show ¬ st = 2 from by simpa using h2), (show ¬ st = 3 from by simpa using h3), (show ¬ st = 4 from by simpa using h4), Ht5.out, Ht6.out, Ht7.out, Ht8.out]; done), S.out.1⟩
            · skip
              have ztx : st < 3 := by omega
              clear tx
              by_cases t9 : ¬ line = 0
              · skip
                have zt9 : (line != 0) = true := by simp [t9]
                have et9 : (line == 0) = false := by simp; omega
                have Ht9 := Lib.hid (show ¬ line = 0 from by omega)
                clear t9
                have c0 := var_cell S.out.2 0
                have c1 := var_cell S.out.2 1
                have c2 := var_cell S.out.2 2
                have c3 := var_cell S.out.2 3
                have c4 := var_cell S.out.2 4
                have c5 := var_cell S.out.2 5
                have c6 := var_cell S.out.2 6
                have c7 := var_cell S.out.2 7
                go_wp2_with fail
                go_ret
                exact ⟨by rw [← HV.out]; first | (simp [akB, akEqB, ByteArray.toList_mk, (show ¬ st = 0 from by simpa using h0), (show ¬ st = 1 from by simpa using h1), (show ¬ st = 2 from by simpa using h2), (show ¬ st = 3 from by simpa using h3), (show ¬ st = 4 from by simpa using h4), Ht5.out, Ht6.out, Ht7.out, Ht8.out, Ht9.out]; done) | (simp [akB, (show ¬ st = 0 from by simpa using h0), (show ¬ st = 1 from by simpa using h1), (show ¬ st = 2 from by simpa using h2), (show ¬ st = 3 from by simpa using h3), (show ¬ st = 4 from by simpa using h4), Ht5.out, Ht6.out, Ht7.out, Ht8.out, Ht9.out]; done), S.out.1⟩
              · skip
                have zt9 : (line != 0) = false := by simpa using t9
                have et9 : (line == 0) = true := by simp; omega
                have Ht9 := Lib.hid (show line = 0 from by omega)
                clear t9
                by_cases t10 : ¬ lease = 0
                · skip
                  have zt10 : (lease != 0) = true := by simp [t10]
                  have et10 : (lease == 0) = false := by simp; omega
                  have Ht10 := Lib.hid (show ¬ lease = 0 from by omega)
                  clear t10
                  have c0 := var_cell S.out.2 0
                  have c1 := var_cell S.out.2 1
                  have c2 := var_cell S.out.2 2
                  have c3 := var_cell S.out.2 3
                  have c4 := var_cell S.out.2 4
                  have c5 := var_cell S.out.2 5
                  have c6 := var_cell S.out.2 6
                  have c7 := var_cell S.out.2 7
                  go_wp2_with fail
                  go_ret
                  exact ⟨by rw [← HV.out]; first | (simp [akB, akEqB, ByteArray.toList_mk, (show ¬ st = 0 from by simpa using h0), (show ¬ st = 1 from by simpa using h1), (show ¬ st = 2 from by simpa using h2), (show ¬ st = 3 from by simpa using h3), (show ¬ st = 4 from by simpa using h4), Ht5.out, Ht6.out, Ht7.out, Ht8.out, Ht9.out, Ht10.out]; done) | (simp [akB, (show ¬ st = 0 from by simpa using h0), (show ¬ st = 1 from by simpa using h1), (show ¬ st = 2 from by simpa using h2), (show ¬ st = 3 from by simpa using h3), (show ¬ st = 4 from by simpa using h4), Ht5.out, Ht6.out, Ht7.out, Ht8.out, Ht9.out, Ht10.out]; done), S.out.1⟩
                · skip
                  have zt10 : (lease != 0) = false := by simpa using t10
                  have et10 : (lease == 0) = true := by simp; omega
                  have Ht10 := Lib.hid (show lease = 0 from by omega)
                  clear t10
                  have c0 := var_cell S.out.2 0
                  have c1 := var_cell S.out.2 1
                  have c2 := var_cell S.out.2 2
                  have c3 := var_cell S.out.2 3
                  have c4 := var_cell S.out.2 4
                  have c5 := var_cell S.out.2 5
                  have c6 := var_cell S.out.2 6
                  have c7 := var_cell S.out.2 7
                  go_wp2_with fail
                  go_ret
                  exact ⟨by rw [← HV.out]; first | (simp [akB, akEqB, ByteArray.toList_mk, (show ¬ st = 0 from by simpa using h0), (show ¬ st = 1 from by simpa using h1), (show ¬ st = 2 from by simpa using h2), (show ¬ st = 3 from by simpa using h3), (show ¬ st = 4 from by simpa using h4), Ht5.out, Ht6.out, Ht7.out, Ht8.out, Ht9.out, Ht10.out]; done) | (simp [akB, (show ¬ st = 0 from by simpa using h0), (show ¬ st = 1 from by simpa using h1), (show ¬ st = 2 from by simpa using h2), (show ¬ st = 3 from by simpa using h3), (show ¬ st = 4 from by simpa using h4), Ht5.out, Ht6.out, Ht7.out, Ht8.out, Ht9.out, Ht10.out]; done), S.out.1⟩
    · replace t5 : inI sock 1 9999 = false := by simpa using t5
      rw [t5]
      have Ht5 := Lib.hid t5
      clear t5
      have c0 := var_cell S.out.2 0
      have c1 := var_cell S.out.2 1
      have c2 := var_cell S.out.2 2
      have c3 := var_cell S.out.2 3
      have c4 := var_cell S.out.2 4
      have c5 := var_cell S.out.2 5
      have c6 := var_cell S.out.2 6
      have c7 := var_cell S.out.2 7
      go_wp2_with fail
      go_ret
      exact ⟨by rw [← HV.out]; first | (simp [akB, akEqB, ByteArray.toList_mk, (show ¬ st = 0 from by simpa using h0), (show ¬ st = 1 from by simpa using h1), (show ¬ st = 2 from by simpa using h2), (show ¬ st = 3 from by simpa using h3), (show ¬ st = 4 from by simpa using h4), Ht5.out]; done) | (simp [akB, (show ¬ st = 0 from by simpa using h0), (show ¬ st = 1 from by simpa using h1), (show ¬ st = 2 from by simpa using h2), (show ¬ st = 3 from by simpa using h3), (show ¬ st = 4 from by simpa using h4), Ht5.out]; done), S.out.1⟩

end Go.Proofs.Ytgdhhhibkhfdlaa
