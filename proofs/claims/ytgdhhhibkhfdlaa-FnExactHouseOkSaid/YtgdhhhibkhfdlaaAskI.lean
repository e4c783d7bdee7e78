/- AskerOk of the program. (By gen_l9a.py.) -/
import Derived.Test.YtgdhhhibkhfdlaaAskP
namespace Go.Proofs.Ytgdhhhibkhfdlaa
open Go.RowKit
set_option linter.unusedVariables false
set_option linter.unusedSimpArgs false

set_option maxRecDepth 100000 in
set_option maxHeartbeats 8000000 in
theorem akB_any (x : Ak) (w : World) (hf : FitsAk x) : Calls Try.prog 40 #[.agg (akC x).toArray] w (RetBool w (akB x)) := by
  obtain ⟨sock, db, st, ticket, since, q, line, lease⟩ := x
  unfold RetBool akC
  obtain ⟨hdb, hq⟩ := hf
  replace hdb : db.size ≤ 1048576 := hdb
  replace hq : q.size ≤ 1048576 := hq
  rcases st5  st with rfl | rfl | rfl | rfl | rfl | ⟨h0, h1, h2, h3, h4, h5, h6⟩
  · skip
    obtain ⟨v, hv⟩ : ∃ v, akB ⟨sock, db, 0, ticket, since, q, line, lease⟩ = v := ⟨_, rfl⟩
    rw [hv]
    have HV := Lib.hid hv
    clear hv
    go_enter Try.func40, Try.ntmps40
    go_wp2_with fail
    have S : All (fun w' => Below w.heap.size w w' ∧ w'.heap[w.heap.size]? = some (.cells #[.int .i64 sock, .string db, .int .i64 0, .int .i64 ticket, .int .i64 since, .string q, .int .i64 line, .int .i64 lease] 50 (0, 0))) (w.alloc (.cells #[.int .i64 sock, .string db, .int .i64 0, .int .i64 ticket, .int .i64 since, .string q, .int .i64 line, .int .i64 lease] 50)) := ⟨Later.alloc w _, heap_alloc_new w _⟩
    generalize w.alloc (.cells #[.int .i64 sock, .string db, .int .i64 0, .int .i64 ticket, .int .i64 since, .string q, .int .i64 line, .int .i64 lease] 50) = W0 at S ⊢
    refine (sockNumOk_any sock _).mono ?_
    rintro e w1 ⟨rfl, rfl⟩
    by_cases t0 : inI sock 1 9999 = true
    · rw [t0]
      have Ht0 := Lib.hid t0
      clear t0
      have G1 := fun a b w => ak_guard .eql a b ⟨sock, db, 0, ticket, since, q, line, lease⟩ ⟨sock, ⟨#[]⟩, 0, 0, 0, ⟨#[]⟩, 0, 0⟩ w
      have G2 := fun w => ak_equal ⟨sock, db, 0, ticket, since, q, line, lease⟩ ⟨sock, ⟨#[]⟩, 0, 0, 0, ⟨#[]⟩, 0, 0⟩ w
      unfold akC at G1 G2
      obtain ⟨u, hu⟩ : ∃ u, akEqB ⟨sock, db, 0, ticket, since, q, line, lease⟩ ⟨sock, ⟨#[]⟩, 0, 0, 0, ⟨#[]⟩, 0, 0⟩ = u := ⟨_, rfl⟩
      rw [hu] at G2
      have HU := Lib.hid hu
      clear hu
      have c0 := var_cell S.out.2 0
      have c1 := var_cell S.out.2 1
      have c2 := var_cell S.out.2 2
      have c3 := var_cell S.out.2 3
      have c4 := var_cell S.out.2 4
      have c5 := var_cell S.out.2 5
      have c6 := var_cell S.out.2 6
      have c7 := var_cell S.out.2 7
      go_wp2_with fail
      go_ret
      exact ⟨by rw [← HV.out, ← HU.out]; simp [akB, Ht0.out], S.out.1⟩
    · replace t0 : inI sock 1 9999 = false := by simpa using t0
      rw [t0]
      have Ht0 := Lib.hid t0
      clear t0
      have c0 := var_cell S.out.2 0
      have c1 := var_cell S.out.2 1
      have c2 := var_cell S.out.2 2
      have c3 := var_cell S.out.2 3
      have c4 := var_cell S.out.2 4
      have c5 := var_cell S.out.2 5
      have c6 := var_cell S.out.2 6
      have c7 := var_cell S.out.2 7
      go_wp2_with fail
      go_ret
      exact ⟨by rw [← HV.out]; first | (simp [akB, akEqB, ByteArray.toList_mk, Ht0.out]; done) | (simp [akB, Ht0.out]; done), S.out.1⟩
  · skip
    obtain ⟨v, hv⟩ : ∃ v, akB ⟨sock, db, 1, ticket, since, q, line, lease⟩ = v := ⟨_, rfl⟩
    rw [hv]
    have HV := Lib.hid hv
    clear hv
    go_enter Try.func40, Try.ntmps40
    go_wp2_with fail
    have S : All (fun w' => Below w.heap.size w w' ∧ w'.heap[w.heap.size]? = some (.cells #[.int .i64 sock, .string db, .int .i64 1, .int .i64 ticket, .int .i64 since, .string q, .int .i64 line, .int .i64 lease] 50 (0, 0))) (w.alloc (.cells #[.int .i64 sock, .string db, .int .i64 1, .int .i64 ticket, .int .i64 since, .string q, .int .i64 line, .int .i64 lease] 50)) := ⟨Later.alloc w _, heap_alloc_new w _⟩
    generalize w.alloc (.cells #[.int .i64 sock, .string db, .int .i64 1, .int .i64 ticket, .int .i64 since, .string q, .int .i64 line, .int .i64 lease] 50) = W0 at S ⊢
    refine (sockNumOk_any sock _).mono ?_
    rintro e w1 ⟨rfl, rfl⟩
    by_cases t0 : inI sock 1 9999 = true
    · rw [t0]
      have Ht0 := Lib.hid t0
      clear t0
      have c0 := var_cell S.out.2 0
      have c1 := var_cell S.out.2 1
      have c2 := var_cell S.out.2 2
      have c3 := var_cell S.out.2 3
      have c4 := var_cell S.out.2 4
      have c5 := var_cell S.out.2 5
      have c6 := var_cell S.out.2 6
      have c7 := var_cell S.out.2 7
      go_wp2_with fail
      clear c0 c1 c2 c3 c4 c5 c6 c7
      refine (nameOk_b (b := nameB db.data.toList) rfl _ hdb).mono ?_
      rintro e W1 ⟨rfl, hb⟩
      replace S := S.later hb
      clear hb
      by_cases t1 : nameB db.data.toList = true
      · rw [t1]
        have Ht1 := Lib.hid t1
        clear t1
        have G1 := fun a b w => ak_guard .eql a b ⟨sock, db, 1, ticket, since, q, line, lease⟩ ⟨sock, db, 1, 0, 0, ⟨#[]⟩, 0, 0⟩ w
        have G2 := fun w => ak_equal ⟨sock, db, 1, ticket, since, q, line, lease⟩ ⟨sock, db, 1, 0, 0, ⟨#[]⟩, 0, 0⟩ w
        unfold akC at G1 G2
        obtain ⟨u, hu⟩ : ∃ u, akEqB ⟨sock, db, 1, ticket, since, q, line, lease⟩ ⟨sock, db, 1, 0, 0, ⟨#[]⟩, 0, 0⟩ = u := ⟨_, rfl⟩
        rw [hu] at G2
        have HU := Lib.hid hu
        clear hu
        have c0 := var_cell S.out.2 0
        have c1 := var_cell S.out.2 1
        have c2 := var_cell S.out.2 2
        have c3 := var_cell S.out.2 3
        have c4 := var_cell S.out.2 4
        have c5 := var_cell S.out.2 5
        have c6 := var_cell S.out.2 6
        have c7 := var_cell S.out.2 7
        go_wp2_with fail
        go_ret
        exact ⟨by rw [← HV.out, ← HU.out]; simp [akB, Ht0.out, Ht1.out], S.out.1⟩
      · replace t1 : nameB db.data.toList = false := by simpa using t1
        rw [t1]
        have Ht1 := Lib.hid t1
        clear t1
        have c0 := var_cell S.out.2 0
        have c1 := var_cell S.out.2 1
        have c2 := var_cell S.out.2 2
        have c3 := var_cell S.out.2 3
        have c4 := var_cell S.out.2 4
        have c5 := var_cell S.out.2 5
        have c6 := var_cell S.out.2 6
        have c7 := var_cell S.out.2 7
        go_wp2_with fail
        go_ret
        exact ⟨by rw [← HV.out]; first | (simp [akB, akEqB, ByteArray.toList_mk, Ht0.out, Ht1.out]; done) | (simp [akB, Ht0.out, Ht1.out]; done), S.out.1⟩
    · replace t0 : inI sock 1 9999 = false := by simpa using t0
      rw [t0]
      have Ht0 := Lib.hid t0
      clear t0
      have c0 := var_cell S.out.2 0
      have c1 := var_cell S.out.2 1
      have c2 := var_cell S.out.2 2
      have c3 := var_cell S.out.2 3
      have c4 := var_cell S.out.2 4
      have c5 := var_cell S.out.2 5
      have c6 := var_cell S.out.2 6
      have c7 := var_cell S.out.2 7
      go_wp2_with fail
      go_ret
      exact ⟨by rw [← HV.out]; first | (simp [akB, akEqB, ByteArray.toList_mk, Ht0.out]; done) | (simp [akB, Ht0.out]; done), S.out.1⟩
  · skip
    obtain ⟨v, hv⟩ : ∃ v, akB ⟨sock, db, 2, ticket, since, q, line, lease⟩ = v := ⟨_, rfl⟩
    rw [hv]
    have HV := Lib.hid hv
    clear hv
    go_enter Try.func40, Try.ntmps40
    go_wp2_with fail
    have S : All (fun w' => Below w.heap.size w w' ∧ w'.heap[w.heap.size]? = some (.cells #[.int .i64 sock, .string db, .int .i64 2, .int .i64 ticket, .int .i64 since, .string q, .int .i64 line, .int .i64 lease] 50 (0, 0))) (w.alloc (.cells #[.int .i64 sock, .string db, .int .i64 2, .int .i64 ticket, .int .i64 since, .string q, .int .i64 line, .int .i64 lease] 50)) := ⟨Later.alloc w _, heap_alloc_new w _⟩
    generalize w.alloc (.cells #[.int .i64 sock, .string db, .int .i64 2, .int .i64 ticket, .int .i64 since, .string q, .int .i64 line, .int .i64 lease] 50) = W0 at S ⊢
    refine (sockNumOk_any sock _).mono ?_
    rintro e w1 ⟨rfl, rfl⟩
    by_cases t0 : inI sock 1 9999 = true
    · rw [t0]
      have Ht0 := Lib.hid t0
      clear t0
      have c0 := var_cell S.out.2 0
      have c1 := var_cell S.out.2 1
      have c2 := var_cell S.out.2 2
      have c3 := var_cell S.out.2 3
      have c4 := var_cell S.out.2 4
      have c5 := var_cell S.out.2 5
      have c6 := var_cell S.out.2 6
      have c7 := var_cell S.out.2 7
      go_wp2_with fail
      clear c0 c1 c2 c3 c4 c5 c6 c7
      refine (nameOk_b (b := nameB db.data.toList) rfl _ hdb).mono ?_
      rintro e W1 ⟨rfl, hb⟩
      replace S := S.later hb
      clear hb
      by_cases t1 : nameB db.data.toList = true
      · rw [t1]
        have Ht1 := Lib.hid t1
        clear t1
        have c0 := var_cell S.out.2 0
        have c1 := var_cell S.out.2 1
        have c2 := var_cell S.out.2 2
        have c3 := var_cell S.out.2 3
        have c4 := var_cell S.out.2 4
        have c5 := var_cell S.out.2 5
        have c6 := var_cell S.out.2 6
        have c7 := var_cell S.out.2 7
        go_wp2_with fail
        clear c0 c1 c2 c3 c4 c5 c6 c7
        refine (within_b (b := inI ticket 0 65535) rfl _).mono ?_
        rintro e w1 ⟨rfl, rfl⟩
        by_cases t2 : inI ticket 0 65535 = true
        · rw [t2]
          have Ht2 := Lib.hid t2
          clear t2
          have c0 := var_cell S.out.2 0
          have c1 := var_cell S.out.2 1
          have c2 := var_cell S.out.2 2
          have c3 := var_cell S.out.2 3
          have c4 := var_cell S.out.2 4
          have c5 := var_cell S.out.2 5
          have c6 := var_cell S.out.2 6
          have c7 := var_cell S.out.2 7
          go_wp2_with fail
          clear c0 c1 c2 c3 c4 c5 c6 c7
          refine (timeOk_any since _).mono ?_
          rintro e w1 ⟨rfl, rfl⟩
          by_cases t3 : inI since 0 100000 = true
          · rw [t3]
            have Ht3 := Lib.hid t3
            clear t3
            have c0 := var_cell S.out.2 0
            have c1 := var_cell S.out.2 1
            have c2 := var_cell S.out.2 2
            have c3 := var_cell S.out.2 3
            have c4 := var_cell S.out.2 4
            have c5 := var_cell S.out.2 5
            have c6 := var_cell S.out.2 6
            have c7 := var_cell S.out.2 7
            go_wp2_with fail
            clear c0 c1 c2 c3 c4 c5 c6 c7
            refine (textOk_any q _ (by omega)).mono ?_
            rintro e w1 ⟨rfl, rfl⟩
            by_cases t4 : okB q.data.toList = true
            · rw [t4]
              have Ht4 := Lib.hid t4
              clear t4
              have G1 := fun a b w => ak_guard .eql a b ⟨sock, db, 2, ticket, since, q, line, lease⟩ ⟨sock, db, 2, ticket, since, q, 0, 0⟩ w
              have G2 := fun w => ak_equal ⟨sock, db, 2, ticket, since, q, line, lease⟩ ⟨sock, db, 2, ticket, since, q, 0, 0⟩ w
              unfold akC at G1 G2
              obtain ⟨u, hu⟩ : ∃ u, akEqB ⟨sock, db, 2, ticket, since, q, line, lease⟩ ⟨sock, db, 2, ticket, since, q, 0, 0⟩ = u := ⟨_, rfl⟩
              rw [hu] at G2
              have HU := Lib.hid hu
              clear hu
              have c0 := var_cell S.out.2 0
              have c1 := var_cell S.out.2 1
              have c2 := var_cell S.out.2 2
              have c3 := var_cell S.out.2 3
              have c4 := var_cell S.out.2 4
              have c5 := var_cell S.out.2 5
              have c6 := var_cell S.out.2 6
              have c7 := var_cell S.out.2 7
              go_wp2_with fail
              go_ret
              exact ⟨by rw [← HV.out, ← HU.out]; simp [akB, Ht0.out, Ht1.out, Ht2.out, Ht3.out, Ht4.out], S.out.1⟩
            · replace t4 : okB q.data.toList = false := by simpa using t4
              rw [t4]
              have Ht4 := Lib.hid t4
              clear t4
              have c0 := var_cell S.out.2 0
              have c1 := var_cell S.out.2 1
              have c2 := var_cell S.out.2 2
              have c3 := var_cell S.out.2 3
              have c4 := var_cell S.out.2 4
              have c5 := var_cell S.out.2 5
              have c6 := var_cell S.out.2 6
              have c7 := var_cell S.out.2 7
              go_wp2_with fail
              go_ret
              exact ⟨by rw [← HV.out]; first | (simp [akB, akEqB, ByteArray.toList_mk, Ht0.out, Ht1.out, Ht2.out, Ht3.out, Ht4.out]; done) | (simp [akB, Ht0.out, Ht1.out, Ht2.out, Ht3.out, Ht4.out]; done), S.out.1⟩
          · replace t3 : inI since 0 100000 = false := by simpa using t3
            rw [t3]
            have Ht3 := Lib.hid t3
            clear t3
            have c0 := var_cell S.out.2 0
            have c1 := var_cell S.out.2 1
            have c2 := var_cell S.out.2 2
            have c3 := var_cell S.out.2 3
            have c4 := var_cell S.out.2 4
            have c5 := var_cell S.out.2 5
            have c6 := var_cell S.out.2 6
            have c7 := var_cell S.out.2 7
            go_wp2_with fail
            go_ret
            exact ⟨by rw [← HV.out]; first | (simp [akB, akEqB, ByteArray.toList_mk, Ht0.out, Ht1.out, Ht2.out, Ht3.out]; done) | (simp [akB, Ht0.out, Ht1.out, Ht2.out, Ht3.out]; done), S.out.1⟩
        · replace t2 : inI ticket 0 65535 = false := by simpa using t2
          rw [t2]
          have Ht2 := Lib.hid t2
          clear t2
          have c0 := var_cell S.out.2 0
          have c1 := var_cell S.out.2 1
          have c2 := var_cell S.out.2 2
          have c3 := var_cell S.out.2 3
          have c4 := var_cell S.out.2 4
          have c5 := var_cell S.out.2 5
          have c6 := var_cell S.out.2 6
          have c7 := var_cell S.out.2 7
          go_wp2_with fail
          go_ret
          exact ⟨by rw [← HV.out]; first | (simp [akB, akEqB, ByteArray.toList_mk, Ht0.out, Ht1.out, Ht2.out]; done) | (simp [akB, Ht0.out, Ht1.out, Ht2.out]; done), S.out.1⟩
      · replace t1 : nameB db.data.toList = false := by simpa using t1
        rw [t1]
        have Ht1 := Lib.hid t1
        clear t1
        have c0 := var_cell S.out.2 0
        have c1 := var_cell S.out.2 1
        have c2 := var_cell S.out.2 2
        have c3 := var_cell S.out.2 3
        have c4 := var_cell S.out.2 4
        have c5 := var_cell S.out.2 5
        have c6 := var_cell S.out.2 6
        have c7 := var_cell S.out.2 7
        go_wp2_with fail
        go_ret
        exact ⟨by rw [← HV.out]; first | (simp [akB, akEqB, ByteArray.toList_mk, Ht0.out, Ht1.out]; done) | (simp [akB, Ht0.out, Ht1.out]; done), S.out.1⟩
    · replace t0 : inI sock 1 9999 = false := by simpa using t0
      rw [t0]
      have Ht0 := Lib.hid t0
      clear t0
      have c0 := var_cell S.out.2 0
      have c1 := var_cell S.out.2 1
      have c2 := var_cell S.out.2 2
      have c3 := var_cell S.out.2 3
      have c4 := var_cell S.out.2 4
      have c5 := var_cell S.out.2 5
      have c6 := var_cell S.out.2 6
      have c7 := var_cell S.out.2 7
      go_wp2_with fail
      go_ret
      exact ⟨by rw [← HV.out]; first | (simp [akB, akEqB, ByteArray.toList_mk, Ht0.out]; done) | (simp [akB, Ht0.out]; done), S.out.1⟩
  · skip
    obtain ⟨v, hv⟩ : ∃ v, akB ⟨sock, db, 3, ticket, since, q, line, lease⟩ = v := ⟨_, rfl⟩
    rw [hv]
    have HV := Lib.hid hv
    clear hv
    go_enter Try.func40, Try.ntmps40
    go_wp2_with fail
    have S : All (fun w' => Below w.heap.size w w' ∧ w'.heap[w.heap.size]? = some (.cells #[.int .i64 sock, .string db, .int .i64 3, .int .i64 ticket, .int .i64 since, .string q, .int .i64 line, .int .i64 lease] 50 (0, 0))) (w.alloc (.cells #[.int .i64 sock, .string db, .int .i64 3, .int .i64 ticket, .int .i64 since, .string q, .int .i64 line, .int .i64 lease] 50)) := ⟨Later.alloc w _, heap_alloc_new w _⟩
    generalize w.alloc (.cells #[.int .i64 sock, .string db, .int .i64 3, .int .i64 ticket, .int .i64 since, .string q, .int .i64 line, .int .i64 lease] 50) = W0 at S ⊢
    refine (sockNumOk_any sock _).mono ?_
    rintro e w1 ⟨rfl, rfl⟩
    by_cases t0 : inI sock 1 9999 = true
    · rw [t0]
      have Ht0 := Lib.hid t0
      clear t0
      have c0 := var_cell S.out.2 0
      have c1 := var_cell S.out.2 1
      have c2 := var_cell S.out.2 2
      have c3 := var_cell S.out.2 3
      have c4 := var_cell S.out.2 4
      have c5 := var_cell S.out.2 5
      have c6 := var_cell S.out.2 6
      have c7 := var_cell S.out.2 7
      go_wp2_with fail
      clear c0 c1 c2 c3 c4 c5 c6 c7
      refine (nameOk_b (b := nameB db.data.toList) rfl _ hdb).mono ?_
      rintro e W1 ⟨rfl, hb⟩
      replace S := S.later hb
      clear hb
      by_cases t1 : nameB db.data.toList = true
      · rw [t1]
        have Ht1 := Lib.hid t1
        clear t1
        have c0 := var_cell S.out.2 0
        have c1 := var_cell S.out.2 1
        have c2 := var_cell S.out.2 2
        have c3 := var_cell S.out.2 3
        have c4 := var_cell S.out.2 4
        have c5 := var_cell S.out.2 5
        have c6 := var_cell S.out.2 6
        have c7 := var_cell S.out.2 7
        go_wp2_with fail
        clear c0 c1 c2 c3 c4 c5 c6 c7
        refine (sockNumOk_any line _).mono ?_
        rintro e w1 ⟨rfl, rfl⟩
        by_cases t2 : inI line 1 9999 = true
        · rw [t2]
          have Ht2 := Lib.hid t2
          clear t2
          by_cases t3 : ¬ 1 ≤ lease
          · skip
            have zt3 : ¬ 1 ≤ lease := by omega
            have Ht3 := Lib.hid (show decide (1 ≤ lease) = false from by simpa using zt3)
            clear t3
            have c0 := var_cell S.out.2 0
            have c1 := var_cell S.out.2 1
            have c2 := var_cell S.out.2 2
            have c3 := var_cell S.out.2 3
            have c4 := var_cell S.out.2 4
            have c5 := var_cell S.out.2 5
            have c6 := var_cell S.out.2 6
            have c7 := var_cell S.out.2 7
            go_wp2_with fail
            go_ret
            exact ⟨by rw [← HV.out]; first | (simp [akB, akEqB, ByteArray.toList_mk, Ht0.out, Ht1.out, Ht2.out, Ht3.out]; done) | (simp [akB, Ht0.out, Ht1.out, Ht2.out, Ht3.out]; done), S.out.1⟩
          · skip
            have zt3 : 1 ≤ lease := by omega
            have Ht3 := Lib.hid (show decide (1 ≤ lease) = true from by simpa using zt3)
            clear t3
            have G1 := fun a b w => ak_guard .eql a b ⟨sock, db, 3, ticket, since, q, line, lease⟩ ⟨sock, db, 3, 0, 0, ⟨#[]⟩, line, lease⟩ w
            have G2 := fun w => ak_equal ⟨sock, db, 3, ticket, since, q, line, lease⟩ ⟨sock, db, 3, 0, 0, ⟨#[]⟩, line, lease⟩ w
            unfold akC at G1 G2
            obtain ⟨u, hu⟩ : ∃ u, akEqB ⟨sock, db, 3, ticket, since, q, line, lease⟩ ⟨sock, db, 3, 0, 0, ⟨#[]⟩, line, lease⟩ = u := ⟨_, rfl⟩
            rw [hu] at G2
            have HU := Lib.hid hu
            clear hu
            have c0 := var_cell S.out.2 0
            have c1 := var_cell S.out.2 1
            have c2 := var_cell S.out.2 2
            have c3 := var_cell S.out.2 3
            have c4 := var_cell S.out.2 4
            have c5 := var_cell S.out.2 5
            have c6 := var_cell S.out.2 6
            have c7 := var_cell S.out.2 7
            go_wp2_with fail
            go_ret
            exact ⟨by rw [← HV.out, ← HU.out]; simp [akB, Ht0.out, Ht1.out, Ht2.out, Ht3.out], S.out.1⟩
        · replace t2 : inI line 1 9999 = false := by simpa using t2
          rw [t2]
          have Ht2 := Lib.hid t2
          clear t2
          have c0 := var_cell S.out.2 0
          have c1 := var_cell S.out.2 1
          have c2 := var_cell S.out.2 2
          have c3 := var_cell S.out.2 3
          have c4 := var_cell S.out.2 4
          have c5 := var_cell S.out.2 5
          have c6 := var_cell S.out.2 6
          have c7 := var_cell S.out.2 7
          go_wp2_with fail
          go_ret
          exact ⟨by rw [← HV.out]; first | (simp [akB, akEqB, ByteArray.toList_mk, Ht0.out, Ht1.out, Ht2.out]; done) | (simp [akB, Ht0.out, Ht1.out, Ht2.out]; done), S.out.1⟩
      · replace t1 : nameB db.data.toList = false := by simpa using t1
        rw [t1]
        have Ht1 := Lib.hid t1
        clear t1
        have c0 := var_cell S.out.2 0
        have c1 := var_cell S.out.2 1
        have c2 := var_cell S.out.2 2
        have c3 := var_cell S.out.2 3
        have c4 := var_cell S.out.2 4
        have c5 := var_cell S.out.2 5
        have c6 := var_cell S.out.2 6
        have c7 := var_cell S.out.2 7
        go_wp2_with fail
        go_ret
        exact ⟨by rw [← HV.out]; first | (simp [akB, akEqB, ByteArray.toList_mk, Ht0.out, Ht1.out]; done) | (simp [akB, Ht0.out, Ht1.out]; done), S.out.1⟩
    · replace t0 : inI sock 1 9999 = false := by simpa using t0
      rw [t0]
      have Ht0 := Lib.hid t0
      clear t0
      have c0 := var_cell S.out.2 0
      have c1 := var_cell S.out.2 1
      have c2 := var_cell S.out.2 2
      have c3 := var_cell S.out.2 3
      have c4 := var_cell S.out.2 4
      have c5 := var_cell S.out.2 5
      have c6 := var_cell S.out.2 6
      have c7 := var_cell S.out.2 7
      go_wp2_with fail
      go_ret
      exact ⟨by rw [← HV.out]; first | (simp [akB, akEqB, ByteArray.toList_mk, Ht0.out]; done) | (simp [akB, Ht0.out]; done), S.out.1⟩
  · skip
    obtain ⟨v, hv⟩ : ∃ v, akB ⟨sock, db, 4, ticket, since, q, line, lease⟩ = v := ⟨_, rfl⟩
    rw [hv]
    have HV := Lib.hid hv
    clear hv
    go_enter Try.func40, Try.ntmps40
    go_wp2_with fail
    have S : All (fun w' => Below w.heap.size w w' ∧ w'.heap[w.heap.size]? = some (.cells #[.int .i64 sock, .string db, .int .i64 4, .int .i64 ticket, .int .i64 since, .string q, .int .i64 line, .int .i64 lease] 50 (0, 0))) (w.alloc (.cells #[.int .i64 sock, .string db, .int .i64 4, .int .i64 ticket, .int .i64 since, .string q, .int .i64 line, .int .i64 lease] 50)) := ⟨Later.alloc w _, heap_alloc_new w _⟩
    generalize w.alloc (.cells #[.int .i64 sock, .string db, .int .i64 4, .int .i64 ticket, .int .i64 since, .string q, .int .i64 line, .int .i64 lease] 50) = W0 at S ⊢
    refine (sockNumOk_any sock _).mono ?_
    rintro e w1 ⟨rfl, rfl⟩
    by_cases t0 : inI sock 1 9999 = true
    · rw [t0]
      have Ht0 := Lib.hid t0
      clear t0
      have c0 := var_cell S.out.2 0
      have c1 := var_cell S.out.2 1
      have c2 := var_cell S.out.2 2
      have c3 := var_cell S.out.2 3
      have c4 := var_cell S.out.2 4
      have c5 := var_cell S.out.2 5
      have c6 := var_cell S.out.2 6
      have c7 := var_cell S.out.2 7
      go_wp2_with fail
      clear c0 c1 c2 c3 c4 c5 c6 c7
      refine (nameOk_b (b := nameB db.data.toList) rfl _ hdb).mono ?_
      rintro e W1 ⟨rfl, hb⟩
      replace S := S.later hb
      clear hb
      by_cases t1 : nameB db.data.toList = true
      · rw [t1]
        have Ht1 := Lib.hid t1
        clear t1
        have c0 := var_cell S.out.2 0
        have c1 := var_cell S.out.2 1
        have c2 := var_cell S.out.2 2
        have c3 := var_cell S.out.2 3
        have c4 := var_cell S.out.2 4
        have c5 := var_cell S.out.2 5
        have c6 := var_cell S.out.2 6
        have c7 := var_cell S.out.2 7
        go_wp2_with fail
        clear c0 c1 c2 c3 c4 c5 c6 c7
        refine (sockNumOk_any line _).mono ?_
        rintro e w1 ⟨rfl, rfl⟩
        by_cases t2 : inI line 1 9999 = true
        · rw [t2]
          have Ht2 := Lib.hid t2
          clear t2
          by_cases t3 : ¬ 1 ≤ lease
          · skip
            have zt3 : ¬ 1 ≤ lease := by omega
            have Ht3 := Lib.hid (show decide (1 ≤ lease) = false from by simpa using zt3)
            clear t3
            have c0 := var_cell S.out.2 0
            have c1 := var_cell S.out.2 1
            have c2 := var_cell S.out.2 2
            have c3 := var_cell S.out.2 3
            have c4 := var_cell S.out.2 4
            have c5 := var_cell S.out.2 5
            have c6 := var_cell S.out.2 6
            have c7 := var_cell S.out.2 7
            go_wp2_with fail
            go_ret
            exact ⟨by rw [← HV.out]; first | (simp [akB, akEqB, ByteArray.toList_mk, Ht0.out, Ht1.out, Ht2.out, Ht3.out]; done) | (simp [akB, Ht0.out, Ht1.out, Ht2.out, Ht3.out]; done), S.out.1⟩
          · skip
            have zt3 : 1 ≤ lease := by omega
            have Ht3 := Lib.hid (show decide (1 ≤ lease) = true from by simpa using zt3)
            clear t3
            have G1 := fun a b w => ak_guard .eql a b ⟨sock, db, 4, ticket, since, q, line, lease⟩ ⟨sock, db, 4, 0, 0, ⟨#[]⟩, line, lease⟩ w
            have G2 := fun w => ak_equal ⟨sock, db, 4, ticket, since, q, line, lease⟩ ⟨sock, db, 4, 0, 0, ⟨#[]⟩, line, lease⟩ w
            unfold akC at G1 G2
            obtain ⟨u, hu⟩ : ∃ u, akEqB ⟨sock, db, 4, ticket, since, q, line, lease⟩ ⟨sock, db, 4, 0, 0, ⟨#[]⟩, line, lease⟩ = u := ⟨_, rfl⟩
            rw [hu] at G2
            have HU := Lib.hid hu
            clear hu
            have c0 := var_cell S.out.2 0
            have c1 := var_cell S.out.2 1
            have c2 := var_cell S.out.2 2
            have c3 := var_cell S.out.2 3
            have c4 := var_cell S.out.2 4
            have c5 := var_cell S.out.2 5
            have c6 := var_cell S.out.2 6
            have c7 := var_cell S.out.2 7
            go_wp2_with fail
            go_ret
            exact ⟨by rw [← HV.out, ← HU.out]; simp [akB, Ht0.out, Ht1.out, Ht2.out, Ht3.out], S.out.1⟩
        · replace t2 : inI line 1 9999 = false := by simpa using t2
          rw [t2]
          have Ht2 := Lib.hid t2
          clear t2
          have c0 := var_cell S.out.2 0
          have c1 := var_cell S.out.2 1
          have c2 := var_cell S.out.2 2
          have c3 := var_cell S.out.2 3
          have c4 := var_cell S.out.2 4
          have c5 := var_cell S.out.2 5
          have c6 := var_cell S.out.2 6
          have c7 := var_cell S.out.2 7
          go_wp2_with fail
          go_ret
          exact ⟨by rw [← HV.out]; first | (simp [akB, akEqB, ByteArray.toList_mk, Ht0.out, Ht1.out, Ht2.out]; done) | (simp [akB, Ht0.out, Ht1.out, Ht2.out]; done), S.out.1⟩
      · replace t1 : nameB db.data.toList = false := by simpa using t1
        rw [t1]
        have Ht1 := Lib.hid t1
        clear t1
        have c0 := var_cell S.out.2 0
        have c1 := var_cell S.out.2 1
        have c2 := var_cell S.out.2 2
        have c3 := var_cell S.out.2 3
        have c4 := var_cell S.out.2 4
        have c5 := var_cell S.out.2 5
        have c6 := var_cell S.out.2 6
        have c7 := var_cell S.out.2 7
        go_wp2_with fail
        go_ret
        exact ⟨by rw [← HV.out]; first | (simp [akB, akEqB, ByteArray.toList_mk, Ht0.out, Ht1.out]; done) | (simp [akB, Ht0.out, Ht1.out]; done), S.out.1⟩
    · replace t0 : inI sock 1 9999 = false := by simpa using t0
      rw [t0]
      have Ht0 := Lib.hid t0
      clear t0
      have c0 := var_cell S.out.2 0
      have c1 := var_cell S.out.2 1
      have c2 := var_cell S.out.2 2
      have c3 := var_cell S.out.2 3
      have c4 := var_cell S.out.2 4
      have c5 := var_cell S.out.2 5
      have c6 := var_cell S.out.2 6
      have c7 := var_cell S.out.2 7
      go_wp2_with fail
      go_ret
      exact ⟨by rw [← HV.out]; first | (simp [akB, akEqB, ByteArray.toList_mk, Ht0.out]; done) | (simp [akB, Ht0.out]; done), S.out.1⟩
  · skip
    obtain ⟨v, hv⟩ : ∃ v, akB ⟨sock, db, st, ticket, since, q, line, lease⟩ = v := ⟨_, rfl⟩
    rw [hv]
    have HV := Lib.hid hv
    clear hv
    go_enter Try.func40, Try.ntmps40
    go_wp2_with fail
    have S : All (fun w' => Below w.heap.size w w' ∧ w'.heap[w.heap.size]? = some (.cells #[.int .i64 sock, .string db, .int .i64 st, .int .i64 ticket, .int .i64 since, .string q, .int .i64 line, .int .i64 lease] 50 (0, 0))) (w.alloc (.cells #[.int .i64 sock, .string db, .int .i64 st, .int .i64 ticket, .int .i64 since, .string q, .int .i64 line, .int .i64 lease] 50)) := ⟨Later.alloc w _, heap_alloc_new w _⟩
    generalize w.alloc (.cells #[.int .i64 sock, .string db, .int .i64 st, .int .i64 ticket, .int .i64 since, .string q, .int .i64 line, .int .i64 lease] 50) = W0 at S ⊢
    refine (sockNumOk_any sock _).mono ?_
    rintro e w1 ⟨rfl, rfl⟩
    by_cases t5 : inI sock 1 9999 = true
    · rw [t5]
      have Ht5 := Lib.hid t5
      clear t5
      have c0 := var_cell S.out.2 0
      have c1 := var_cell S.out.2 1
      have c2 := var_cell S.out.2 2
      have c3 := var_cell S.out.2 3
      have c4 := var_cell S.out.2 4
      have c5 := var_cell S.out.2 5
      have c6 := var_cell S.out.2 6
      have c7 := var_cell S.out.2 7
      go_wp2_with fail
      clear c0 c1 c2 c3 c4 c5 c6 c7
      refine (nameOk_b (b := nameB db.data.toList) rfl _ hdb).mono ?_
      rintro e W1 ⟨rfl, hb⟩
      replace S := S.later hb
      clear hb
      by_cases t6 : nameB db.data.toList = true
      · rw [t6]
        have Ht6 := Lib.hid t6
        clear t6
        have c0 := var_cell S.out.2 0
        have c1 := var_cell S.out.2 1
        have c2 := var_cell S.out.2 2
        have c3 := var_cell S.out.2 3
        have c4 := var_cell S.out.2 4
        have c5 := var_cell S.out.2 5
        have c6 := var_cell S.out.2 6
        have c7 := var_cell S.out.2 7
        go_wp2_with fail
        go_ret
        exact ⟨by rw [← HV.out]; first | (simp [akB, akEqB, ByteArray.toList_mk, (show ¬ st = 0 from by simpa using h0), (show ¬ st = 1 from by simpa using h1), (show ¬ st = 2 from by simpa using h2), (show ¬ st = 3 from by simpa using h3), (show ¬ st = 4 from by simpa using h4), Ht5.out, Ht6.out]; done) | (simp [akB, (show ¬ st = 0 from by simpa using h0), (show ¬ st = 1 from by simpa using h1), (show ¬ st = 2 from by simpa using h2), (show ¬ st = 3 from by simpa using h3), (show ¬ st = 4 from by simpa using h4), Ht5.out, Ht6.out]; done), S.out.1⟩
      · replace t6 : nameB db.data.toList = false := by simpa using t6
        rw [t6]
        have Ht6 := Lib.hid t6
        clear t6
        have c0 := var_cell S.out.2 0
        have c1 := var_cell S.out.2 1
        have c2 := var_cell S.out.2 2
        have c3 := var_cell S.out.2 3
        have c4 := var_cell S.out.2 4
        have c5 := var_cell S.out.2 5
        have c6 := var_cell S.out.2 6
        have c7 := var_cell S.out.2 7
        go_wp2_with fail
        go_ret
        exact ⟨by rw [← HV.out]; first | (simp [akB, akEqB, ByteArray.toList_mk, (show ¬ st = 0 from by simpa using h0), (show ¬ st = 1 from by simpa using h1), (show ¬ st = 2 from by simpa using h2), (show ¬ st = 3 from by simpa using h3), (show ¬ st = 4 from by simpa using h4), Ht5.out, Ht6.out]; done) | (simp [akB, (show ¬ st = 0 from by simpa using h0), (show ¬ st = 1 from by simpa using h1), (show ¬ st = 2 from by simpa using h2), (show ¬ st = 3 from by simpa using h3), (show ¬ st = 4 from by simpa using h4), Ht5.out, Ht6.out]; done), S.out.1⟩
    · replace t5 : inI sock 1 9999 = false := by simpa using t5
      rw [t5]
      have Ht5 := Lib.hid t5
      clear t5
      have c0 := var_cell S.out.2 0
      have c1 := var_cell S.out.2 1
      have c2 := var_cell S.out.2 2
      have c3 := var_cell S.out.2 3
      have c4 := var_cell S.out.2 4
      have c5 := var_cell S.out.2 5
      have c6 := var_cell S.out.2 6
      have c7 := var_cell S.out.2 7
      go_wp2_with fail
      go_ret
      exact ⟨by rw [← HV.out]; first | (simp [akB, akEqB, ByteArray.toList_mk, (show ¬ st = 0 from by simpa using h0), (show ¬ st = 1 from by simpa using h1), (show ¬ st = 2 from by simpa using h2), (show ¬ st = 3 from by simpa using h3), (show ¬ st = 4 from by simpa using h4), Ht5.out]; done) | (simp [akB, (show ¬ st = 0 from by simpa using h0), (show ¬ st = 1 from by simpa using h1), (show ¬ st = 2 from by simpa using h2), (show ¬ st = 3 from by simpa using h3), (show ¬ st = 4 from by simpa using h4), Ht5.out]; done), S.out.1⟩

end Go.Proofs.Ytgdhhhibkhfdlaa
