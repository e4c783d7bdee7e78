/- PutItem of the program. (By gen_l9c.py.) -/
import Derived.Test.YtgdhhhibkhfdlaaItemP
import Derived.Test.YtgdhhhibkhfdlaaAskI
namespace Go.Proofs.Ytgdhhhibkhfdlaa
open Go.RowKit
set_option linter.unusedVariables false
set_option linter.unusedSimpArgs false

set_option maxRecDepth 100000 in
set_option maxHeartbeats 8000000 in
theorem putItem_any (x : It) (w : World) (hs : FitsIt x) : Calls Try.prog 34 #[.agg (itC x).toArray] w (RetOwn w (itemB x)) := by
  obtain ⟨L, hL⟩ : ∃ L, itemB x = L := ⟨_, rfl⟩
  have HL := Lib.hid hL
  rw [hL]
  clear hL
  unfold RetOwn itC
  by_cases k1 : x.kind = 1
  · have e1 : (x.kind == 1) = true := by simp [k1]
    have HK := Lib.hid k1
    clear k1
    go_enter Try.func34, Try.ntmps34
    go_wp2_with fail
    have S : All (fun w' => Below w.heap.size w w' ∧ w'.heap[w.heap.size]? = some (.cells #[.int .i64 x.kind, .int .i64 x.a.sock, .string x.a.db, .int .i64 x.a.st, .int .i64 x.a.ticket, .int .i64 x.a.since, .string x.a.q, .int .i64 x.a.line, .int .i64 x.a.lease, .int .i64 x.l.sock, .string x.l.db, .int .i64 x.l.gen, .int .i64 x.l.st, .int .i64 x.l.since, .int .i64 x.l.asker, .int .i64 x.l.lease] 54 (0, 0))) (w.alloc (.cells #[.int .i64 x.kind, .int .i64 x.a.sock, .string x.a.db, .int .i64 x.a.st, .int .i64 x.a.ticket, .int .i64 x.a.since, .string x.a.q, .int .i64 x.a.line, .int .i64 x.a.lease, .int .i64 x.l.sock, .string x.l.db, .int .i64 x.l.gen, .int .i64 x.l.st, .int .i64 x.l.since, .int .i64 x.l.asker, .int .i64 x.l.lease] 54)) := ⟨Later.alloc w _, heap_alloc_new w _⟩
    generalize w.alloc (.cells #[.int .i64 x.kind, .int .i64 x.a.sock, .string x.a.db, .int .i64 x.a.st, .int .i64 x.a.ticket, .int .i64 x.a.since, .string x.a.q, .int .i64 x.a.line, .int .i64 x.a.lease, .int .i64 x.l.sock, .string x.l.db, .int .i64 x.l.gen, .int .i64 x.l.st, .int .i64 x.l.since, .int .i64 x.l.asker, .int .i64 x.l.lease] 54) = W0 at S ⊢
    refine (akB_any x.a W0 hs.1).mono ?_
    rintro e W1 ⟨rfl, hb⟩
    replace S := S.later hb
    clear hb
    cases ta : akB x.a
    · have HA := Lib.hid ta
      clear ta
      obtain rfl : L = [] := by rw [← HL.out]; unfold itemB; rw [if_pos HK.out]; simp [HA.out]
      go_wp2_with fail
      go_ret
      exact ⟨_, rfl, own_empty _ _ S.out.1.size, Later.trans S.out.1 (Later.alloc _ _)⟩
    · have HA := Lib.hid ta
      clear ta
      have G1 := fun a b w => ln_guard .eql a b x.l lnZero w
      have G2 := fun w => ln_equal x.l lnZero w
      obtain ⟨u, hu⟩ : ∃ u, lnEqB x.l lnZero = u := ⟨_, rfl⟩
      rw [hu] at G2
      unfold lnC lnZero at G1 G2
      have HU := Lib.hid hu
      clear hu
      cases u
      · skip
        have c9 := var_cell S.out.2 9
        have c10 := var_cell S.out.2 10
        have c11 := var_cell S.out.2 11
        have c12 := var_cell S.out.2 12
        have c13 := var_cell S.out.2 13
        have c14 := var_cell S.out.2 14
        have c15 := var_cell S.out.2 15
        obtain rfl : L = [] := by rw [← HL.out]; unfold itemB; rw [if_pos HK.out]; simp [HU.out]
        go_wp2_with fail
        go_ret
        exact ⟨_, rfl, own_empty _ _ S.out.1.size, Later.trans S.out.1 (Later.alloc _ _)⟩
      · by_cases tl : x.a.lease ≤ 65535
        · have HT := Lib.hid tl
          have c1 := var_cell S.out.2 1
          have c2 := var_cell S.out.2 2
          have c3 := var_cell S.out.2 3
          have c4 := var_cell S.out.2 4
          have c5 := var_cell S.out.2 5
          have c6 := var_cell S.out.2 6
          have c7 := var_cell S.out.2 7
          have c8 := var_cell S.out.2 8
          have c9 := var_cell S.out.2 9
          have c10 := var_cell S.out.2 10
          have c11 := var_cell S.out.2 11
          have c12 := var_cell S.out.2 12
          have c13 := var_cell S.out.2 13
          have c14 := var_cell S.out.2 14
          have c15 := var_cell S.out.2 15
          go_wp2_with fail
          clear G1 G2 c1 c2 c3 c4 c5 c6 c7 c8 c9 c10 c11 c12 c13 c14 c15
          have hsi := akB_since HA.out
          refine (askerBytes_any x.a W1 hs.1 hsi.1 hsi.2).mono ?_
          rintro e W2 ⟨v, rfl, ho, hb⟩
          obtain rfl : akBytes x.a = L := by rw [← HL.out]; unfold itemB; rw [if_pos HK.out]; rw [if_pos ⟨HA.out, HU.out, HT.out⟩]
          have HO := Lib.hid (show Owns W2 w.heap.size 5 v _ from ownsRow_mono ho S.out.1.size)
          obtain ⟨A, c, rfl, _, _, _, _⟩ := ho.shape
          have hfin := Later.trans S.out.1 hb
          clear ho hb S
          go_wp2_with fail
          go_ret
          exact ⟨_, rfl, HO.out, hfin⟩
        · have HT := Lib.hid tl
          have c1 := var_cell S.out.2 1
          have c2 := var_cell S.out.2 2
          have c3 := var_cell S.out.2 3
          have c4 := var_cell S.out.2 4
          have c5 := var_cell S.out.2 5
          have c6 := var_cell S.out.2 6
          have c7 := var_cell S.out.2 7
          have c8 := var_cell S.out.2 8
          have c9 := var_cell S.out.2 9
          have c10 := var_cell S.out.2 10
          have c11 := var_cell S.out.2 11
          have c12 := var_cell S.out.2 12
          have c13 := var_cell S.out.2 13
          have c14 := var_cell S.out.2 14
          have c15 := var_cell S.out.2 15
          obtain rfl : L = [] := by rw [← HL.out]; unfold itemB; rw [if_pos HK.out]; exact if_neg fun h => HT.out h.2.2
          go_wp2_with fail
          go_ret
          exact ⟨_, rfl, own_empty _ _ S.out.1.size, Later.trans S.out.1 (Later.alloc _ _)⟩
  · have e1 : (x.kind == 1) = false := by simp [k1]
    by_cases k2 : x.kind = 2
    · have e2 : (x.kind == 2) = true := by simp [k2]
      have HK := Lib.hid k2
      have HK1 := Lib.hid k1
      clear k1 k2
      go_enter Try.func34, Try.ntmps34
      go_wp2_with fail
      have S : All (fun w' => Below w.heap.size w w' ∧ w'.heap[w.heap.size]? = some (.cells #[.int .i64 x.kind, .int .i64 x.a.sock, .string x.a.db, .int .i64 x.a.st, .int .i64 x.a.ticket, .int .i64 x.a.since, .string x.a.q, .int .i64 x.a.line, .int .i64 x.a.lease, .int .i64 x.l.sock, .string x.l.db, .int .i64 x.l.gen, .int .i64 x.l.st, .int .i64 x.l.since, .int .i64 x.l.asker, .int .i64 x.l.lease] 54 (0, 0))) (w.alloc (.cells #[.int .i64 x.kind, .int .i64 x.a.sock, .string x.a.db, .int .i64 x.a.st, .int .i64 x.a.ticket, .int .i64 x.a.since, .string x.a.q, .int .i64 x.a.line, .int .i64 x.a.lease, .int .i64 x.l.sock, .string x.l.db, .int .i64 x.l.gen, .int .i64 x.l.st, .int .i64 x.l.since, .int .i64 x.l.asker, .int .i64 x.l.lease] 54)) := ⟨Later.alloc w _, heap_alloc_new w _⟩
      generalize w.alloc (.cells #[.int .i64 x.kind, .int .i64 x.a.sock, .string x.a.db, .int .i64 x.a.st, .int .i64 x.a.ticket, .int .i64 x.a.since, .string x.a.q, .int .i64 x.a.line, .int .i64 x.a.lease, .int .i64 x.l.sock, .string x.l.db, .int .i64 x.l.gen, .int .i64 x.l.st, .int .i64 x.l.since, .int .i64 x.l.asker, .int .i64 x.l.lease] 54) = W0 at S ⊢
      refine (lnB_any x.l W0 hs.2).mono ?_
      rintro e W1 ⟨rfl, hb⟩
      replace S := S.later hb
      clear hb
      cases ta : lnB x.l
      · have HA := Lib.hid ta
        clear ta
        obtain rfl : L = [] := by rw [← HL.out]; unfold itemB; rw [if_neg HK1.out, if_pos HK.out]; simp [HA.out]
        go_wp2_with fail
        go_ret
        exact ⟨_, rfl, own_empty _ _ S.out.1.size, Later.trans S.out.1 (Later.alloc _ _)⟩
      · have HA := Lib.hid ta
        clear ta
        have G1 := fun a b w => ak_guard .eql a b x.a akZero w
        have G2 := fun w => ak_equal x.a akZero w
        obtain ⟨u, hu⟩ : ∃ u, akEqB x.a akZero = u := ⟨_, rfl⟩
        rw [hu] at G2
        unfold akC akZero at G1 G2
        have HU := Lib.hid hu
        clear hu
        cases u
        · skip
          have c1 := var_cell S.out.2 1
          have c2 := var_cell S.out.2 2
          have c3 := var_cell S.out.2 3
          have c4 := var_cell S.out.2 4
          have c5 := var_cell S.out.2 5
          have c6 := var_cell S.out.2 6
          have c7 := var_cell S.out.2 7
          have c8 := var_cell S.out.2 8
          obtain rfl : L = [] := by rw [← HL.out]; unfold itemB; rw [if_neg HK1.out, if_pos HK.out]; simp [HU.out]
          go_wp2_with fail
          go_ret
          exact ⟨_, rfl, own_empty _ _ S.out.1.size, Later.trans S.out.1 (Later.alloc _ _)⟩
        · by_cases tl : x.l.lease ≤ 65535
          · have HT := Lib.hid tl
            have c1 := var_cell S.out.2 1
            have c2 := var_cell S.out.2 2
            have c3 := var_cell S.out.2 3
            have c4 := var_cell S.out.2 4
            have c5 := var_cell S.out.2 5
            have c6 := var_cell S.out.2 6
            have c7 := var_cell S.out.2 7
            have c8 := var_cell S.out.2 8
            have c9 := var_cell S.out.2 9
            have c10 := var_cell S.out.2 10
            have c11 := var_cell S.out.2 11
            have c12 := var_cell S.out.2 12
            have c13 := var_cell S.out.2 13
            have c14 := var_cell S.out.2 14
            have c15 := var_cell S.out.2 15
            go_wp2_with fail
            clear G1 G2 c1 c2 c3 c4 c5 c6 c7 c8 c9 c10 c11 c12 c13 c14 c15
            have hsi := lnB_since HA.out
            refine (lineBytes_any x.l W1 hs.2 hsi.1 hsi.2).mono ?_
            rintro e W2 ⟨v, rfl, ho, hb⟩
            obtain rfl : lnBytes x.l = L := by rw [← HL.out]; unfold itemB; rw [if_neg HK1.out, if_pos HK.out]; rw [if_pos ⟨HA.out, HU.out, HT.out⟩]
            have HO := Lib.hid (show Owns W2 w.heap.size 5 v _ from ownsRow_mono ho S.out.1.size)
            obtain ⟨A, c, rfl, _, _, _, _⟩ := ho.shape
            have hfin := Later.trans S.out.1 hb
            clear ho hb S
            go_wp2_with fail
            go_ret
            exact ⟨_, rfl, HO.out, hfin⟩
          · have HT := Lib.hid tl
            have c1 := var_cell S.out.2 1
            have c2 := var_cell S.out.2 2
            have c3 := var_cell S.out.2 3
            have c4 := var_cell S.out.2 4
            have c5 := var_cell S.out.2 5
            have c6 := var_cell S.out.2 6
            have c7 := var_cell S.out.2 7
            have c8 := var_cell S.out.2 8
            have c9 := var_cell S.out.2 9
            have c10 := var_cell S.out.2 10
            have c11 := var_cell S.out.2 11
            have c12 := var_cell S.out.2 12
            have c13 := var_cell S.out.2 13
            have c14 := var_cell S.out.2 14
            have c15 := var_cell S.out.2 15
            obtain rfl : L = [] := by rw [← HL.out]; unfold itemB; rw [if_neg HK1.out, if_pos HK.out]; exact if_neg fun h => HT.out h.2.2
            go_wp2_with fail
            go_ret
            exact ⟨_, rfl, own_empty _ _ S.out.1.size, Later.trans S.out.1 (Later.alloc _ _)⟩
    · have e2 : (x.kind == 2) = false := by simp [k2]
      have HK1 := Lib.hid k1
      have HK2 := Lib.hid k2
      clear k1 k2
      obtain rfl : L = [] := by rw [← HL.out]; unfold itemB; rw [if_neg HK1.out, if_neg HK2.out]
      go_enter Try.func34, Try.ntmps34
      go_wp2_with fail
      go_ret
      have hse : (w.alloc (.cells #[.int .i64 x.kind, .int .i64 x.a.sock, .string x.a.db, .int .i64 x.a.st, .int .i64 x.a.ticket, .int .i64 x.a.since, .string x.a.q, .int .i64 x.a.line, .int .i64 x.a.lease, .int .i64 x.l.sock, .string x.l.db, .int .i64 x.l.gen, .int .i64 x.l.st, .int .i64 x.l.since, .int .i64 x.l.asker, .int .i64 x.l.lease] 54)).heap.size = w.heap.size + 1 := by simp
      have ho := own_empty (w.alloc (.cells #[.int .i64 x.kind, .int .i64 x.a.sock, .string x.a.db, .int .i64 x.a.st, .int .i64 x.a.ticket, .int .i64 x.a.since, .string x.a.q, .int .i64 x.a.line, .int .i64 x.a.lease, .int .i64 x.l.sock, .string x.l.db, .int .i64 x.l.gen, .int .i64 x.l.st, .int .i64 x.l.since, .int .i64 x.l.asker, .int .i64 x.l.lease] 54)) w.heap.size (Later.alloc w _).size
      rw [hse] at ho
      exact ⟨_, rfl, ho, Later.trans (Later.alloc w _) (Later.alloc _ _)⟩
end Go.Proofs.Ytgdhhhibkhfdlaa
