/- PutItem of the model. (By gen_l9d.py.) -/
import Derived.Test.YtgdhhhibkhfdlaaItemP
import Derived.Test.YtgdhhhibkhfdlaaAskS
import Derived.Test.YtgdhhhibkhfdlaaLexG
import Derived.Deep.Cut
namespace Go.Proofs.Ytgdhhhibkhfdlaa
open Go.RowKit
set_option linter.unusedVariables false
set_option linter.unusedSimpArgs false

set_option maxRecDepth 100000 in
set_option maxHeartbeats 16000000 in
theorem putItemS_any (x : It) (w : World) (hs : FitsIt x) : Calls Try.prog 44 #[.agg (itC x).toArray] w (RetOwn w (itemB x)) := by
  obtain ⟨LL, hL⟩ : ∃ L, itemB x = L := ⟨_, rfl⟩
  have HL := Lib.hid hL
  rw [hL]
  clear hL
  obtain ⟨i0, hi0, hz0, hz1, hz2⟩ := info_parts Try.info8
  have hdb : x.a.db.size ≤ 1048576 := hs.1.1
  have hq : x.a.q.size ≤ 1048576 := hs.1.2
  have hldb : x.l.db.size ≤ 1048576 := hs.2
  unfold RetOwn itC
  by_cases k1 : x.kind = 1
  · have e1 : (x.kind == 1) = true := by simp [k1]
    have HK := Lib.hid k1
    clear k1
    go_enter Try.func44, Try.ntmps44
    go_wp2_with fail
    have S : All (fun w' => Below w.heap.size w w' ∧ w'.heap[w.heap.size]? = some (.cells #[.int .i64 x.kind, .int .i64 x.a.sock, .string x.a.db, .int .i64 x.a.st, .int .i64 x.a.ticket, .int .i64 x.a.since, .string x.a.q, .int .i64 x.a.line, .int .i64 x.a.lease, .int .i64 x.l.sock, .string x.l.db, .int .i64 x.l.gen, .int .i64 x.l.st, .int .i64 x.l.since, .int .i64 x.l.asker, .int .i64 x.l.lease] 54 (0, 0)) ∧ w'.heap[w.heap.size + 1]? = some (.cells #[.int .i64 x.a.sock, .string x.a.db, .int .i64 x.a.st, .int .i64 x.a.ticket, .int .i64 x.a.since, .string x.a.q, .int .i64 x.a.line, .int .i64 x.a.lease] 50 (0, 0))) ((w.alloc (.cells #[.int .i64 x.kind, .int .i64 x.a.sock, .string x.a.db, .int .i64 x.a.st, .int .i64 x.a.ticket, .int .i64 x.a.since, .string x.a.q, .int .i64 x.a.line, .int .i64 x.a.lease, .int .i64 x.l.sock, .string x.l.db, .int .i64 x.l.gen, .int .i64 x.l.st, .int .i64 x.l.since, .int .i64 x.l.asker, .int .i64 x.l.lease] 54)).alloc (.cells #[.int .i64 x.a.sock, .string x.a.db, .int .i64 x.a.st, .int .i64 x.a.ticket, .int .i64 x.a.since, .string x.a.q, .int .i64 x.a.line, .int .i64 x.a.lease] 50)) := ⟨Later.trans (Later.alloc w _) (Later.alloc _ _), ((Later.alloc _ _).block _ (by simp)).trans (heap_alloc_new w _), heap_alloc_new' _ _ (by simp)⟩
    generalize (w.alloc (.cells #[.int .i64 x.kind, .int .i64 x.a.sock, .string x.a.db, .int .i64 x.a.st, .int .i64 x.a.ticket, .int .i64 x.a.since, .string x.a.q, .int .i64 x.a.line, .int .i64 x.a.lease, .int .i64 x.l.sock, .string x.l.db, .int .i64 x.l.gen, .int .i64 x.l.st, .int .i64 x.l.since, .int .i64 x.l.asker, .int .i64 x.l.lease] 54)).alloc (.cells #[.int .i64 x.a.sock, .string x.a.db, .int .i64 x.a.st, .int .i64 x.a.ticket, .int .i64 x.a.since, .string x.a.q, .int .i64 x.a.line, .int .i64 x.a.lease] 50) = W0 at S ⊢
    refine (akBS_any x.a W0 hs.1).mono ?_
    rintro e W1 ⟨rfl, hb⟩
    replace S := S.later hb
    clear hb
    cases ta : akB x.a
    · have HA := Lib.hid ta
      clear ta
      obtain rfl : LL = [] := by rw [← HL.out]; unfold itemB; rw [if_pos HK.out]; simp [HA.out]
      go_wp2_with fail
      go_ret
      exact ⟨_, rfl, own_empty _ _ S.out.1.size, Later.trans S.out.1 (Later.alloc _ _)⟩
    · have HA := Lib.hid ta
      clear ta
      have G1 := fun a b w => ln_guard .neq a b x.l lnZero w
      have G2 := fun w => ln_equal x.l lnZero w
      obtain ⟨u, hu⟩ : ∃ u, lnEqB x.l lnZero = u := ⟨_, rfl⟩
      rw [hu] at G2
      unfold lnC lnZero at G1 G2
      have HU := Lib.hid hu
      clear hu
      cases u
      · skip
        have c9 := var_cell S.out.2.1 9
        have c10 := var_cell S.out.2.1 10
        have c11 := var_cell S.out.2.1 11
        have c12 := var_cell S.out.2.1 12
        have c13 := var_cell S.out.2.1 13
        have c14 := var_cell S.out.2.1 14
        have c15 := var_cell S.out.2.1 15
        obtain rfl : LL = [] := by rw [← HL.out]; unfold itemB; rw [if_pos HK.out]; simp [HU.out]
        go_wp2_with fail
        go_ret
        exact ⟨_, rfl, own_empty _ _ S.out.1.size, Later.trans S.out.1 (Later.alloc _ _)⟩
      · by_cases tl : x.a.lease ≤ 65535
        · have HT := Lib.hid tl
          have hsi := akB_since HA.out
          have hs0 := hsi.1
          have hs1 := hsi.2
          clear hsi
          have HLL := Lib.hid ((ak_chain x.a).trans (show akBytes x.a = LL by rw [← HL.out]; unfold itemB; rw [if_pos HK.out, if_pos ⟨HA.out, HU.out, HT.out⟩]))
          have c9 := var_cell S.out.2.1 9
          have c10 := var_cell S.out.2.1 10
          have c11 := var_cell S.out.2.1 11
          have c12 := var_cell S.out.2.1 12
          have c13 := var_cell S.out.2.1 13
          have c14 := var_cell S.out.2.1 14
          have c15 := var_cell S.out.2.1 15
          have d7 := var_cell S.out.2.2 7
          go_upto_region 5 with (fail)
          clear G1 G2 d7 c9 c10 c11 c12 c13 c14 c15
          replace S : All (fun w' => Below w.heap.size w w' ∧ w'.heap[w.heap.size + 1]? = some (.cells #[.int .i64 x.a.sock, .string x.a.db, .int .i64 x.a.st, .int .i64 x.a.ticket, .int .i64 x.a.since, .string x.a.q, .int .i64 x.a.line, .int .i64 x.a.lease] 50 (0, 0))) W1 := ⟨S.out.1, S.out.2.2⟩
          have HBXp := Lib.hid (And.intro S.out.2 (Array.getElem?_eq_some_iff.1 S.out.2).1)
          have HSp := Lib.hid S.out.1
          go_cut [4] from 27 (fun v W' => ∃ (A : Option Addr) (c : Nat) (l : List UInt8), v = .slice A l.length c ∧ Hid (l = ptB (([u8 1] ++ wordBytes x.a.sock) ++ [u8 x.a.st]) x.a.db.data.toList) ∧ Hid (l.length ≤ 105) ∧ Reads W' W'.heap.size 1 A l.length (bys l) ∧ Below w.heap.size w W' ∧ W'.heap[w.heap.size + 1]? = some (.cells #[.int .i64 x.a.sock, .string x.a.db, .int .i64 x.a.st, .int .i64 x.a.ticket, .int .i64 x.a.since, .string x.a.q, .int .i64 x.a.line, .int .i64 x.a.lease] 50 (0, 0)))
          case first =>
            rename_i J K1 hJ hK
            have T : All (fun w' => Below W1.heap.size W1 w' ∧ (w'.heap[w.heap.size + 1]? = some (.cells #[.int .i64 x.a.sock, .string x.a.db, .int .i64 x.a.st, .int .i64 x.a.ticket, .int .i64 x.a.since, .string x.a.q, .int .i64 x.a.line, .int .i64 x.a.lease] 50 (0, 0)))) W1 := ⟨Below.refl _ _, S.out.2⟩
            clear S
            refine wp_region_open 100 (fun w' => w'.heap[w.heap.size + 1]? = some (.cells #[.int .i64 x.a.sock, .string x.a.db, .int .i64 x.a.st, .int .i64 x.a.ticket, .int .i64 x.a.since, .string x.a.q, .int .i64 x.a.line, .int .i64 x.a.lease] 50 (0, 0))) (by kernel_rfl) ?_
            replace T := T.drew
            generalize W1.drew = Vdp at T  ⊢
            refine wpAnyL_readsG [1, 2, 4, 5, 6, 9, 10] (fuel := 6) (by kernel_rfl) T.out.2 ?_
            refine LexRG.yes rfl (by first | rfl | (simp [Region.wanted, yielded]; done)) ?_ (fun w' hw => ?_) ?_
            rotate_left
            focus (clear hw; go_simp; (try exact rfl))
            try go_frame
            refine LexRG.yes rfl (by first | rfl | (simp [Region.wanted, yielded]; done)) ?_ (fun w' hw => ?_) ?_
            rotate_left
            focus (have c0 := var_cell hw 0; have c1 := var_cell hw 1; have c2 := var_cell hw 2; have c3 := var_cell hw 3; have c4 := var_cell hw 4; have c5 := var_cell hw 5; have c6 := var_cell hw 6; have c7 := var_cell hw 7; clear hw; go_simp; (try exact rfl))
            try go_frame
            refine LexRG.yes rfl (by first | rfl | (simp [Region.wanted, yielded]; done)) ?_ (fun w' hw => ?_) ?_
            rotate_left
            focus (clear hw; go_simp; (try exact rfl))
            try go_frame
            refine LexRG.yes rfl (by first | rfl | (simp [Region.wanted, yielded]; done)) ?_ (fun w' hw => ?_) ?_
            rotate_left
            focus (have c0 := var_cell hw 0; have c1 := var_cell hw 1; have c2 := var_cell hw 2; have c3 := var_cell hw 3; have c4 := var_cell hw 4; have c5 := var_cell hw 5; have c6 := var_cell hw 6; have c7 := var_cell hw 7; clear hw; go_simp; (try exact rfl))
            try go_frame
            refine LexRG.yes rfl (by first | rfl | (simp [Region.wanted, yielded]; done)) ?_ (fun w' hw => ?_) ?_
            rotate_left
            focus (clear hw; go_simp; (try exact rfl))
            try go_frame
            refine LexRG.yes rfl (by first | rfl | (simp [Region.wanted, yielded]; done)) ?_ (fun w' hw => ?_) ?_
            rotate_left
            focus (clear hw; go_simp; (try exact rfl))
            try go_frame
            refine LexRG.yes rfl (by first | rfl | (simp [Region.wanted, yielded]; done)) ?_ (fun w' hw => ?_) ?_
            rotate_left
            focus (have c0 := var_cell hw 0; have c1 := var_cell hw 1; have c2 := var_cell hw 2; have c3 := var_cell hw 3; have c4 := var_cell hw 4; have c5 := var_cell hw 5; have c6 := var_cell hw 6; have c7 := var_cell hw 7; clear hw; go_simp; (try exact rfl))
            try go_frame
            refine LexRG.nil ?_
            refine wpAnyL_two (i := 0) (j := 7) (by kernel_rfl) ?_ ?_
            · skip
              refine lexA_get rfl ?_
              try go_frame
              go_wp2_with fail
              have hT9 := T
              replace T := T.alloc (.cells #[.int .u8 1] 5)
              clear hT9
              have rp0 : Reads (Vdp.alloc (.cells #[.int .u8 1] 5)) (Vdp.alloc (.cells #[.int .u8 1] 5)).heap.size 1 (some ⟨Vdp.heap.size, 0, none⟩) 1 (bys [u8 1]) := reads_new Vdp #[.int .u8 1] 1 5 rfl (by simp [maxLen])
              have ha := Later.alloc Vdp (.cells #[.int .u8 1] 5)
              try (replace rup := (rup.below ha).more ha.size)
              clear ha
              obtain ⟨Vp0, hVV⟩ : ∃ V, Vdp.alloc (.cells #[.int .u8 1] 5) = V := ⟨_, rfl⟩
              rw [hVV] at T rp0 ⊢
              try rw [hVV] at rup
              clear hVV
              obtain ⟨Gp0, hGG⟩ : ∃ G, (some ⟨Vdp.heap.size, 0, none⟩ : Option Addr) = G := ⟨_, rfl⟩
              rw [hGG] at rp0 ⊢
              clear hGG
              refine ⟨fun _ => T.out.2, ?_⟩
              refine wpAnyL_two (i := 3) (j := 7) (by kernel_rfl) ?_ ?_
              · skip
                refine lexA_get rfl ?_
                try go_frame
                go_wp2_with fail
                refine (putWordS_any Gp0 1 (x.a.sock) ([u8 1]) Vp0 rp0 (by simp)).mono ?_
                rintro e V1 ⟨v, rfl, oo, hb⟩
                have op3 := ownsRow_mono oo T.out.1.size
                clear oo
                have Bp3 := Lib.hid (show ([u8 1] ++ wordBytes (x.a.sock)).length ≤ 3 by simp [wordBytes])
                have op3x : Owns _ W1.heap.size 5 v ([u8 1] ++ wordBytes (x.a.sock)) := op3
                clear op3
                obtain ⟨Lp3, hl⟩ : ∃ L, [u8 1] ++ wordBytes (x.a.sock) = L := ⟨_, rfl⟩
                rw [hl] at op3x Bp3
                have Ep3 := Lib.hid hl
                clear hl
                obtain ⟨Ap3, cp3, rfl, _, _, rp3, _⟩ := Owns.shape op3x
                try (replace rup := (rup.below hb).more hb.size)
                clear rp0
                replace T := T.later hb
                clear hb
                go_wp2_with fail
                refine ⟨fun _ => T.out.2, ?_⟩
                refine wpAnyL_one (i := 7) (by kernel_rfl) ?_
                refine lexA_get rfl ?_
                try go_frame
                go_wp2_with fail
                replace T := T.alloc (.cells #[.int .u8 (x.a.st % 256)] 5)
                have rup := one_u8 V1 (x.a.st)
                have ha := Later.alloc V1 (.cells #[.int .u8 (x.a.st % 256)] 5)
                try (replace rp0 := (rp0.below ha).more ha.size)
                try (replace rp3 := (rp3.below ha).more ha.size)
                try (replace rp11 := (rp11.below ha).more ha.size)
                try (replace op3x := op3x.keep ha)
                try (replace op11x := op11x.keep ha)
                clear ha
                obtain ⟨Vup, hVV⟩ : ∃ V, V1.alloc (.cells #[.int .u8 (x.a.st % 256)] 5) = V := ⟨_, rfl⟩
                rw [hVV] at T rup ⊢
                try rw [hVV] at rp0
                try rw [hVV] at rp3
                try rw [hVV] at rp11
                try rw [hVV] at op3x
                try rw [hVV] at op11x
                clear hVV
                obtain ⟨Gup, hGG⟩ : ∃ G, (some ⟨V1.heap.size, 0, none⟩ : Option Addr) = G := ⟨_, rfl⟩
                rw [hGG] at rup ⊢
                clear hGG
                refine ⟨fun _ => T.out.2, ?_⟩
                refine wpAnyL_one (i := 8) (by kernel_rfl) ?_
                refine lexA_get rfl ?_
                try go_frame
                refine wpList_append_any _ rfl (.tmp 30) (.tmp 34) _ rfl W1.heap.size 5 i0 _ 1 1 Try.underlying22 hi0 hz0 hz1 hz2 rfl (by omega) (.slice Ap3 Lp3.length cp3) Lp3.length (bys Lp3) rfl op3x Vup.heap.size Gup 1 1 (bys [u8 (x.a.st)]) rfl rup (bys_one _) (by have := Bp3.out; simp only [maxLen]; omega) (by have := Bp3.out; omega) T.out.1.size ?_
                intro v Vp8 on hg _
                have op8 : Owns Vp8 W1.heap.size 5 v (Lp3 ++ [u8 (x.a.st)]) := by unfold Owns; rw [bys_append, List.length_append]; exact on
                have hbn : Below W1.heap.size W1 Vp8 := T.out.1.grown hg T.out.1.size (fun k hk => (op3x.lt k hk).1)
                clear on hg op3x rp3 rup T
                have T : All (fun w' => Below W1.heap.size W1 w' ∧ w'.heap[w.heap.size + 1]? = some (.cells #[.int .i64 x.a.sock, .string x.a.db, .int .i64 x.a.st, .int .i64 x.a.ticket, .int .i64 x.a.since, .string x.a.q, .int .i64 x.a.line, .int .i64 x.a.lease] 50 (0, 0))) Vp8 := ⟨hbn, (hbn.block _ HBXp.out.2).trans HBXp.out.1⟩
                clear hbn
                have Bp8 := Lib.hid (show (Lp3 ++ [u8 (x.a.st)]).length ≤ 4 by have := Bp3.out; simp; omega)
                obtain ⟨Lp8, hl⟩ : ∃ L, Lp3 ++ [u8 (x.a.st)] = L := ⟨_, rfl⟩
                rw [hl] at op8 Bp8
                have Ep8 := Lib.hid hl
                clear hl
                obtain ⟨Ap8, cp8, rfl, _, _, rp8, _⟩ := Owns.shape op8
                go_wp2_with fail
                refine ⟨fun _ => T.out.2, ?_⟩
                refine wpAnyL_one (i := 11) (by kernel_rfl) ?_
                refine lexA_get rfl ?_
                try go_frame
                go_wp2_with fail
                refine (putTextS_any Ap8 cp8 x.a.db Lp8 Vp8 rp8 (by have := Bp8.out; omega) (by omega)).mono ?_
                rintro e V2 ⟨v, rfl, oo, hb⟩
                have op11 := ownsRow_mono oo T.out.1.size
                clear oo
                have Bp11 := Lib.hid (show (ptB Lp8 x.a.db.data.toList).length ≤ 105 by have := Bp8.out; have := ptB_len Lp8 x.a.db.data.toList; omega)
                have op11x : Owns _ W1.heap.size 5 v (ptB Lp8 x.a.db.data.toList) := op11
                clear op11
                obtain ⟨Lp11, hl⟩ : ∃ L, ptB Lp8 x.a.db.data.toList = L := ⟨_, rfl⟩
                rw [hl] at op11x Bp11
                have Ep11 := Lib.hid hl
                clear hl
                obtain ⟨Ap11, cp11, rfl, _, _, rp11, _⟩ := Owns.shape op11x
                try (replace rup := (rup.below hb).more hb.size)
                clear rp8
                replace T := T.later hb
                clear hb
                go_wp2_with fail
                refine ⟨fun _ => T.out.2, ?_⟩
                refine wpAnyL_writes [12] (by kernel_rfl) (LexW.cons rfl ?_)
                try go_frame
                go_wp2_with fail
                refine ⟨fun _ => T.out.2, LexW.nil ?_⟩
                refine hK _ _ (Met.intro (hJ _ _ ?_))
                (repeat apply Exists.intro)
                refine ⟨?_, rfl⟩
                exact ⟨Ap11, cp11, Lp11, rfl, Lib.hid (by rw [← Ep11.out, ← Ep8.out, ← Ep3.out]), Bp11, rp11, Later.trans HSp.out T.out.1, T.out.2⟩
              · skip
                refine lexA_get rfl ?_
                try go_frame
                go_wp2_with fail
                replace T := T.alloc (.cells #[.int .u8 (x.a.st % 256)] 5)
                have rup := one_u8 Vp0 (x.a.st)
                have ha := Later.alloc Vp0 (.cells #[.int .u8 (x.a.st % 256)] 5)
                try (replace rp0 := (rp0.below ha).more ha.size)
                try (replace rp3 := (rp3.below ha).more ha.size)
                try (replace rp11 := (rp11.below ha).more ha.size)
                try (replace op3x := op3x.keep ha)
                try (replace op11x := op11x.keep ha)
                clear ha
                obtain ⟨Vup, hVV⟩ : ∃ V, Vp0.alloc (.cells #[.int .u8 (x.a.st % 256)] 5) = V := ⟨_, rfl⟩
                rw [hVV] at T rup ⊢
                try rw [hVV] at rp0
                try rw [hVV] at rp3
                try rw [hVV] at rp11
                try rw [hVV] at op3x
                try rw [hVV] at op11x
                clear hVV
                obtain ⟨Gup, hGG⟩ : ∃ G, (some ⟨Vp0.heap.size, 0, none⟩ : Option Addr) = G := ⟨_, rfl⟩
                rw [hGG] at rup ⊢
                clear hGG
                refine ⟨fun _ => T.out.2, ?_⟩
                refine wpAnyL_one (i := 3) (by kernel_rfl) ?_
                refine lexA_get rfl ?_
                try go_frame
                go_wp2_with fail
                refine (putWordS_any Gp0 1 (x.a.sock) ([u8 1]) Vup rp0 (by simp)).mono ?_
                rintro e V3 ⟨v, rfl, oo, hb⟩
                have op3 := ownsRow_mono oo T.out.1.size
                clear oo
                have Bp3 := Lib.hid (show ([u8 1] ++ wordBytes (x.a.sock)).length ≤ 3 by simp [wordBytes])
                have op3x : Owns _ W1.heap.size 5 v ([u8 1] ++ wordBytes (x.a.sock)) := op3
                clear op3
                obtain ⟨Lp3, hl⟩ : ∃ L, [u8 1] ++ wordBytes (x.a.sock) = L := ⟨_, rfl⟩
                rw [hl] at op3x Bp3
                have Ep3 := Lib.hid hl
                clear hl
                obtain ⟨Ap3, cp3, rfl, _, _, rp3, _⟩ := Owns.shape op3x
                try (replace rup := (rup.below hb).more hb.size)
                clear rp0
                replace T := T.later hb
                clear hb
                go_wp2_with fail
                refine ⟨fun _ => T.out.2, ?_⟩
                refine wpAnyL_one (i := 8) (by kernel_rfl) ?_
                refine lexA_get rfl ?_
                try go_frame
                refine wpList_append_any _ rfl (.tmp 30) (.tmp 34) _ rfl W1.heap.size 5 i0 _ 1 1 Try.underlying22 hi0 hz0 hz1 hz2 rfl (by omega) (.slice Ap3 Lp3.length cp3) Lp3.length (bys Lp3) rfl op3x V3.heap.size Gup 1 1 (bys [u8 (x.a.st)]) rfl rup (bys_one _) (by have := Bp3.out; simp only [maxLen]; omega) (by have := Bp3.out; omega) T.out.1.size ?_
                intro v Vp8 on hg _
                have op8 : Owns Vp8 W1.heap.size 5 v (Lp3 ++ [u8 (x.a.st)]) := by unfold Owns; rw [bys_append, List.length_append]; exact on
                have hbn : Below W1.heap.size W1 Vp8 := T.out.1.grown hg T.out.1.size (fun k hk => (op3x.lt k hk).1)
                clear on hg op3x rp3 rup T
                have T : All (fun w' => Below W1.heap.size W1 w' ∧ w'.heap[w.heap.size + 1]? = some (.cells #[.int .i64 x.a.sock, .string x.a.db, .int .i64 x.a.st, .int .i64 x.a.ticket, .int .i64 x.a.since, .string x.a.q, .int .i64 x.a.line, .int .i64 x.a.lease] 50 (0, 0))) Vp8 := ⟨hbn, (hbn.block _ HBXp.out.2).trans HBXp.out.1⟩
                clear hbn
                have Bp8 := Lib.hid (show (Lp3 ++ [u8 (x.a.st)]).length ≤ 4 by have := Bp3.out; simp; omega)
                obtain ⟨Lp8, hl⟩ : ∃ L, Lp3 ++ [u8 (x.a.st)] = L := ⟨_, rfl⟩
                rw [hl] at op8 Bp8
                have Ep8 := Lib.hid hl
                clear hl
                obtain ⟨Ap8, cp8, rfl, _, _, rp8, _⟩ := Owns.shape op8
                go_wp2_with fail
                refine ⟨fun _ => T.out.2, ?_⟩
                refine wpAnyL_one (i := 11) (by kernel_rfl) ?_
                refine lexA_get rfl ?_
                try go_frame
                go_wp2_with fail
                refine (putTextS_any Ap8 cp8 x.a.db Lp8 Vp8 rp8 (by have := Bp8.out; omega) (by omega)).mono ?_
                rintro e V4 ⟨v, rfl, oo, hb⟩
                have op11 := ownsRow_mono oo T.out.1.size
                clear oo
                have Bp11 := Lib.hid (show (ptB Lp8 x.a.db.data.toList).length ≤ 105 by have := Bp8.out; have := ptB_len Lp8 x.a.db.data.toList; omega)
                have op11x : Owns _ W1.heap.size 5 v (ptB Lp8 x.a.db.data.toList) := op11
                clear op11
                obtain ⟨Lp11, hl⟩ : ∃ L, ptB Lp8 x.a.db.data.toList = L := ⟨_, rfl⟩
                rw [hl] at op11x Bp11
                have Ep11 := Lib.hid hl
                clear hl
                obtain ⟨Ap11, cp11, rfl, _, _, rp11, _⟩ := Owns.shape op11x
                try (replace rup := (rup.below hb).more hb.size)
                clear rp8
                replace T := T.later hb
                clear hb
                go_wp2_with fail
                refine ⟨fun _ => T.out.2, ?_⟩
                refine wpAnyL_writes [12] (by kernel_rfl) (LexW.cons rfl ?_)
                try go_frame
                go_wp2_with fail
                refine ⟨fun _ => T.out.2, LexW.nil ?_⟩
                refine hK _ _ (Met.intro (hJ _ _ ?_))
                (repeat apply Exists.intro)
                refine ⟨?_, rfl⟩
                exact ⟨Ap11, cp11, Lp11, rfl, Lib.hid (by rw [← Ep11.out, ← Ep8.out, ← Ep3.out]), Bp11, rp11, Later.trans HSp.out T.out.1, T.out.2⟩
            · skip
              refine lexA_get rfl ?_
              try go_frame
              go_wp2_with fail
              replace T := T.alloc (.cells #[.int .u8 (x.a.st % 256)] 5)
              have rup := one_u8 Vdp (x.a.st)
              have ha := Later.alloc Vdp (.cells #[.int .u8 (x.a.st % 256)] 5)
              try (replace rp0 := (rp0.below ha).more ha.size)
              try (replace rp3 := (rp3.below ha).more ha.size)
              try (replace rp11 := (rp11.below ha).more ha.size)
              try (replace op3x := op3x.keep ha)
              try (replace op11x := op11x.keep ha)
              clear ha
              obtain ⟨Vup, hVV⟩ : ∃ V, Vdp.alloc (.cells #[.int .u8 (x.a.st % 256)] 5) = V := ⟨_, rfl⟩
              rw [hVV] at T rup ⊢
              try rw [hVV] at rp0
              try rw [hVV] at rp3
              try rw [hVV] at rp11
              try rw [hVV] at op3x
              try rw [hVV] at op11x
              clear hVV
              obtain ⟨Gup, hGG⟩ : ∃ G, (some ⟨Vdp.heap.size, 0, none⟩ : Option Addr) = G := ⟨_, rfl⟩
              rw [hGG] at rup ⊢
              clear hGG
              refine ⟨fun _ => T.out.2, ?_⟩
              refine wpAnyL_one (i := 0) (by kernel_rfl) ?_
              refine lexA_get rfl ?_
              try go_frame
              go_wp2_with fail
              have hT9 := T
              replace T := T.alloc (.cells #[.int .u8 1] 5)
              clear hT9
              have rp0 : Reads (Vup.alloc (.cells #[.int .u8 1] 5)) (Vup.alloc (.cells #[.int .u8 1] 5)).heap.size 1 (some ⟨Vup.heap.size, 0, none⟩) 1 (bys [u8 1]) := reads_new Vup #[.int .u8 1] 1 5 rfl (by simp [maxLen])
              have ha := Later.alloc Vup (.cells #[.int .u8 1] 5)
              try (replace rup := (rup.below ha).more ha.size)
              clear ha
              obtain ⟨Vp0, hVV⟩ : ∃ V, Vup.alloc (.cells #[.int .u8 1] 5) = V := ⟨_, rfl⟩
              rw [hVV] at T rp0 ⊢
              try rw [hVV] at rup
              clear hVV
              obtain ⟨Gp0, hGG⟩ : ∃ G, (some ⟨Vup.heap.size, 0, none⟩ : Option Addr) = G := ⟨_, rfl⟩
              rw [hGG] at rp0 ⊢
              clear hGG
              refine ⟨fun _ => T.out.2, ?_⟩
              refine wpAnyL_one (i := 3) (by kernel_rfl) ?_
              refine lexA_get rfl ?_
              try go_frame
              go_wp2_with fail
              refine (putWordS_any Gp0 1 (x.a.sock) ([u8 1]) Vp0 rp0 (by simp)).mono ?_
              rintro e V5 ⟨v, rfl, oo, hb⟩
              have op3 := ownsRow_mono oo T.out.1.size
              clear oo
              have Bp3 := Lib.hid (show ([u8 1] ++ wordBytes (x.a.sock)).length ≤ 3 by simp [wordBytes])
              have op3x : Owns _ W1.heap.size 5 v ([u8 1] ++ wordBytes (x.a.sock)) := op3
              clear op3
              obtain ⟨Lp3, hl⟩ : ∃ L, [u8 1] ++ wordBytes (x.a.sock) = L := ⟨_, rfl⟩
              rw [hl] at op3x Bp3
              have Ep3 := Lib.hid hl
              clear hl
              obtain ⟨Ap3, cp3, rfl, _, _, rp3, _⟩ := Owns.shape op3x
              try (replace rup := (rup.below hb).more hb.size)
              clear rp0
              replace T := T.later hb
              clear hb
              go_wp2_with fail
              refine ⟨fun _ => T.out.2, ?_⟩
              refine wpAnyL_one (i := 8) (by kernel_rfl) ?_
              refine lexA_get rfl ?_
              try go_frame
              refine wpList_append_any _ rfl (.tmp 30) (.tmp 34) _ rfl W1.heap.size 5 i0 _ 1 1 Try.underlying22 hi0 hz0 hz1 hz2 rfl (by omega) (.slice Ap3 Lp3.length cp3) Lp3.length (bys Lp3) rfl op3x V5.heap.size Gup 1 1 (bys [u8 (x.a.st)]) rfl rup (bys_one _) (by have := Bp3.out; simp only [maxLen]; omega) (by have := Bp3.out; omega) T.out.1.size ?_
              intro v Vp8 on hg _
              have op8 : Owns Vp8 W1.heap.size 5 v (Lp3 ++ [u8 (x.a.st)]) := by unfold Owns; rw [bys_append, List.length_append]; exact on
              have hbn : Below W1.heap.size W1 Vp8 := T.out.1.grown hg T.out.1.size (fun k hk => (op3x.lt k hk).1)
              clear on hg op3x rp3 rup T
              have T : All (fun w' => Below W1.heap.size W1 w' ∧ w'.heap[w.heap.size + 1]? = some (.cells #[.int .i64 x.a.sock, .string x.a.db, .int .i64 x.a.st, .int .i64 x.a.ticket, .int .i64 x.a.since, .string x.a.q, .int .i64 x.a.line, .int .i64 x.a.lease] 50 (0, 0))) Vp8 := ⟨hbn, (hbn.block _ HBXp.out.2).trans HBXp.out.1⟩
              clear hbn
              have Bp8 := Lib.hid (show (Lp3 ++ [u8 (x.a.st)]).length ≤ 4 by have := Bp3.out; simp; omega)
              obtain ⟨Lp8, hl⟩ : ∃ L, Lp3 ++ [u8 (x.a.st)] = L := ⟨_, rfl⟩
              rw [hl] at op8 Bp8
              have Ep8 := Lib.hid hl
              clear hl
              obtain ⟨Ap8, cp8, rfl, _, _, rp8, _⟩ := Owns.shape op8
              go_wp2_with fail
              refine ⟨fun _ => T.out.2, ?_⟩
              refine wpAnyL_one (i := 11) (by kernel_rfl) ?_
              refine lexA_get rfl ?_
              try go_frame
              go_wp2_with fail
              refine (putTextS_any Ap8 cp8 x.a.db Lp8 Vp8 rp8 (by have := Bp8.out; omega) (by omega)).mono ?_
              rintro e V6 ⟨v, rfl, oo, hb⟩
              have op11 := ownsRow_mono oo T.out.1.size
              clear oo
              have Bp11 := Lib.hid (show (ptB Lp8 x.a.db.data.toList).length ≤ 105 by have := Bp8.out; have := ptB_len Lp8 x.a.db.data.toList; omega)
              have op11x : Owns _ W1.heap.size 5 v (ptB Lp8 x.a.db.data.toList) := op11
              clear op11
              obtain ⟨Lp11, hl⟩ : ∃ L, ptB Lp8 x.a.db.data.toList = L := ⟨_, rfl⟩
              rw [hl] at op11x Bp11
              have Ep11 := Lib.hid hl
              clear hl
              obtain ⟨Ap11, cp11, rfl, _, _, rp11, _⟩ := Owns.shape op11x
              try (replace rup := (rup.below hb).more hb.size)
              clear rp8
              replace T := T.later hb
              clear hb
              go_wp2_with fail
              refine ⟨fun _ => T.out.2, ?_⟩
              refine wpAnyL_writes [12] (by kernel_rfl) (LexW.cons rfl ?_)
              try go_frame
              go_wp2_with fail
              refine ⟨fun _ => T.out.2, LexW.nil ?_⟩
              refine hK _ _ (Met.intro (hJ _ _ ?_))
              (repeat apply Exists.intro)
              refine ⟨?_, rfl⟩
              exact ⟨Ap11, cp11, Lp11, rfl, Lib.hid (by rw [← Ep11.out, ← Ep8.out, ← Ep3.out]), Bp11, rp11, Later.trans HSp.out T.out.1, T.out.2⟩
          case rest =>
            obtain ⟨Ap, cp, Lp, rfl, HEp, Bp, rp, hbS, hbx⟩ := hcut
            obtain ⟨Wp, rfl⟩ : ∃ wo : World, wo = wc := ⟨_, rfl⟩
            have S : All (fun w' => Below w.heap.size w w' ∧ (w'.heap[w.heap.size + 1]? = some (.cells #[.int .i64 x.a.sock, .string x.a.db, .int .i64 x.a.st, .int .i64 x.a.ticket, .int .i64 x.a.since, .string x.a.q, .int .i64 x.a.line, .int .i64 x.a.lease] 50 (0, 0)))) Wp := ⟨hbS, hbx⟩
            clear hbS hbx HBXp HSp
            go_upto_region 6 with (fail)
            have HBXq := Lib.hid (And.intro S.out.2 (Array.getElem?_eq_some_iff.1 S.out.2).1)
            have HSq := Lib.hid S.out.1
            go_cut [4] from 39 (fun v W' => ∃ (A : Option Addr) (c : Nat) (l : List UInt8), v = .slice A l.length c ∧ Hid (l = ((ptB (([u8 1] ++ wordBytes x.a.sock) ++ [u8 x.a.st]) x.a.db.data.toList ++ wordBytes x.a.ticket) ++ wordBytes (x.a.since / 256)) ++ [u8 x.a.since]) ∧ Hid (l.length ≤ 110) ∧ Reads W' W'.heap.size 1 A l.length (bys l) ∧ Below w.heap.size w W' ∧ W'.heap[w.heap.size + 1]? = some (.cells #[.int .i64 x.a.sock, .string x.a.db, .int .i64 x.a.st, .int .i64 x.a.ticket, .int .i64 x.a.since, .string x.a.q, .int .i64 x.a.line, .int .i64 x.a.lease] 50 (0, 0)))
            case first =>
              rename_i J K1 hJ hK
              have T : All (fun w' => Below Wp.heap.size Wp w' ∧ (w'.heap[w.heap.size + 1]? = some (.cells #[.int .i64 x.a.sock, .string x.a.db, .int .i64 x.a.st, .int .i64 x.a.ticket, .int .i64 x.a.since, .string x.a.q, .int .i64 x.a.line, .int .i64 x.a.lease] 50 (0, 0)))) Wp := ⟨Below.refl _ _, S.out.2⟩
              clear S
              replace rp := (rp.below (Later.drew Wp)).more (Later.drew Wp).size
              refine wp_region_open 100 (fun w' => w'.heap[w.heap.size + 1]? = some (.cells #[.int .i64 x.a.sock, .string x.a.db, .int .i64 x.a.st, .int .i64 x.a.ticket, .int .i64 x.a.since, .string x.a.q, .int .i64 x.a.line, .int .i64 x.a.lease] 50 (0, 0))) (by kernel_rfl) ?_
              replace T := T.drew
              generalize Wp.drew = Vdq at T rp ⊢
              refine wpAnyL_readsG [0, 1, 2, 4, 5, 6, 8, 9, 10, 11] (fuel := 5) (by kernel_rfl) T.out.2 ?_
              refine LexRG.yes rfl (by first | rfl | (simp [Region.wanted, yielded]; done)) ?_ (fun w' hw => ?_) ?_
              rotate_left
              focus (clear hw; go_simp; (try exact rfl))
              try go_frame
              refine LexRG.yes rfl (by first | rfl | (simp [Region.wanted, yielded]; done)) ?_ (fun w' hw => ?_) ?_
              rotate_left
              focus (clear hw; go_simp; (try exact rfl))
              try go_frame
              refine LexRG.yes rfl (by first | rfl | (simp [Region.wanted, yielded]; done)) ?_ (fun w' hw => ?_) ?_
              rotate_left
              focus (have c0 := var_cell hw 0; have c1 := var_cell hw 1; have c2 := var_cell hw 2; have c3 := var_cell hw 3; have c4 := var_cell hw 4; have c5 := var_cell hw 5; have c6 := var_cell hw 6; have c7 := var_cell hw 7; clear hw; go_simp; (try exact rfl))
              try go_frame
              refine LexRG.yes rfl (by first | rfl | (simp [Region.wanted, yielded]; done)) ?_ (fun w' hw => ?_) ?_
              rotate_left
              focus (clear hw; go_simp; (try exact rfl))
              try go_frame
              refine LexRG.yes rfl (by first | rfl | (simp [Region.wanted, yielded]; done)) ?_ (fun w' hw => ?_) ?_
              rotate_left
              focus (have c0 := var_cell hw 0; have c1 := var_cell hw 1; have c2 := var_cell hw 2; have c3 := var_cell hw 3; have c4 := var_cell hw 4; have c5 := var_cell hw 5; have c6 := var_cell hw 6; have c7 := var_cell hw 7; clear hw; go_simp; (try exact rfl))
              try go_frame
              refine LexRG.yes rfl (by first | rfl | (simp [Region.wanted, yielded]; done)) ?_ (fun w' hw => ?_) ?_
              rotate_left
              focus (clear hw; go_simp; (try exact rfl))
              try go_frame
              refine LexRG.yes rfl (by first | rfl | (simp [Region.wanted, yielded]; done)) ?_ (fun w' hw => ?_) ?_
              rotate_left
              focus (clear hw; go_simp; (try exact rfl))
              try go_frame
              refine LexRG.yes rfl (by first | rfl | (simp [Region.wanted, yielded]; done)) ?_ (fun w' hw => ?_) ?_
              rotate_left
              focus (have c0 := var_cell hw 0; have c1 := var_cell hw 1; have c2 := var_cell hw 2; have c3 := var_cell hw 3; have c4 := var_cell hw 4; have c5 := var_cell hw 5; have c6 := var_cell hw 6; have c7 := var_cell hw 7; clear hw; go_simp; (try exact rfl))
              try go_frame
              refine LexRG.yes rfl (by first | rfl | (simp [Region.wanted, yielded]; done)) ?_ (fun w' hw => ?_) ?_
              rotate_left
              focus (clear hw; go_simp; (try exact rfl))
              try go_frame
              refine LexRG.yes rfl (by first | rfl | (simp [Region.wanted, yielded]; done)) ?_ (fun w' hw => ?_) ?_
              rotate_left
              focus (clear hw; go_simp; (try exact rfl))
              try go_frame
              refine LexRG.nil ?_
              refine wpAnyL_two (i := 3) (j := 12) (by kernel_rfl) ?_ ?_
              · skip
                refine lexA_get rfl ?_
                try go_frame
                go_wp2_with fail
                refine (putWordS_any Ap cp (x.a.ticket) Lp Vdq rp (by have := Bp.out; omega)).mono ?_
                rintro e V1 ⟨v, rfl, oo, hb⟩
                have oq3 := ownsRow_mono oo T.out.1.size
                clear oo
                have Bq3 := Lib.hid (show (Lp ++ wordBytes (x.a.ticket)).length ≤ 107 by have := Bp.out; simp [wordBytes]; omega)
                have oq3x : Owns _ Wp.heap.size 5 v (Lp ++ wordBytes (x.a.ticket)) := oq3
                clear oq3
                obtain ⟨Lq3, hl⟩ : ∃ L, Lp ++ wordBytes (x.a.ticket) = L := ⟨_, rfl⟩
                rw [hl] at oq3x Bq3
                have Eq3 := Lib.hid hl
                clear hl
                obtain ⟨Aq3, cq3, rfl, _, _, rq3, _⟩ := Owns.shape oq3x
                try (replace ruq := (ruq.below hb).more hb.size)
                clear rp
                replace T := T.later hb
                clear hb
                go_wp2_with fail
                refine ⟨fun _ => T.out.2, ?_⟩
                refine wpAnyL_two (i := 7) (j := 12) (by kernel_rfl) ?_ ?_
                · skip
                  refine lexA_get rfl ?_
                  try go_frame
                  go_wp2_with fail
                  refine (putWordS_any Aq3 cq3 (x.a.since / 256) Lq3 V1 rq3 (by have := Bq3.out; omega)).mono ?_
                  rintro e V2 ⟨v, rfl, oo, hb⟩
                  have oq7 := ownsRow_mono oo T.out.1.size
                  clear oo
                  have Bq7 := Lib.hid (show (Lq3 ++ wordBytes (x.a.since / 256)).length ≤ 109 by have := Bq3.out; simp [wordBytes]; omega)
                  have oq7x : Owns _ Wp.heap.size 5 v (Lq3 ++ wordBytes (x.a.since / 256)) := oq7
                  clear oq7
                  obtain ⟨Lq7, hl⟩ : ∃ L, Lq3 ++ wordBytes (x.a.since / 256) = L := ⟨_, rfl⟩
                  rw [hl] at oq7x Bq7
                  have Eq7 := Lib.hid hl
                  clear hl
                  obtain ⟨Aq7, cq7, rfl, _, _, rq7, _⟩ := Owns.shape oq7x
                  try (replace ruq := (ruq.below hb).more hb.size)
                  clear rq3
                  replace T := T.later hb
                  clear hb
                  go_wp2_with fail
                  refine ⟨fun _ => T.out.2, ?_⟩
                  refine wpAnyL_one (i := 12) (by kernel_rfl) ?_
                  refine lexA_get rfl ?_
                  try go_frame
                  go_wp2_with fail
                  replace T := T.alloc (.cells #[.int .u8 (x.a.since % 256)] 5)
                  have ruq := one_u8 V2 (x.a.since)
                  have ha := Later.alloc V2 (.cells #[.int .u8 (x.a.since % 256)] 5)
                  try (replace rp := (rp.below ha).more ha.size)
                  try (replace rq3 := (rq3.below ha).more ha.size)
                  try (replace rq7 := (rq7.below ha).more ha.size)
                  try (replace oq3x := oq3x.keep ha)
                  try (replace oq7x := oq7x.keep ha)
                  clear ha
                  obtain ⟨Vuq, hVV⟩ : ∃ V, V2.alloc (.cells #[.int .u8 (x.a.since % 256)] 5) = V := ⟨_, rfl⟩
                  rw [hVV] at T ruq ⊢
                  try rw [hVV] at rp
                  try rw [hVV] at rq3
                  try rw [hVV] at rq7
                  try rw [hVV] at oq3x
                  try rw [hVV] at oq7x
                  clear hVV
                  obtain ⟨Guq, hGG⟩ : ∃ G, (some ⟨V2.heap.size, 0, none⟩ : Option Addr) = G := ⟨_, rfl⟩
                  rw [hGG] at ruq ⊢
                  clear hGG
                  refine ⟨fun _ => T.out.2, ?_⟩
                  refine wpAnyL_one (i := 13) (by kernel_rfl) ?_
                  refine lexA_get rfl ?_
                  try go_frame
                  refine wpList_append_any _ rfl (.tmp 46) (.tmp 51) _ rfl Wp.heap.size 5 i0 _ 1 1 Try.underlying22 hi0 hz0 hz1 hz2 rfl (by omega) (.slice Aq7 Lq7.length cq7) Lq7.length (bys Lq7) rfl oq7x Vuq.heap.size Guq 1 1 (bys [u8 (x.a.since)]) rfl ruq (bys_one _) (by have := Bq7.out; simp only [maxLen]; omega) (by have := Bq7.out; omega) T.out.1.size ?_
                  intro v Vq13 on hg _
                  have oq13 : Owns Vq13 Wp.heap.size 5 v (Lq7 ++ [u8 (x.a.since)]) := by unfold Owns; rw [bys_append, List.length_append]; exact on
                  have hbn : Below Wp.heap.size Wp Vq13 := T.out.1.grown hg T.out.1.size (fun k hk => (oq7x.lt k hk).1)
                  clear on hg oq7x rq7 ruq T
                  have T : All (fun w' => Below Wp.heap.size Wp w' ∧ w'.heap[w.heap.size + 1]? = some (.cells #[.int .i64 x.a.sock, .string x.a.db, .int .i64 x.a.st, .int .i64 x.a.ticket, .int .i64 x.a.since, .string x.a.q, .int .i64 x.a.line, .int .i64 x.a.lease] 50 (0, 0))) Vq13 := ⟨hbn, (hbn.block _ HBXq.out.2).trans HBXq.out.1⟩
                  clear hbn
                  have Bq13 := Lib.hid (show (Lq7 ++ [u8 (x.a.since)]).length ≤ 110 by have := Bq7.out; simp; omega)
                  obtain ⟨Lq13, hl⟩ : ∃ L, Lq7 ++ [u8 (x.a.since)] = L := ⟨_, rfl⟩
                  rw [hl] at oq13 Bq13
                  have Eq13 := Lib.hid hl
                  clear hl
                  obtain ⟨Aq13, cq13, rfl, _, _, rq13, _⟩ := Owns.shape oq13
                  go_wp2_with fail
                  refine ⟨fun _ => T.out.2, ?_⟩
                  refine wpAnyL_writes [14] (by kernel_rfl) (LexW.cons rfl ?_)
                  try go_frame
                  go_wp2_with fail
                  refine ⟨fun _ => T.out.2, LexW.nil ?_⟩
                  refine hK _ _ (Met.intro (hJ _ _ ?_))
                  (repeat apply Exists.intro)
                  refine ⟨?_, rfl⟩
                  exact ⟨Aq13, cq13, Lq13, rfl, Lib.hid (by rw [← Eq13.out, ← Eq7.out, ← Eq3.out, HEp.out]), Bq13, rq13, Later.trans HSq.out T.out.1, T.out.2⟩
                · skip
                  refine lexA_get rfl ?_
                  try go_frame
                  go_wp2_with fail
                  replace T := T.alloc (.cells #[.int .u8 (x.a.since % 256)] 5)
                  have ruq := one_u8 V1 (x.a.since)
                  have ha := Later.alloc V1 (.cells #[.int .u8 (x.a.since % 256)] 5)
                  try (replace rp := (rp.below ha).more ha.size)
                  try (replace rq3 := (rq3.below ha).more ha.size)
                  try (replace rq7 := (rq7.below ha).more ha.size)
                  try (replace oq3x := oq3x.keep ha)
                  try (replace oq7x := oq7x.keep ha)
                  clear ha
                  obtain ⟨Vuq, hVV⟩ : ∃ V, V1.alloc (.cells #[.int .u8 (x.a.since % 256)] 5) = V := ⟨_, rfl⟩
                  rw [hVV] at T ruq ⊢
                  try rw [hVV] at rp
                  try rw [hVV] at rq3
                  try rw [hVV] at rq7
                  try rw [hVV] at oq3x
                  try rw [hVV] at oq7x
                  clear hVV
                  obtain ⟨Guq, hGG⟩ : ∃ G, (some ⟨V1.heap.size, 0, none⟩ : Option Addr) = G := ⟨_, rfl⟩
                  rw [hGG] at ruq ⊢
                  clear hGG
                  refine ⟨fun _ => T.out.2, ?_⟩
                  refine wpAnyL_one (i := 7) (by kernel_rfl) ?_
                  refine lexA_get rfl ?_
                  try go_frame
                  go_wp2_with fail
                  refine (putWordS_any Aq3 cq3 (x.a.since / 256) Lq3 Vuq rq3 (by have := Bq3.out; omega)).mono ?_
                  rintro e V3 ⟨v, rfl, oo, hb⟩
                  have oq7 := ownsRow_mono oo T.out.1.size
                  clear oo
                  have Bq7 := Lib.hid (show (Lq3 ++ wordBytes (x.a.since / 256)).length ≤ 109 by have := Bq3.out; simp [wordBytes]; omega)
                  have oq7x : Owns _ Wp.heap.size 5 v (Lq3 ++ wordBytes (x.a.since / 256)) := oq7
                  clear oq7
                  obtain ⟨Lq7, hl⟩ : ∃ L, Lq3 ++ wordBytes (x.a.since / 256) = L := ⟨_, rfl⟩
                  rw [hl] at oq7x Bq7
                  have Eq7 := Lib.hid hl
                  clear hl
                  obtain ⟨Aq7, cq7, rfl, _, _, rq7, _⟩ := Owns.shape oq7x
                  try (replace ruq := (ruq.below hb).more hb.size)
                  clear rq3
                  replace T := T.later hb
                  clear hb
                  go_wp2_with fail
                  refine ⟨fun _ => T.out.2, ?_⟩
                  refine wpAnyL_one (i := 13) (by kernel_rfl) ?_
                  refine lexA_get rfl ?_
                  try go_frame
                  refine wpList_append_any _ rfl (.tmp 46) (.tmp 51) _ rfl Wp.heap.size 5 i0 _ 1 1 Try.underlying22 hi0 hz0 hz1 hz2 rfl (by omega) (.slice Aq7 Lq7.length cq7) Lq7.length (bys Lq7) rfl oq7x V3.heap.size Guq 1 1 (bys [u8 (x.a.since)]) rfl ruq (bys_one _) (by have := Bq7.out; simp only [maxLen]; omega) (by have := Bq7.out; omega) T.out.1.size ?_
                  intro v Vq13 on hg _
                  have oq13 : Owns Vq13 Wp.heap.size 5 v (Lq7 ++ [u8 (x.a.since)]) := by unfold Owns; rw [bys_append, List.length_append]; exact on
                  have hbn : Below Wp.heap.size Wp Vq13 := T.out.1.grown hg T.out.1.size (fun k hk => (oq7x.lt k hk).1)
                  clear on hg oq7x rq7 ruq T
                  have T : All (fun w' => Below Wp.heap.size Wp w' ∧ w'.heap[w.heap.size + 1]? = some (.cells #[.int .i64 x.a.sock, .string x.a.db, .int .i64 x.a.st, .int .i64 x.a.ticket, .int .i64 x.a.since, .string x.a.q, .int .i64 x.a.line, .int .i64 x.a.lease] 50 (0, 0))) Vq13 := ⟨hbn, (hbn.block _ HBXq.out.2).trans HBXq.out.1⟩
                  clear hbn
                  have Bq13 := Lib.hid (show (Lq7 ++ [u8 (x.a.since)]).length ≤ 110 by have := Bq7.out; simp; omega)
                  obtain ⟨Lq13, hl⟩ : ∃ L, Lq7 ++ [u8 (x.a.since)] = L := ⟨_, rfl⟩
                  rw [hl] at oq13 Bq13
                  have Eq13 := Lib.hid hl
                  clear hl
                  obtain ⟨Aq13, cq13, rfl, _, _, rq13, _⟩ := Owns.shape oq13
                  go_wp2_with fail
                  refine ⟨fun _ => T.out.2, ?_⟩
                  refine wpAnyL_writes [14] (by kernel_rfl) (LexW.cons rfl ?_)
                  try go_frame
                  go_wp2_with fail
                  refine ⟨fun _ => T.out.2, LexW.nil ?_⟩
                  refine hK _ _ (Met.intro (hJ _ _ ?_))
                  (repeat apply Exists.intro)
                  refine ⟨?_, rfl⟩
                  exact ⟨Aq13, cq13, Lq13, rfl, Lib.hid (by rw [← Eq13.out, ← Eq7.out, ← Eq3.out, HEp.out]), Bq13, rq13, Later.trans HSq.out T.out.1, T.out.2⟩
              · skip
                refine lexA_get rfl ?_
                try go_frame
                go_wp2_with fail
                replace T := T.alloc (.cells #[.int .u8 (x.a.since % 256)] 5)
                have ruq := one_u8 Vdq (x.a.since)
                have ha := Later.alloc Vdq (.cells #[.int .u8 (x.a.since % 256)] 5)
                try (replace rp := (rp.below ha).more ha.size)
                try (replace rq3 := (rq3.below ha).more ha.size)
                try (replace rq7 := (rq7.below ha).more ha.size)
                try (replace oq3x := oq3x.keep ha)
                try (replace oq7x := oq7x.keep ha)
                clear ha
                obtain ⟨Vuq, hVV⟩ : ∃ V, Vdq.alloc (.cells #[.int .u8 (x.a.since % 256)] 5) = V := ⟨_, rfl⟩
                rw [hVV] at T ruq ⊢
                try rw [hVV] at rp
                try rw [hVV] at rq3
                try rw [hVV] at rq7
                try rw [hVV] at oq3x
                try rw [hVV] at oq7x
                clear hVV
                obtain ⟨Guq, hGG⟩ : ∃ G, (some ⟨Vdq.heap.size, 0, none⟩ : Option Addr) = G := ⟨_, rfl⟩
                rw [hGG] at ruq ⊢
                clear hGG
                refine ⟨fun _ => T.out.2, ?_⟩
                refine wpAnyL_one (i := 3) (by kernel_rfl) ?_
                refine lexA_get rfl ?_
                try go_frame
                go_wp2_with fail
                refine (putWordS_any Ap cp (x.a.ticket) Lp Vuq rp (by have := Bp.out; omega)).mono ?_
                rintro e V4 ⟨v, rfl, oo, hb⟩
                have oq3 := ownsRow_mono oo T.out.1.size
                clear oo
                have Bq3 := Lib.hid (show (Lp ++ wordBytes (x.a.ticket)).length ≤ 107 by have := Bp.out; simp [wordBytes]; omega)
                have oq3x : Owns _ Wp.heap.size 5 v (Lp ++ wordBytes (x.a.ticket)) := oq3
                clear oq3
                obtain ⟨Lq3, hl⟩ : ∃ L, Lp ++ wordBytes (x.a.ticket) = L := ⟨_, rfl⟩
                rw [hl] at oq3x Bq3
                have Eq3 := Lib.hid hl
                clear hl
                obtain ⟨Aq3, cq3, rfl, _, _, rq3, _⟩ := Owns.shape oq3x
                try (replace ruq := (ruq.below hb).more hb.size)
                clear rp
                replace T := T.later hb
                clear hb
                go_wp2_with fail
                refine ⟨fun _ => T.out.2, ?_⟩
                refine wpAnyL_one (i := 7) (by kernel_rfl) ?_
                refine lexA_get rfl ?_
                try go_frame
                go_wp2_with fail
                refine (putWordS_any Aq3 cq3 (x.a.since / 256) Lq3 V4 rq3 (by have := Bq3.out; omega)).mono ?_
                rintro e V5 ⟨v, rfl, oo, hb⟩
                have oq7 := ownsRow_mono oo T.out.1.size
                clear oo
                have Bq7 := Lib.hid (show (Lq3 ++ wordBytes (x.a.since / 256)).length ≤ 109 by have := Bq3.out; simp [wordBytes]; omega)
                have oq7x : Owns _ Wp.heap.size 5 v (Lq3 ++ wordBytes (x.a.since / 256)) := oq7
                clear oq7
                obtain ⟨Lq7, hl⟩ : ∃ L, Lq3 ++ wordBytes (x.a.since / 256) = L := ⟨_, rfl⟩
                rw [hl] at oq7x Bq7
                have Eq7 := Lib.hid hl
                clear hl
                obtain ⟨Aq7, cq7, rfl, _, _, rq7, _⟩ := Owns.shape oq7x
                try (replace ruq := (ruq.below hb).more hb.size)
                clear rq3
                replace T := T.later hb
                clear hb
                go_wp2_with fail
                refine ⟨fun _ => T.out.2, ?_⟩
                refine wpAnyL_one (i := 13) (by kernel_rfl) ?_
                refine lexA_get rfl ?_
                try go_frame
                refine wpList_append_any _ rfl (.tmp 46) (.tmp 51) _ rfl Wp.heap.size 5 i0 _ 1 1 Try.underlying22 hi0 hz0 hz1 hz2 rfl (by omega) (.slice Aq7 Lq7.length cq7) Lq7.length (bys Lq7) rfl oq7x V5.heap.size Guq 1 1 (bys [u8 (x.a.since)]) rfl ruq (bys_one _) (by have := Bq7.out; simp only [maxLen]; omega) (by have := Bq7.out; omega) T.out.1.size ?_
                intro v Vq13 on hg _
                have oq13 : Owns Vq13 Wp.heap.size 5 v (Lq7 ++ [u8 (x.a.since)]) := by unfold Owns; rw [bys_append, List.length_append]; exact on
                have hbn : Below Wp.heap.size Wp Vq13 := T.out.1.grown hg T.out.1.size (fun k hk => (oq7x.lt k hk).1)
                clear on hg oq7x rq7 ruq T
                have T : All (fun w' => Below Wp.heap.size Wp w' ∧ w'.heap[w.heap.size + 1]? = some (.cells #[.int .i64 x.a.sock, .string x.a.db, .int .i64 x.a.st, .int .i64 x.a.ticket, .int .i64 x.a.since, .string x.a.q, .int .i64 x.a.line, .int .i64 x.a.lease] 50 (0, 0))) Vq13 := ⟨hbn, (hbn.block _ HBXq.out.2).trans HBXq.out.1⟩
                clear hbn
                have Bq13 := Lib.hid (show (Lq7 ++ [u8 (x.a.since)]).length ≤ 110 by have := Bq7.out; simp; omega)
                obtain ⟨Lq13, hl⟩ : ∃ L, Lq7 ++ [u8 (x.a.since)] = L := ⟨_, rfl⟩
                rw [hl] at oq13 Bq13
                have Eq13 := Lib.hid hl
                clear hl
                obtain ⟨Aq13, cq13, rfl, _, _, rq13, _⟩ := Owns.shape oq13
                go_wp2_with fail
                refine ⟨fun _ => T.out.2, ?_⟩
                refine wpAnyL_writes [14] (by kernel_rfl) (LexW.cons rfl ?_)
                try go_frame
                go_wp2_with fail
                refine ⟨fun _ => T.out.2, LexW.nil ?_⟩
                refine hK _ _ (Met.intro (hJ _ _ ?_))
                (repeat apply Exists.intro)
                refine ⟨?_, rfl⟩
                exact ⟨Aq13, cq13, Lq13, rfl, Lib.hid (by rw [← Eq13.out, ← Eq7.out, ← Eq3.out, HEp.out]), Bq13, rq13, Later.trans HSq.out T.out.1, T.out.2⟩
            case rest =>
              obtain ⟨Aq, cq, Lq, rfl, HEq, Bq, rq, hbS, hbx⟩ := hcut
              obtain ⟨Wq, rfl⟩ : ∃ wo : World, wo = wc := ⟨_, rfl⟩
              have S : All (fun w' => Below w.heap.size w w' ∧ (w'.heap[w.heap.size + 1]? = some (.cells #[.int .i64 x.a.sock, .string x.a.db, .int .i64 x.a.st, .int .i64 x.a.ticket, .int .i64 x.a.since, .string x.a.q, .int .i64 x.a.line, .int .i64 x.a.lease] 50 (0, 0)))) Wq := ⟨hbS, hbx⟩
              clear hbS hbx HBXq HSq
              go_upto_region 7 with (fail)
              have HBXr := Lib.hid (And.intro S.out.2 (Array.getElem?_eq_some_iff.1 S.out.2).1)
              have HSr := Lib.hid S.out.1
              have T : All (fun w' => Below Wq.heap.size Wq w' ∧ (w'.heap[w.heap.size + 1]? = some (.cells #[.int .i64 x.a.sock, .string x.a.db, .int .i64 x.a.st, .int .i64 x.a.ticket, .int .i64 x.a.since, .string x.a.q, .int .i64 x.a.line, .int .i64 x.a.lease] 50 (0, 0)))) Wq := ⟨Below.refl _ _, S.out.2⟩
              clear S
              replace rq := (rq.below (Later.drew Wq)).more (Later.drew Wq).size
              refine wp_region_open 100 (fun w' => w'.heap[w.heap.size + 1]? = some (.cells #[.int .i64 x.a.sock, .string x.a.db, .int .i64 x.a.st, .int .i64 x.a.ticket, .int .i64 x.a.since, .string x.a.q, .int .i64 x.a.line, .int .i64 x.a.lease] 50 (0, 0))) (by kernel_rfl) ?_
              replace T := T.drew
              generalize Wq.drew = Vdr at T rq ⊢
              refine wpAnyL_readsG [0, 1, 2, 4, 5, 7, 8] (fuel := 4) (by kernel_rfl) T.out.2 ?_
              refine LexRG.yes rfl (by first | rfl | (simp [Region.wanted, yielded]; done)) ?_ (fun w' hw => ?_) ?_
              rotate_left
              focus (clear hw; go_simp; (try exact rfl))
              try go_frame
              refine LexRG.yes rfl (by first | rfl | (simp [Region.wanted, yielded]; done)) ?_ (fun w' hw => ?_) ?_
              rotate_left
              focus (clear hw; go_simp; (try exact rfl))
              try go_frame
              refine LexRG.yes rfl (by first | rfl | (simp [Region.wanted, yielded]; done)) ?_ (fun w' hw => ?_) ?_
              rotate_left
              focus (have c0 := var_cell hw 0; have c1 := var_cell hw 1; have c2 := var_cell hw 2; have c3 := var_cell hw 3; have c4 := var_cell hw 4; have c5 := var_cell hw 5; have c6 := var_cell hw 6; have c7 := var_cell hw 7; clear hw; go_simp; (try exact rfl))
              try go_frame
              refine LexRG.yes rfl (by first | rfl | (simp [Region.wanted, yielded]; done)) ?_ (fun w' hw => ?_) ?_
              rotate_left
              focus (clear hw; go_simp; (try exact rfl))
              try go_frame
              refine LexRG.yes rfl (by first | rfl | (simp [Region.wanted, yielded]; done)) ?_ (fun w' hw => ?_) ?_
              rotate_left
              focus (have c0 := var_cell hw 0; have c1 := var_cell hw 1; have c2 := var_cell hw 2; have c3 := var_cell hw 3; have c4 := var_cell hw 4; have c5 := var_cell hw 5; have c6 := var_cell hw 6; have c7 := var_cell hw 7; clear hw; go_simp; (try exact rfl))
              try go_frame
              refine LexRG.yes rfl (by first | rfl | (simp [Region.wanted, yielded]; done)) ?_ (fun w' hw => ?_) ?_
              rotate_left
              focus (clear hw; go_simp; (try exact rfl))
              try go_frame
              refine LexRG.yes rfl (by first | rfl | (simp [Region.wanted, yielded]; done)) ?_ (fun w' hw => ?_) ?_
              rotate_left
              focus (have c0 := var_cell hw 0; have c1 := var_cell hw 1; have c2 := var_cell hw 2; have c3 := var_cell hw 3; have c4 := var_cell hw 4; have c5 := var_cell hw 5; have c6 := var_cell hw 6; have c7 := var_cell hw 7; clear hw; go_simp; (try exact rfl))
              try go_frame
              refine LexRG.nil ?_
              refine wpAnyL_one (i := 3) (by kernel_rfl) ?_
              refine lexA_get rfl ?_
              try go_frame
              go_wp2_with fail
              refine (putTextS_any Aq cq x.a.q Lq Vdr rq (by have := Bq.out; omega) (by omega)).mono ?_
              rintro e V1 ⟨v, rfl, oo, hb⟩
              have or3 := ownsRow_mono oo T.out.1.size
              clear oo
              have Br3 := Lib.hid (show (ptB Lq x.a.q.data.toList).length ≤ 211 by have := Bq.out; have := ptB_len Lq x.a.q.data.toList; omega)
              have or3x : Owns _ Wq.heap.size 5 v (ptB Lq x.a.q.data.toList) := or3
              clear or3
              obtain ⟨Lr3, hl⟩ : ∃ L, ptB Lq x.a.q.data.toList = L := ⟨_, rfl⟩
              rw [hl] at or3x Br3
              have Er3 := Lib.hid hl
              clear hl
              obtain ⟨Ar3, cr3, rfl, _, _, rr3, _⟩ := Owns.shape or3x
              try (replace rur := (rur.below hb).more hb.size)
              clear rq
              replace T := T.later hb
              clear hb
              go_wp2_with fail
              refine ⟨fun _ => T.out.2, ?_⟩
              refine wpAnyL_one (i := 6) (by kernel_rfl) ?_
              refine lexA_get rfl ?_
              try go_frame
              go_wp2_with fail
              refine (putWordS_any Ar3 cr3 (x.a.line) Lr3 V1 rr3 (by have := Br3.out; omega)).mono ?_
              rintro e V2 ⟨v, rfl, oo, hb⟩
              have or6 := ownsRow_mono oo T.out.1.size
              clear oo
              have Br6 := Lib.hid (show (Lr3 ++ wordBytes (x.a.line)).length ≤ 213 by have := Br3.out; simp [wordBytes]; omega)
              have or6x : Owns _ Wq.heap.size 5 v (Lr3 ++ wordBytes (x.a.line)) := or6
              clear or6
              obtain ⟨Lr6, hl⟩ : ∃ L, Lr3 ++ wordBytes (x.a.line) = L := ⟨_, rfl⟩
              rw [hl] at or6x Br6
              have Er6 := Lib.hid hl
              clear hl
              obtain ⟨Ar6, cr6, rfl, _, _, rr6, _⟩ := Owns.shape or6x
              try (replace rur := (rur.below hb).more hb.size)
              clear rr3
              replace T := T.later hb
              clear hb
              go_wp2_with fail
              refine ⟨fun _ => T.out.2, ?_⟩
              refine wpAnyL_one (i := 9) (by kernel_rfl) ?_
              refine lexA_get rfl ?_
              try go_frame
              go_wp2_with fail
              refine (putWordS_any Ar6 cr6 (x.a.lease) Lr6 V2 rr6 (by have := Br6.out; omega)).mono ?_
              rintro e V3 ⟨v, rfl, oo, hb⟩
              have or9 := ownsRow_mono oo T.out.1.size
              clear oo
              have Br9 := Lib.hid (show (Lr6 ++ wordBytes (x.a.lease)).length ≤ 215 by have := Br6.out; simp [wordBytes]; omega)
              have or9x : Owns _ Wq.heap.size 5 v (Lr6 ++ wordBytes (x.a.lease)) := or9
              clear or9
              obtain ⟨Lr9, hl⟩ : ∃ L, Lr6 ++ wordBytes (x.a.lease) = L := ⟨_, rfl⟩
              rw [hl] at or9x Br9
              have Er9 := Lib.hid hl
              clear hl
              obtain ⟨Ar9, cr9, rfl, _, _, rr9, _⟩ := Owns.shape or9x
              try (replace rur := (rur.below hb).more hb.size)
              clear rr6
              replace T := T.later hb
              clear hb
              go_wp2_with fail
              refine ⟨fun _ => T.out.2, ?_⟩
              refine wpAnyL_writes [10] (by kernel_rfl) (LexW.cons rfl ?_)
              try go_frame
              go_wp2_with fail
              refine ⟨fun _ => T.out.2, LexW.nil ?_⟩
              have hfin := Later.trans HSr.out T.out.1
              have HF := Lib.hid (show Owns V3 w.heap.size 5 _ LL from by rw [← (show Lr9 = LL from by rw [← Er9.out, ← Er6.out, ← Er3.out, HEq.out]; exact HLL.out)]; exact ownsRow_mono or9x HSr.out.size)
              go_wp2_with fail
              go_ret
              exact ⟨_, rfl, HF.out, hfin⟩
        · have HT := Lib.hid tl
          have c9 := var_cell S.out.2.1 9
          have c10 := var_cell S.out.2.1 10
          have c11 := var_cell S.out.2.1 11
          have c12 := var_cell S.out.2.1 12
          have c13 := var_cell S.out.2.1 13
          have c14 := var_cell S.out.2.1 14
          have c15 := var_cell S.out.2.1 15
          have d7 := var_cell S.out.2.2 7
          obtain rfl : LL = [] := by rw [← HL.out]; unfold itemB; rw [if_pos HK.out]; exact if_neg fun h => HT.out h.2.2
          go_wp2_with fail
          go_ret
          exact ⟨_, rfl, own_empty _ _ S.out.1.size, Later.trans S.out.1 (Later.alloc _ _)⟩
  · have e1 : (x.kind == 1) = false := by simp [k1]
    by_cases k2 : x.kind = 2
    · have e2 : (x.kind != 2) = false := by simp [k2]
      have HK1 := Lib.hid k1
      have HK := Lib.hid k2
      clear k1 k2
      go_enter Try.func44, Try.ntmps44
      go_wp2_with fail
      have S : All (fun w' => Below w.heap.size w w' ∧ w'.heap[w.heap.size]? = some (.cells #[.int .i64 x.kind, .int .i64 x.a.sock, .string x.a.db, .int .i64 x.a.st, .int .i64 x.a.ticket, .int .i64 x.a.since, .string x.a.q, .int .i64 x.a.line, .int .i64 x.a.lease, .int .i64 x.l.sock, .string x.l.db, .int .i64 x.l.gen, .int .i64 x.l.st, .int .i64 x.l.since, .int .i64 x.l.asker, .int .i64 x.l.lease] 54 (0, 0)) ∧ w'.heap[w.heap.size + 1]? = some (.cells #[.int .i64 x.l.sock, .string x.l.db, .int .i64 x.l.gen, .int .i64 x.l.st, .int .i64 x.l.since, .int .i64 x.l.asker, .int .i64 x.l.lease] 52 (0, 0))) ((w.alloc (.cells #[.int .i64 x.kind, .int .i64 x.a.sock, .string x.a.db, .int .i64 x.a.st, .int .i64 x.a.ticket, .int .i64 x.a.since, .string x.a.q, .int .i64 x.a.line, .int .i64 x.a.lease, .int .i64 x.l.sock, .string x.l.db, .int .i64 x.l.gen, .int .i64 x.l.st, .int .i64 x.l.since, .int .i64 x.l.asker, .int .i64 x.l.lease] 54)).alloc (.cells #[.int .i64 x.l.sock, .string x.l.db, .int .i64 x.l.gen, .int .i64 x.l.st, .int .i64 x.l.since, .int .i64 x.l.asker, .int .i64 x.l.lease] 52)) := ⟨Later.trans (Later.alloc w _) (Later.alloc _ _), ((Later.alloc _ _).block _ (by simp)).trans (heap_alloc_new w _), heap_alloc_new' _ _ (by simp)⟩
      generalize (w.alloc (.cells #[.int .i64 x.kind, .int .i64 x.a.sock, .string x.a.db, .int .i64 x.a.st, .int .i64 x.a.ticket, .int .i64 x.a.since, .string x.a.q, .int .i64 x.a.line, .int .i64 x.a.lease, .int .i64 x.l.sock, .string x.l.db, .int .i64 x.l.gen, .int .i64 x.l.st, .int .i64 x.l.since, .int .i64 x.l.asker, .int .i64 x.l.lease] 54)).alloc (.cells #[.int .i64 x.l.sock, .string x.l.db, .int .i64 x.l.gen, .int .i64 x.l.st, .int .i64 x.l.since, .int .i64 x.l.asker, .int .i64 x.l.lease] 52) = W0 at S ⊢
      refine (lnBS_any x.l W0 hs.2).mono ?_
      rintro e W1 ⟨rfl, hb⟩
      replace S := S.later hb
      clear hb
      cases ta : lnB x.l
      · have HA := Lib.hid ta
        clear ta
        obtain rfl : LL = [] := by rw [← HL.out]; unfold itemB; rw [if_neg HK1.out, if_pos HK.out]; simp [HA.out]
        go_wp2_with fail
        go_ret
        exact ⟨_, rfl, own_empty _ _ S.out.1.size, Later.trans S.out.1 (Later.alloc _ _)⟩
      · have HA := Lib.hid ta
        clear ta
        have G1 := fun a b w => ak_guard .neq a b x.a akZero w
        have G2 := fun w => ak_equal x.a akZero w
        obtain ⟨u, hu⟩ : ∃ u, akEqB x.a akZero = u := ⟨_, rfl⟩
        rw [hu] at G2
        unfold akC akZero at G1 G2
        have HU := Lib.hid hu
        clear hu
        cases u
        · skip
          have c1 := var_cell S.out.2.1 1
          have c2 := var_cell S.out.2.1 2
          have c3 := var_cell S.out.2.1 3
          have c4 := var_cell S.out.2.1 4
          have c5 := var_cell S.out.2.1 5
          have c6 := var_cell S.out.2.1 6
          have c7 := var_cell S.out.2.1 7
          have c8 := var_cell S.out.2.1 8
          obtain rfl : LL = [] := by rw [← HL.out]; unfold itemB; rw [if_neg HK1.out, if_pos HK.out]; simp [HU.out]
          go_wp2_with fail
          go_ret
          exact ⟨_, rfl, own_empty _ _ S.out.1.size, Later.trans S.out.1 (Later.alloc _ _)⟩
        · by_cases tl : x.l.lease ≤ 65535
          · have HT := Lib.hid tl
            have hsi := lnB_since HA.out
            have hs0 := hsi.1
            have hs1 := hsi.2
            clear hsi
            have HLL := Lib.hid ((ln_chain x.l).trans (show lnBytes x.l = LL by rw [← HL.out]; unfold itemB; rw [if_neg HK1.out, if_pos HK.out]; rw [if_pos ⟨HA.out, HU.out, HT.out⟩]))
            have c1 := var_cell S.out.2.1 1
            have c2 := var_cell S.out.2.1 2
            have c3 := var_cell S.out.2.1 3
            have c4 := var_cell S.out.2.1 4
            have c5 := var_cell S.out.2.1 5
            have c6 := var_cell S.out.2.1 6
            have c7 := var_cell S.out.2.1 7
            have c8 := var_cell S.out.2.1 8
            have d6 := var_cell S.out.2.2 6
            go_upto_region 11 with (fail)
            clear G1 G2 d6 c1 c2 c3 c4 c5 c6 c7 c8
            replace S : All (fun w' => Below w.heap.size w w' ∧ w'.heap[w.heap.size + 1]? = some (.cells #[.int .i64 x.l.sock, .string x.l.db, .int .i64 x.l.gen, .int .i64 x.l.st, .int .i64 x.l.since, .int .i64 x.l.asker, .int .i64 x.l.lease] 52 (0, 0))) W1 := ⟨S.out.1, S.out.2.2⟩
            have HBXp := Lib.hid (And.intro S.out.2 (Array.getElem?_eq_some_iff.1 S.out.2).1)
            have HSp := Lib.hid S.out.1
            go_cut [6] from 85 (fun v W' => ∃ (A : Option Addr) (c : Nat) (l : List UInt8), v = .slice A l.length c ∧ Hid (l = ptB (([u8 2] ++ wordBytes x.l.sock) ++ [u8 x.l.st]) x.l.db.data.toList ++ wordBytes x.l.gen) ∧ Hid (l.length ≤ 107) ∧ Reads W' W'.heap.size 1 A l.length (bys l) ∧ Below w.heap.size w W' ∧ W'.heap[w.heap.size + 1]? = some (.cells #[.int .i64 x.l.sock, .string x.l.db, .int .i64 x.l.gen, .int .i64 x.l.st, .int .i64 x.l.since, .int .i64 x.l.asker, .int .i64 x.l.lease] 52 (0, 0)))
            case first =>
              rename_i J K1 hJ hK
              have T : All (fun w' => Below W1.heap.size W1 w' ∧ (w'.heap[w.heap.size + 1]? = some (.cells #[.int .i64 x.l.sock, .string x.l.db, .int .i64 x.l.gen, .int .i64 x.l.st, .int .i64 x.l.since, .int .i64 x.l.asker, .int .i64 x.l.lease] 52 (0, 0)))) W1 := ⟨Below.refl _ _, S.out.2⟩
              clear S
              refine wp_region_open 100 (fun w' => w'.heap[w.heap.size + 1]? = some (.cells #[.int .i64 x.l.sock, .string x.l.db, .int .i64 x.l.gen, .int .i64 x.l.st, .int .i64 x.l.since, .int .i64 x.l.asker, .int .i64 x.l.lease] 52 (0, 0))) (by kernel_rfl) ?_
              replace T := T.drew
              generalize W1.drew = Vdp at T  ⊢
              refine wpAnyL_readsG [1, 2, 4, 5, 6, 9, 10, 12, 13] (fuel := 7) (by kernel_rfl) T.out.2 ?_
              refine LexRG.yes rfl (by first | rfl | (simp [Region.wanted, yielded]; done)) ?_ (fun w' hw => ?_) ?_
              rotate_left
              focus (clear hw; go_simp; (try exact rfl))
              try go_frame
              refine LexRG.yes rfl (by first | rfl | (simp [Region.wanted, yielded]; done)) ?_ (fun w' hw => ?_) ?_
              rotate_left
              focus (have c0 := var_cell hw 0; have c1 := var_cell hw 1; have c2 := var_cell hw 2; have c3 := var_cell hw 3; have c4 := var_cell hw 4; have c5 := var_cell hw 5; have c6 := var_cell hw 6; clear hw; go_simp; (try exact rfl))
              try go_frame
              refine LexRG.yes rfl (by first | rfl | (simp [Region.wanted, yielded]; done)) ?_ (fun w' hw => ?_) ?_
              rotate_left
              focus (clear hw; go_simp; (try exact rfl))
              try go_frame
              refine LexRG.yes rfl (by first | rfl | (simp [Region.wanted, yielded]; done)) ?_ (fun w' hw => ?_) ?_
              rotate_left
              focus (have c0 := var_cell hw 0; have c1 := var_cell hw 1; have c2 := var_cell hw 2; have c3 := var_cell hw 3; have c4 := var_cell hw 4; have c5 := var_cell hw 5; have c6 := var_cell hw 6; clear hw; go_simp; (try exact rfl))
              try go_frame
              refine LexRG.yes rfl (by first | rfl | (simp [Region.wanted, yielded]; done)) ?_ (fun w' hw => ?_) ?_
              rotate_left
              focus (clear hw; go_simp; (try exact rfl))
              try go_frame
              refine LexRG.yes rfl (by first | rfl | (simp [Region.wanted, yielded]; done)) ?_ (fun w' hw => ?_) ?_
              rotate_left
              focus (clear hw; go_simp; (try exact rfl))
              try go_frame
              refine LexRG.yes rfl (by first | rfl | (simp [Region.wanted, yielded]; done)) ?_ (fun w' hw => ?_) ?_
              rotate_left
              focus (have c0 := var_cell hw 0; have c1 := var_cell hw 1; have c2 := var_cell hw 2; have c3 := var_cell hw 3; have c4 := var_cell hw 4; have c5 := var_cell hw 5; have c6 := var_cell hw 6; clear hw; go_simp; (try exact rfl))
              try go_frame
              refine LexRG.yes rfl (by first | rfl | (simp [Region.wanted, yielded]; done)) ?_ (fun w' hw => ?_) ?_
              rotate_left
              focus (clear hw; go_simp; (try exact rfl))
              try go_frame
              refine LexRG.yes rfl (by first | rfl | (simp [Region.wanted, yielded]; done)) ?_ (fun w' hw => ?_) ?_
              rotate_left
              focus (have c0 := var_cell hw 0; have c1 := var_cell hw 1; have c2 := var_cell hw 2; have c3 := var_cell hw 3; have c4 := var_cell hw 4; have c5 := var_cell hw 5; have c6 := var_cell hw 6; clear hw; go_simp; (try exact rfl))
              try go_frame
              refine LexRG.nil ?_
              refine wpAnyL_two (i := 0) (j := 7) (by kernel_rfl) ?_ ?_
              · skip
                refine lexA_get rfl ?_
                try go_frame
                go_wp2_with fail
                have hT9 := T
                replace T := T.alloc (.cells #[.int .u8 2] 5)
                clear hT9
                have rp0 : Reads (Vdp.alloc (.cells #[.int .u8 2] 5)) (Vdp.alloc (.cells #[.int .u8 2] 5)).heap.size 1 (some ⟨Vdp.heap.size, 0, none⟩) 1 (bys [u8 2]) := reads_new Vdp #[.int .u8 2] 1 5 rfl (by simp [maxLen])
                have ha := Later.alloc Vdp (.cells #[.int .u8 2] 5)
                try (replace rup := (rup.below ha).more ha.size)
                clear ha
                obtain ⟨Vp0, hVV⟩ : ∃ V, Vdp.alloc (.cells #[.int .u8 2] 5) = V := ⟨_, rfl⟩
                rw [hVV] at T rp0 ⊢
                try rw [hVV] at rup
                clear hVV
                obtain ⟨Gp0, hGG⟩ : ∃ G, (some ⟨Vdp.heap.size, 0, none⟩ : Option Addr) = G := ⟨_, rfl⟩
                rw [hGG] at rp0 ⊢
                clear hGG
                refine ⟨fun _ => T.out.2, ?_⟩
                refine wpAnyL_two (i := 3) (j := 7) (by kernel_rfl) ?_ ?_
                · skip
                  refine lexA_get rfl ?_
                  try go_frame
                  go_wp2_with fail
                  refine (putWordS_any Gp0 1 (x.l.sock) ([u8 2]) Vp0 rp0 (by simp)).mono ?_
                  rintro e V1 ⟨v, rfl, oo, hb⟩
                  have op3 := ownsRow_mono oo T.out.1.size
                  clear oo
                  have Bp3 := Lib.hid (show ([u8 2] ++ wordBytes (x.l.sock)).length ≤ 3 by simp [wordBytes])
                  have op3x : Owns _ W1.heap.size 5 v ([u8 2] ++ wordBytes (x.l.sock)) := op3
                  clear op3
                  obtain ⟨Lp3, hl⟩ : ∃ L, [u8 2] ++ wordBytes (x.l.sock) = L := ⟨_, rfl⟩
                  rw [hl] at op3x Bp3
                  have Ep3 := Lib.hid hl
                  clear hl
                  obtain ⟨Ap3, cp3, rfl, _, _, rp3, _⟩ := Owns.shape op3x
                  try (replace rup := (rup.below hb).more hb.size)
                  clear rp0
                  replace T := T.later hb
                  clear hb
                  go_wp2_with fail
                  refine ⟨fun _ => T.out.2, ?_⟩
                  refine wpAnyL_one (i := 7) (by kernel_rfl) ?_
                  refine lexA_get rfl ?_
                  try go_frame
                  go_wp2_with fail
                  replace T := T.alloc (.cells #[.int .u8 (x.l.st % 256)] 5)
                  have rup := one_u8 V1 (x.l.st)
                  have ha := Later.alloc V1 (.cells #[.int .u8 (x.l.st % 256)] 5)
                  try (replace rp0 := (rp0.below ha).more ha.size)
                  try (replace rp3 := (rp3.below ha).more ha.size)
                  try (replace rp11 := (rp11.below ha).more ha.size)
                  try (replace rp14 := (rp14.below ha).more ha.size)
                  try (replace op3x := op3x.keep ha)
                  try (replace op11x := op11x.keep ha)
                  try (replace op14x := op14x.keep ha)
                  clear ha
                  obtain ⟨Vup, hVV⟩ : ∃ V, V1.alloc (.cells #[.int .u8 (x.l.st % 256)] 5) = V := ⟨_, rfl⟩
                  rw [hVV] at T rup ⊢
                  try rw [hVV] at rp0
                  try rw [hVV] at rp3
                  try rw [hVV] at rp11
                  try rw [hVV] at rp14
                  try rw [hVV] at op3x
                  try rw [hVV] at op11x
                  try rw [hVV] at op14x
                  clear hVV
                  obtain ⟨Gup, hGG⟩ : ∃ G, (some ⟨V1.heap.size, 0, none⟩ : Option Addr) = G := ⟨_, rfl⟩
                  rw [hGG] at rup ⊢
                  clear hGG
                  refine ⟨fun _ => T.out.2, ?_⟩
                  refine wpAnyL_one (i := 8) (by kernel_rfl) ?_
                  refine lexA_get rfl ?_
                  try go_frame
                  refine wpList_append_any _ rfl (.tmp 88) (.tmp 92) _ rfl W1.heap.size 5 i0 _ 1 1 Try.underlying22 hi0 hz0 hz1 hz2 rfl (by omega) (.slice Ap3 Lp3.length cp3) Lp3.length (bys Lp3) rfl op3x Vup.heap.size Gup 1 1 (bys [u8 (x.l.st)]) rfl rup (bys_one _) (by have := Bp3.out; simp only [maxLen]; omega) (by have := Bp3.out; omega) T.out.1.size ?_
                  intro v Vp8 on hg _
                  have op8 : Owns Vp8 W1.heap.size 5 v (Lp3 ++ [u8 (x.l.st)]) := by unfold Owns; rw [bys_append, List.length_append]; exact on
                  have hbn : Below W1.heap.size W1 Vp8 := T.out.1.grown hg T.out.1.size (fun k hk => (op3x.lt k hk).1)
                  clear on hg op3x rp3 rup T
                  have T : All (fun w' => Below W1.heap.size W1 w' ∧ w'.heap[w.heap.size + 1]? = some (.cells #[.int .i64 x.l.sock, .string x.l.db, .int .i64 x.l.gen, .int .i64 x.l.st, .int .i64 x.l.since, .int .i64 x.l.asker, .int .i64 x.l.lease] 52 (0, 0))) Vp8 := ⟨hbn, (hbn.block _ HBXp.out.2).trans HBXp.out.1⟩
                  clear hbn
                  have Bp8 := Lib.hid (show (Lp3 ++ [u8 (x.l.st)]).length ≤ 4 by have := Bp3.out; simp; omega)
                  obtain ⟨Lp8, hl⟩ : ∃ L, Lp3 ++ [u8 (x.l.st)] = L := ⟨_, rfl⟩
                  rw [hl] at op8 Bp8
                  have Ep8 := Lib.hid hl
                  clear hl
                  obtain ⟨Ap8, cp8, rfl, _, _, rp8, _⟩ := Owns.shape op8
                  go_wp2_with fail
                  refine ⟨fun _ => T.out.2, ?_⟩
                  refine wpAnyL_one (i := 11) (by kernel_rfl) ?_
                  refine lexA_get rfl ?_
                  try go_frame
                  go_wp2_with fail
                  refine (putTextS_any Ap8 cp8 x.l.db Lp8 Vp8 rp8 (by have := Bp8.out; omega) (by omega)).mono ?_
                  rintro e V2 ⟨v, rfl, oo, hb⟩
                  have op11 := ownsRow_mono oo T.out.1.size
                  clear oo
                  have Bp11 := Lib.hid (show (ptB Lp8 x.l.db.data.toList).length ≤ 105 by have := Bp8.out; have := ptB_len Lp8 x.l.db.data.toList; omega)
                  have op11x : Owns _ W1.heap.size 5 v (ptB Lp8 x.l.db.data.toList) := op11
                  clear op11
                  obtain ⟨Lp11, hl⟩ : ∃ L, ptB Lp8 x.l.db.data.toList = L := ⟨_, rfl⟩
                  rw [hl] at op11x Bp11
                  have Ep11 := Lib.hid hl
                  clear hl
                  obtain ⟨Ap11, cp11, rfl, _, _, rp11, _⟩ := Owns.shape op11x
                  try (replace rup := (rup.below hb).more hb.size)
                  clear rp8
                  replace T := T.later hb
                  clear hb
                  go_wp2_with fail
                  refine ⟨fun _ => T.out.2, ?_⟩
                  refine wpAnyL_one (i := 14) (by kernel_rfl) ?_
                  refine lexA_get rfl ?_
                  try go_frame
                  go_wp2_with fail
                  refine (putWordS_any Ap11 cp11 (x.l.gen) Lp11 V2 rp11 (by have := Bp11.out; omega)).mono ?_
                  rintro e V3 ⟨v, rfl, oo, hb⟩
                  have op14 := ownsRow_mono oo T.out.1.size
                  clear oo
                  have Bp14 := Lib.hid (show (Lp11 ++ wordBytes (x.l.gen)).length ≤ 107 by have := Bp11.out; simp [wordBytes]; omega)
                  have op14x : Owns _ W1.heap.size 5 v (Lp11 ++ wordBytes (x.l.gen)) := op14
                  clear op14
                  obtain ⟨Lp14, hl⟩ : ∃ L, Lp11 ++ wordBytes (x.l.gen) = L := ⟨_, rfl⟩
                  rw [hl] at op14x Bp14
                  have Ep14 := Lib.hid hl
                  clear hl
                  obtain ⟨Ap14, cp14, rfl, _, _, rp14, _⟩ := Owns.shape op14x
                  try (replace rup := (rup.below hb).more hb.size)
                  clear rp11
                  replace T := T.later hb
                  clear hb
                  go_wp2_with fail
                  refine ⟨fun _ => T.out.2, ?_⟩
                  refine wpAnyL_writes [15] (by kernel_rfl) (LexW.cons rfl ?_)
                  try go_frame
                  go_wp2_with fail
                  refine ⟨fun _ => T.out.2, LexW.nil ?_⟩
                  refine hK _ _ (Met.intro (hJ _ _ ?_))
                  (repeat apply Exists.intro)
                  refine ⟨?_, rfl⟩
                  exact ⟨Ap14, cp14, Lp14, rfl, Lib.hid (by rw [← Ep14.out, ← Ep11.out, ← Ep8.out, ← Ep3.out]), Bp14, rp14, Later.trans HSp.out T.out.1, T.out.2⟩
                · skip
                  refine lexA_get rfl ?_
                  try go_frame
                  go_wp2_with fail
                  replace T := T.alloc (.cells #[.int .u8 (x.l.st % 256)] 5)
                  have rup := one_u8 Vp0 (x.l.st)
                  have ha := Later.alloc Vp0 (.cells #[.int .u8 (x.l.st % 256)] 5)
                  try (replace rp0 := (rp0.below ha).more ha.size)
                  try (replace rp3 := (rp3.below ha).more ha.size)
                  try (replace rp11 := (rp11.below ha).more ha.size)
                  try (replace rp14 := (rp14.below ha).more ha.size)
                  try (replace op3x := op3x.keep ha)
                  try (replace op11x := op11x.keep ha)
                  try (replace op14x := op14x.keep ha)
                  clear ha
                  obtain ⟨Vup, hVV⟩ : ∃ V, Vp0.alloc (.cells #[.int .u8 (x.l.st % 256)] 5) = V := ⟨_, rfl⟩
                  rw [hVV] at T rup ⊢
                  try rw [hVV] at rp0
                  try rw [hVV] at rp3
                  try rw [hVV] at rp11
                  try rw [hVV] at rp14
                  try rw [hVV] at op3x
                  try rw [hVV] at op11x
                  try rw [hVV] at op14x
                  clear hVV
                  obtain ⟨Gup, hGG⟩ : ∃ G, (some ⟨Vp0.heap.size, 0, none⟩ : Option Addr) = G := ⟨_, rfl⟩
                  rw [hGG] at rup ⊢
                  clear hGG
                  refine ⟨fun _ => T.out.2, ?_⟩
                  refine wpAnyL_one (i := 3) (by kernel_rfl) ?_
                  refine lexA_get rfl ?_
                  try go_frame
                  go_wp2_with fail
                  refine (putWordS_any Gp0 1 (x.l.sock) ([u8 2]) Vup rp0 (by simp)).mono ?_
                  rintro e V4 ⟨v, rfl, oo, hb⟩
                  have op3 := ownsRow_mono oo T.out.1.size
                  clear oo
                  have Bp3 := Lib.hid (show ([u8 2] ++ wordBytes (x.l.sock)).length ≤ 3 by simp [wordBytes])
                  have op3x : Owns _ W1.heap.size 5 v ([u8 2] ++ wordBytes (x.l.sock)) := op3
                  clear op3
                  obtain ⟨Lp3, hl⟩ : ∃ L, [u8 2] ++ wordBytes (x.l.sock) = L := ⟨_, rfl⟩
                  rw [hl] at op3x Bp3
                  have Ep3 := Lib.hid hl
                  clear hl
                  obtain ⟨Ap3, cp3, rfl, _, _, rp3, _⟩ := Owns.shape op3x
                  try (replace rup := (rup.below hb).more hb.size)
                  clear rp0
                  replace T := T.later hb
                  clear hb
                  go_wp2_with fail
                  refine ⟨fun _ => T.out.2, ?_⟩
                  refine wpAnyL_one (i := 8) (by kernel_rfl) ?_
                  refine lexA_get rfl ?_
                  try go_frame
                  refine wpList_append_any _ rfl (.tmp 88) (.tmp 92) _ rfl W1.heap.size 5 i0 _ 1 1 Try.underlying22 hi0 hz0 hz1 hz2 rfl (by omega) (.slice Ap3 Lp3.length cp3) Lp3.length (bys Lp3) rfl op3x V4.heap.size Gup 1 1 (bys [u8 (x.l.st)]) rfl rup (bys_one _) (by have := Bp3.out; simp only [maxLen]; omega) (by have := Bp3.out; omega) T.out.1.size ?_
                  intro v Vp8 on hg _
                  have op8 : Owns Vp8 W1.heap.size 5 v (Lp3 ++ [u8 (x.l.st)]) := by unfold Owns; rw [bys_append, List.length_append]; exact on
                  have hbn : Below W1.heap.size W1 Vp8 := T.out.1.grown hg T.out.1.size (fun k hk => (op3x.lt k hk).1)
                  clear on hg op3x rp3 rup T
                  have T : All (fun w' => Below W1.heap.size W1 w' ∧ w'.heap[w.heap.size + 1]? = some (.cells #[.int .i64 x.l.sock, .string x.l.db, .int .i64 x.l.gen, .int .i64 x.l.st, .int .i64 x.l.since, .int .i64 x.l.asker, .int .i64 x.l.lease] 52 (0, 0))) Vp8 := ⟨hbn, (hbn.block _ HBXp.out.2).trans HBXp.out.1⟩
                  clear hbn
                  have Bp8 := Lib.hid (show (Lp3 ++ [u8 (x.l.st)]).length ≤ 4 by have := Bp3.out; simp; omega)
                  obtain ⟨Lp8, hl⟩ : ∃ L, Lp3 ++ [u8 (x.l.st)] = L := ⟨_, rfl⟩
                  rw [hl] at op8 Bp8
                  have Ep8 := Lib.hid hl
                  clear hl
                  obtain ⟨Ap8, cp8, rfl, _, _, rp8, _⟩ := Owns.shape op8
                  go_wp2_with fail
                  refine ⟨fun _ => T.out.2, ?_⟩
                  refine wpAnyL_one (i := 11) (by kernel_rfl) ?_
                  refine lexA_get rfl ?_
                  try go_frame
                  go_wp2_with fail
                  refine (putTextS_any Ap8 cp8 x.l.db Lp8 Vp8 rp8 (by have := Bp8.out; omega) (by omega)).mono ?_
                  rintro e V5 ⟨v, rfl, oo, hb⟩
                  have op11 := ownsRow_mono oo T.out.1.size
                  clear oo
                  have Bp11 := Lib.hid (show (ptB Lp8 x.l.db.data.toList).length ≤ 105 by have := Bp8.out; have := ptB_len Lp8 x.l.db.data.toList; omega)
                  have op11x : Owns _ W1.heap.size 5 v (ptB Lp8 x.l.db.data.toList) := op11
                  clear op11
                  obtain ⟨Lp11, hl⟩ : ∃ L, ptB Lp8 x.l.db.data.toList = L := ⟨_, rfl⟩
                  rw [hl] at op11x Bp11
                  have Ep11 := Lib.hid hl
                  clear hl
                  obtain ⟨Ap11, cp11, rfl, _, _, rp11, _⟩ := Owns.shape op11x
                  try (replace rup := (rup.below hb).more hb.size)
                  clear rp8
                  replace T := T.later hb
                  clear hb
                  go_wp2_with fail
                  refine ⟨fun _ => T.out.2, ?_⟩
                  refine wpAnyL_one (i := 14) (by kernel_rfl) ?_
                  refine lexA_get rfl ?_
                  try go_frame
                  go_wp2_with fail
                  refine (putWordS_any Ap11 cp11 (x.l.gen) Lp11 V5 rp11 (by have := Bp11.out; omega)).mono ?_
                  rintro e V6 ⟨v, rfl, oo, hb⟩
                  have op14 := ownsRow_mono oo T.out.1.size
                  clear oo
                  have Bp14 := Lib.hid (show (Lp11 ++ wordBytes (x.l.gen)).length ≤ 107 by have := Bp11.out; simp [wordBytes]; omega)
                  have op14x : Owns _ W1.heap.size 5 v (Lp11 ++ wordBytes (x.l.gen)) := op14
                  clear op14
                  obtain ⟨Lp14, hl⟩ : ∃ L, Lp11 ++ wordBytes (x.l.gen) = L := ⟨_, rfl⟩
                  rw [hl] at op14x Bp14
                  have Ep14 := Lib.hid hl
                  clear hl
                  obtain ⟨Ap14, cp14, rfl, _, _, rp14, _⟩ := Owns.shape op14x
                  try (replace rup := (rup.below hb).more hb.size)
                  clear rp11
                  replace T := T.later hb
                  clear hb
                  go_wp2_with fail
                  refine ⟨fun _ => T.out.2, ?_⟩
                  refine wpAnyL_writes [15] (by kernel_rfl) (LexW.cons rfl ?_)
                  try go_frame
                  go_wp2_with fail
                  refine ⟨fun _ => T.out.2, LexW.nil ?_⟩
                  refine hK _ _ (Met.intro (hJ _ _ ?_))
                  (repeat apply Exists.intro)
                  refine ⟨?_, rfl⟩
                  exact ⟨Ap14, cp14, Lp14, rfl, Lib.hid (by rw [← Ep14.out, ← Ep11.out, ← Ep8.out, ← Ep3.out]), Bp14, rp14, Later.trans HSp.out T.out.1, T.out.2⟩
              · skip
                refine lexA_get rfl ?_
                try go_frame
                go_wp2_with fail
                replace T := T.alloc (.cells #[.int .u8 (x.l.st % 256)] 5)
                have rup := one_u8 Vdp (x.l.st)
                have ha := Later.alloc Vdp (.cells #[.int .u8 (x.l.st % 256)] 5)
                try (replace rp0 := (rp0.below ha).more ha.size)
                try (replace rp3 := (rp3.below ha).more ha.size)
                try (replace rp11 := (rp11.below ha).more ha.size)
                try (replace rp14 := (rp14.below ha).more ha.size)
                try (replace op3x := op3x.keep ha)
                try (replace op11x := op11x.keep ha)
                try (replace op14x := op14x.keep ha)
                clear ha
                obtain ⟨Vup, hVV⟩ : ∃ V, Vdp.alloc (.cells #[.int .u8 (x.l.st % 256)] 5) = V := ⟨_, rfl⟩
                rw [hVV] at T rup ⊢
                try rw [hVV] at rp0
                try rw [hVV] at rp3
                try rw [hVV] at rp11
                try rw [hVV] at rp14
                try rw [hVV] at op3x
                try rw [hVV] at op11x
                try rw [hVV] at op14x
                clear hVV
                obtain ⟨Gup, hGG⟩ : ∃ G, (some ⟨Vdp.heap.size, 0, none⟩ : Option Addr) = G := ⟨_, rfl⟩
                rw [hGG] at rup ⊢
                clear hGG
                refine ⟨fun _ => T.out.2, ?_⟩
                refine wpAnyL_one (i := 0) (by kernel_rfl) ?_
                refine lexA_get rfl ?_
                try go_frame
                go_wp2_with fail
                have hT9 := T
                replace T := T.alloc (.cells #[.int .u8 2] 5)
                clear hT9
                have rp0 : Reads (Vup.alloc (.cells #[.int .u8 2] 5)) (Vup.alloc (.cells #[.int .u8 2] 5)).heap.size 1 (some ⟨Vup.heap.size, 0, none⟩) 1 (bys [u8 2]) := reads_new Vup #[.int .u8 2] 1 5 rfl (by simp [maxLen])
                have ha := Later.alloc Vup (.cells #[.int .u8 2] 5)
                try (replace rup := (rup.below ha).more ha.size)
                clear ha
                obtain ⟨Vp0, hVV⟩ : ∃ V, Vup.alloc (.cells #[.int .u8 2] 5) = V := ⟨_, rfl⟩
                rw [hVV] at T rp0 ⊢
                try rw [hVV] at rup
                clear hVV
                obtain ⟨Gp0, hGG⟩ : ∃ G, (some ⟨Vup.heap.size, 0, none⟩ : Option Addr) = G := ⟨_, rfl⟩
                rw [hGG] at rp0 ⊢
                clear hGG
                refine ⟨fun _ => T.out.2, ?_⟩
                refine wpAnyL_one (i := 3) (by kernel_rfl) ?_
                refine lexA_get rfl ?_
                try go_frame
                go_wp2_with fail
                refine (putWordS_any Gp0 1 (x.l.sock) ([u8 2]) Vp0 rp0 (by simp)).mono ?_
                rintro e V7 ⟨v, rfl, oo, hb⟩
                have op3 := ownsRow_mono oo T.out.1.size
                clear oo
                have Bp3 := Lib.hid (show ([u8 2] ++ wordBytes (x.l.sock)).length ≤ 3 by simp [wordBytes])
                have op3x : Owns _ W1.heap.size 5 v ([u8 2] ++ wordBytes (x.l.sock)) := op3
                clear op3
                obtain ⟨Lp3, hl⟩ : ∃ L, [u8 2] ++ wordBytes (x.l.sock) = L := ⟨_, rfl⟩
                rw [hl] at op3x Bp3
                have Ep3 := Lib.hid hl
                clear hl
                obtain ⟨Ap3, cp3, rfl, _, _, rp3, _⟩ := Owns.shape op3x
                try (replace rup := (rup.below hb).more hb.size)
                clear rp0
                replace T := T.later hb
                clear hb
                go_wp2_with fail
                refine ⟨fun _ => T.out.2, ?_⟩
                refine wpAnyL_one (i := 8) (by kernel_rfl) ?_
                refine lexA_get rfl ?_
                try go_frame
                refine wpList_append_any _ rfl (.tmp 88) (.tmp 92) _ rfl W1.heap.size 5 i0 _ 1 1 Try.underlying22 hi0 hz0 hz1 hz2 rfl (by omega) (.slice Ap3 Lp3.length cp3) Lp3.length (bys Lp3) rfl op3x V7.heap.size Gup 1 1 (bys [u8 (x.l.st)]) rfl rup (bys_one _) (by have := Bp3.out; simp only [maxLen]; omega) (by have := Bp3.out; omega) T.out.1.size ?_
                intro v Vp8 on hg _
                have op8 : Owns Vp8 W1.heap.size 5 v (Lp3 ++ [u8 (x.l.st)]) := by unfold Owns; rw [bys_append, List.length_append]; exact on
                have hbn : Below W1.heap.size W1 Vp8 := T.out.1.grown hg T.out.1.size (fun k hk => (op3x.lt k hk).1)
                clear on hg op3x rp3 rup T
                have T : All (fun w' => Below W1.heap.size W1 w' ∧ w'.heap[w.heap.size + 1]? = some (.cells #[.int .i64 x.l.sock, .string x.l.db, .int .i64 x.l.gen, .int .i64 x.l.st, .int .i64 x.l.since, .int .i64 x.l.asker, .int .i64 x.l.lease] 52 (0, 0))) Vp8 := ⟨hbn, (hbn.block _ HBXp.out.2).trans HBXp.out.1⟩
                clear hbn
                have Bp8 := Lib.hid (show (Lp3 ++ [u8 (x.l.st)]).length ≤ 4 by have := Bp3.out; simp; omega)
                obtain ⟨Lp8, hl⟩ : ∃ L, Lp3 ++ [u8 (x.l.st)] = L := ⟨_, rfl⟩
                rw [hl] at op8 Bp8
                have Ep8 := Lib.hid hl
                clear hl
                obtain ⟨Ap8, cp8, rfl, _, _, rp8, _⟩ := Owns.shape op8
                go_wp2_with fail
                refine ⟨fun _ => T.out.2, ?_⟩
                refine wpAnyL_one (i := 11) (by kernel_rfl) ?_
                refine lexA_get rfl ?_
                try go_frame
                go_wp2_with fail
                refine (putTextS_any Ap8 cp8 x.l.db Lp8 Vp8 rp8 (by have := Bp8.out; omega) (by omega)).mono ?_
                rintro e V8 ⟨v, rfl, oo, hb⟩
                have op11 := ownsRow_mono oo T.out.1.size
                clear oo
                have Bp11 := Lib.hid (show (ptB Lp8 x.l.db.data.toList).length ≤ 105 by have := Bp8.out; have := ptB_len Lp8 x.l.db.data.toList; omega)
                have op11x : Owns _ W1.heap.size 5 v (ptB Lp8 x.l.db.data.toList) := op11
                clear op11
                obtain ⟨Lp11, hl⟩ : ∃ L, ptB Lp8 x.l.db.data.toList = L := ⟨_, rfl⟩
                rw [hl] at op11x Bp11
                have Ep11 := Lib.hid hl
                clear hl
                obtain ⟨Ap11, cp11, rfl, _, _, rp11, _⟩ := Owns.shape op11x
                try (replace rup := (rup.below hb).more hb.size)
                clear rp8
                replace T := T.later hb
                clear hb
                go_wp2_with fail
                refine ⟨fun _ => T.out.2, ?_⟩
                refine wpAnyL_one (i := 14) (by kernel_rfl) ?_
                refine lexA_get rfl ?_
                try go_frame
                go_wp2_with fail
                refine (putWordS_any Ap11 cp11 (x.l.gen) Lp11 V8 rp11 (by have := Bp11.out; omega)).mono ?_
                rintro e V9 ⟨v, rfl, oo, hb⟩
                have op14 := ownsRow_mono oo T.out.1.size
                clear oo
                have Bp14 := Lib.hid (show (Lp11 ++ wordBytes (x.l.gen)).length ≤ 107 by have := Bp11.out; simp [wordBytes]; omega)
                have op14x : Owns _ W1.heap.size 5 v (Lp11 ++ wordBytes (x.l.gen)) := op14
                clear op14
                obtain ⟨Lp14, hl⟩ : ∃ L, Lp11 ++ wordBytes (x.l.gen) = L := ⟨_, rfl⟩
                rw [hl] at op14x Bp14
                have Ep14 := Lib.hid hl
                clear hl
                obtain ⟨Ap14, cp14, rfl, _, _, rp14, _⟩ := Owns.shape op14x
                try (replace rup := (rup.below hb).more hb.size)
                clear rp11
                replace T := T.later hb
                clear hb
                go_wp2_with fail
                refine ⟨fun _ => T.out.2, ?_⟩
                refine wpAnyL_writes [15] (by kernel_rfl) (LexW.cons rfl ?_)
                try go_frame
                go_wp2_with fail
                refine ⟨fun _ => T.out.2, LexW.nil ?_⟩
                refine hK _ _ (Met.intro (hJ _ _ ?_))
                (repeat apply Exists.intro)
                refine ⟨?_, rfl⟩
                exact ⟨Ap14, cp14, Lp14, rfl, Lib.hid (by rw [← Ep14.out, ← Ep11.out, ← Ep8.out, ← Ep3.out]), Bp14, rp14, Later.trans HSp.out T.out.1, T.out.2⟩
            case rest =>
              obtain ⟨Ap, cp, Lp, rfl, HEp, Bp, rp, hbS, hbx⟩ := hcut
              obtain ⟨Wp, rfl⟩ : ∃ wo : World, wo = wc := ⟨_, rfl⟩
              have S : All (fun w' => Below w.heap.size w w' ∧ (w'.heap[w.heap.size + 1]? = some (.cells #[.int .i64 x.l.sock, .string x.l.db, .int .i64 x.l.gen, .int .i64 x.l.st, .int .i64 x.l.since, .int .i64 x.l.asker, .int .i64 x.l.lease] 52 (0, 0)))) Wp := ⟨hbS, hbx⟩
              clear hbS hbx HBXp HSp
              go_upto_region 12 with (fail)
              have HBXq := Lib.hid (And.intro S.out.2 (Array.getElem?_eq_some_iff.1 S.out.2).1)
              have HSq := Lib.hid S.out.1
              have T : All (fun w' => Below Wp.heap.size Wp w' ∧ (w'.heap[w.heap.size + 1]? = some (.cells #[.int .i64 x.l.sock, .string x.l.db, .int .i64 x.l.gen, .int .i64 x.l.st, .int .i64 x.l.since, .int .i64 x.l.asker, .int .i64 x.l.lease] 52 (0, 0)))) Wp := ⟨Below.refl _ _, S.out.2⟩
              clear S
              replace rp := (rp.below (Later.drew Wp)).more (Later.drew Wp).size
              refine wp_region_open 100 (fun w' => w'.heap[w.heap.size + 1]? = some (.cells #[.int .i64 x.l.sock, .string x.l.db, .int .i64 x.l.gen, .int .i64 x.l.st, .int .i64 x.l.since, .int .i64 x.l.asker, .int .i64 x.l.lease] 52 (0, 0))) (by kernel_rfl) ?_
              replace T := T.drew
              generalize Wp.drew = Vdq at T rp ⊢
              refine wpAnyL_readsG [0, 1, 2, 3, 5, 6, 7, 8, 11, 12, 14, 15] (fuel := 6) (by kernel_rfl) T.out.2 ?_
              refine LexRG.yes rfl (by first | rfl | (simp [Region.wanted, yielded]; done)) ?_ (fun w' hw => ?_) ?_
              rotate_left
              focus (clear hw; go_simp; (try exact rfl))
              try go_frame
              refine LexRG.yes rfl (by first | rfl | (simp [Region.wanted, yielded]; done)) ?_ (fun w' hw => ?_) ?_
              rotate_left
              focus (clear hw; go_simp; (try exact rfl))
              try go_frame
              refine LexRG.yes rfl (by first | rfl | (simp [Region.wanted, yielded]; done)) ?_ (fun w' hw => ?_) ?_
              rotate_left
              focus (have c0 := var_cell hw 0; have c1 := var_cell hw 1; have c2 := var_cell hw 2; have c3 := var_cell hw 3; have c4 := var_cell hw 4; have c5 := var_cell hw 5; have c6 := var_cell hw 6; clear hw; go_simp; (try exact rfl))
              try go_frame
              refine LexRG.yes rfl (by first | rfl | (simp [Region.wanted, yielded]; done)) ?_ (fun w' hw => ?_) ?_
              rotate_left
              focus (clear hw; go_simp; (try exact rfl))
              try go_frame
              refine LexRG.yes rfl (by first | rfl | (simp [Region.wanted, yielded]; done)) ?_ (fun w' hw => ?_) ?_
              rotate_left
              focus (clear hw; go_simp; (try exact rfl))
              try go_frame
              refine LexRG.yes rfl (by first | rfl | (simp [Region.wanted, yielded]; done)) ?_ (fun w' hw => ?_) ?_
              rotate_left
              focus (have c0 := var_cell hw 0; have c1 := var_cell hw 1; have c2 := var_cell hw 2; have c3 := var_cell hw 3; have c4 := var_cell hw 4; have c5 := var_cell hw 5; have c6 := var_cell hw 6; clear hw; go_simp; (try exact rfl))
              try go_frame
              refine LexRG.yes rfl (by first | rfl | (simp [Region.wanted, yielded]; done)) ?_ (fun w' hw => ?_) ?_
              rotate_left
              focus (clear hw; go_simp; (try exact rfl))
              try go_frame
              refine LexRG.yes rfl (by first | rfl | (simp [Region.wanted, yielded]; done)) ?_ (fun w' hw => ?_) ?_
              rotate_left
              focus (clear hw; go_simp; (try exact rfl))
              try go_frame
              refine LexRG.yes rfl (by first | rfl | (simp [Region.wanted, yielded]; done)) ?_ (fun w' hw => ?_) ?_
              rotate_left
              focus (clear hw; go_simp; (try exact rfl))
              try go_frame
              refine LexRG.yes rfl (by first | rfl | (simp [Region.wanted, yielded]; done)) ?_ (fun w' hw => ?_) ?_
              rotate_left
              focus (have c0 := var_cell hw 0; have c1 := var_cell hw 1; have c2 := var_cell hw 2; have c3 := var_cell hw 3; have c4 := var_cell hw 4; have c5 := var_cell hw 5; have c6 := var_cell hw 6; clear hw; go_simp; (try exact rfl))
              try go_frame
              refine LexRG.yes rfl (by first | rfl | (simp [Region.wanted, yielded]; done)) ?_ (fun w' hw => ?_) ?_
              rotate_left
              focus (clear hw; go_simp; (try exact rfl))
              try go_frame
              refine LexRG.yes rfl (by first | rfl | (simp [Region.wanted, yielded]; done)) ?_ (fun w' hw => ?_) ?_
              rotate_left
              focus (have c0 := var_cell hw 0; have c1 := var_cell hw 1; have c2 := var_cell hw 2; have c3 := var_cell hw 3; have c4 := var_cell hw 4; have c5 := var_cell hw 5; have c6 := var_cell hw 6; clear hw; go_simp; (try exact rfl))
              try go_frame
              refine LexRG.nil ?_
              refine wpAnyL_two (i := 4) (j := 9) (by kernel_rfl) ?_ ?_
              · skip
                refine lexA_get rfl ?_
                try go_frame
                go_wp2_with fail
                refine (putWordS_any Ap cp (x.l.since / 256) Lp Vdq rp (by have := Bp.out; omega)).mono ?_
                rintro e V1 ⟨v, rfl, oo, hb⟩
                have oq4 := ownsRow_mono oo T.out.1.size
                clear oo
                have Bq4 := Lib.hid (show (Lp ++ wordBytes (x.l.since / 256)).length ≤ 109 by have := Bp.out; simp [wordBytes]; omega)
                have oq4x : Owns _ Wp.heap.size 5 v (Lp ++ wordBytes (x.l.since / 256)) := oq4
                clear oq4
                obtain ⟨Lq4, hl⟩ : ∃ L, Lp ++ wordBytes (x.l.since / 256) = L := ⟨_, rfl⟩
                rw [hl] at oq4x Bq4
                have Eq4 := Lib.hid hl
                clear hl
                obtain ⟨Aq4, cq4, rfl, _, _, rq4, _⟩ := Owns.shape oq4x
                try (replace ruq := (ruq.below hb).more hb.size)
                clear rp
                replace T := T.later hb
                clear hb
                go_wp2_with fail
                refine ⟨fun _ => T.out.2, ?_⟩
                refine wpAnyL_one (i := 9) (by kernel_rfl) ?_
                refine lexA_get rfl ?_
                try go_frame
                go_wp2_with fail
                replace T := T.alloc (.cells #[.int .u8 (x.l.since % 256)] 5)
                have ruq := one_u8 V1 (x.l.since)
                have ha := Later.alloc V1 (.cells #[.int .u8 (x.l.since % 256)] 5)
                try (replace rp := (rp.below ha).more ha.size)
                try (replace rq4 := (rq4.below ha).more ha.size)
                try (replace rq13 := (rq13.below ha).more ha.size)
                try (replace rq16 := (rq16.below ha).more ha.size)
                try (replace oq4x := oq4x.keep ha)
                try (replace oq13x := oq13x.keep ha)
                try (replace oq16x := oq16x.keep ha)
                clear ha
                obtain ⟨Vuq, hVV⟩ : ∃ V, V1.alloc (.cells #[.int .u8 (x.l.since % 256)] 5) = V := ⟨_, rfl⟩
                rw [hVV] at T ruq ⊢
                try rw [hVV] at rp
                try rw [hVV] at rq4
                try rw [hVV] at rq13
                try rw [hVV] at rq16
                try rw [hVV] at oq4x
                try rw [hVV] at oq13x
                try rw [hVV] at oq16x
                clear hVV
                obtain ⟨Guq, hGG⟩ : ∃ G, (some ⟨V1.heap.size, 0, none⟩ : Option Addr) = G := ⟨_, rfl⟩
                rw [hGG] at ruq ⊢
                clear hGG
                refine ⟨fun _ => T.out.2, ?_⟩
                refine wpAnyL_one (i := 10) (by kernel_rfl) ?_
                refine lexA_get rfl ?_
                try go_frame
                refine wpList_append_any _ rfl (.tmp 104) (.tmp 109) _ rfl Wp.heap.size 5 i0 _ 1 1 Try.underlying22 hi0 hz0 hz1 hz2 rfl (by omega) (.slice Aq4 Lq4.length cq4) Lq4.length (bys Lq4) rfl oq4x Vuq.heap.size Guq 1 1 (bys [u8 (x.l.since)]) rfl ruq (bys_one _) (by have := Bq4.out; simp only [maxLen]; omega) (by have := Bq4.out; omega) T.out.1.size ?_
                intro v Vq10 on hg _
                have oq10 : Owns Vq10 Wp.heap.size 5 v (Lq4 ++ [u8 (x.l.since)]) := by unfold Owns; rw [bys_append, List.length_append]; exact on
                have hbn : Below Wp.heap.size Wp Vq10 := T.out.1.grown hg T.out.1.size (fun k hk => (oq4x.lt k hk).1)
                clear on hg oq4x rq4 ruq T
                have T : All (fun w' => Below Wp.heap.size Wp w' ∧ w'.heap[w.heap.size + 1]? = some (.cells #[.int .i64 x.l.sock, .string x.l.db, .int .i64 x.l.gen, .int .i64 x.l.st, .int .i64 x.l.since, .int .i64 x.l.asker, .int .i64 x.l.lease] 52 (0, 0))) Vq10 := ⟨hbn, (hbn.block _ HBXq.out.2).trans HBXq.out.1⟩
                clear hbn
                have Bq10 := Lib.hid (show (Lq4 ++ [u8 (x.l.since)]).length ≤ 110 by have := Bq4.out; simp; omega)
                obtain ⟨Lq10, hl⟩ : ∃ L, Lq4 ++ [u8 (x.l.since)] = L := ⟨_, rfl⟩
                rw [hl] at oq10 Bq10
                have Eq10 := Lib.hid hl
                clear hl
                obtain ⟨Aq10, cq10, rfl, _, _, rq10, _⟩ := Owns.shape oq10
                go_wp2_with fail
                refine ⟨fun _ => T.out.2, ?_⟩
                refine wpAnyL_one (i := 13) (by kernel_rfl) ?_
                refine lexA_get rfl ?_
                try go_frame
                go_wp2_with fail
                refine (putWordS_any Aq10 cq10 (x.l.asker) Lq10 Vq10 rq10 (by have := Bq10.out; omega)).mono ?_
                rintro e V2 ⟨v, rfl, oo, hb⟩
                have oq13 := ownsRow_mono oo T.out.1.size
                clear oo
                have Bq13 := Lib.hid (show (Lq10 ++ wordBytes (x.l.asker)).length ≤ 112 by have := Bq10.out; simp [wordBytes]; omega)
                have oq13x : Owns _ Wp.heap.size 5 v (Lq10 ++ wordBytes (x.l.asker)) := oq13
                clear oq13
                obtain ⟨Lq13, hl⟩ : ∃ L, Lq10 ++ wordBytes (x.l.asker) = L := ⟨_, rfl⟩
                rw [hl] at oq13x Bq13
                have Eq13 := Lib.hid hl
                clear hl
                obtain ⟨Aq13, cq13, rfl, _, _, rq13, _⟩ := Owns.shape oq13x
                try (replace ruq := (ruq.below hb).more hb.size)
                clear rq10
                replace T := T.later hb
                clear hb
                go_wp2_with fail
                refine ⟨fun _ => T.out.2, ?_⟩
                refine wpAnyL_one (i := 16) (by kernel_rfl) ?_
                refine lexA_get rfl ?_
                try go_frame
                go_wp2_with fail
                refine (putWordS_any Aq13 cq13 (x.l.lease) Lq13 V2 rq13 (by have := Bq13.out; omega)).mono ?_
                rintro e V3 ⟨v, rfl, oo, hb⟩
                have oq16 := ownsRow_mono oo T.out.1.size
                clear oo
                have Bq16 := Lib.hid (show (Lq13 ++ wordBytes (x.l.lease)).length ≤ 114 by have := Bq13.out; simp [wordBytes]; omega)
                have oq16x : Owns _ Wp.heap.size 5 v (Lq13 ++ wordBytes (x.l.lease)) := oq16
                clear oq16
                obtain ⟨Lq16, hl⟩ : ∃ L, Lq13 ++ wordBytes (x.l.lease) = L := ⟨_, rfl⟩
                rw [hl] at oq16x Bq16
                have Eq16 := Lib.hid hl
                clear hl
                obtain ⟨Aq16, cq16, rfl, _, _, rq16, _⟩ := Owns.shape oq16x
                try (replace ruq := (ruq.below hb).more hb.size)
                clear rq13
                replace T := T.later hb
                clear hb
                go_wp2_with fail
                refine ⟨fun _ => T.out.2, ?_⟩
                refine wpAnyL_writes [17] (by kernel_rfl) (LexW.cons rfl ?_)
                try go_frame
                go_wp2_with fail
                refine ⟨fun _ => T.out.2, LexW.nil ?_⟩
                have hfin := Later.trans HSq.out T.out.1
                have HF := Lib.hid (show Owns V3 w.heap.size 5 _ LL from by rw [← (show Lq16 = LL from by rw [← Eq16.out, ← Eq13.out, ← Eq10.out, ← Eq4.out, HEp.out]; exact HLL.out)]; exact ownsRow_mono oq16x HSq.out.size)
                go_wp2_with fail
                go_ret
                exact ⟨_, rfl, HF.out, hfin⟩
              · skip
                refine lexA_get rfl ?_
                try go_frame
                go_wp2_with fail
                replace T := T.alloc (.cells #[.int .u8 (x.l.since % 256)] 5)
                have ruq := one_u8 Vdq (x.l.since)
                have ha := Later.alloc Vdq (.cells #[.int .u8 (x.l.since % 256)] 5)
                try (replace rp := (rp.below ha).more ha.size)
                try (replace rq4 := (rq4.below ha).more ha.size)
                try (replace rq13 := (rq13.below ha).more ha.size)
                try (replace rq16 := (rq16.below ha).more ha.size)
                try (replace oq4x := oq4x.keep ha)
                try (replace oq13x := oq13x.keep ha)
                try (replace oq16x := oq16x.keep ha)
                clear ha
                obtain ⟨Vuq, hVV⟩ : ∃ V, Vdq.alloc (.cells #[.int .u8 (x.l.since % 256)] 5) = V := ⟨_, rfl⟩
                rw [hVV] at T ruq ⊢
                try rw [hVV] at rp
                try rw [hVV] at rq4
                try rw [hVV] at rq13
                try rw [hVV] at rq16
                try rw [hVV] at oq4x
                try rw [hVV] at oq13x
                try rw [hVV] at oq16x
                clear hVV
                obtain ⟨Guq, hGG⟩ : ∃ G, (some ⟨Vdq.heap.size, 0, none⟩ : Option Addr) = G := ⟨_, rfl⟩
                rw [hGG] at ruq ⊢
                clear hGG
                refine ⟨fun _ => T.out.2, ?_⟩
                refine wpAnyL_one (i := 4) (by kernel_rfl) ?_
                refine lexA_get rfl ?_
                try go_frame
                go_wp2_with fail
                refine (putWordS_any Ap cp (x.l.since / 256) Lp Vuq rp (by have := Bp.out; omega)).mono ?_
                rintro e V4 ⟨v, rfl, oo, hb⟩
                have oq4 := ownsRow_mono oo T.out.1.size
                clear oo
                have Bq4 := Lib.hid (show (Lp ++ wordBytes (x.l.since / 256)).length ≤ 109 by have := Bp.out; simp [wordBytes]; omega)
                have oq4x : Owns _ Wp.heap.size 5 v (Lp ++ wordBytes (x.l.since / 256)) := oq4
                clear oq4
                obtain ⟨Lq4, hl⟩ : ∃ L, Lp ++ wordBytes (x.l.since / 256) = L := ⟨_, rfl⟩
                rw [hl] at oq4x Bq4
                have Eq4 := Lib.hid hl
                clear hl
                obtain ⟨Aq4, cq4, rfl, _, _, rq4, _⟩ := Owns.shape oq4x
                try (replace ruq := (ruq.below hb).more hb.size)
                clear rp
                replace T := T.later hb
                clear hb
                go_wp2_with fail
                refine ⟨fun _ => T.out.2, ?_⟩
                refine wpAnyL_one (i := 10) (by kernel_rfl) ?_
                refine lexA_get rfl ?_
                try go_frame
                refine wpList_append_any _ rfl (.tmp 104) (.tmp 109) _ rfl Wp.heap.size 5 i0 _ 1 1 Try.underlying22 hi0 hz0 hz1 hz2 rfl (by omega) (.slice Aq4 Lq4.length cq4) Lq4.length (bys Lq4) rfl oq4x V4.heap.size Guq 1 1 (bys [u8 (x.l.since)]) rfl ruq (bys_one _) (by have := Bq4.out; simp only [maxLen]; omega) (by have := Bq4.out; omega) T.out.1.size ?_
                intro v Vq10 on hg _
                have oq10 : Owns Vq10 Wp.heap.size 5 v (Lq4 ++ [u8 (x.l.since)]) := by unfold Owns; rw [bys_append, List.length_append]; exact on
                have hbn : Below Wp.heap.size Wp Vq10 := T.out.1.grown hg T.out.1.size (fun k hk => (oq4x.lt k hk).1)
                clear on hg oq4x rq4 ruq T
                have T : All (fun w' => Below Wp.heap.size Wp w' ∧ w'.heap[w.heap.size + 1]? = some (.cells #[.int .i64 x.l.sock, .string x.l.db, .int .i64 x.l.gen, .int .i64 x.l.st, .int .i64 x.l.since, .int .i64 x.l.asker, .int .i64 x.l.lease] 52 (0, 0))) Vq10 := ⟨hbn, (hbn.block _ HBXq.out.2).trans HBXq.out.1⟩
                clear hbn
                have Bq10 := Lib.hid (show (Lq4 ++ [u8 (x.l.since)]).length ≤ 110 by have := Bq4.out; simp; omega)
                obtain ⟨Lq10, hl⟩ : ∃ L, Lq4 ++ [u8 (x.l.since)] = L := ⟨_, rfl⟩
                rw [hl] at oq10 Bq10
                have Eq10 := Lib.hid hl
                clear hl
                obtain ⟨Aq10, cq10, rfl, _, _, rq10, _⟩ := Owns.shape oq10
                go_wp2_with fail
                refine ⟨fun _ => T.out.2, ?_⟩
                refine wpAnyL_one (i := 13) (by kernel_rfl) ?_
                refine lexA_get rfl ?_
                try go_frame
                go_wp2_with fail
                refine (putWordS_any Aq10 cq10 (x.l.asker) Lq10 Vq10 rq10 (by have := Bq10.out; omega)).mono ?_
                rintro e V5 ⟨v, rfl, oo, hb⟩
                have oq13 := ownsRow_mono oo T.out.1.size
                clear oo
                have Bq13 := Lib.hid (show (Lq10 ++ wordBytes (x.l.asker)).length ≤ 112 by have := Bq10.out; simp [wordBytes]; omega)
                have oq13x : Owns _ Wp.heap.size 5 v (Lq10 ++ wordBytes (x.l.asker)) := oq13
                clear oq13
                obtain ⟨Lq13, hl⟩ : ∃ L, Lq10 ++ wordBytes (x.l.asker) = L := ⟨_, rfl⟩
                rw [hl] at oq13x Bq13
                have Eq13 := Lib.hid hl
                clear hl
                obtain ⟨Aq13, cq13, rfl, _, _, rq13, _⟩ := Owns.shape oq13x
                try (replace ruq := (ruq.below hb).more hb.size)
                clear rq10
                replace T := T.later hb
                clear hb
                go_wp2_with fail
                refine ⟨fun _ => T.out.2, ?_⟩
                refine wpAnyL_one (i := 16) (by kernel_rfl) ?_
                refine lexA_get rfl ?_
                try go_frame
                go_wp2_with fail
                refine (putWordS_any Aq13 cq13 (x.l.lease) Lq13 V5 rq13 (by have := Bq13.out; omega)).mono ?_
                rintro e V6 ⟨v, rfl, oo, hb⟩
                have oq16 := ownsRow_mono oo T.out.1.size
                clear oo
                have Bq16 := Lib.hid (show (Lq13 ++ wordBytes (x.l.lease)).length ≤ 114 by have := Bq13.out; simp [wordBytes]; omega)
                have oq16x : Owns _ Wp.heap.size 5 v (Lq13 ++ wordBytes (x.l.lease)) := oq16
                clear oq16
                obtain ⟨Lq16, hl⟩ : ∃ L, Lq13 ++ wordBytes (x.l.lease) = L := ⟨_, rfl⟩
                rw [hl] at oq16x Bq16
                have Eq16 := Lib.hid hl
                clear hl
                obtain ⟨Aq16, cq16, rfl, _, _, rq16, _⟩ := Owns.shape oq16x
                try (replace ruq := (ruq.below hb).more hb.size)
                clear rq13
                replace T := T.later hb
                clear hb
                go_wp2_with fail
                refine ⟨fun _ => T.out.2, ?_⟩
                refine wpAnyL_writes [17] (by kernel_rfl) (LexW.cons rfl ?_)
                try go_frame
                go_wp2_with fail
                refine ⟨fun _ => T.out.2, LexW.nil ?_⟩
                have hfin := Later.trans HSq.out T.out.1
                have HF := Lib.hid (show Owns V6 w.heap.size 5 _ LL from by rw [← (show Lq16 = LL from by rw [← Eq16.out, ← Eq13.out, ← Eq10.out, ← Eq4.out, HEp.out]; exact HLL.out)]; exact ownsRow_mono oq16x HSq.out.size)
                go_wp2_with fail
                go_ret
                exact ⟨_, rfl, HF.out, hfin⟩
          · have HT := Lib.hid tl
            have c1 := var_cell S.out.2.1 1
            have c2 := var_cell S.out.2.1 2
            have c3 := var_cell S.out.2.1 3
            have c4 := var_cell S.out.2.1 4
            have c5 := var_cell S.out.2.1 5
            have c6 := var_cell S.out.2.1 6
            have c7 := var_cell S.out.2.1 7
            have c8 := var_cell S.out.2.1 8
            have d6 := var_cell S.out.2.2 6
            obtain rfl : LL = [] := by rw [← HL.out]; unfold itemB; rw [if_neg HK1.out, if_pos HK.out]; exact if_neg fun h => HT.out h.2.2
            go_wp2_with fail
            go_ret
            exact ⟨_, rfl, own_empty _ _ S.out.1.size, Later.trans S.out.1 (Later.alloc _ _)⟩
    · have e2 : (x.kind != 2) = true := by simp [k2]
      obtain rfl : LL = [] := by rw [← HL.out]; unfold itemB; rw [if_neg k1, if_neg k2]
      clear k1 k2
      go_enter Try.func44, Try.ntmps44
      go_wp2_with fail
      go_ret
      have hse : ((w.alloc (.cells #[.int .i64 x.kind, .int .i64 x.a.sock, .string x.a.db, .int .i64 x.a.st, .int .i64 x.a.ticket, .int .i64 x.a.since, .string x.a.q, .int .i64 x.a.line, .int .i64 x.a.lease, .int .i64 x.l.sock, .string x.l.db, .int .i64 x.l.gen, .int .i64 x.l.st, .int .i64 x.l.since, .int .i64 x.l.asker, .int .i64 x.l.lease] 54)).alloc (.cells #[.int .i64 x.l.sock, .string x.l.db, .int .i64 x.l.gen, .int .i64 x.l.st, .int .i64 x.l.since, .int .i64 x.l.asker, .int .i64 x.l.lease] 52)).heap.size = w.heap.size + 1 + 1 := by simp
      have hbb : Below w.heap.size w ((w.alloc (.cells #[.int .i64 x.kind, .int .i64 x.a.sock, .string x.a.db, .int .i64 x.a.st, .int .i64 x.a.ticket, .int .i64 x.a.since, .string x.a.q, .int .i64 x.a.line, .int .i64 x.a.lease, .int .i64 x.l.sock, .string x.l.db, .int .i64 x.l.gen, .int .i64 x.l.st, .int .i64 x.l.since, .int .i64 x.l.asker, .int .i64 x.l.lease] 54)).alloc (.cells #[.int .i64 x.l.sock, .string x.l.db, .int .i64 x.l.gen, .int .i64 x.l.st, .int .i64 x.l.since, .int .i64 x.l.asker, .int .i64 x.l.lease] 52)) := Later.trans (Later.alloc w _) (Later.alloc _ _)
      have ho := own_empty ((w.alloc (.cells #[.int .i64 x.kind, .int .i64 x.a.sock, .string x.a.db, .int .i64 x.a.st, .int .i64 x.a.ticket, .int .i64 x.a.since, .string x.a.q, .int .i64 x.a.line, .int .i64 x.a.lease, .int .i64 x.l.sock, .string x.l.db, .int .i64 x.l.gen, .int .i64 x.l.st, .int .i64 x.l.since, .int .i64 x.l.asker, .int .i64 x.l.lease] 54)).alloc (.cells #[.int .i64 x.l.sock, .string x.l.db, .int .i64 x.l.gen, .int .i64 x.l.st, .int .i64 x.l.since, .int .i64 x.l.asker, .int .i64 x.l.lease] 52)) w.heap.size hbb.size
      rw [hse] at ho
      exact ⟨_, rfl, ho, Later.trans hbb (Later.alloc _ _)⟩
end Go.Proofs.Ytgdhhhibkhfdlaa
