/- Waiters of the model. (By gen_l10c.py.) -/
import Derived.Test.YtgdhhhibkhfdlaaInts
import Derived.Test.YtgdhhhibkhfdlaaSlice1
import Derived.Test.YtgdhhhibkhfdlaaRHouse
import Derived.Test.YtgdhhhibkhfdlaaConfAt
import Derived.Test.YtgdhhhibkhfdlaaLexG
import Derived.Deep.Cut
import Derived.Deep.CutBlock
import Derived.IntWalk
import Derived.BigQuiet
import Derived.Deep.QuietTactic
namespace Go.Proofs.Ytgdhhhibkhfdlaa
open Go.RowKit HeapP
set_option linter.unusedVariables false
set_option linter.unusedSimpArgs false
set_option maxRecDepth 100000

theorem lit_keep {w w' : World} {g : Nat} {v : Value} (h : Reads w w.heap.size 1 (some ⟨g, 0, none⟩) 1 [v]) (hc : w'.cell? ⟨g, 0, none⟩ = w.cell? ⟨g, 0, none⟩) (hg : g < w'.heap.size) : Reads w' w'.heap.size 1 (some ⟨g, 0, none⟩) 1 [v] := by
  refine ⟨by simp, fun _ => ?_⟩
  obtain ⟨a, ha, hb, hcell⟩ := h.2 (by omega)
  injection ha with ha
  subst ha
  refine ⟨_, rfl, hg, ?_⟩
  intro j u hu
  have := hcell j u hu
  cases j with
  | zero => exact hc.trans this
  | succ j => simp at hu

theorem irow_cell {w : World} {base : Nat} {A : Option Addr} {n c k : Nat} {l : List Int} {x : Int} (h : IRow w base (.slice A n c) l) (hk : k < l.length) (hx : l[k]? = some x) : ∃ g, A = some ⟨g, 0, none⟩ ∧ base ≤ g ∧ w.cell? ⟨g, k, none⟩ = some (.int .i64 x) := by
  rcases h.2 with ⟨h1, h2⟩ | ⟨g, cap, cur, hv, hb, hh, _⟩
  · omega
  · cases hv
    exact ⟨g, rfl, hb, by rw [World.ownsRow.cellAt h k (by omega), iV_get hx]⟩
theorem drewN3 (w : World) (a b : Nat) : (w.drewN a).drewN b = w.drewN (a + b) := by simp [World.drewN, Nat.add_assoc]
theorem ofDb_zero (xs : List Ak) (db : ByteArray) : ofDb xs db (srtA xs 0) = [] := rfl
/-- Where the model's inner loop stops. -/
def StopJ (L : List Int) (a : Int) (j : Nat) : Prop := (∀ t, t ∈ L.drop j → a < t) ∧ (j = 0 ∨ ∃ t, L[j - 1]? = some t ∧ t ≤ a)
theorem wt_next {xs : List Ak} {db : ByteArray} {k j : Nat} {y : Ak} {L5 L6 : List Int} (hy : xs[k]? = some y) (hs : y.st = 2) (hd : y.db = db) (hj : StopJ L6 y.ticket j)
    (h5 : (ofDb xs db (srtA xs k)).map (sockA xs) = L5) (h6 : (ofDb xs db (srtA xs k)).map (tickA xs) = L6) :
    (ofDb xs db (srtA xs (k + 1))).map (sockA xs) = (L5.take j ++ [y.sock]) ++ L5.drop j ∧ (ofDb xs db (srtA xs (k + 1))).map (tickA xs) = (L6.take j ++ [y.ticket]) ++ L6.drop j := by
  subst h5 h6
  rw [ofDb_at hy hs hd hj.1 hj.2]
  simp [List.map_take, List.map_drop, sockA_of hy, tickA_of hy]
/-- The rows of the model's Waiters, when k clients are done. -/
def WtQ (xs : List Ak) (db : ByteArray) (w wr : World) (v5 v6 : Value) (k : Nat) : Prop := IRow wr w.heap.size v5 ((ofDb xs db (srtA xs k)).map (sockA xs)) ∧ IRow wr w.heap.size v6 ((ofDb xs db (srtA xs k)).map (tickA xs))

set_option maxHeartbeats 16000000 in
theorem waitersS_rep (cs : List Value) (x : Ho) (db : ByteArray) (w : World) (h : hoR.at_ w w.heap.size cs x) (hs : FitsHo x) :
    Calls Try.prog 51 #[.agg cs.toArray, .string db] w (RetI w (waitP x.as_ db)) := by
  obtain ⟨A3, c3, A5, c5, A6, c6, rfl, t3, t5, t6⟩ := ho_cells h
  obtain ⟨m0, hi0, hi1, hi2, hi3⟩ := info_parts Try.infoI
  have hn : x.as_.length ≤ 1048576 := hs.2.1.1
  have S : All (fun w' => (Below w.heap.size w w' ∧ akSR.at_ w' w'.heap.size [.slice A5 x.as_.length c5] x.as_) ∧ w'.heap[w.heap.size]? = some (.cells #[.int .i64 x.st, .int .i64 x.epoch, .int .i64 x.gen, .slice A3 x.conf.length c3, .bool x.paused, .slice A5 x.as_.length c5, .slice A6 x.ls.length c6, .int .i64 x.ticket, .int .i64 x.h.id, .int .i64 x.h.no, .int .i64 x.h.acked, .int .i64 x.h.since] 70 (0, 0))) (w.alloc (.cells #[.int .i64 x.st, .int .i64 x.epoch, .int .i64 x.gen, .slice A3 x.conf.length c3, .bool x.paused, .slice A5 x.as_.length c5, .slice A6 x.ls.length c6, .int .i64 x.ticket, .int .i64 x.h.id, .int .i64 x.h.no, .int .i64 x.h.acked, .int .i64 x.h.since] 70)) :=
    ⟨⟨Later.alloc w _, Rep.more akSR (Rep.at_below t5 (Later.alloc w _)) (by simp)⟩, heap_alloc_new w _⟩
  clear h hs t3 t5 t6
  have HW : Hid (WtQ x.as_ db w (((w.alloc (.cells #[.int .i64 x.st, .int .i64 x.epoch, .int .i64 x.gen, .slice A3 x.conf.length c3, .bool x.paused, .slice A5 x.as_.length c5, .slice A6 x.ls.length c6, .int .i64 x.ticket, .int .i64 x.h.id, .int .i64 x.h.no, .int .i64 x.h.acked, .int .i64 x.h.since] 70)).alloc (.cells #[] 3)).alloc (.cells #[] 3)) (.slice (some ⟨w.heap.size + 1, 0, none⟩) 0 0) (.slice (some ⟨w.heap.size + 1 + 1, 0, none⟩) 0 0) 0) := Lib.hid
    ⟨IRow.later (IRow.low (base := (w.alloc (.cells #[.int .i64 x.st, .int .i64 x.epoch, .int .i64 x.gen, .slice A3 x.conf.length c3, .bool x.paused, .slice A5 x.as_.length c5, .slice A6 x.ls.length c6, .int .i64 x.ticket, .int .i64 x.h.id, .int .i64 x.h.no, .int .i64 x.h.acked, .int .i64 x.h.since] 70)).heap.size) (Rep.lit_empty _ 3 1 (by simp)) (by simp)) (Later.alloc _ _),
     IRow.low (base := ((w.alloc (.cells #[.int .i64 x.st, .int .i64 x.epoch, .int .i64 x.gen, .slice A3 x.conf.length c3, .bool x.paused, .slice A5 x.as_.length c5, .slice A6 x.ls.length c6, .int .i64 x.ticket, .int .i64 x.h.id, .int .i64 x.h.no, .int .i64 x.h.acked, .int .i64 x.h.since] 70)).alloc (.cells #[] 3)).heap.size) (Rep.lit_empty _ 3 1 (by simp)) (by simp; omega)⟩
  replace S := (S.alloc (.cells #[] 3)).alloc (.cells #[] 3)
  unfold RetI
  go_enter Try.func51, Try.ntmps51
  go_wp2_with fail
  generalize ((w.alloc (.cells #[.int .i64 x.st, .int .i64 x.epoch, .int .i64 x.gen, .slice A3 x.conf.length c3, .bool x.paused, .slice A5 x.as_.length c5, .slice A6 x.ls.length c6, .int .i64 x.ticket, .int .i64 x.h.id, .int .i64 x.h.no, .int .i64 x.h.acked, .int .i64 x.h.since] 70)).alloc (.cells #[] 3)).alloc (.cells #[] 3) = W0 at S HW ⊢
  go_loopw [5, 6, 7] (fun q5 q6 i wr => ∃ (k : Nat) (v5 v6 : Value), k ≤ x.as_.length ∧ i = .int .i64 k ∧ v5 = q5 ∧ v6 = q6 ∧ Hid (WtQ x.as_ db w wr v5 v6 k) ∧ All (fun w' => (Below w.heap.size w w' ∧ akSR.at_ w' w'.heap.size [.slice A5 x.as_.length c5] x.as_) ∧ w'.heap[w.heap.size]? = some (.cells #[.int .i64 x.st, .int .i64 x.epoch, .int .i64 x.gen, .slice A3 x.conf.length c3, .bool x.paused, .slice A5 x.as_.length c5, .slice A6 x.ls.length c6, .int .i64 x.ticket, .int .i64 x.h.id, .int .i64 x.h.no, .int .i64 x.h.acked, .int .i64 x.h.since] 70 (0, 0))) wr) (fun _ _ i _ => x.as_.length - (intOf i).toNat)
  case atStart => exact ⟨0, _, _, by omega, rfl, rfl, rfl, HW, S⟩
  case round =>
    clear S HW
    obtain ⟨k, v5, v6, hk, rfl, rfl, rfl, HW, S⟩ := hrel
    have q5 := var_cell S.out.2 5
    by_cases hlt : k < x.as_.length
    · obtain ⟨b, off, y, rfl, hbl, hy, e0, e1, e2, e3, e4, e5, e6, e7⟩ := ak_elem (akS_rows S.out.1.2).2 hlt
      have HY := Lib.hid hy
      have hrl := (Array.getElem?_eq_some_iff.1 S.out.2).1
      have S2 := S.alloc (.cells #[.int .i64 y.sock, .string y.db, .int .i64 y.st, .int .i64 y.ticket, .int .i64 y.since, .string y.q, .int .i64 y.line, .int .i64 y.lease] 50)
      have HV := Lib.hid (heap_alloc_new wr (.cells #[.int .i64 y.sock, .string y.db, .int .i64 y.st, .int .i64 y.ticket, .int .i64 y.since, .string y.q, .int .i64 y.line, .int .i64 y.lease] 50))
      have HW2 : Hid (WtQ x.as_ db w (wr.alloc (.cells #[.int .i64 y.sock, .string y.db, .int .i64 y.st, .int .i64 y.ticket, .int .i64 y.since, .string y.q, .int .i64 y.line, .int .i64 y.lease] 50)) v5 v6 k) := Lib.hid ⟨HW.out.1.later (Later.alloc _ _), HW.out.2.later (Later.alloc _ _)⟩
      have hDz : wr.heap.size < (wr.alloc (.cells #[.int .i64 y.sock, .string y.db, .int .i64 y.st, .int .i64 y.ticket, .int .i64 y.since, .string y.q, .int .i64 y.line, .int .i64 y.lease] 50)).heap.size := by simp
      clear hy S HW
      by_cases hst : y.st = 2
      · have t1 : (y.st != 2) = false := by simp [hst]
        have HST := Lib.hid hst
        clear hst
        by_cases hdb : y.db = db
        · have t2 : (!y.db.toList == db.toList) = false := by simp [hdb]
          have HDB := Lib.hid hdb
          clear hdb
          obtain ⟨L5, hL5⟩ : ∃ l, (ofDb x.as_ db (srtA x.as_ k)).map (sockA x.as_) = l := ⟨_, rfl⟩
          obtain ⟨L6, hL6⟩ : ∃ l, (ofDb x.as_ db (srtA x.as_ k)).map (tickA x.as_) = l := ⟨_, rfl⟩
          have hw5 : IRow (wr.alloc (.cells #[.int .i64 y.sock, .string y.db, .int .i64 y.st, .int .i64 y.ticket, .int .i64 y.since, .string y.q, .int .i64 y.line, .int .i64 y.lease] 50)) w.heap.size v5 L5 := by rw [← hL5]; exact HW2.out.1
          have hw6 : IRow (wr.alloc (.cells #[.int .i64 y.sock, .string y.db, .int .i64 y.st, .int .i64 y.ticket, .int .i64 y.since, .string y.q, .int .i64 y.line, .int .i64 y.lease] 50)) w.heap.size v6 L6 := by rw [← hL6]; exact HW2.out.2
          have hlen : L5.length = L6.length := by rw [← hL5, ← hL6]; simp
          have hle6 : L6.length ≤ k := by rw [← hL6]; simpa using ofDb_len x.as_ db k
          have H5 := Lib.hid hL5
          have H6 := Lib.hid hL6
          clear HW2 hL5 hL6
          obtain ⟨AA5, cc5, rfl, hcc5, _, R5⟩ := hw5.shape
          obtain ⟨AA6, cc6, rfl, hcc6, _, R6⟩ := hw6.shape
          have HL := Lib.hid hlen
          have hle5 : L5.length ≤ k := by omega
          clear hlen
          have d0 := var_cell HV.out 0
          have d3 := var_cell HV.out 3
          go_upto_block 2 with (fail)
          generalize wr.alloc (.cells #[.int .i64 y.sock, .string y.db, .int .i64 y.st, .int .i64 y.ticket, .int .i64 y.since, .string y.q, .int .i64 y.line, .int .i64 y.lease] 50) = W1 at *
          generalize wr.heap.size = D at *
          clear d0 d3
          go_cut [9] from 35 to 48 (fun v W' => ∃ j : Nat, v = .int .i64 j ∧ j ≤ L6.length ∧ StopJ L6 y.ticket j ∧ ∃ n, W' = W1.drewN n)
          case first =>
            go_wp2_with fail
            go_loopw [9] (fun v wq => ∃ j : Nat, v = .int .i64 j ∧ j ≤ L6.length ∧ (∀ t, t ∈ L6.drop j → y.ticket < t) ∧ ∃ n, wq = W1.drewN n) (fun v _ => (intOf v).toNat)
            case atStart => exact ⟨L5.length, rfl, by rw [HL.out]; omega, (fun t ht => by rw [HL.out, List.drop_length] at ht; cases ht), 0, rfl⟩
            case round =>
              obtain ⟨j, rfl, hj, hgt, m, rfl⟩ := hrel
              have d3 : W1.cell? ⟨D, 3, none⟩ = some (.int .i64 y.ticket) := var_cell HV.out 3
              have HG := Lib.hid hgt
              clear hgt
              by_cases j0 : j = 0
              · subst j0
                go_wp2_with fail
                go_quiet (fail)
                go_wp2_with fail
                go_meet
                case rel => exact ⟨0, rfl, by omega, ⟨HG.out, .inl rfl⟩, _, by first | rfl | exact drewN3 _ _ _⟩
              · obtain ⟨i, rfl⟩ : ∃ i, j = i + 1 := ⟨j - 1, by omega⟩
                obtain ⟨t, ht⟩ : ∃ t, L6[i]? = some t := ⟨L6[i], List.getElem?_eq_getElem (by omega)⟩
                obtain ⟨g6, rfl, hg6, hc6⟩ := irow_cell hw6 (show i < L6.length by omega) ht
                have HT := Lib.hid ht
                clear ht
                have wi : IntKind.i64.wrap (i : Int) = (i : Int) := IntWalk.i64_in _ (by omega)
                have wt : ((i : Nat) : Int).toNat = i := by simp
                have HLI : i < L6.length := by omega
                have HIN : (i : Int) < (L6.length : Int) := by omega
                by_cases hlt6 : y.ticket < t
                · have c1 : decide (y.ticket < t) = true := by simp [hlt6]
                  go_wp2_with fail
                  go_quiet (fail)
                  go_wp2_with fail
                  clear wi wt
                  go_roundw
                  case rel => exact ⟨i, by go_num, by omega, fun s hs => by
                    rw [List.drop_eq_getElem_cons (by omega : i < L6.length)] at hs
                    rcases List.mem_cons.1 hs with rfl | hs
                    · have := HT.out
                      rw [List.getElem?_eq_getElem (by omega : i < L6.length)] at this
                      injection this with this
                      rw [this]; exact hlt6
                    · exact HG.out s hs, _, by first | rfl | exact drewN3 _ _ _⟩
                  case measure => simp [intOf]
                · have c1 : decide (y.ticket < t) = false := by simp [hlt6]
                  go_wp2_with fail
                  go_quiet (fail)
                  go_wp2_with fail
                  clear wi wt
                  go_meet
                  case rel => exact ⟨i + 1, by go_num, hj, ⟨HG.out, .inr ⟨t, HT.out, by omega⟩⟩, _, by first | rfl | exact drewN3 _ _ _⟩
          case rest =>
            obtain ⟨j, rfl, hj6, hstop, n, hwc⟩ := hcut
            have hbc : Below W1.heap.size W1 wc := by rw [hwc]; exact Later.drewN W1 n
            have hsz : W1.heap.size ≤ wc.heap.size := hbc.size
            replace S2 := S2.later hbc
            replace hw5 := hw5.later hbc
            replace hw6 := hw6.later hbc
            have hva := (hbc.block D hDz).trans HV.out
            replace R5 := (R5.below hbc).more hsz
            replace R6 := (R6.below hbc).more hsz
            have hDl : D < wc.heap.size := Nat.lt_of_lt_of_le hDz hsz
            have hwl : w.heap.size ≤ wc.heap.size := S2.out.1.1.size
            have HST2 := Lib.hid hstop
            clear hwc hbc HV hstop
            obtain ⟨Wr, rfl⟩ : ∃ wo : World, wo = wc := ⟨_, rfl⟩
            have hD0 : Wr.cell? ⟨D, 0, none⟩ = some (.int .i64 y.sock) := var_cell hva 0
            have hDv := Lib.hid hva
            have hj5 : j ≤ L5.length := by have := HL.out; omega
            have HW5 := Lib.hid hw5
            have HW6 := Lib.hid hw6
            have RR6 := Lib.hid R6
            clear hw5 hw6 R6 hva
            go_upto_region 11 with (fail)
            have T : All (fun w' => Below Wr.heap.size Wr w' ∧ w'.cell? ⟨D, 0, none⟩ = some (.int .i64 y.sock)) Wr := ⟨Below.refl _ _, hD0⟩
            obtain ⟨AP, r0, q0⟩ := slice_cells0 Try.underlying74 hi0 hi2 (A := AA5) (n := L5.length) (c := cc5) (hi' := j) .i64 hj5 hcc5
            obtain ⟨AS, r1, q1⟩ := slice_cellsF Try.underlying74 hi0 hi2 (A := AA5) (n := L5.length) (c := cc5) (lo := j) .i64 hj5 hcc5
            have p0 := q0 R5
            have p1 := q1 R5
            rw [iV_take] at p0
            rw [iV_drop] at p1
            have P0 := Lib.hid p0
            have P1 := Lib.hid p1
            clear p0 p1 q0 q1
            refine wp_region_open 100 (fun w' => w'.cell? ⟨D, 0, none⟩ = some (.int .i64 y.sock)) (by kernel_rfl) ?_
            replace T := T.drew
            have hWz : Wr.drew.heap.size = Wr.heap.size := rfl
            have HWz := Lib.hid hWz
            clear hWz
            have hle : Wr.heap.size ≤ Wr.drew.heap.size := Nat.le_refl _
            generalize Wr.drew = Wa at T HWz hle ⊢
            refine wpAnyL_reads [1, 2, 3, 5, 6, 9, 10, 11] (fuel := 6) (by kernel_rfl) T.out.2 ?_
            iterate 8 (refine LexR.cons rfl ?_ (fun w' hw => ?_) ?_; rotate_left; focus (go_simp; (try exact rfl)); (try go_frame))
            refine LexR.nil ?_
            refine wpAnyL_two (i := 0) (j := 7) (by kernel_rfl) ?_ ?_
            · skip
              refine lexA_get rfl ?_
              try go_frame
              go_wp2_with fail
              have row : IRow (Wa.alloc (.cells #[] 3)) Wr.heap.size (.slice (some ⟨Wa.heap.size, 0, none⟩) 0 0) [] := IRow.low (base := Wa.heap.size) (Rep.lit_empty Wa 3 1 rfl) hle
              have hlt : ∀ b, (Value.slice (some ⟨Wa.heap.size, 0, none⟩) 0 0).ownBlock = some b → b < (Wa.alloc (.cells #[] 3)).heap.size := fun b hb => by simp [Value.ownBlock] at hb; subst hb; simp
              replace T := T.alloc (.cells #[] 3)
              replace hle := Nat.le_trans hle (show Wa.heap.size ≤ (Wa.alloc (.cells #[] 3)).heap.size by simp)
              refine ⟨fun _ => T.out.2, ?_⟩
              generalize Wa.alloc (.cells #[] 3) = W1 at T hle row hlt ⊢
              generalize Wa.heap.size = g0 at row hlt ⊢
              obtain ⟨v0, hv0⟩ : ∃ v : Value, .slice (some ⟨g0, 0, none⟩) 0 0 = v := ⟨_, rfl⟩
              rw [hv0] at row hlt
              try rw [hv0]
              clear hv0
              refine wpAnyL_two (i := 4) (j := 7) (by kernel_rfl) ?_ ?_
              · skip
                refine lexA_get rfl ?_
                try go_frame
                refine wpList_append_any W1 rfl (.tmp 49) (.tmp 52) 74 rfl Wr.heap.size 3 m0 (.int .i64 0) 1 8 Try.underlying74 hi0 hi1 hi2 hi3 rfl (by decide) v0 ([] : List Int).length (iV ([] : List Int)) rfl row Wr.heap.size AP j cc5 (iV (L5.take j)) rfl (P0.out.below T.out.1) (iV_one _) (by simp only [List.length_nil, List.length_append, List.length_take, List.length_singleton, maxLen]; try omega) (by simp only [List.length_nil, List.length_append, List.length_take, List.length_singleton]; try omega) hle ?_
                intro v4 W2 row2 hg hat
                have hb := T.out.1.grown hg hle (fun b hb => (row.lt b hb).1)
                have hlt2 : ∀ b, v4.ownBlock = some b → b < W2.heap.size := fun b hb => (row2.lt b hb).2
                replace T : All (fun w' => Below Wr.heap.size Wr w' ∧ w'.cell? ⟨D, 0, none⟩ = some (.int .i64 y.sock)) W2 := ⟨hb, (hb.cell (p := ⟨D, 0, none⟩) hDl).trans hD0⟩
                replace hle := Nat.le_trans hle hg.size
                have row3 : IRow W2 Wr.heap.size v4 (L5.take j) := by
                  have e1 : (L5.take j).length = ([] : List Int).length + j := by simp only [List.length_nil, List.length_append, List.length_take, List.length_drop, List.length_singleton]; try omega
                  unfold IRow
                  rw [e1]
                  exact row2
                clear row row2 hg hat hb
                have row := row3
                have hlt := hlt2
                clear row3 hlt2 
                refine ⟨fun _ => T.out.2, ?_⟩
                refine wpAnyL_one (i := 7) (by kernel_rfl) ?_
                refine lexA_get rfl ?_
                try go_frame
                go_wp2_with fail
                have lit : Reads (W2.alloc (.cells #[.int .i64 y.sock] 3)) (W2.alloc (.cells #[.int .i64 y.sock] 3)).heap.size 1 (some ⟨W2.heap.size, 0, none⟩) 1 [.int .i64 y.sock] := reads_lit W2 #[.int .i64 y.sock] 1 1 3 (g := W2.heap.size) rfl rfl (by simp [maxLen])
                replace row := row.later (Later.alloc W2 (.cells #[.int .i64 y.sock] 3))
                have hne : ∀ b, (v4 : Value).ownBlock = some b → b ≠ W2.heap.size := fun b hb e => by have := hlt b hb; omega
                clear hlt
                replace T := T.alloc (.cells #[.int .i64 y.sock] 3)
                replace hle := Nat.le_trans hle (show W2.heap.size ≤ (W2.alloc (.cells #[.int .i64 y.sock] 3)).heap.size by simp)
                have g7l : W2.heap.size < (W2.alloc (.cells #[.int .i64 y.sock] 3)).heap.size := by simp
                refine ⟨fun _ => T.out.2, ?_⟩
                generalize W2.alloc (.cells #[.int .i64 y.sock] 3) = W3 at T hle row lit g7l ⊢
                generalize W2.heap.size = g7 at lit g7l hne ⊢
                refine wpAnyL_one (i := 8) (by kernel_rfl) ?_
                refine lexA_get rfl ?_
                try go_frame
                refine wpList_append_any W3 rfl (.tmp 53) (.tmp 56) 74 rfl Wr.heap.size 3 m0 (.int .i64 0) 1 8 Try.underlying74 hi0 hi1 hi2 hi3 rfl (by decide) v4 (L5.take j).length (iV (L5.take j)) rfl row W3.heap.size (some ⟨g7, 0, none⟩) 1 1 [.int .i64 y.sock] rfl lit (by simp [Value.oneCell']) (by simp only [List.length_nil, List.length_append, List.length_take, List.length_singleton, maxLen]; try omega) (by simp only [List.length_nil, List.length_append, List.length_take, List.length_singleton]; try omega) hle ?_
                intro v8 W4 row2 hg hat
                have hb := T.out.1.grown hg hle (fun b hb => (row.lt b hb).1)
                have hlt2 : ∀ b, v8.ownBlock = some b → b < W4.heap.size := fun b hb => (row2.lt b hb).2
                replace T : All (fun w' => Below Wr.heap.size Wr w' ∧ w'.cell? ⟨D, 0, none⟩ = some (.int .i64 y.sock)) W4 := ⟨hb, (hb.cell (p := ⟨D, 0, none⟩) hDl).trans hD0⟩
                replace hle := Nat.le_trans hle hg.size
                have row3 : IRow W4 Wr.heap.size v8 (L5.take j ++ [y.sock]) := by
                  have e1 : (L5.take j ++ [y.sock]).length = (L5.take j).length + 1 := by simp only [List.length_nil, List.length_append, List.length_take, List.length_drop, List.length_singleton]; try omega
                  unfold IRow
                  rw [e1, iV_app]
                  exact row2
                clear row row2 hg hat hb
                have row := row3
                skip
                clear row3 hlt2 lit g7l
                refine ⟨fun _ => T.out.2, ?_⟩
                refine wpAnyL_one (i := 12) (by kernel_rfl) ?_
                refine lexA_get rfl ?_
                try go_frame
                refine wpList_append_any W4 rfl (.tmp 57) (.tmp 60) 74 rfl Wr.heap.size 3 m0 (.int .i64 0) 1 8 Try.underlying74 hi0 hi1 hi2 hi3 rfl (by decide) v8 (L5.take j ++ [y.sock]).length (iV (L5.take j ++ [y.sock])) rfl row Wr.heap.size AS (L5.length - j) (cc5 - j) (iV (L5.drop j)) rfl (P1.out.below T.out.1) (iV_one _) (by simp only [List.length_nil, List.length_append, List.length_take, List.length_singleton, maxLen]; try omega) (by simp only [List.length_nil, List.length_append, List.length_take, List.length_singleton]; try omega) hle ?_
                intro v12 W5 row2 hg hat
                have hb := T.out.1.grown hg hle (fun b hb => (row.lt b hb).1)
                have hlt2 : ∀ b, v12.ownBlock = some b → b < W5.heap.size := fun b hb => (row2.lt b hb).2
                replace T : All (fun w' => Below Wr.heap.size Wr w' ∧ w'.cell? ⟨D, 0, none⟩ = some (.int .i64 y.sock)) W5 := ⟨hb, (hb.cell (p := ⟨D, 0, none⟩) hDl).trans hD0⟩
                replace hle := Nat.le_trans hle hg.size
                have row3 : IRow W5 Wr.heap.size v12 ((L5.take j ++ [y.sock]) ++ L5.drop j) := by
                  have e1 : ((L5.take j ++ [y.sock]) ++ L5.drop j).length = (L5.take j ++ [y.sock]).length + (L5.length - j) := by simp only [List.length_nil, List.length_append, List.length_take, List.length_drop, List.length_singleton]; try omega
                  unfold IRow
                  rw [e1, iV_app]
                  exact row2
                clear row row2 hg hat hb
                have row := row3
                skip
                clear row3 hlt2 
                refine ⟨fun _ => T.out.2, ?_⟩
                refine wpAnyL_writes [13] (by kernel_rfl) (LexW.cons rfl ?_)
                try go_frame
                go_wp2_with fail
                refine ⟨fun _ => T.out.2, LexW.nil ?_⟩
                have hb1 := T.out.1
                have hs1 := hb1.size
                replace S2 := S2.later hb1
                have R6 := (RR6.out.below hb1).more hs1
                have hD3 : W5.cell? ⟨D, 3, none⟩ = some (.int .i64 y.ticket) := (hb1.cell (p := ⟨D, 3, none⟩) hDl).trans (var_cell hDv.out 3)
                have hwl2 : w.heap.size ≤ W5.heap.size := Nat.le_trans hwl hs1
                replace hDl : D < W5.heap.size := Nat.lt_of_lt_of_le hDl hs1
                have RW5 := Lib.hid (IRow.low row hwl)
                clear T row hle HWz P0 P1 r0 r1 hb1 hs1 hD0 hDv
                obtain ⟨v5n, rfl⟩ : ∃ v : Value, v = v12 := ⟨_, rfl⟩
                obtain ⟨Wq, rfl⟩ : ∃ wo : World, wo = W5 := ⟨_, rfl⟩
                go_upto_region 12 with (fail)
                have T : All (fun w' => Below Wq.heap.size Wq w' ∧ w'.cell? ⟨D, 3, none⟩ = some (.int .i64 y.ticket)) Wq := ⟨Below.refl _ _, hD3⟩
                obtain ⟨AP, r0, q0⟩ := slice_cells0 Try.underlying74 hi0 hi2 (A := AA6) (n := L6.length) (c := cc6) (hi' := j) .i64 hj6 hcc6
                obtain ⟨AS, r1, q1⟩ := slice_cellsF Try.underlying74 hi0 hi2 (A := AA6) (n := L6.length) (c := cc6) (lo := j) .i64 hj6 hcc6
                have p0 := q0 R6
                have p1 := q1 R6
                rw [iV_take] at p0
                rw [iV_drop] at p1
                have P0 := Lib.hid p0
                have P1 := Lib.hid p1
                clear p0 p1 q0 q1
                refine wp_region_open 100 (fun w' => w'.cell? ⟨D, 3, none⟩ = some (.int .i64 y.ticket)) (by kernel_rfl) ?_
                replace T := T.drew
                have hWz : Wq.drew.heap.size = Wq.heap.size := rfl
                have HWz := Lib.hid hWz
                clear hWz
                have hle : Wq.heap.size ≤ Wq.drew.heap.size := Nat.le_refl _
                generalize Wq.drew = Wa at T HWz hle ⊢
                refine wpAnyL_reads [1, 2, 3, 5, 6, 9, 10, 11] (fuel := 6) (by kernel_rfl) T.out.2 ?_
                iterate 8 (refine LexR.cons rfl ?_ (fun w' hw => ?_) ?_; rotate_left; focus (go_simp; (try exact rfl)); (try go_frame))
                refine LexR.nil ?_
                refine wpAnyL_two (i := 0) (j := 7) (by kernel_rfl) ?_ ?_
                · skip
                  refine lexA_get rfl ?_
                  try go_frame
                  go_wp2_with fail
                  have row : IRow (Wa.alloc (.cells #[] 3)) Wq.heap.size (.slice (some ⟨Wa.heap.size, 0, none⟩) 0 0) [] := IRow.low (base := Wa.heap.size) (Rep.lit_empty Wa 3 1 rfl) hle
                  have hlt : ∀ b, (Value.slice (some ⟨Wa.heap.size, 0, none⟩) 0 0).ownBlock = some b → b < (Wa.alloc (.cells #[] 3)).heap.size := fun b hb => by simp [Value.ownBlock] at hb; subst hb; simp
                  replace T := T.alloc (.cells #[] 3)
                  replace hle := Nat.le_trans hle (show Wa.heap.size ≤ (Wa.alloc (.cells #[] 3)).heap.size by simp)
                  refine ⟨fun _ => T.out.2, ?_⟩
                  generalize Wa.alloc (.cells #[] 3) = W1 at T hle row hlt ⊢
                  generalize Wa.heap.size = g0 at row hlt ⊢
                  obtain ⟨v0, hv0⟩ : ∃ v : Value, .slice (some ⟨g0, 0, none⟩) 0 0 = v := ⟨_, rfl⟩
                  rw [hv0] at row hlt
                  try rw [hv0]
                  clear hv0
                  refine wpAnyL_two (i := 4) (j := 7) (by kernel_rfl) ?_ ?_
                  · skip
                    refine lexA_get rfl ?_
                    try go_frame
                    refine wpList_append_any W1 rfl (.tmp 62) (.tmp 65) 74 rfl Wq.heap.size 3 m0 (.int .i64 0) 1 8 Try.underlying74 hi0 hi1 hi2 hi3 rfl (by decide) v0 ([] : List Int).length (iV ([] : List Int)) rfl row Wq.heap.size AP j cc6 (iV (L6.take j)) rfl (P0.out.below T.out.1) (iV_one _) (by simp only [List.length_nil, List.length_append, List.length_take, List.length_singleton, maxLen]; try omega) (by simp only [List.length_nil, List.length_append, List.length_take, List.length_singleton]; try omega) hle ?_
                    intro v4 W2 row2 hg hat
                    have hb := T.out.1.grown hg hle (fun b hb => (row.lt b hb).1)
                    have hlt2 : ∀ b, v4.ownBlock = some b → b < W2.heap.size := fun b hb => (row2.lt b hb).2
                    replace T : All (fun w' => Below Wq.heap.size Wq w' ∧ w'.cell? ⟨D, 3, none⟩ = some (.int .i64 y.ticket)) W2 := ⟨hb, (hb.cell (p := ⟨D, 3, none⟩) hDl).trans hD3⟩
                    replace hle := Nat.le_trans hle hg.size
                    have row3 : IRow W2 Wq.heap.size v4 (L6.take j) := by
                      have e1 : (L6.take j).length = ([] : List Int).length + j := by simp only [List.length_nil, List.length_append, List.length_take, List.length_drop, List.length_singleton]; try omega
                      unfold IRow
                      rw [e1]
                      exact row2
                    clear row row2 hg hat hb
                    have row := row3
                    have hlt := hlt2
                    clear row3 hlt2 
                    refine ⟨fun _ => T.out.2, ?_⟩
                    refine wpAnyL_one (i := 7) (by kernel_rfl) ?_
                    refine lexA_get rfl ?_
                    try go_frame
                    go_wp2_with fail
                    have lit : Reads (W2.alloc (.cells #[.int .i64 y.ticket] 3)) (W2.alloc (.cells #[.int .i64 y.ticket] 3)).heap.size 1 (some ⟨W2.heap.size, 0, none⟩) 1 [.int .i64 y.ticket] := reads_lit W2 #[.int .i64 y.ticket] 1 1 3 (g := W2.heap.size) rfl rfl (by simp [maxLen])
                    replace row := row.later (Later.alloc W2 (.cells #[.int .i64 y.ticket] 3))
                    have hne : ∀ b, (v4 : Value).ownBlock = some b → b ≠ W2.heap.size := fun b hb e => by have := hlt b hb; omega
                    clear hlt
                    replace T := T.alloc (.cells #[.int .i64 y.ticket] 3)
                    replace hle := Nat.le_trans hle (show W2.heap.size ≤ (W2.alloc (.cells #[.int .i64 y.ticket] 3)).heap.size by simp)
                    have g7l : W2.heap.size < (W2.alloc (.cells #[.int .i64 y.ticket] 3)).heap.size := by simp
                    refine ⟨fun _ => T.out.2, ?_⟩
                    generalize W2.alloc (.cells #[.int .i64 y.ticket] 3) = W3 at T hle row lit g7l ⊢
                    generalize W2.heap.size = g7 at lit g7l hne ⊢
                    refine wpAnyL_one (i := 8) (by kernel_rfl) ?_
                    refine lexA_get rfl ?_
                    try go_frame
                    refine wpList_append_any W3 rfl (.tmp 66) (.tmp 69) 74 rfl Wq.heap.size 3 m0 (.int .i64 0) 1 8 Try.underlying74 hi0 hi1 hi2 hi3 rfl (by decide) v4 (L6.take j).length (iV (L6.take j)) rfl row W3.heap.size (some ⟨g7, 0, none⟩) 1 1 [.int .i64 y.ticket] rfl lit (by simp [Value.oneCell']) (by simp only [List.length_nil, List.length_append, List.length_take, List.length_singleton, maxLen]; try omega) (by simp only [List.length_nil, List.length_append, List.length_take, List.length_singleton]; try omega) hle ?_
                    intro v8 W4 row2 hg hat
                    have hb := T.out.1.grown hg hle (fun b hb => (row.lt b hb).1)
                    have hlt2 : ∀ b, v8.ownBlock = some b → b < W4.heap.size := fun b hb => (row2.lt b hb).2
                    replace T : All (fun w' => Below Wq.heap.size Wq w' ∧ w'.cell? ⟨D, 3, none⟩ = some (.int .i64 y.ticket)) W4 := ⟨hb, (hb.cell (p := ⟨D, 3, none⟩) hDl).trans hD3⟩
                    replace hle := Nat.le_trans hle hg.size
                    have row3 : IRow W4 Wq.heap.size v8 (L6.take j ++ [y.ticket]) := by
                      have e1 : (L6.take j ++ [y.ticket]).length = (L6.take j).length + 1 := by simp only [List.length_nil, List.length_append, List.length_take, List.length_drop, List.length_singleton]; try omega
                      unfold IRow
                      rw [e1, iV_app]
                      exact row2
                    clear row row2 hg hat hb
                    have row := row3
                    skip
                    clear row3 hlt2 lit g7l
                    refine ⟨fun _ => T.out.2, ?_⟩
                    refine wpAnyL_one (i := 12) (by kernel_rfl) ?_
                    refine lexA_get rfl ?_
                    try go_frame
                    refine wpList_append_any W4 rfl (.tmp 70) (.tmp 73) 74 rfl Wq.heap.size 3 m0 (.int .i64 0) 1 8 Try.underlying74 hi0 hi1 hi2 hi3 rfl (by decide) v8 (L6.take j ++ [y.ticket]).length (iV (L6.take j ++ [y.ticket])) rfl row Wq.heap.size AS (L6.length - j) (cc6 - j) (iV (L6.drop j)) rfl (P1.out.below T.out.1) (iV_one _) (by simp only [List.length_nil, List.length_append, List.length_take, List.length_singleton, maxLen]; try omega) (by simp only [List.length_nil, List.length_append, List.length_take, List.length_singleton]; try omega) hle ?_
                    intro v12 W5 row2 hg hat
                    have hb := T.out.1.grown hg hle (fun b hb => (row.lt b hb).1)
                    have hlt2 : ∀ b, v12.ownBlock = some b → b < W5.heap.size := fun b hb => (row2.lt b hb).2
                    replace T : All (fun w' => Below Wq.heap.size Wq w' ∧ w'.cell? ⟨D, 3, none⟩ = some (.int .i64 y.ticket)) W5 := ⟨hb, (hb.cell (p := ⟨D, 3, none⟩) hDl).trans hD3⟩
                    replace hle := Nat.le_trans hle hg.size
                    have row3 : IRow W5 Wq.heap.size v12 ((L6.take j ++ [y.ticket]) ++ L6.drop j) := by
                      have e1 : ((L6.take j ++ [y.ticket]) ++ L6.drop j).length = (L6.take j ++ [y.ticket]).length + (L6.length - j) := by simp only [List.length_nil, List.length_append, List.length_take, List.length_drop, List.length_singleton]; try omega
                      unfold IRow
                      rw [e1, iV_app]
                      exact row2
                    clear row row2 hg hat hb
                    have row := row3
                    skip
                    clear row3 hlt2 
                    refine ⟨fun _ => T.out.2, ?_⟩
                    refine wpAnyL_writes [13] (by kernel_rfl) (LexW.cons rfl ?_)
                    try go_frame
                    go_wp2_with fail
                    refine ⟨fun _ => T.out.2, LexW.nil ?_⟩
                    have hb2 := T.out.1
                    have HQ2 : Hid (WtQ x.as_ db w W5 v5n v12 (k + 1)) := Lib.hid ⟨by rw [(wt_next HY.out HST.out HDB.out HST2.out H5.out H6.out).1]; exact RW5.out.later hb2, by rw [(wt_next HY.out HST.out HDB.out HST2.out H5.out H6.out).2]; exact IRow.low row hwl2⟩
                    replace S2 := S2.later hb2
                    clear T row hle HWz P0 P1 r0 r1 hb2 RW5
                    go_wp2_with fail
                    go_roundw
                    case rel => exact ⟨k + 1, _, _, by omega, by go_num, rfl, rfl, HQ2, S2⟩
                    case measure => simp [intOf]; omega
                  · skip
                    refine lexA_get rfl ?_
                    try go_frame
                    go_wp2_with fail
                    have lit : Reads (W1.alloc (.cells #[.int .i64 y.ticket] 3)) (W1.alloc (.cells #[.int .i64 y.ticket] 3)).heap.size 1 (some ⟨W1.heap.size, 0, none⟩) 1 [.int .i64 y.ticket] := reads_lit W1 #[.int .i64 y.ticket] 1 1 3 (g := W1.heap.size) rfl rfl (by simp [maxLen])
                    replace row := row.later (Later.alloc W1 (.cells #[.int .i64 y.ticket] 3))
                    have hne : ∀ b, (v0 : Value).ownBlock = some b → b ≠ W1.heap.size := fun b hb e => by have := hlt b hb; omega
                    clear hlt
                    replace T := T.alloc (.cells #[.int .i64 y.ticket] 3)
                    replace hle := Nat.le_trans hle (show W1.heap.size ≤ (W1.alloc (.cells #[.int .i64 y.ticket] 3)).heap.size by simp)
                    have g7l : W1.heap.size < (W1.alloc (.cells #[.int .i64 y.ticket] 3)).heap.size := by simp
                    refine ⟨fun _ => T.out.2, ?_⟩
                    generalize W1.alloc (.cells #[.int .i64 y.ticket] 3) = W6 at T hle row lit g7l ⊢
                    generalize W1.heap.size = g7 at lit g7l hne ⊢
                    refine wpAnyL_one (i := 4) (by kernel_rfl) ?_
                    refine lexA_get rfl ?_
                    try go_frame
                    refine wpList_append_any W6 rfl (.tmp 62) (.tmp 65) 74 rfl Wq.heap.size 3 m0 (.int .i64 0) 1 8 Try.underlying74 hi0 hi1 hi2 hi3 rfl (by decide) v0 ([] : List Int).length (iV ([] : List Int)) rfl row Wq.heap.size AP j cc6 (iV (L6.take j)) rfl (P0.out.below T.out.1) (iV_one _) (by simp only [List.length_nil, List.length_append, List.length_take, List.length_singleton, maxLen]; try omega) (by simp only [List.length_nil, List.length_append, List.length_take, List.length_singleton]; try omega) hle ?_
                    intro v4 W7 row2 hg hat
                    have hb := T.out.1.grown hg hle (fun b hb => (row.lt b hb).1)
                    have hlt2 : ∀ b, v4.ownBlock = some b → b < W7.heap.size := fun b hb => (row2.lt b hb).2
                    have lit2 : Reads W7 W7.heap.size 1 (some ⟨g7, 0, none⟩) 1 [.int .i64 y.ticket] := lit_keep lit (World.cell?_of_block (a := ⟨g7, 0, none⟩) (hg.block g7 g7l (fun e => hne g7 e.symm rfl))) (Nat.lt_of_lt_of_le g7l hg.size)
                    replace lit := lit2
                    clear lit2
                    replace T : All (fun w' => Below Wq.heap.size Wq w' ∧ w'.cell? ⟨D, 3, none⟩ = some (.int .i64 y.ticket)) W7 := ⟨hb, (hb.cell (p := ⟨D, 3, none⟩) hDl).trans hD3⟩
                    replace hle := Nat.le_trans hle hg.size
                    have row3 : IRow W7 Wq.heap.size v4 (L6.take j) := by
                      have e1 : (L6.take j).length = ([] : List Int).length + j := by simp only [List.length_nil, List.length_append, List.length_take, List.length_drop, List.length_singleton]; try omega
                      unfold IRow
                      rw [e1]
                      exact row2
                    clear row row2 hg hat hb
                    have row := row3
                    skip
                    clear row3 hlt2 hne
                    refine ⟨fun _ => T.out.2, ?_⟩
                    refine wpAnyL_one (i := 8) (by kernel_rfl) ?_
                    refine lexA_get rfl ?_
                    try go_frame
                    refine wpList_append_any W7 rfl (.tmp 66) (.tmp 69) 74 rfl Wq.heap.size 3 m0 (.int .i64 0) 1 8 Try.underlying74 hi0 hi1 hi2 hi3 rfl (by decide) v4 (L6.take j).length (iV (L6.take j)) rfl row W7.heap.size (some ⟨g7, 0, none⟩) 1 1 [.int .i64 y.ticket] rfl lit (by simp [Value.oneCell']) (by simp only [List.length_nil, List.length_append, List.length_take, List.length_singleton, maxLen]; try omega) (by simp only [List.length_nil, List.length_append, List.length_take, List.length_singleton]; try omega) hle ?_
                    intro v8 W8 row2 hg hat
                    have hb := T.out.1.grown hg hle (fun b hb => (row.lt b hb).1)
                    have hlt2 : ∀ b, v8.ownBlock = some b → b < W8.heap.size := fun b hb => (row2.lt b hb).2
                    replace T : All (fun w' => Below Wq.heap.size Wq w' ∧ w'.cell? ⟨D, 3, none⟩ = some (.int .i64 y.ticket)) W8 := ⟨hb, (hb.cell (p := ⟨D, 3, none⟩) hDl).trans hD3⟩
                    replace hle := Nat.le_trans hle hg.size
                    have row3 : IRow W8 Wq.heap.size v8 (L6.take j ++ [y.ticket]) := by
                      have e1 : (L6.take j ++ [y.ticket]).length = (L6.take j).length + 1 := by simp only [List.length_nil, List.length_append, List.length_take, List.length_drop, List.length_singleton]; try omega
                      unfold IRow
                      rw [e1, iV_app]
                      exact row2
                    clear row row2 hg hat hb
                    have row := row3
                    skip
                    clear row3 hlt2 lit g7l
                    refine ⟨fun _ => T.out.2, ?_⟩
                    refine wpAnyL_one (i := 12) (by kernel_rfl) ?_
                    refine lexA_get rfl ?_
                    try go_frame
                    refine wpList_append_any W8 rfl (.tmp 70) (.tmp 73) 74 rfl Wq.heap.size 3 m0 (.int .i64 0) 1 8 Try.underlying74 hi0 hi1 hi2 hi3 rfl (by decide) v8 (L6.take j ++ [y.ticket]).length (iV (L6.take j ++ [y.ticket])) rfl row Wq.heap.size AS (L6.length - j) (cc6 - j) (iV (L6.drop j)) rfl (P1.out.below T.out.1) (iV_one _) (by simp only [List.length_nil, List.length_append, List.length_take, List.length_singleton, maxLen]; try omega) (by simp only [List.length_nil, List.length_append, List.length_take, List.length_singleton]; try omega) hle ?_
                    intro v12 W9 row2 hg hat
                    have hb := T.out.1.grown hg hle (fun b hb => (row.lt b hb).1)
                    have hlt2 : ∀ b, v12.ownBlock = some b → b < W9.heap.size := fun b hb => (row2.lt b hb).2
                    replace T : All (fun w' => Below Wq.heap.size Wq w' ∧ w'.cell? ⟨D, 3, none⟩ = some (.int .i64 y.ticket)) W9 := ⟨hb, (hb.cell (p := ⟨D, 3, none⟩) hDl).trans hD3⟩
                    replace hle := Nat.le_trans hle hg.size
                    have row3 : IRow W9 Wq.heap.size v12 ((L6.take j ++ [y.ticket]) ++ L6.drop j) := by
                      have e1 : ((L6.take j ++ [y.ticket]) ++ L6.drop j).length = (L6.take j ++ [y.ticket]).length + (L6.length - j) := by simp only [List.length_nil, List.length_append, List.length_take, List.length_drop, List.length_singleton]; try omega
                      unfold IRow
                      rw [e1, iV_app]
                      exact row2
                    clear row row2 hg hat hb
                    have row := row3
                    skip
                    clear row3 hlt2 
                    refine ⟨fun _ => T.out.2, ?_⟩
                    refine wpAnyL_writes [13] (by kernel_rfl) (LexW.cons rfl ?_)
                    try go_frame
                    go_wp2_with fail
                    refine ⟨fun _ => T.out.2, LexW.nil ?_⟩
                    have hb2 := T.out.1
                    have HQ2 : Hid (WtQ x.as_ db w W9 v5n v12 (k + 1)) := Lib.hid ⟨by rw [(wt_next HY.out HST.out HDB.out HST2.out H5.out H6.out).1]; exact RW5.out.later hb2, by rw [(wt_next HY.out HST.out HDB.out HST2.out H5.out H6.out).2]; exact IRow.low row hwl2⟩
                    replace S2 := S2.later hb2
                    clear T row hle HWz P0 P1 r0 r1 hb2 RW5
                    go_wp2_with fail
                    go_roundw
                    case rel => exact ⟨k + 1, _, _, by omega, by go_num, rfl, rfl, HQ2, S2⟩
                    case measure => simp [intOf]; omega
                · skip
                  refine lexA_get rfl ?_
                  try go_frame
                  go_wp2_with fail
                  have lit : Reads (Wa.alloc (.cells #[.int .i64 y.ticket] 3)) (Wa.alloc (.cells #[.int .i64 y.ticket] 3)).heap.size 1 (some ⟨Wa.heap.size, 0, none⟩) 1 [.int .i64 y.ticket] := reads_lit Wa #[.int .i64 y.ticket] 1 1 3 (g := Wa.heap.size) rfl rfl (by simp [maxLen])
                  replace T := T.alloc (.cells #[.int .i64 y.ticket] 3)
                  replace hle := Nat.le_trans hle (show Wa.heap.size ≤ (Wa.alloc (.cells #[.int .i64 y.ticket] 3)).heap.size by simp)
                  have g7l : Wa.heap.size < (Wa.alloc (.cells #[.int .i64 y.ticket] 3)).heap.size := by simp
                  refine ⟨fun _ => T.out.2, ?_⟩
                  generalize Wa.alloc (.cells #[.int .i64 y.ticket] 3) = W10 at T hle lit g7l ⊢
                  generalize Wa.heap.size = g7 at lit g7l  ⊢
                  refine wpAnyL_one (i := 0) (by kernel_rfl) ?_
                  refine lexA_get rfl ?_
                  try go_frame
                  go_wp2_with fail
                  have row : IRow (W10.alloc (.cells #[] 3)) Wq.heap.size (.slice (some ⟨W10.heap.size, 0, none⟩) 0 0) [] := IRow.low (base := W10.heap.size) (Rep.lit_empty W10 3 1 rfl) hle
                  replace lit := (lit.below (Later.alloc W10 (.cells #[] 3))).more (Later.alloc W10 (.cells #[] 3)).size
                  have hne : ∀ b, (Value.slice (some ⟨W10.heap.size, 0, none⟩) 0 0).ownBlock = some b → b ≠ g7 := fun b hb e => by simp [Value.ownBlock] at hb; omega
                  replace T := T.alloc (.cells #[] 3)
                  replace hle := Nat.le_trans hle (show W10.heap.size ≤ (W10.alloc (.cells #[] 3)).heap.size by simp)
                  replace g7l : g7 < (W10.alloc (.cells #[] 3)).heap.size := Nat.lt_of_lt_of_le g7l (by simp)
                  refine ⟨fun _ => T.out.2, ?_⟩
                  generalize W10.alloc (.cells #[] 3) = W11 at T hle row lit g7l ⊢
                  generalize W10.heap.size = g0 at row hne ⊢
                  obtain ⟨v0, hv0⟩ : ∃ v : Value, .slice (some ⟨g0, 0, none⟩) 0 0 = v := ⟨_, rfl⟩
                  rw [hv0] at row hne
                  try rw [hv0]
                  clear hv0
                  refine wpAnyL_one (i := 4) (by kernel_rfl) ?_
                  refine lexA_get rfl ?_
                  try go_frame
                  refine wpList_append_any W11 rfl (.tmp 62) (.tmp 65) 74 rfl Wq.heap.size 3 m0 (.int .i64 0) 1 8 Try.underlying74 hi0 hi1 hi2 hi3 rfl (by decide) v0 ([] : List Int).length (iV ([] : List Int)) rfl row Wq.heap.size AP j cc6 (iV (L6.take j)) rfl (P0.out.below T.out.1) (iV_one _) (by simp only [List.length_nil, List.length_append, List.length_take, List.length_singleton, maxLen]; try omega) (by simp only [List.length_nil, List.length_append, List.length_take, List.length_singleton]; try omega) hle ?_
                  intro v4 W12 row2 hg hat
                  have hb := T.out.1.grown hg hle (fun b hb => (row.lt b hb).1)
                  have hlt2 : ∀ b, v4.ownBlock = some b → b < W12.heap.size := fun b hb => (row2.lt b hb).2
                  have lit2 : Reads W12 W12.heap.size 1 (some ⟨g7, 0, none⟩) 1 [.int .i64 y.ticket] := lit_keep lit (World.cell?_of_block (a := ⟨g7, 0, none⟩) (hg.block g7 g7l (fun e => hne g7 e.symm rfl))) (Nat.lt_of_lt_of_le g7l hg.size)
                  replace lit := lit2
                  clear lit2
                  replace T : All (fun w' => Below Wq.heap.size Wq w' ∧ w'.cell? ⟨D, 3, none⟩ = some (.int .i64 y.ticket)) W12 := ⟨hb, (hb.cell (p := ⟨D, 3, none⟩) hDl).trans hD3⟩
                  replace hle := Nat.le_trans hle hg.size
                  have row3 : IRow W12 Wq.heap.size v4 (L6.take j) := by
                    have e1 : (L6.take j).length = ([] : List Int).length + j := by simp only [List.length_nil, List.length_append, List.length_take, List.length_drop, List.length_singleton]; try omega
                    unfold IRow
                    rw [e1]
                    exact row2
                  clear row row2 hg hat hb
                  have row := row3
                  skip
                  clear row3 hlt2 hne
                  refine ⟨fun _ => T.out.2, ?_⟩
                  refine wpAnyL_one (i := 8) (by kernel_rfl) ?_
                  refine lexA_get rfl ?_
                  try go_frame
                  refine wpList_append_any W12 rfl (.tmp 66) (.tmp 69) 74 rfl Wq.heap.size 3 m0 (.int .i64 0) 1 8 Try.underlying74 hi0 hi1 hi2 hi3 rfl (by decide) v4 (L6.take j).length (iV (L6.take j)) rfl row W12.heap.size (some ⟨g7, 0, none⟩) 1 1 [.int .i64 y.ticket] rfl lit (by simp [Value.oneCell']) (by simp only [List.length_nil, List.length_append, List.length_take, List.length_singleton, maxLen]; try omega) (by simp only [List.length_nil, List.length_append, List.length_take, List.length_singleton]; try omega) hle ?_
                  intro v8 W13 row2 hg hat
                  have hb := T.out.1.grown hg hle (fun b hb => (row.lt b hb).1)
                  have hlt2 : ∀ b, v8.ownBlock = some b → b < W13.heap.size := fun b hb => (row2.lt b hb).2
                  replace T : All (fun w' => Below Wq.heap.size Wq w' ∧ w'.cell? ⟨D, 3, none⟩ = some (.int .i64 y.ticket)) W13 := ⟨hb, (hb.cell (p := ⟨D, 3, none⟩) hDl).trans hD3⟩
                  replace hle := Nat.le_trans hle hg.size
                  have row3 : IRow W13 Wq.heap.size v8 (L6.take j ++ [y.ticket]) := by
                    have e1 : (L6.take j ++ [y.ticket]).length = (L6.take j).length + 1 := by simp only [List.length_nil, List.length_append, List.length_take, List.length_drop, List.length_singleton]; try omega
                    unfold IRow
                    rw [e1, iV_app]
                    exact row2
                  clear row row2 hg hat hb
                  have row := row3
                  skip
                  clear row3 hlt2 lit g7l
                  refine ⟨fun _ => T.out.2, ?_⟩
                  refine wpAnyL_one (i := 12) (by kernel_rfl) ?_
                  refine lexA_get rfl ?_
                  try go_frame
                  refine wpList_append_any W13 rfl (.tmp 70) (.tmp 73) 74 rfl Wq.heap.size 3 m0 (.int .i64 0) 1 8 Try.underlying74 hi0 hi1 hi2 hi3 rfl (by decide) v8 (L6.take j ++ [y.ticket]).length (iV (L6.take j ++ [y.ticket])) rfl row Wq.heap.size AS (L6.length - j) (cc6 - j) (iV (L6.drop j)) rfl (P1.out.below T.out.1) (iV_one _) (by simp only [List.length_nil, List.length_append, List.length_take, List.length_singleton, maxLen]; try omega) (by simp only [List.length_nil, List.length_append, List.length_take, List.length_singleton]; try omega) hle ?_
                  intro v12 W14 row2 hg hat
                  have hb := T.out.1.grown hg hle (fun b hb => (row.lt b hb).1)
                  have hlt2 : ∀ b, v12.ownBlock = some b → b < W14.heap.size := fun b hb => (row2.lt b hb).2
                  replace T : All (fun w' => Below Wq.heap.size Wq w' ∧ w'.cell? ⟨D, 3, none⟩ = some (.int .i64 y.ticket)) W14 := ⟨hb, (hb.cell (p := ⟨D, 3, none⟩) hDl).trans hD3⟩
                  replace hle := Nat.le_trans hle hg.size
                  have row3 : IRow W14 Wq.heap.size v12 ((L6.take j ++ [y.ticket]) ++ L6.drop j) := by
                    have e1 : ((L6.take j ++ [y.ticket]) ++ L6.drop j).length = (L6.take j ++ [y.ticket]).length + (L6.length - j) := by simp only [List.length_nil, List.length_append, List.length_take, List.length_drop, List.length_singleton]; try omega
                    unfold IRow
                    rw [e1, iV_app]
                    exact row2
                  clear row row2 hg hat hb
                  have row := row3
                  skip
                  clear row3 hlt2 
                  refine ⟨fun _ => T.out.2, ?_⟩
                  refine wpAnyL_writes [13] (by kernel_rfl) (LexW.cons rfl ?_)
                  try go_frame
                  go_wp2_with fail
                  refine ⟨fun _ => T.out.2, LexW.nil ?_⟩
                  have hb2 := T.out.1
                  have HQ2 : Hid (WtQ x.as_ db w W14 v5n v12 (k + 1)) := Lib.hid ⟨by rw [(wt_next HY.out HST.out HDB.out HST2.out H5.out H6.out).1]; exact RW5.out.later hb2, by rw [(wt_next HY.out HST.out HDB.out HST2.out H5.out H6.out).2]; exact IRow.low row hwl2⟩
                  replace S2 := S2.later hb2
                  clear T row hle HWz P0 P1 r0 r1 hb2 RW5
                  go_wp2_with fail
                  go_roundw
                  case rel => exact ⟨k + 1, _, _, by omega, by go_num, rfl, rfl, HQ2, S2⟩
                  case measure => simp [intOf]; omega
              · skip
                refine lexA_get rfl ?_
                try go_frame
                go_wp2_with fail
                have lit : Reads (W1.alloc (.cells #[.int .i64 y.sock] 3)) (W1.alloc (.cells #[.int .i64 y.sock] 3)).heap.size 1 (some ⟨W1.heap.size, 0, none⟩) 1 [.int .i64 y.sock] := reads_lit W1 #[.int .i64 y.sock] 1 1 3 (g := W1.heap.size) rfl rfl (by simp [maxLen])
                replace row := row.later (Later.alloc W1 (.cells #[.int .i64 y.sock] 3))
                have hne : ∀ b, (v0 : Value).ownBlock = some b → b ≠ W1.heap.size := fun b hb e => by have := hlt b hb; omega
                clear hlt
                replace T := T.alloc (.cells #[.int .i64 y.sock] 3)
                replace hle := Nat.le_trans hle (show W1.heap.size ≤ (W1.alloc (.cells #[.int .i64 y.sock] 3)).heap.size by simp)
                have g7l : W1.heap.size < (W1.alloc (.cells #[.int .i64 y.sock] 3)).heap.size := by simp
                refine ⟨fun _ => T.out.2, ?_⟩
                generalize W1.alloc (.cells #[.int .i64 y.sock] 3) = W6 at T hle row lit g7l ⊢
                generalize W1.heap.size = g7 at lit g7l hne ⊢
                refine wpAnyL_one (i := 4) (by kernel_rfl) ?_
                refine lexA_get rfl ?_
                try go_frame
                refine wpList_append_any W6 rfl (.tmp 49) (.tmp 52) 74 rfl Wr.heap.size 3 m0 (.int .i64 0) 1 8 Try.underlying74 hi0 hi1 hi2 hi3 rfl (by decide) v0 ([] : List Int).length (iV ([] : List Int)) rfl row Wr.heap.size AP j cc5 (iV (L5.take j)) rfl (P0.out.below T.out.1) (iV_one _) (by simp only [List.length_nil, List.length_append, List.length_take, List.length_singleton, maxLen]; try omega) (by simp only [List.length_nil, List.length_append, List.length_take, List.length_singleton]; try omega) hle ?_
                intro v4 W7 row2 hg hat
                have hb := T.out.1.grown hg hle (fun b hb => (row.lt b hb).1)
                have hlt2 : ∀ b, v4.ownBlock = some b → b < W7.heap.size := fun b hb => (row2.lt b hb).2
                have lit2 : Reads W7 W7.heap.size 1 (some ⟨g7, 0, none⟩) 1 [.int .i64 y.sock] := lit_keep lit (World.cell?_of_block (a := ⟨g7, 0, none⟩) (hg.block g7 g7l (fun e => hne g7 e.symm rfl))) (Nat.lt_of_lt_of_le g7l hg.size)
                replace lit := lit2
                clear lit2
                replace T : All (fun w' => Below Wr.heap.size Wr w' ∧ w'.cell? ⟨D, 0, none⟩ = some (.int .i64 y.sock)) W7 := ⟨hb, (hb.cell (p := ⟨D, 0, none⟩) hDl).trans hD0⟩
                replace hle := Nat.le_trans hle hg.size
                have row3 : IRow W7 Wr.heap.size v4 (L5.take j) := by
                  have e1 : (L5.take j).length = ([] : List Int).length + j := by simp only [List.length_nil, List.length_append, List.length_take, List.length_drop, List.length_singleton]; try omega
                  unfold IRow
                  rw [e1]
                  exact row2
                clear row row2 hg hat hb
                have row := row3
                skip
                clear row3 hlt2 hne
                refine ⟨fun _ => T.out.2, ?_⟩
                refine wpAnyL_one (i := 8) (by kernel_rfl) ?_
                refine lexA_get rfl ?_
                try go_frame
                refine wpList_append_any W7 rfl (.tmp 53) (.tmp 56) 74 rfl Wr.heap.size 3 m0 (.int .i64 0) 1 8 Try.underlying74 hi0 hi1 hi2 hi3 rfl (by decide) v4 (L5.take j).length (iV (L5.take j)) rfl row W7.heap.size (some ⟨g7, 0, none⟩) 1 1 [.int .i64 y.sock] rfl lit (by simp [Value.oneCell']) (by simp only [List.length_nil, List.length_append, List.length_take, List.length_singleton, maxLen]; try omega) (by simp only [List.length_nil, List.length_append, List.length_take, List.length_singleton]; try omega) hle ?_
                intro v8 W8 row2 hg hat
                have hb := T.out.1.grown hg hle (fun b hb => (row.lt b hb).1)
                have hlt2 : ∀ b, v8.ownBlock = some b → b < W8.heap.size := fun b hb => (row2.lt b hb).2
                replace T : All (fun w' => Below Wr.heap.size Wr w' ∧ w'.cell? ⟨D, 0, none⟩ = some (.int .i64 y.sock)) W8 := ⟨hb, (hb.cell (p := ⟨D, 0, none⟩) hDl).trans hD0⟩
                replace hle := Nat.le_trans hle hg.size
                have row3 : IRow W8 Wr.heap.size v8 (L5.take j ++ [y.sock]) := by
                  have e1 : (L5.take j ++ [y.sock]).length = (L5.take j).length + 1 := by simp only [List.length_nil, List.length_append, List.length_take, List.length_drop, List.length_singleton]; try omega
                  unfold IRow
                  rw [e1, iV_app]
                  exact row2
                clear row row2 hg hat hb
                have row := row3
                skip
                clear row3 hlt2 lit g7l
                refine ⟨fun _ => T.out.2, ?_⟩
                refine wpAnyL_one (i := 12) (by kernel_rfl) ?_
                refine lexA_get rfl ?_
                try go_frame
                refine wpList_append_any W8 rfl (.tmp 57) (.tmp 60) 74 rfl Wr.heap.size 3 m0 (.int .i64 0) 1 8 Try.underlying74 hi0 hi1 hi2 hi3 rfl (by decide) v8 (L5.take j ++ [y.sock]).length (iV (L5.take j ++ [y.sock])) rfl row Wr.heap.size AS (L5.length - j) (cc5 - j) (iV (L5.drop j)) rfl (P1.out.below T.out.1) (iV_one _) (by simp only [List.length_nil, List.length_append, List.length_take, List.length_singleton, maxLen]; try omega) (by simp only [List.length_nil, List.length_append, List.length_take, List.length_singleton]; try omega) hle ?_
                intro v12 W9 row2 hg hat
                have hb := T.out.1.grown hg hle (fun b hb => (row.lt b hb).1)
                have hlt2 : ∀ b, v12.ownBlock = some b → b < W9.heap.size := fun b hb => (row2.lt b hb).2
                replace T : All (fun w' => Below Wr.heap.size Wr w' ∧ w'.cell? ⟨D, 0, none⟩ = some (.int .i64 y.sock)) W9 := ⟨hb, (hb.cell (p := ⟨D, 0, none⟩) hDl).trans hD0⟩
                replace hle := Nat.le_trans hle hg.size
                have row3 : IRow W9 Wr.heap.size v12 ((L5.take j ++ [y.sock]) ++ L5.drop j) := by
                  have e1 : ((L5.take j ++ [y.sock]) ++ L5.drop j).length = (L5.take j ++ [y.sock]).length + (L5.length - j) := by simp only [List.length_nil, List.length_append, List.length_take, List.length_drop, List.length_singleton]; try omega
                  unfold IRow
                  rw [e1, iV_app]
                  exact row2
                clear row row2 hg hat hb
                have row := row3
                skip
                clear row3 hlt2 
                refine ⟨fun _ => T.out.2, ?_⟩
                refine wpAnyL_writes [13] (by kernel_rfl) (LexW.cons rfl ?_)
                try go_frame
                go_wp2_with fail
                refine ⟨fun _ => T.out.2, LexW.nil ?_⟩
                have hb1 := T.out.1
                have hs1 := hb1.size
                replace S2 := S2.later hb1
                have R6 := (RR6.out.below hb1).more hs1
                have hD3 : W9.cell? ⟨D, 3, none⟩ = some (.int .i64 y.ticket) := (hb1.cell (p := ⟨D, 3, none⟩) hDl).trans (var_cell hDv.out 3)
                have hwl2 : w.heap.size ≤ W9.heap.size := Nat.le_trans hwl hs1
                replace hDl : D < W9.heap.size := Nat.lt_of_lt_of_le hDl hs1
                have RW5 := Lib.hid (IRow.low row hwl)
                clear T row hle HWz P0 P1 r0 r1 hb1 hs1 hD0 hDv
                obtain ⟨v5n, rfl⟩ : ∃ v : Value, v = v12 := ⟨_, rfl⟩
                obtain ⟨Wq, rfl⟩ : ∃ wo : World, wo = W9 := ⟨_, rfl⟩
                go_upto_region 12 with (fail)
                have T : All (fun w' => Below Wq.heap.size Wq w' ∧ w'.cell? ⟨D, 3, none⟩ = some (.int .i64 y.ticket)) Wq := ⟨Below.refl _ _, hD3⟩
                obtain ⟨AP, r0, q0⟩ := slice_cells0 Try.underlying74 hi0 hi2 (A := AA6) (n := L6.length) (c := cc6) (hi' := j) .i64 hj6 hcc6
                obtain ⟨AS, r1, q1⟩ := slice_cellsF Try.underlying74 hi0 hi2 (A := AA6) (n := L6.length) (c := cc6) (lo := j) .i64 hj6 hcc6
                have p0 := q0 R6
                have p1 := q1 R6
                rw [iV_take] at p0
                rw [iV_drop] at p1
                have P0 := Lib.hid p0
                have P1 := Lib.hid p1
                clear p0 p1 q0 q1
                refine wp_region_open 100 (fun w' => w'.cell? ⟨D, 3, none⟩ = some (.int .i64 y.ticket)) (by kernel_rfl) ?_
                replace T := T.drew
                have hWz : Wq.drew.heap.size = Wq.heap.size := rfl
                have HWz := Lib.hid hWz
                clear hWz
                have hle : Wq.heap.size ≤ Wq.drew.heap.size := Nat.le_refl _
                generalize Wq.drew = Wa at T HWz hle ⊢
                refine wpAnyL_reads [1, 2, 3, 5, 6, 9, 10, 11] (fuel := 6) (by kernel_rfl) T.out.2 ?_
                iterate 8 (refine LexR.cons rfl ?_ (fun w' hw => ?_) ?_; rotate_left; focus (go_simp; (try exact rfl)); (try go_frame))
                refine LexR.nil ?_
                refine wpAnyL_two (i := 0) (j := 7) (by kernel_rfl) ?_ ?_
                · skip
                  refine lexA_get rfl ?_
                  try go_frame
                  go_wp2_with fail
                  have row : IRow (Wa.alloc (.cells #[] 3)) Wq.heap.size (.slice (some ⟨Wa.heap.size, 0, none⟩) 0 0) [] := IRow.low (base := Wa.heap.size) (Rep.lit_empty Wa 3 1 rfl) hle
                  have hlt : ∀ b, (Value.slice (some ⟨Wa.heap.size, 0, none⟩) 0 0).ownBlock = some b → b < (Wa.alloc (.cells #[] 3)).heap.size := fun b hb => by simp [Value.ownBlock] at hb; subst hb; simp
                  replace T := T.alloc (.cells #[] 3)
                  replace hle := Nat.le_trans hle (show Wa.heap.size ≤ (Wa.alloc (.cells #[] 3)).heap.size by simp)
                  refine ⟨fun _ => T.out.2, ?_⟩
                  generalize Wa.alloc (.cells #[] 3) = W1 at T hle row hlt ⊢
                  generalize Wa.heap.size = g0 at row hlt ⊢
                  obtain ⟨v0, hv0⟩ : ∃ v : Value, .slice (some ⟨g0, 0, none⟩) 0 0 = v := ⟨_, rfl⟩
                  rw [hv0] at row hlt
                  try rw [hv0]
                  clear hv0
                  refine wpAnyL_two (i := 4) (j := 7) (by kernel_rfl) ?_ ?_
                  · skip
                    refine lexA_get rfl ?_
                    try go_frame
                    refine wpList_append_any W1 rfl (.tmp 62) (.tmp 65) 74 rfl Wq.heap.size 3 m0 (.int .i64 0) 1 8 Try.underlying74 hi0 hi1 hi2 hi3 rfl (by decide) v0 ([] : List Int).length (iV ([] : List Int)) rfl row Wq.heap.size AP j cc6 (iV (L6.take j)) rfl (P0.out.below T.out.1) (iV_one _) (by simp only [List.length_nil, List.length_append, List.length_take, List.length_singleton, maxLen]; try omega) (by simp only [List.length_nil, List.length_append, List.length_take, List.length_singleton]; try omega) hle ?_
                    intro v4 W2 row2 hg hat
                    have hb := T.out.1.grown hg hle (fun b hb => (row.lt b hb).1)
                    have hlt2 : ∀ b, v4.ownBlock = some b → b < W2.heap.size := fun b hb => (row2.lt b hb).2
                    replace T : All (fun w' => Below Wq.heap.size Wq w' ∧ w'.cell? ⟨D, 3, none⟩ = some (.int .i64 y.ticket)) W2 := ⟨hb, (hb.cell (p := ⟨D, 3, none⟩) hDl).trans hD3⟩
                    replace hle := Nat.le_trans hle hg.size
                    have row3 : IRow W2 Wq.heap.size v4 (L6.take j) := by
                      have e1 : (L6.take j).length = ([] : List Int).length + j := by simp only [List.length_nil, List.length_append, List.length_take, List.length_drop, List.length_singleton]; try omega
                      unfold IRow
                      rw [e1]
                      exact row2
                    clear row row2 hg hat hb
                    have row := row3
                    have hlt := hlt2
                    clear row3 hlt2 
                    refine ⟨fun _ => T.out.2, ?_⟩
                    refine wpAnyL_one (i := 7) (by kernel_rfl) ?_
                    refine lexA_get rfl ?_
                    try go_frame
                    go_wp2_with fail
                    have lit : Reads (W2.alloc (.cells #[.int .i64 y.ticket] 3)) (W2.alloc (.cells #[.int .i64 y.ticket] 3)).heap.size 1 (some ⟨W2.heap.size, 0, none⟩) 1 [.int .i64 y.ticket] := reads_lit W2 #[.int .i64 y.ticket] 1 1 3 (g := W2.heap.size) rfl rfl (by simp [maxLen])
                    replace row := row.later (Later.alloc W2 (.cells #[.int .i64 y.ticket] 3))
                    have hne : ∀ b, (v4 : Value).ownBlock = some b → b ≠ W2.heap.size := fun b hb e => by have := hlt b hb; omega
                    clear hlt
                    replace T := T.alloc (.cells #[.int .i64 y.ticket] 3)
                    replace hle := Nat.le_trans hle (show W2.heap.size ≤ (W2.alloc (.cells #[.int .i64 y.ticket] 3)).heap.size by simp)
                    have g7l : W2.heap.size < (W2.alloc (.cells #[.int .i64 y.ticket] 3)).heap.size := by simp
                    refine ⟨fun _ => T.out.2, ?_⟩
                    generalize W2.alloc (.cells #[.int .i64 y.ticket] 3) = W3 at T hle row lit g7l ⊢
                    generalize W2.heap.size = g7 at lit g7l hne ⊢
                    refine wpAnyL_one (i := 8) (by kernel_rfl) ?_
                    refine lexA_get rfl ?_
                    try go_frame
                    refine wpList_append_any W3 rfl (.tmp 66) (.tmp 69) 74 rfl Wq.heap.size 3 m0 (.int .i64 0) 1 8 Try.underlying74 hi0 hi1 hi2 hi3 rfl (by decide) v4 (L6.take j).length (iV (L6.take j)) rfl row W3.heap.size (some ⟨g7, 0, none⟩) 1 1 [.int .i64 y.ticket] rfl lit (by simp [Value.oneCell']) (by simp only [List.length_nil, List.length_append, List.length_take, List.length_singleton, maxLen]; try omega) (by simp only [List.length_nil, List.length_append, List.length_take, List.length_singleton]; try omega) hle ?_
                    intro v8 W4 row2 hg hat
                    have hb := T.out.1.grown hg hle (fun b hb => (row.lt b hb).1)
                    have hlt2 : ∀ b, v8.ownBlock = some b → b < W4.heap.size := fun b hb => (row2.lt b hb).2
                    replace T : All (fun w' => Below Wq.heap.size Wq w' ∧ w'.cell? ⟨D, 3, none⟩ = some (.int .i64 y.ticket)) W4 := ⟨hb, (hb.cell (p := ⟨D, 3, none⟩) hDl).trans hD3⟩
                    replace hle := Nat.le_trans hle hg.size
                    have row3 : IRow W4 Wq.heap.size v8 (L6.take j ++ [y.ticket]) := by
                      have e1 : (L6.take j ++ [y.ticket]).length = (L6.take j).length + 1 := by simp only [List.length_nil, List.length_append, List.length_take, List.length_drop, List.length_singleton]; try omega
                      unfold IRow
                      rw [e1, iV_app]
                      exact row2
                    clear row row2 hg hat hb
                    have row := row3
                    skip
                    clear row3 hlt2 lit g7l
                    refine ⟨fun _ => T.out.2, ?_⟩
                    refine wpAnyL_one (i := 12) (by kernel_rfl) ?_
                    refine lexA_get rfl ?_
                    try go_frame
                    refine wpList_append_any W4 rfl (.tmp 70) (.tmp 73) 74 rfl Wq.heap.size 3 m0 (.int .i64 0) 1 8 Try.underlying74 hi0 hi1 hi2 hi3 rfl (by decide) v8 (L6.take j ++ [y.ticket]).length (iV (L6.take j ++ [y.ticket])) rfl row Wq.heap.size AS (L6.length - j) (cc6 - j) (iV (L6.drop j)) rfl (P1.out.below T.out.1) (iV_one _) (by simp only [List.length_nil, List.length_append, List.length_take, List.length_singleton, maxLen]; try omega) (by simp only [List.length_nil, List.length_append, List.length_take, List.length_singleton]; try omega) hle ?_
                    intro v12 W5 row2 hg hat
                    have hb := T.out.1.grown hg hle (fun b hb => (row.lt b hb).1)
                    have hlt2 : ∀ b, v12.ownBlock = some b → b < W5.heap.size := fun b hb => (row2.lt b hb).2
                    replace T : All (fun w' => Below Wq.heap.size Wq w' ∧ w'.cell? ⟨D, 3, none⟩ = some (.int .i64 y.ticket)) W5 := ⟨hb, (hb.cell (p := ⟨D, 3, none⟩) hDl).trans hD3⟩
                    replace hle := Nat.le_trans hle hg.size
                    have row3 : IRow W5 Wq.heap.size v12 ((L6.take j ++ [y.ticket]) ++ L6.drop j) := by
                      have e1 : ((L6.take j ++ [y.ticket]) ++ L6.drop j).length = (L6.take j ++ [y.ticket]).length + (L6.length - j) := by simp only [List.length_nil, List.length_append, List.length_take, List.length_drop, List.length_singleton]; try omega
                      unfold IRow
                      rw [e1, iV_app]
                      exact row2
                    clear row row2 hg hat hb
                    have row := row3
                    skip
                    clear row3 hlt2 
                    refine ⟨fun _ => T.out.2, ?_⟩
                    refine wpAnyL_writes [13] (by kernel_rfl) (LexW.cons rfl ?_)
                    try go_frame
                    go_wp2_with fail
                    refine ⟨fun _ => T.out.2, LexW.nil ?_⟩
                    have hb2 := T.out.1
                    have HQ2 : Hid (WtQ x.as_ db w W5 v5n v12 (k + 1)) := Lib.hid ⟨by rw [(wt_next HY.out HST.out HDB.out HST2.out H5.out H6.out).1]; exact RW5.out.later hb2, by rw [(wt_next HY.out HST.out HDB.out HST2.out H5.out H6.out).2]; exact IRow.low row hwl2⟩
                    replace S2 := S2.later hb2
                    clear T row hle HWz P0 P1 r0 r1 hb2 RW5
                    go_wp2_with fail
                    go_roundw
                    case rel => exact ⟨k + 1, _, _, by omega, by go_num, rfl, rfl, HQ2, S2⟩
                    case measure => simp [intOf]; omega
                  · skip
                    refine lexA_get rfl ?_
                    try go_frame
                    go_wp2_with fail
                    have lit : Reads (W1.alloc (.cells #[.int .i64 y.ticket] 3)) (W1.alloc (.cells #[.int .i64 y.ticket] 3)).heap.size 1 (some ⟨W1.heap.size, 0, none⟩) 1 [.int .i64 y.ticket] := reads_lit W1 #[.int .i64 y.ticket] 1 1 3 (g := W1.heap.size) rfl rfl (by simp [maxLen])
                    replace row := row.later (Later.alloc W1 (.cells #[.int .i64 y.ticket] 3))
                    have hne : ∀ b, (v0 : Value).ownBlock = some b → b ≠ W1.heap.size := fun b hb e => by have := hlt b hb; omega
                    clear hlt
                    replace T := T.alloc (.cells #[.int .i64 y.ticket] 3)
                    replace hle := Nat.le_trans hle (show W1.heap.size ≤ (W1.alloc (.cells #[.int .i64 y.ticket] 3)).heap.size by simp)
                    have g7l : W1.heap.size < (W1.alloc (.cells #[.int .i64 y.ticket] 3)).heap.size := by simp
                    refine ⟨fun _ => T.out.2, ?_⟩
                    generalize W1.alloc (.cells #[.int .i64 y.ticket] 3) = W6 at T hle row lit g7l ⊢
                    generalize W1.heap.size = g7 at lit g7l hne ⊢
                    refine wpAnyL_one (i := 4) (by kernel_rfl) ?_
                    refine lexA_get rfl ?_
                    try go_frame
                    refine wpList_append_any W6 rfl (.tmp 62) (.tmp 65) 74 rfl Wq.heap.size 3 m0 (.int .i64 0) 1 8 Try.underlying74 hi0 hi1 hi2 hi3 rfl (by decide) v0 ([] : List Int).length (iV ([] : List Int)) rfl row Wq.heap.size AP j cc6 (iV (L6.take j)) rfl (P0.out.below T.out.1) (iV_one _) (by simp only [List.length_nil, List.length_append, List.length_take, List.length_singleton, maxLen]; try omega) (by simp only [List.length_nil, List.length_append, List.length_take, List.length_singleton]; try omega) hle ?_
                    intro v4 W7 row2 hg hat
                    have hb := T.out.1.grown hg hle (fun b hb => (row.lt b hb).1)
                    have hlt2 : ∀ b, v4.ownBlock = some b → b < W7.heap.size := fun b hb => (row2.lt b hb).2
                    have lit2 : Reads W7 W7.heap.size 1 (some ⟨g7, 0, none⟩) 1 [.int .i64 y.ticket] := lit_keep lit (World.cell?_of_block (a := ⟨g7, 0, none⟩) (hg.block g7 g7l (fun e => hne g7 e.symm rfl))) (Nat.lt_of_lt_of_le g7l hg.size)
                    replace lit := lit2
                    clear lit2
                    replace T : All (fun w' => Below Wq.heap.size Wq w' ∧ w'.cell? ⟨D, 3, none⟩ = some (.int .i64 y.ticket)) W7 := ⟨hb, (hb.cell (p := ⟨D, 3, none⟩) hDl).trans hD3⟩
                    replace hle := Nat.le_trans hle hg.size
                    have row3 : IRow W7 Wq.heap.size v4 (L6.take j) := by
                      have e1 : (L6.take j).length = ([] : List Int).length + j := by simp only [List.length_nil, List.length_append, List.length_take, List.length_drop, List.length_singleton]; try omega
                      unfold IRow
                      rw [e1]
                      exact row2
                    clear row row2 hg hat hb
                    have row := row3
                    skip
                    clear row3 hlt2 hne
                    refine ⟨fun _ => T.out.2, ?_⟩
                    refine wpAnyL_one (i := 8) (by kernel_rfl) ?_
                    refine lexA_get rfl ?_
                    try go_frame
                    refine wpList_append_any W7 rfl (.tmp 66) (.tmp 69) 74 rfl Wq.heap.size 3 m0 (.int .i64 0) 1 8 Try.underlying74 hi0 hi1 hi2 hi3 rfl (by decide) v4 (L6.take j).length (iV (L6.take j)) rfl row W7.heap.size (some ⟨g7, 0, none⟩) 1 1 [.int .i64 y.ticket] rfl lit (by simp [Value.oneCell']) (by simp only [List.length_nil, List.length_append, List.length_take, List.length_singleton, maxLen]; try omega) (by simp only [List.length_nil, List.length_append, List.length_take, List.length_singleton]; try omega) hle ?_
                    intro v8 W8 row2 hg hat
                    have hb := T.out.1.grown hg hle (fun b hb => (row.lt b hb).1)
                    have hlt2 : ∀ b, v8.ownBlock = some b → b < W8.heap.size := fun b hb => (row2.lt b hb).2
                    replace T : All (fun w' => Below Wq.heap.size Wq w' ∧ w'.cell? ⟨D, 3, none⟩ = some (.int .i64 y.ticket)) W8 := ⟨hb, (hb.cell (p := ⟨D, 3, none⟩) hDl).trans hD3⟩
                    replace hle := Nat.le_trans hle hg.size
                    have row3 : IRow W8 Wq.heap.size v8 (L6.take j ++ [y.ticket]) := by
                      have e1 : (L6.take j ++ [y.ticket]).length = (L6.take j).length + 1 := by simp only [List.length_nil, List.length_append, List.length_take, List.length_drop, List.length_singleton]; try omega
                      unfold IRow
                      rw [e1, iV_app]
                      exact row2
                    clear row row2 hg hat hb
                    have row := row3
                    skip
                    clear row3 hlt2 lit g7l
                    refine ⟨fun _ => T.out.2, ?_⟩
                    refine wpAnyL_one (i := 12) (by kernel_rfl) ?_
                    refine lexA_get rfl ?_
                    try go_frame
                    refine wpList_append_any W8 rfl (.tmp 70) (.tmp 73) 74 rfl Wq.heap.size 3 m0 (.int .i64 0) 1 8 Try.underlying74 hi0 hi1 hi2 hi3 rfl (by decide) v8 (L6.take j ++ [y.ticket]).length (iV (L6.take j ++ [y.ticket])) rfl row Wq.heap.size AS (L6.length - j) (cc6 - j) (iV (L6.drop j)) rfl (P1.out.below T.out.1) (iV_one _) (by simp only [List.length_nil, List.length_append, List.length_take, List.length_singleton, maxLen]; try omega) (by simp only [List.length_nil, List.length_append, List.length_take, List.length_singleton]; try omega) hle ?_
                    intro v12 W9 row2 hg hat
                    have hb := T.out.1.grown hg hle (fun b hb => (row.lt b hb).1)
                    have hlt2 : ∀ b, v12.ownBlock = some b → b < W9.heap.size := fun b hb => (row2.lt b hb).2
                    replace T : All (fun w' => Below Wq.heap.size Wq w' ∧ w'.cell? ⟨D, 3, none⟩ = some (.int .i64 y.ticket)) W9 := ⟨hb, (hb.cell (p := ⟨D, 3, none⟩) hDl).trans hD3⟩
                    replace hle := Nat.le_trans hle hg.size
                    have row3 : IRow W9 Wq.heap.size v12 ((L6.take j ++ [y.ticket]) ++ L6.drop j) := by
                      have e1 : ((L6.take j ++ [y.ticket]) ++ L6.drop j).length = (L6.take j ++ [y.ticket]).length + (L6.length - j) := by simp only [List.length_nil, List.length_append, List.length_take, List.length_drop, List.length_singleton]; try omega
                      unfold IRow
                      rw [e1, iV_app]
                      exact row2
                    clear row row2 hg hat hb
                    have row := row3
                    skip
                    clear row3 hlt2 
                    refine ⟨fun _ => T.out.2, ?_⟩
                    refine wpAnyL_writes [13] (by kernel_rfl) (LexW.cons rfl ?_)
                    try go_frame
                    go_wp2_with fail
                    refine ⟨fun _ => T.out.2, LexW.nil ?_⟩
                    have hb2 := T.out.1
                    have HQ2 : Hid (WtQ x.as_ db w W9 v5n v12 (k + 1)) := Lib.hid ⟨by rw [(wt_next HY.out HST.out HDB.out HST2.out H5.out H6.out).1]; exact RW5.out.later hb2, by rw [(wt_next HY.out HST.out HDB.out HST2.out H5.out H6.out).2]; exact IRow.low row hwl2⟩
                    replace S2 := S2.later hb2
                    clear T row hle HWz P0 P1 r0 r1 hb2 RW5
                    go_wp2_with fail
                    go_roundw
                    case rel => exact ⟨k + 1, _, _, by omega, by go_num, rfl, rfl, HQ2, S2⟩
                    case measure => simp [intOf]; omega
                · skip
                  refine lexA_get rfl ?_
                  try go_frame
                  go_wp2_with fail
                  have lit : Reads (Wa.alloc (.cells #[.int .i64 y.ticket] 3)) (Wa.alloc (.cells #[.int .i64 y.ticket] 3)).heap.size 1 (some ⟨Wa.heap.size, 0, none⟩) 1 [.int .i64 y.ticket] := reads_lit Wa #[.int .i64 y.ticket] 1 1 3 (g := Wa.heap.size) rfl rfl (by simp [maxLen])
                  replace T := T.alloc (.cells #[.int .i64 y.ticket] 3)
                  replace hle := Nat.le_trans hle (show Wa.heap.size ≤ (Wa.alloc (.cells #[.int .i64 y.ticket] 3)).heap.size by simp)
                  have g7l : Wa.heap.size < (Wa.alloc (.cells #[.int .i64 y.ticket] 3)).heap.size := by simp
                  refine ⟨fun _ => T.out.2, ?_⟩
                  generalize Wa.alloc (.cells #[.int .i64 y.ticket] 3) = W10 at T hle lit g7l ⊢
                  generalize Wa.heap.size = g7 at lit g7l  ⊢
                  refine wpAnyL_one (i := 0) (by kernel_rfl) ?_
                  refine lexA_get rfl ?_
                  try go_frame
                  go_wp2_with fail
                  have row : IRow (W10.alloc (.cells #[] 3)) Wq.heap.size (.slice (some ⟨W10.heap.size, 0, none⟩) 0 0) [] := IRow.low (base := W10.heap.size) (Rep.lit_empty W10 3 1 rfl) hle
                  replace lit := (lit.below (Later.alloc W10 (.cells #[] 3))).more (Later.alloc W10 (.cells #[] 3)).size
                  have hne : ∀ b, (Value.slice (some ⟨W10.heap.size, 0, none⟩) 0 0).ownBlock = some b → b ≠ g7 := fun b hb e => by simp [Value.ownBlock] at hb; omega
                  replace T := T.alloc (.cells #[] 3)
                  replace hle := Nat.le_trans hle (show W10.heap.size ≤ (W10.alloc (.cells #[] 3)).heap.size by simp)
                  replace g7l : g7 < (W10.alloc (.cells #[] 3)).heap.size := Nat.lt_of_lt_of_le g7l (by simp)
                  refine ⟨fun _ => T.out.2, ?_⟩
                  generalize W10.alloc (.cells #[] 3) = W11 at T hle row lit g7l ⊢
                  generalize W10.heap.size = g0 at row hne ⊢
                  obtain ⟨v0, hv0⟩ : ∃ v : Value, .slice (some ⟨g0, 0, none⟩) 0 0 = v := ⟨_, rfl⟩
                  rw [hv0] at row hne
                  try rw [hv0]
                  clear hv0
                  refine wpAnyL_one (i := 4) (by kernel_rfl) ?_
                  refine lexA_get rfl ?_
                  try go_frame
                  refine wpList_append_any W11 rfl (.tmp 62) (.tmp 65) 74 rfl Wq.heap.size 3 m0 (.int .i64 0) 1 8 Try.underlying74 hi0 hi1 hi2 hi3 rfl (by decide) v0 ([] : List Int).length (iV ([] : List Int)) rfl row Wq.heap.size AP j cc6 (iV (L6.take j)) rfl (P0.out.below T.out.1) (iV_one _) (by simp only [List.length_nil, List.length_append, List.length_take, List.length_singleton, maxLen]; try omega) (by simp only [List.length_nil, List.length_append, List.length_take, List.length_singleton]; try omega) hle ?_
                  intro v4 W12 row2 hg hat
                  have hb := T.out.1.grown hg hle (fun b hb => (row.lt b hb).1)
                  have hlt2 : ∀ b, v4.ownBlock = some b → b < W12.heap.size := fun b hb => (row2.lt b hb).2
                  have lit2 : Reads W12 W12.heap.size 1 (some ⟨g7, 0, none⟩) 1 [.int .i64 y.ticket] := lit_keep lit (World.cell?_of_block (a := ⟨g7, 0, none⟩) (hg.block g7 g7l (fun e => hne g7 e.symm rfl))) (Nat.lt_of_lt_of_le g7l hg.size)
                  replace lit := lit2
                  clear lit2
                  replace T : All (fun w' => Below Wq.heap.size Wq w' ∧ w'.cell? ⟨D, 3, none⟩ = some (.int .i64 y.ticket)) W12 := ⟨hb, (hb.cell (p := ⟨D, 3, none⟩) hDl).trans hD3⟩
                  replace hle := Nat.le_trans hle hg.size
                  have row3 : IRow W12 Wq.heap.size v4 (L6.take j) := by
                    have e1 : (L6.take j).length = ([] : List Int).length + j := by simp only [List.length_nil, List.length_append, List.length_take, List.length_drop, List.length_singleton]; try omega
                    unfold IRow
                    rw [e1]
                    exact row2
                  clear row row2 hg hat hb
                  have row := row3
                  skip
                  clear row3 hlt2 hne
                  refine ⟨fun _ => T.out.2, ?_⟩
                  refine wpAnyL_one (i := 8) (by kernel_rfl) ?_
                  refine lexA_get rfl ?_
                  try go_frame
                  refine wpList_append_any W12 rfl (.tmp 66) (.tmp 69) 74 rfl Wq.heap.size 3 m0 (.int .i64 0) 1 8 Try.underlying74 hi0 hi1 hi2 hi3 rfl (by decide) v4 (L6.take j).length (iV (L6.take j)) rfl row W12.heap.size (some ⟨g7, 0, none⟩) 1 1 [.int .i64 y.ticket] rfl lit (by simp [Value.oneCell']) (by simp only [List.length_nil, List.length_append, List.length_take, List.length_singleton, maxLen]; try omega) (by simp only [List.length_nil, List.length_append, List.length_take, List.length_singleton]; try omega) hle ?_
                  intro v8 W13 row2 hg hat
                  have hb := T.out.1.grown hg hle (fun b hb => (row.lt b hb).1)
                  have hlt2 : ∀ b, v8.ownBlock = some b → b < W13.heap.size := fun b hb => (row2.lt b hb).2
                  replace T : All (fun w' => Below Wq.heap.size Wq w' ∧ w'.cell? ⟨D, 3, none⟩ = some (.int .i64 y.ticket)) W13 := ⟨hb, (hb.cell (p := ⟨D, 3, none⟩) hDl).trans hD3⟩
                  replace hle := Nat.le_trans hle hg.size
                  have row3 : IRow W13 Wq.heap.size v8 (L6.take j ++ [y.ticket]) := by
                    have e1 : (L6.take j ++ [y.ticket]).length = (L6.take j).length + 1 := by simp only [List.length_nil, List.length_append, List.length_take, List.length_drop, List.length_singleton]; try omega
                    unfold IRow
                    rw [e1, iV_app]
                    exact row2
                  clear row row2 hg hat hb
                  have row := row3
                  skip
                  clear row3 hlt2 lit g7l
                  refine ⟨fun _ => T.out.2, ?_⟩
                  refine wpAnyL_one (i := 12) (by kernel_rfl) ?_
                  refine lexA_get rfl ?_
                  try go_frame
                  refine wpList_append_any W13 rfl (.tmp 70) (.tmp 73) 74 rfl Wq.heap.size 3 m0 (.int .i64 0) 1 8 Try.underlying74 hi0 hi1 hi2 hi3 rfl (by decide) v8 (L6.take j ++ [y.ticket]).length (iV (L6.take j ++ [y.ticket])) rfl row Wq.heap.size AS (L6.length - j) (cc6 - j) (iV (L6.drop j)) rfl (P1.out.below T.out.1) (iV_one _) (by simp only [List.length_nil, List.length_append, List.length_take, List.length_singleton, maxLen]; try omega) (by simp only [List.length_nil, List.length_append, List.length_take, List.length_singleton]; try omega) hle ?_
                  intro v12 W14 row2 hg hat
                  have hb := T.out.1.grown hg hle (fun b hb => (row.lt b hb).1)
                  have hlt2 : ∀ b, v12.ownBlock = some b → b < W14.heap.size := fun b hb => (row2.lt b hb).2
                  replace T : All (fun w' => Below Wq.heap.size Wq w' ∧ w'.cell? ⟨D, 3, none⟩ = some (.int .i64 y.ticket)) W14 := ⟨hb, (hb.cell (p := ⟨D, 3, none⟩) hDl).trans hD3⟩
                  replace hle := Nat.le_trans hle hg.size
                  have row3 : IRow W14 Wq.heap.size v12 ((L6.take j ++ [y.ticket]) ++ L6.drop j) := by
                    have e1 : ((L6.take j ++ [y.ticket]) ++ L6.drop j).length = (L6.take j ++ [y.ticket]).length + (L6.length - j) := by simp only [List.length_nil, List.length_append, List.length_take, List.length_drop, List.length_singleton]; try omega
                    unfold IRow
                    rw [e1, iV_app]
                    exact row2
                  clear row row2 hg hat hb
                  have row := row3
                  skip
                  clear row3 hlt2 
                  refine ⟨fun _ => T.out.2, ?_⟩
                  refine wpAnyL_writes [13] (by kernel_rfl) (LexW.cons rfl ?_)
                  try go_frame
                  go_wp2_with fail
                  refine ⟨fun _ => T.out.2, LexW.nil ?_⟩
                  have hb2 := T.out.1
                  have HQ2 : Hid (WtQ x.as_ db w W14 v5n v12 (k + 1)) := Lib.hid ⟨by rw [(wt_next HY.out HST.out HDB.out HST2.out H5.out H6.out).1]; exact RW5.out.later hb2, by rw [(wt_next HY.out HST.out HDB.out HST2.out H5.out H6.out).2]; exact IRow.low row hwl2⟩
                  replace S2 := S2.later hb2
                  clear T row hle HWz P0 P1 r0 r1 hb2 RW5
                  go_wp2_with fail
                  go_roundw
                  case rel => exact ⟨k + 1, _, _, by omega, by go_num, rfl, rfl, HQ2, S2⟩
                  case measure => simp [intOf]; omega
            · skip
              refine lexA_get rfl ?_
              try go_frame
              go_wp2_with fail
              have lit : Reads (Wa.alloc (.cells #[.int .i64 y.sock] 3)) (Wa.alloc (.cells #[.int .i64 y.sock] 3)).heap.size 1 (some ⟨Wa.heap.size, 0, none⟩) 1 [.int .i64 y.sock] := reads_lit Wa #[.int .i64 y.sock] 1 1 3 (g := Wa.heap.size) rfl rfl (by simp [maxLen])
              replace T := T.alloc (.cells #[.int .i64 y.sock] 3)
              replace hle := Nat.le_trans hle (show Wa.heap.size ≤ (Wa.alloc (.cells #[.int .i64 y.sock] 3)).heap.size by simp)
              have g7l : Wa.heap.size < (Wa.alloc (.cells #[.int .i64 y.sock] 3)).heap.size := by simp
              refine ⟨fun _ => T.out.2, ?_⟩
              generalize Wa.alloc (.cells #[.int .i64 y.sock] 3) = W10 at T hle lit g7l ⊢
              generalize Wa.heap.size = g7 at lit g7l  ⊢
              refine wpAnyL_one (i := 0) (by kernel_rfl) ?_
              refine lexA_get rfl ?_
              try go_frame
              go_wp2_with fail
              have row : IRow (W10.alloc (.cells #[] 3)) Wr.heap.size (.slice (some ⟨W10.heap.size, 0, none⟩) 0 0) [] := IRow.low (base := W10.heap.size) (Rep.lit_empty W10 3 1 rfl) hle
              replace lit := (lit.below (Later.alloc W10 (.cells #[] 3))).more (Later.alloc W10 (.cells #[] 3)).size
              have hne : ∀ b, (Value.slice (some ⟨W10.heap.size, 0, none⟩) 0 0).ownBlock = some b → b ≠ g7 := fun b hb e => by simp [Value.ownBlock] at hb; omega
              replace T := T.alloc (.cells #[] 3)
              replace hle := Nat.le_trans hle (show W10.heap.size ≤ (W10.alloc (.cells #[] 3)).heap.size by simp)
              replace g7l : g7 < (W10.alloc (.cells #[] 3)).heap.size := Nat.lt_of_lt_of_le g7l (by simp)
              refine ⟨fun _ => T.out.2, ?_⟩
              generalize W10.alloc (.cells #[] 3) = W11 at T hle row lit g7l ⊢
              generalize W10.heap.size = g0 at row hne ⊢
              obtain ⟨v0, hv0⟩ : ∃ v : Value, .slice (some ⟨g0, 0, none⟩) 0 0 = v := ⟨_, rfl⟩
              rw [hv0] at row hne
              try rw [hv0]
              clear hv0
              refine wpAnyL_one (i := 4) (by kernel_rfl) ?_
              refine lexA_get rfl ?_
              try go_frame
              refine wpList_append_any W11 rfl (.tmp 49) (.tmp 52) 74 rfl Wr.heap.size 3 m0 (.int .i64 0) 1 8 Try.underlying74 hi0 hi1 hi2 hi3 rfl (by decide) v0 ([] : List Int).length (iV ([] : List Int)) rfl row Wr.heap.size AP j cc5 (iV (L5.take j)) rfl (P0.out.below T.out.1) (iV_one _) (by simp only [List.length_nil, List.length_append, List.length_take, List.length_singleton, maxLen]; try omega) (by simp only [List.length_nil, List.length_append, List.length_take, List.length_singleton]; try omega) hle ?_
              intro v4 W12 row2 hg hat
              have hb := T.out.1.grown hg hle (fun b hb => (row.lt b hb).1)
              have hlt2 : ∀ b, v4.ownBlock = some b → b < W12.heap.size := fun b hb => (row2.lt b hb).2
              have lit2 : Reads W12 W12.heap.size 1 (some ⟨g7, 0, none⟩) 1 [.int .i64 y.sock] := lit_keep lit (World.cell?_of_block (a := ⟨g7, 0, none⟩) (hg.block g7 g7l (fun e => hne g7 e.symm rfl))) (Nat.lt_of_lt_of_le g7l hg.size)
              replace lit := lit2
              clear lit2
              replace T : All (fun w' => Below Wr.heap.size Wr w' ∧ w'.cell? ⟨D, 0, none⟩ = some (.int .i64 y.sock)) W12 := ⟨hb, (hb.cell (p := ⟨D, 0, none⟩) hDl).trans hD0⟩
              replace hle := Nat.le_trans hle hg.size
              have row3 : IRow W12 Wr.heap.size v4 (L5.take j) := by
                have e1 : (L5.take j).length = ([] : List Int).length + j := by simp only [List.length_nil, List.length_append, List.length_take, List.length_drop, List.length_singleton]; try omega
                unfold IRow
                rw [e1]
                exact row2
              clear row row2 hg hat hb
              have row := row3
              skip
              clear row3 hlt2 hne
              refine ⟨fun _ => T.out.2, ?_⟩
              refine wpAnyL_one (i := 8) (by kernel_rfl) ?_
              refine lexA_get rfl ?_
              try go_frame
              refine wpList_append_any W12 rfl (.tmp 53) (.tmp 56) 74 rfl Wr.heap.size 3 m0 (.int .i64 0) 1 8 Try.underlying74 hi0 hi1 hi2 hi3 rfl (by decide) v4 (L5.take j).length (iV (L5.take j)) rfl row W12.heap.size (some ⟨g7, 0, none⟩) 1 1 [.int .i64 y.sock] rfl lit (by simp [Value.oneCell']) (by simp only [List.length_nil, List.length_append, List.length_take, List.length_singleton, maxLen]; try omega) (by simp only [List.length_nil, List.length_append, List.length_take, List.length_singleton]; try omega) hle ?_
              intro v8 W13 row2 hg hat
              have hb := T.out.1.grown hg hle (fun b hb => (row.lt b hb).1)
              have hlt2 : ∀ b, v8.ownBlock = some b → b < W13.heap.size := fun b hb => (row2.lt b hb).2
              replace T : All (fun w' => Below Wr.heap.size Wr w' ∧ w'.cell? ⟨D, 0, none⟩ = some (.int .i64 y.sock)) W13 := ⟨hb, (hb.cell (p := ⟨D, 0, none⟩) hDl).trans hD0⟩
              replace hle := Nat.le_trans hle hg.size
              have row3 : IRow W13 Wr.heap.size v8 (L5.take j ++ [y.sock]) := by
                have e1 : (L5.take j ++ [y.sock]).length = (L5.take j).length + 1 := by simp only [List.length_nil, List.length_append, List.length_take, List.length_drop, List.length_singleton]; try omega
                unfold IRow
                rw [e1, iV_app]
                exact row2
              clear row row2 hg hat hb
              have row := row3
              skip
              clear row3 hlt2 lit g7l
              refine ⟨fun _ => T.out.2, ?_⟩
              refine wpAnyL_one (i := 12) (by kernel_rfl) ?_
              refine lexA_get rfl ?_
              try go_frame
              refine wpList_append_any W13 rfl (.tmp 57) (.tmp 60) 74 rfl Wr.heap.size 3 m0 (.int .i64 0) 1 8 Try.underlying74 hi0 hi1 hi2 hi3 rfl (by decide) v8 (L5.take j ++ [y.sock]).length (iV (L5.take j ++ [y.sock])) rfl row Wr.heap.size AS (L5.length - j) (cc5 - j) (iV (L5.drop j)) rfl (P1.out.below T.out.1) (iV_one _) (by simp only [List.length_nil, List.length_append, List.length_take, List.length_singleton, maxLen]; try omega) (by simp only [List.length_nil, List.length_append, List.length_take, List.length_singleton]; try omega) hle ?_
              intro v12 W14 row2 hg hat
              have hb := T.out.1.grown hg hle (fun b hb => (row.lt b hb).1)
              have hlt2 : ∀ b, v12.ownBlock = some b → b < W14.heap.size := fun b hb => (row2.lt b hb).2
              replace T : All (fun w' => Below Wr.heap.size Wr w' ∧ w'.cell? ⟨D, 0, none⟩ = some (.int .i64 y.sock)) W14 := ⟨hb, (hb.cell (p := ⟨D, 0, none⟩) hDl).trans hD0⟩
              replace hle := Nat.le_trans hle hg.size
              have row3 : IRow W14 Wr.heap.size v12 ((L5.take j ++ [y.sock]) ++ L5.drop j) := by
                have e1 : ((L5.take j ++ [y.sock]) ++ L5.drop j).length = (L5.take j ++ [y.sock]).length + (L5.length - j) := by simp only [List.length_nil, List.length_append, List.length_take, List.length_drop, List.length_singleton]; try omega
                unfold IRow
                rw [e1, iV_app]
                exact row2
              clear row row2 hg hat hb
              have row := row3
              skip
              clear row3 hlt2 
              refine ⟨fun _ => T.out.2, ?_⟩
              refine wpAnyL_writes [13] (by kernel_rfl) (LexW.cons rfl ?_)
              try go_frame
              go_wp2_with fail
              refine ⟨fun _ => T.out.2, LexW.nil ?_⟩
              have hb1 := T.out.1
              have hs1 := hb1.size
              replace S2 := S2.later hb1
              have R6 := (RR6.out.below hb1).more hs1
              have hD3 : W14.cell? ⟨D, 3, none⟩ = some (.int .i64 y.ticket) := (hb1.cell (p := ⟨D, 3, none⟩) hDl).trans (var_cell hDv.out 3)
              have hwl2 : w.heap.size ≤ W14.heap.size := Nat.le_trans hwl hs1
              replace hDl : D < W14.heap.size := Nat.lt_of_lt_of_le hDl hs1
              have RW5 := Lib.hid (IRow.low row hwl)
              clear T row hle HWz P0 P1 r0 r1 hb1 hs1 hD0 hDv
              obtain ⟨v5n, rfl⟩ : ∃ v : Value, v = v12 := ⟨_, rfl⟩
              obtain ⟨Wq, rfl⟩ : ∃ wo : World, wo = W14 := ⟨_, rfl⟩
              go_upto_region 12 with (fail)
              have T : All (fun w' => Below Wq.heap.size Wq w' ∧ w'.cell? ⟨D, 3, none⟩ = some (.int .i64 y.ticket)) Wq := ⟨Below.refl _ _, hD3⟩
              obtain ⟨AP, r0, q0⟩ := slice_cells0 Try.underlying74 hi0 hi2 (A := AA6) (n := L6.length) (c := cc6) (hi' := j) .i64 hj6 hcc6
              obtain ⟨AS, r1, q1⟩ := slice_cellsF Try.underlying74 hi0 hi2 (A := AA6) (n := L6.length) (c := cc6) (lo := j) .i64 hj6 hcc6
              have p0 := q0 R6
              have p1 := q1 R6
              rw [iV_take] at p0
              rw [iV_drop] at p1
              have P0 := Lib.hid p0
              have P1 := Lib.hid p1
              clear p0 p1 q0 q1
              refine wp_region_open 100 (fun w' => w'.cell? ⟨D, 3, none⟩ = some (.int .i64 y.ticket)) (by kernel_rfl) ?_
              replace T := T.drew
              have hWz : Wq.drew.heap.size = Wq.heap.size := rfl
              have HWz := Lib.hid hWz
              clear hWz
              have hle : Wq.heap.size ≤ Wq.drew.heap.size := Nat.le_refl _
              generalize Wq.drew = Wa at T HWz hle ⊢
              refine wpAnyL_reads [1, 2, 3, 5, 6, 9, 10, 11] (fuel := 6) (by kernel_rfl) T.out.2 ?_
              iterate 8 (refine LexR.cons rfl ?_ (fun w' hw => ?_) ?_; rotate_left; focus (go_simp; (try exact rfl)); (try go_frame))
              refine LexR.nil ?_
              refine wpAnyL_two (i := 0) (j := 7) (by kernel_rfl) ?_ ?_
              · skip
                refine lexA_get rfl ?_
                try go_frame
                go_wp2_with fail
                have row : IRow (Wa.alloc (.cells #[] 3)) Wq.heap.size (.slice (some ⟨Wa.heap.size, 0, none⟩) 0 0) [] := IRow.low (base := Wa.heap.size) (Rep.lit_empty Wa 3 1 rfl) hle
                have hlt : ∀ b, (Value.slice (some ⟨Wa.heap.size, 0, none⟩) 0 0).ownBlock = some b → b < (Wa.alloc (.cells #[] 3)).heap.size := fun b hb => by simp [Value.ownBlock] at hb; subst hb; simp
                replace T := T.alloc (.cells #[] 3)
                replace hle := Nat.le_trans hle (show Wa.heap.size ≤ (Wa.alloc (.cells #[] 3)).heap.size by simp)
                refine ⟨fun _ => T.out.2, ?_⟩
                generalize Wa.alloc (.cells #[] 3) = W1 at T hle row hlt ⊢
                generalize Wa.heap.size = g0 at row hlt ⊢
                obtain ⟨v0, hv0⟩ : ∃ v : Value, .slice (some ⟨g0, 0, none⟩) 0 0 = v := ⟨_, rfl⟩
                rw [hv0] at row hlt
                try rw [hv0]
                clear hv0
                refine wpAnyL_two (i := 4) (j := 7) (by kernel_rfl) ?_ ?_
                · skip
                  refine lexA_get rfl ?_
                  try go_frame
                  refine wpList_append_any W1 rfl (.tmp 62) (.tmp 65) 74 rfl Wq.heap.size 3 m0 (.int .i64 0) 1 8 Try.underlying74 hi0 hi1 hi2 hi3 rfl (by decide) v0 ([] : List Int).length (iV ([] : List Int)) rfl row Wq.heap.size AP j cc6 (iV (L6.take j)) rfl (P0.out.below T.out.1) (iV_one _) (by simp only [List.length_nil, List.length_append, List.length_take, List.length_singleton, maxLen]; try omega) (by simp only [List.length_nil, List.length_append, List.length_take, List.length_singleton]; try omega) hle ?_
                  intro v4 W2 row2 hg hat
                  have hb := T.out.1.grown hg hle (fun b hb => (row.lt b hb).1)
                  have hlt2 : ∀ b, v4.ownBlock = some b → b < W2.heap.size := fun b hb => (row2.lt b hb).2
                  replace T : All (fun w' => Below Wq.heap.size Wq w' ∧ w'.cell? ⟨D, 3, none⟩ = some (.int .i64 y.ticket)) W2 := ⟨hb, (hb.cell (p := ⟨D, 3, none⟩) hDl).trans hD3⟩
                  replace hle := Nat.le_trans hle hg.size
                  have row3 : IRow W2 Wq.heap.size v4 (L6.take j) := by
                    have e1 : (L6.take j).length = ([] : List Int).length + j := by simp only [List.length_nil, List.length_append, List.length_take, List.length_drop, List.length_singleton]; try omega
                    unfold IRow
                    rw [e1]
                    exact row2
                  clear row row2 hg hat hb
                  have row := row3
                  have hlt := hlt2
                  clear row3 hlt2 
                  refine ⟨fun _ => T.out.2, ?_⟩
                  refine wpAnyL_one (i := 7) (by kernel_rfl) ?_
                  refine lexA_get rfl ?_
                  try go_frame
                  go_wp2_with fail
                  have lit : Reads (W2.alloc (.cells #[.int .i64 y.ticket] 3)) (W2.alloc (.cells #[.int .i64 y.ticket] 3)).heap.size 1 (some ⟨W2.heap.size, 0, none⟩) 1 [.int .i64 y.ticket] := reads_lit W2 #[.int .i64 y.ticket] 1 1 3 (g := W2.heap.size) rfl rfl (by simp [maxLen])
                  replace row := row.later (Later.alloc W2 (.cells #[.int .i64 y.ticket] 3))
                  have hne : ∀ b, (v4 : Value).ownBlock = some b → b ≠ W2.heap.size := fun b hb e => by have := hlt b hb; omega
                  clear hlt
                  replace T := T.alloc (.cells #[.int .i64 y.ticket] 3)
                  replace hle := Nat.le_trans hle (show W2.heap.size ≤ (W2.alloc (.cells #[.int .i64 y.ticket] 3)).heap.size by simp)
                  have g7l : W2.heap.size < (W2.alloc (.cells #[.int .i64 y.ticket] 3)).heap.size := by simp
                  refine ⟨fun _ => T.out.2, ?_⟩
                  generalize W2.alloc (.cells #[.int .i64 y.ticket] 3) = W3 at T hle row lit g7l ⊢
                  generalize W2.heap.size = g7 at lit g7l hne ⊢
                  refine wpAnyL_one (i := 8) (by kernel_rfl) ?_
                  refine lexA_get rfl ?_
                  try go_frame
                  refine wpList_append_any W3 rfl (.tmp 66) (.tmp 69) 74 rfl Wq.heap.size 3 m0 (.int .i64 0) 1 8 Try.underlying74 hi0 hi1 hi2 hi3 rfl (by decide) v4 (L6.take j).length (iV (L6.take j)) rfl row W3.heap.size (some ⟨g7, 0, none⟩) 1 1 [.int .i64 y.ticket] rfl lit (by simp [Value.oneCell']) (by simp only [List.length_nil, List.length_append, List.length_take, List.length_singleton, maxLen]; try omega) (by simp only [List.length_nil, List.length_append, List.length_take, List.length_singleton]; try omega) hle ?_
                  intro v8 W4 row2 hg hat
                  have hb := T.out.1.grown hg hle (fun b hb => (row.lt b hb).1)
                  have hlt2 : ∀ b, v8.ownBlock = some b → b < W4.heap.size := fun b hb => (row2.lt b hb).2
                  replace T : All (fun w' => Below Wq.heap.size Wq w' ∧ w'.cell? ⟨D, 3, none⟩ = some (.int .i64 y.ticket)) W4 := ⟨hb, (hb.cell (p := ⟨D, 3, none⟩) hDl).trans hD3⟩
                  replace hle := Nat.le_trans hle hg.size
                  have row3 : IRow W4 Wq.heap.size v8 (L6.take j ++ [y.ticket]) := by
                    have e1 : (L6.take j ++ [y.ticket]).length = (L6.take j).length + 1 := by simp only [List.length_nil, List.length_append, List.length_take, List.length_drop, List.length_singleton]; try omega
                    unfold IRow
                    rw [e1, iV_app]
                    exact row2
                  clear row row2 hg hat hb
                  have row := row3
                  skip
                  clear row3 hlt2 lit g7l
                  refine ⟨fun _ => T.out.2, ?_⟩
                  refine wpAnyL_one (i := 12) (by kernel_rfl) ?_
                  refine lexA_get rfl ?_
                  try go_frame
                  refine wpList_append_any W4 rfl (.tmp 70) (.tmp 73) 74 rfl Wq.heap.size 3 m0 (.int .i64 0) 1 8 Try.underlying74 hi0 hi1 hi2 hi3 rfl (by decide) v8 (L6.take j ++ [y.ticket]).length (iV (L6.take j ++ [y.ticket])) rfl row Wq.heap.size AS (L6.length - j) (cc6 - j) (iV (L6.drop j)) rfl (P1.out.below T.out.1) (iV_one _) (by simp only [List.length_nil, List.length_append, List.length_take, List.length_singleton, maxLen]; try omega) (by simp only [List.length_nil, List.length_append, List.length_take, List.length_singleton]; try omega) hle ?_
                  intro v12 W5 row2 hg hat
                  have hb := T.out.1.grown hg hle (fun b hb => (row.lt b hb).1)
                  have hlt2 : ∀ b, v12.ownBlock = some b → b < W5.heap.size := fun b hb => (row2.lt b hb).2
                  replace T : All (fun w' => Below Wq.heap.size Wq w' ∧ w'.cell? ⟨D, 3, none⟩ = some (.int .i64 y.ticket)) W5 := ⟨hb, (hb.cell (p := ⟨D, 3, none⟩) hDl).trans hD3⟩
                  replace hle := Nat.le_trans hle hg.size
                  have row3 : IRow W5 Wq.heap.size v12 ((L6.take j ++ [y.ticket]) ++ L6.drop j) := by
                    have e1 : ((L6.take j ++ [y.ticket]) ++ L6.drop j).length = (L6.take j ++ [y.ticket]).length + (L6.length - j) := by simp only [List.length_nil, List.length_append, List.length_take, List.length_drop, List.length_singleton]; try omega
                    unfold IRow
                    rw [e1, iV_app]
                    exact row2
                  clear row row2 hg hat hb
                  have row := row3
                  skip
                  clear row3 hlt2 
                  refine ⟨fun _ => T.out.2, ?_⟩
                  refine wpAnyL_writes [13] (by kernel_rfl) (LexW.cons rfl ?_)
                  try go_frame
                  go_wp2_with fail
                  refine ⟨fun _ => T.out.2, LexW.nil ?_⟩
                  have hb2 := T.out.1
                  have HQ2 : Hid (WtQ x.as_ db w W5 v5n v12 (k + 1)) := Lib.hid ⟨by rw [(wt_next HY.out HST.out HDB.out HST2.out H5.out H6.out).1]; exact RW5.out.later hb2, by rw [(wt_next HY.out HST.out HDB.out HST2.out H5.out H6.out).2]; exact IRow.low row hwl2⟩
                  replace S2 := S2.later hb2
                  clear T row hle HWz P0 P1 r0 r1 hb2 RW5
                  go_wp2_with fail
                  go_roundw
                  case rel => exact ⟨k + 1, _, _, by omega, by go_num, rfl, rfl, HQ2, S2⟩
                  case measure => simp [intOf]; omega
                · skip
                  refine lexA_get rfl ?_
                  try go_frame
                  go_wp2_with fail
                  have lit : Reads (W1.alloc (.cells #[.int .i64 y.ticket] 3)) (W1.alloc (.cells #[.int .i64 y.ticket] 3)).heap.size 1 (some ⟨W1.heap.size, 0, none⟩) 1 [.int .i64 y.ticket] := reads_lit W1 #[.int .i64 y.ticket] 1 1 3 (g := W1.heap.size) rfl rfl (by simp [maxLen])
                  replace row := row.later (Later.alloc W1 (.cells #[.int .i64 y.ticket] 3))
                  have hne : ∀ b, (v0 : Value).ownBlock = some b → b ≠ W1.heap.size := fun b hb e => by have := hlt b hb; omega
                  clear hlt
                  replace T := T.alloc (.cells #[.int .i64 y.ticket] 3)
                  replace hle := Nat.le_trans hle (show W1.heap.size ≤ (W1.alloc (.cells #[.int .i64 y.ticket] 3)).heap.size by simp)
                  have g7l : W1.heap.size < (W1.alloc (.cells #[.int .i64 y.ticket] 3)).heap.size := by simp
                  refine ⟨fun _ => T.out.2, ?_⟩
                  generalize W1.alloc (.cells #[.int .i64 y.ticket] 3) = W6 at T hle row lit g7l ⊢
                  generalize W1.heap.size = g7 at lit g7l hne ⊢
                  refine wpAnyL_one (i := 4) (by kernel_rfl) ?_
                  refine lexA_get rfl ?_
                  try go_frame
                  refine wpList_append_any W6 rfl (.tmp 62) (.tmp 65) 74 rfl Wq.heap.size 3 m0 (.int .i64 0) 1 8 Try.underlying74 hi0 hi1 hi2 hi3 rfl (by decide) v0 ([] : List Int).length (iV ([] : List Int)) rfl row Wq.heap.size AP j cc6 (iV (L6.take j)) rfl (P0.out.below T.out.1) (iV_one _) (by simp only [List.length_nil, List.length_append, List.length_take, List.length_singleton, maxLen]; try omega) (by simp only [List.length_nil, List.length_append, List.length_take, List.length_singleton]; try omega) hle ?_
                  intro v4 W7 row2 hg hat
                  have hb := T.out.1.grown hg hle (fun b hb => (row.lt b hb).1)
                  have hlt2 : ∀ b, v4.ownBlock = some b → b < W7.heap.size := fun b hb => (row2.lt b hb).2
                  have lit2 : Reads W7 W7.heap.size 1 (some ⟨g7, 0, none⟩) 1 [.int .i64 y.ticket] := lit_keep lit (World.cell?_of_block (a := ⟨g7, 0, none⟩) (hg.block g7 g7l (fun e => hne g7 e.symm rfl))) (Nat.lt_of_lt_of_le g7l hg.size)
                  replace lit := lit2
                  clear lit2
                  replace T : All (fun w' => Below Wq.heap.size Wq w' ∧ w'.cell? ⟨D, 3, none⟩ = some (.int .i64 y.ticket)) W7 := ⟨hb, (hb.cell (p := ⟨D, 3, none⟩) hDl).trans hD3⟩
                  replace hle := Nat.le_trans hle hg.size
                  have row3 : IRow W7 Wq.heap.size v4 (L6.take j) := by
                    have e1 : (L6.take j).length = ([] : List Int).length + j := by simp only [List.length_nil, List.length_append, List.length_take, List.length_drop, List.length_singleton]; try omega
                    unfold IRow
                    rw [e1]
                    exact row2
                  clear row row2 hg hat hb
                  have row := row3
                  skip
                  clear row3 hlt2 hne
                  refine ⟨fun _ => T.out.2, ?_⟩
                  refine wpAnyL_one (i := 8) (by kernel_rfl) ?_
                  refine lexA_get rfl ?_
                  try go_frame
                  refine wpList_append_any W7 rfl (.tmp 66) (.tmp 69) 74 rfl Wq.heap.size 3 m0 (.int .i64 0) 1 8 Try.underlying74 hi0 hi1 hi2 hi3 rfl (by decide) v4 (L6.take j).length (iV (L6.take j)) rfl row W7.heap.size (some ⟨g7, 0, none⟩) 1 1 [.int .i64 y.ticket] rfl lit (by simp [Value.oneCell']) (by simp only [List.length_nil, List.length_append, List.length_take, List.length_singleton, maxLen]; try omega) (by simp only [List.length_nil, List.length_append, List.length_take, List.length_singleton]; try omega) hle ?_
                  intro v8 W8 row2 hg hat
                  have hb := T.out.1.grown hg hle (fun b hb => (row.lt b hb).1)
                  have hlt2 : ∀ b, v8.ownBlock = some b → b < W8.heap.size := fun b hb => (row2.lt b hb).2
                  replace T : All (fun w' => Below Wq.heap.size Wq w' ∧ w'.cell? ⟨D, 3, none⟩ = some (.int .i64 y.ticket)) W8 := ⟨hb, (hb.cell (p := ⟨D, 3, none⟩) hDl).trans hD3⟩
                  replace hle := Nat.le_trans hle hg.size
                  have row3 : IRow W8 Wq.heap.size v8 (L6.take j ++ [y.ticket]) := by
                    have e1 : (L6.take j ++ [y.ticket]).length = (L6.take j).length + 1 := by simp only [List.length_nil, List.length_append, List.length_take, List.length_drop, List.length_singleton]; try omega
                    unfold IRow
                    rw [e1, iV_app]
                    exact row2
                  clear row row2 hg hat hb
                  have row := row3
                  skip
                  clear row3 hlt2 lit g7l
                  refine ⟨fun _ => T.out.2, ?_⟩
                  refine wpAnyL_one (i := 12) (by kernel_rfl) ?_
                  refine lexA_get rfl ?_
                  try go_frame
                  refine wpList_append_any W8 rfl (.tmp 70) (.tmp 73) 74 rfl Wq.heap.size 3 m0 (.int .i64 0) 1 8 Try.underlying74 hi0 hi1 hi2 hi3 rfl (by decide) v8 (L6.take j ++ [y.ticket]).length (iV (L6.take j ++ [y.ticket])) rfl row Wq.heap.size AS (L6.length - j) (cc6 - j) (iV (L6.drop j)) rfl (P1.out.below T.out.1) (iV_one _) (by simp only [List.length_nil, List.length_append, List.length_take, List.length_singleton, maxLen]; try omega) (by simp only [List.length_nil, List.length_append, List.length_take, List.length_singleton]; try omega) hle ?_
                  intro v12 W9 row2 hg hat
                  have hb := T.out.1.grown hg hle (fun b hb => (row.lt b hb).1)
                  have hlt2 : ∀ b, v12.ownBlock = some b → b < W9.heap.size := fun b hb => (row2.lt b hb).2
                  replace T : All (fun w' => Below Wq.heap.size Wq w' ∧ w'.cell? ⟨D, 3, none⟩ = some (.int .i64 y.ticket)) W9 := ⟨hb, (hb.cell (p := ⟨D, 3, none⟩) hDl).trans hD3⟩
                  replace hle := Nat.le_trans hle hg.size
                  have row3 : IRow W9 Wq.heap.size v12 ((L6.take j ++ [y.ticket]) ++ L6.drop j) := by
                    have e1 : ((L6.take j ++ [y.ticket]) ++ L6.drop j).length = (L6.take j ++ [y.ticket]).length + (L6.length - j) := by simp only [List.length_nil, List.length_append, List.length_take, List.length_drop, List.length_singleton]; try omega
                    unfold IRow
                    rw [e1, iV_app]
                    exact row2
                  clear row row2 hg hat hb
                  have row := row3
                  skip
                  clear row3 hlt2 
                  refine ⟨fun _ => T.out.2, ?_⟩
                  refine wpAnyL_writes [13] (by kernel_rfl) (LexW.cons rfl ?_)
                  try go_frame
                  go_wp2_with fail
                  refine ⟨fun _ => T.out.2, LexW.nil ?_⟩
                  have hb2 := T.out.1
                  have HQ2 : Hid (WtQ x.as_ db w W9 v5n v12 (k + 1)) := Lib.hid ⟨by rw [(wt_next HY.out HST.out HDB.out HST2.out H5.out H6.out).1]; exact RW5.out.later hb2, by rw [(wt_next HY.out HST.out HDB.out HST2.out H5.out H6.out).2]; exact IRow.low row hwl2⟩
                  replace S2 := S2.later hb2
                  clear T row hle HWz P0 P1 r0 r1 hb2 RW5
                  go_wp2_with fail
                  go_roundw
                  case rel => exact ⟨k + 1, _, _, by omega, by go_num, rfl, rfl, HQ2, S2⟩
                  case measure => simp [intOf]; omega
              · skip
                refine lexA_get rfl ?_
                try go_frame
                go_wp2_with fail
                have lit : Reads (Wa.alloc (.cells #[.int .i64 y.ticket] 3)) (Wa.alloc (.cells #[.int .i64 y.ticket] 3)).heap.size 1 (some ⟨Wa.heap.size, 0, none⟩) 1 [.int .i64 y.ticket] := reads_lit Wa #[.int .i64 y.ticket] 1 1 3 (g := Wa.heap.size) rfl rfl (by simp [maxLen])
                replace T := T.alloc (.cells #[.int .i64 y.ticket] 3)
                replace hle := Nat.le_trans hle (show Wa.heap.size ≤ (Wa.alloc (.cells #[.int .i64 y.ticket] 3)).heap.size by simp)
                have g7l : Wa.heap.size < (Wa.alloc (.cells #[.int .i64 y.ticket] 3)).heap.size := by simp
                refine ⟨fun _ => T.out.2, ?_⟩
                generalize Wa.alloc (.cells #[.int .i64 y.ticket] 3) = W10 at T hle lit g7l ⊢
                generalize Wa.heap.size = g7 at lit g7l  ⊢
                refine wpAnyL_one (i := 0) (by kernel_rfl) ?_
                refine lexA_get rfl ?_
                try go_frame
                go_wp2_with fail
                have row : IRow (W10.alloc (.cells #[] 3)) Wq.heap.size (.slice (some ⟨W10.heap.size, 0, none⟩) 0 0) [] := IRow.low (base := W10.heap.size) (Rep.lit_empty W10 3 1 rfl) hle
                replace lit := (lit.below (Later.alloc W10 (.cells #[] 3))).more (Later.alloc W10 (.cells #[] 3)).size
                have hne : ∀ b, (Value.slice (some ⟨W10.heap.size, 0, none⟩) 0 0).ownBlock = some b → b ≠ g7 := fun b hb e => by simp [Value.ownBlock] at hb; omega
                replace T := T.alloc (.cells #[] 3)
                replace hle := Nat.le_trans hle (show W10.heap.size ≤ (W10.alloc (.cells #[] 3)).heap.size by simp)
                replace g7l : g7 < (W10.alloc (.cells #[] 3)).heap.size := Nat.lt_of_lt_of_le g7l (by simp)
                refine ⟨fun _ => T.out.2, ?_⟩
                generalize W10.alloc (.cells #[] 3) = W11 at T hle row lit g7l ⊢
                generalize W10.heap.size = g0 at row hne ⊢
                obtain ⟨v0, hv0⟩ : ∃ v : Value, .slice (some ⟨g0, 0, none⟩) 0 0 = v := ⟨_, rfl⟩
                rw [hv0] at row hne
                try rw [hv0]
                clear hv0
                refine wpAnyL_one (i := 4) (by kernel_rfl) ?_
                refine lexA_get rfl ?_
                try go_frame
                refine wpList_append_any W11 rfl (.tmp 62) (.tmp 65) 74 rfl Wq.heap.size 3 m0 (.int .i64 0) 1 8 Try.underlying74 hi0 hi1 hi2 hi3 rfl (by decide) v0 ([] : List Int).length (iV ([] : List Int)) rfl row Wq.heap.size AP j cc6 (iV (L6.take j)) rfl (P0.out.below T.out.1) (iV_one _) (by simp only [List.length_nil, List.length_append, List.length_take, List.length_singleton, maxLen]; try omega) (by simp only [List.length_nil, List.length_append, List.length_take, List.length_singleton]; try omega) hle ?_
                intro v4 W12 row2 hg hat
                have hb := T.out.1.grown hg hle (fun b hb => (row.lt b hb).1)
                have hlt2 : ∀ b, v4.ownBlock = some b → b < W12.heap.size := fun b hb => (row2.lt b hb).2
                have lit2 : Reads W12 W12.heap.size 1 (some ⟨g7, 0, none⟩) 1 [.int .i64 y.ticket] := lit_keep lit (World.cell?_of_block (a := ⟨g7, 0, none⟩) (hg.block g7 g7l (fun e => hne g7 e.symm rfl))) (Nat.lt_of_lt_of_le g7l hg.size)
                replace lit := lit2
                clear lit2
                replace T : All (fun w' => Below Wq.heap.size Wq w' ∧ w'.cell? ⟨D, 3, none⟩ = some (.int .i64 y.ticket)) W12 := ⟨hb, (hb.cell (p := ⟨D, 3, none⟩) hDl).trans hD3⟩
                replace hle := Nat.le_trans hle hg.size
                have row3 : IRow W12 Wq.heap.size v4 (L6.take j) := by
                  have e1 : (L6.take j).length = ([] : List Int).length + j := by simp only [List.length_nil, List.length_append, List.length_take, List.length_drop, List.length_singleton]; try omega
                  unfold IRow
                  rw [e1]
                  exact row2
                clear row row2 hg hat hb
                have row := row3
                skip
                clear row3 hlt2 hne
                refine ⟨fun _ => T.out.2, ?_⟩
                refine wpAnyL_one (i := 8) (by kernel_rfl) ?_
                refine lexA_get rfl ?_
                try go_frame
                refine wpList_append_any W12 rfl (.tmp 66) (.tmp 69) 74 rfl Wq.heap.size 3 m0 (.int .i64 0) 1 8 Try.underlying74 hi0 hi1 hi2 hi3 rfl (by decide) v4 (L6.take j).length (iV (L6.take j)) rfl row W12.heap.size (some ⟨g7, 0, none⟩) 1 1 [.int .i64 y.ticket] rfl lit (by simp [Value.oneCell']) (by simp only [List.length_nil, List.length_append, List.length_take, List.length_singleton, maxLen]; try omega) (by simp only [List.length_nil, List.length_append, List.length_take, List.length_singleton]; try omega) hle ?_
                intro v8 W13 row2 hg hat
                have hb := T.out.1.grown hg hle (fun b hb => (row.lt b hb).1)
                have hlt2 : ∀ b, v8.ownBlock = some b → b < W13.heap.size := fun b hb => (row2.lt b hb).2
                replace T : All (fun w' => Below Wq.heap.size Wq w' ∧ w'.cell? ⟨D, 3, none⟩ = some (.int .i64 y.ticket)) W13 := ⟨hb, (hb.cell (p := ⟨D, 3, none⟩) hDl).trans hD3⟩
                replace hle := Nat.le_trans hle hg.size
                have row3 : IRow W13 Wq.heap.size v8 (L6.take j ++ [y.ticket]) := by
                  have e1 : (L6.take j ++ [y.ticket]).length = (L6.take j).length + 1 := by simp only [List.length_nil, List.length_append, List.length_take, List.length_drop, List.length_singleton]; try omega
                  unfold IRow
                  rw [e1, iV_app]
                  exact row2
                clear row row2 hg hat hb
                have row := row3
                skip
                clear row3 hlt2 lit g7l
                refine ⟨fun _ => T.out.2, ?_⟩
                refine wpAnyL_one (i := 12) (by kernel_rfl) ?_
                refine lexA_get rfl ?_
                try go_frame
                refine wpList_append_any W13 rfl (.tmp 70) (.tmp 73) 74 rfl Wq.heap.size 3 m0 (.int .i64 0) 1 8 Try.underlying74 hi0 hi1 hi2 hi3 rfl (by decide) v8 (L6.take j ++ [y.ticket]).length (iV (L6.take j ++ [y.ticket])) rfl row Wq.heap.size AS (L6.length - j) (cc6 - j) (iV (L6.drop j)) rfl (P1.out.below T.out.1) (iV_one _) (by simp only [List.length_nil, List.length_append, List.length_take, List.length_singleton, maxLen]; try omega) (by simp only [List.length_nil, List.length_append, List.length_take, List.length_singleton]; try omega) hle ?_
                intro v12 W14 row2 hg hat
                have hb := T.out.1.grown hg hle (fun b hb => (row.lt b hb).1)
                have hlt2 : ∀ b, v12.ownBlock = some b → b < W14.heap.size := fun b hb => (row2.lt b hb).2
                replace T : All (fun w' => Below Wq.heap.size Wq w' ∧ w'.cell? ⟨D, 3, none⟩ = some (.int .i64 y.ticket)) W14 := ⟨hb, (hb.cell (p := ⟨D, 3, none⟩) hDl).trans hD3⟩
                replace hle := Nat.le_trans hle hg.size
                have row3 : IRow W14 Wq.heap.size v12 ((L6.take j ++ [y.ticket]) ++ L6.drop j) := by
                  have e1 : ((L6.take j ++ [y.ticket]) ++ L6.drop j).length = (L6.take j ++ [y.ticket]).length + (L6.length - j) := by simp only [List.length_nil, List.length_append, List.length_take, List.length_drop, List.length_singleton]; try omega
                  unfold IRow
                  rw [e1, iV_app]
                  exact row2
                clear row row2 hg hat hb
                have row := row3
                skip
                clear row3 hlt2 
                refine ⟨fun _ => T.out.2, ?_⟩
                refine wpAnyL_writes [13] (by kernel_rfl) (LexW.cons rfl ?_)
                try go_frame
                go_wp2_with fail
                refine ⟨fun _ => T.out.2, LexW.nil ?_⟩
                have hb2 := T.out.1
                have HQ2 : Hid (WtQ x.as_ db w W14 v5n v12 (k + 1)) := Lib.hid ⟨by rw [(wt_next HY.out HST.out HDB.out HST2.out H5.out H6.out).1]; exact RW5.out.later hb2, by rw [(wt_next HY.out HST.out HDB.out HST2.out H5.out H6.out).2]; exact IRow.low row hwl2⟩
                replace S2 := S2.later hb2
                clear T row hle HWz P0 P1 r0 r1 hb2 RW5
                go_wp2_with fail
                go_roundw
                case rel => exact ⟨k + 1, _, _, by omega, by go_num, rfl, rfl, HQ2, S2⟩
                case measure => simp [intOf]; omega
        · have t2 : (!y.db.toList == db.toList) = true := by
            have hne : ¬ (y.db.toList = db.toList) := fun e => hdb (str_eq (by simp [e]))
            simp [hne]
          have HQ2 : Hid (WtQ x.as_ db w (wr.alloc (.cells #[.int .i64 y.sock, .string y.db, .int .i64 y.st, .int .i64 y.ticket, .int .i64 y.since, .string y.q, .int .i64 y.line, .int .i64 y.lease] 50)) v5 v6 (k + 1)) := Lib.hid (by unfold WtQ; rw [ofDb_no HY.out (.inr hdb)]; exact HW2.out)
          have d0 := var_cell HV.out 0
          have d1 := var_cell HV.out 1
          have d2 := var_cell HV.out 2
          clear hdb HW2
          go_wp2_with fail
          go_roundw
          case rel => exact ⟨k + 1, _, _, by omega, by go_num, rfl, rfl, HQ2, S2⟩
          case measure => simp [intOf]; omega
      · have t1 : (y.st != 2) = true := by simp [hst]
        have HQ2 : Hid (WtQ x.as_ db w (wr.alloc (.cells #[.int .i64 y.sock, .string y.db, .int .i64 y.st, .int .i64 y.ticket, .int .i64 y.since, .string y.q, .int .i64 y.line, .int .i64 y.lease] 50)) v5 v6 (k + 1)) := Lib.hid (by unfold WtQ; rw [ofDb_no HY.out (.inl hst)]; exact HW2.out)
        clear hst HW2
        go_wp2_with fail
        go_roundw
        case rel => exact ⟨k + 1, _, _, by omega, by go_num, rfl, rfl, HQ2, S2⟩
        case measure => simp [intOf]; omega
    · have he : k = x.as_.length := by omega
      subst he
      go_wp2_with fail
      go_ret
      exact ⟨_, rfl, HW.out.1, S.out.1.1⟩

end Go.Proofs.Ytgdhhhibkhfdlaa
