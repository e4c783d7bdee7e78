/- Waiters of the program. (By gen_l10e.py.) -/
import Derived.Test.YtgdhhhibkhfdlaaWaS
import Derived.Test.YtgdhhhibkhfdlaaRHouse
import Derived.Test.YtgdhhhibkhfdlaaConfAt
import Derived.Test.YtgdhhhibkhfdlaaHalt
import Derived.Test.YtgdhhhibkhfdlaaPut8
import Derived.Deep.Cut
namespace Go.Proofs.Ytgdhhhibkhfdlaa
open Go.RowKit HeapP
set_option linter.unusedVariables false
set_option linter.unusedSimpArgs false
set_option maxRecDepth 100000

/-- Where the walk stands: dn has been taken over, the client in the variable at D is the next one (ok), R are to come. -/
def WaQ (w : World) (g : Nat) (A : Option Addr) (c : Nat) (xs : List Ak) (db : ByteArray) (W : World) (v5 : Value) (D : Nat) (ok : Bool) : Prop :=
  ∃ (dn R : List Nat) (B : Option Addr) (m : Nat), WaS w g A c xs W v5 ((ofDb xs db dn).map (sockA xs)) B R m ∧ D < W.heap.size ∧ (∀ b, v5.ownBlock = some b → b ≠ D) ∧
    ((ok = false ∧ srtA xs xs.length = dn) ∨ (ok = true ∧ ∃ r y, srtA xs xs.length = dn ++ r :: R ∧ xs[r]? = some y ∧ W.heap[D]? = some (.cells #[.int .i64 y.sock, .string y.db, .int .i64 y.st, .int .i64 y.ticket, .int .i64 y.since, .string y.q, .int .i64 y.line, .int .i64 y.lease] 50 (0, 0))))
theorem ofDb_snoc (xs : List Ak) (db : ByteArray) (dn : List Nat) (r : Nat) {y : Ak} (h : xs[r]? = some y) : (ofDb xs db (dn ++ [r])).map (sockA xs) = (ofDb xs db dn).map (sockA xs) ++ (if y.db = db then [y.sock] else []) := by
  unfold ofDb
  rw [List.filter_append, List.map_append]
  congr 1
  by_cases hd : y.db = db
  · rw [if_pos hd]
    simp [List.filter_cons, dbA_of h, hd, sockA_of h]
  · rw [if_neg hd]
    simp [List.filter_cons, dbA_of h, hd]

/-- The measure of such a walk: how many places the heap holds, and one for the client in the variable. -/
def msrW (g : Nat) (W : World) (ok : Value) : Nat := (match W.cell? ⟨g, 1, none⟩ with | some (.slice _ n _) => n | _ => 0) + (match ok with | .bool true => 1 | _ => 0)
theorem msr_cell {W : World} {g : Nat} {A : Option Addr} {c : Nat} {xs : List Ak} {B : Option Addr} {R : List Nat} {m : Nat} (h : HpQ W g A c xs B R m) : ∃ d, W.cell? ⟨g, 1, none⟩ = some (.slice B m d) := by
  obtain ⟨d, P, h1, h2, h3⟩ := h
  refine ⟨d, ?_⟩
  have := var_cell h1.box 1
  rw [h3] at this
  exact this
theorem msr_true {W : World} {g : Nat} {A : Option Addr} {c : Nat} {xs : List Ak} {B : Option Addr} {R : List Nat} {m : Nat} (h : HpQ W g A c xs B R m) : msrW g W (.bool true) = m + 1 := by
  obtain ⟨d, hc⟩ := msr_cell h
  unfold msrW; rw [hc]
theorem msr_false {W : World} {g : Nat} {A : Option Addr} {c : Nat} {xs : List Ak} {B : Option Addr} {R : List Nat} {m : Nat} (h : HpQ W g A c xs B R m) : msrW g W (.bool false) = m := by
  obtain ⟨d, hc⟩ := msr_cell h
  unfold msrW; rw [hc]; rfl
/-- What the next one leaves. -/
def NxQ (w : World) (g : Nat) (A : Option Addr) (c : Nat) (xs : List Ak) (W : World) (v5 : Value) (l : List Int) (B : Option Addr) (R : List Nat) (m : Nat) (e : Ending) (W' : World) : Prop :=
  ∃ (y : Ak) (b : Bool) (B' : Option Addr) (R' : List Nat) (m' : Nat), e = .returned (.tuple #[.agg #[.int .i64 y.sock, .string y.db, .int .i64 y.st, .int .i64 y.ticket, .int .i64 y.since, .string y.q, .int .i64 y.line, .int .i64 y.lease], .bool b]) ∧ WaS w g A c xs W' v5 l B' R' m' ∧ Mv W W' g B B' ∧
    ((b = false ∧ R = [] ∧ R' = [] ∧ m' = m) ∨ (b = true ∧ ∃ r, R = r :: R' ∧ xs[r]? = some y ∧ m = m' + 1))
theorem next_wa {w : World} {g : Nat} {A : Option Addr} {c : Nat} {xs : List Ak} {W : World} {v5 : Value} {l : List Int} {B : Option Addr} {R : List Nat} {m : Nat} (h : WaS w g A c xs W v5 l B R m) :
    Calls Try.prog 118 #[.pointer (some ⟨g, 0, none⟩)] W (NxQ w g A c xs W v5 l B R m) := by
  cases R with
  | nil => exact (next_none h.hp).mono fun e W' ⟨he, hq, hm⟩ => ⟨akZero, false, B, [], m, he, h.moved hm hq, hm, .inl ⟨rfl, rfl, rfl, rfl⟩⟩
  | cons r R =>
    obtain ⟨n, rfl⟩ := h.hp.pos
    obtain ⟨y, hy⟩ := h.hp.mem
    exact (next_some h.hp hy).mono fun e W' ⟨he, hq, hm⟩ => ⟨y, true, B, R, n, he, h.moved hm hq, hm, .inr ⟨rfl, r, rfl, hy, rfl⟩⟩

set_option maxHeartbeats 16000000 in
theorem waiters_rep (cs : List Value) (x : Ho) (db : ByteArray) (w : World) (h : hoR.at_ w w.heap.size cs x) (hs : FitsHo x) :
    Calls Try.prog 47 #[.agg cs.toArray, .string db] w (RetI w (waitP x.as_ db)) := by
  obtain ⟨A3, c3, A5, c5, A6, c6, rfl, t3, t5, t6⟩ := ho_cells h
  obtain ⟨m0, hi0, hi1, hi2, hi3⟩ := info_parts Try.infoI
  have hn : x.as_.length ≤ 1048576 := hs.2.1.1
  have hrw := (akS_rows t5).2
  have HRW := Lib.hid hrw
  have hb0 : Below w.heap.size w ((w.alloc (.cells #[.int .i64 x.st, .int .i64 x.epoch, .int .i64 x.gen, .slice A3 x.conf.length c3, .bool x.paused, .slice A5 x.as_.length c5, .slice A6 x.ls.length c6, .int .i64 x.ticket, .int .i64 x.h.id, .int .i64 x.h.no, .int .i64 x.h.acked, .int .i64 x.h.since] 70)).alloc (.cells #[] 3)) := Later.trans (Later.alloc w _) (Later.alloc _ _)
  have q5 : ((w.alloc (.cells #[.int .i64 x.st, .int .i64 x.epoch, .int .i64 x.gen, .slice A3 x.conf.length c3, .bool x.paused, .slice A5 x.as_.length c5, .slice A6 x.ls.length c6, .int .i64 x.ticket, .int .i64 x.h.id, .int .i64 x.h.no, .int .i64 x.h.acked, .int .i64 x.h.since] 70)).alloc (.cells #[] 3)).cell? ⟨w.heap.size, 5, none⟩ = some (.slice A5 x.as_.length c5) := var_cell ((Below.heap_alloc _ _ _ (by simp)).trans (heap_alloc_new w (.cells #[.int .i64 x.st, .int .i64 x.epoch, .int .i64 x.gen, .slice A3 x.conf.length c3, .bool x.paused, .slice A5 x.as_.length c5, .slice A6 x.ls.length c6, .int .i64 x.ticket, .int .i64 x.h.id, .int .i64 x.h.no, .int .i64 x.h.acked, .int .i64 x.h.since] 70))) 5
  have hrow : IRow ((w.alloc (.cells #[.int .i64 x.st, .int .i64 x.epoch, .int .i64 x.gen, .slice A3 x.conf.length c3, .bool x.paused, .slice A5 x.as_.length c5, .slice A6 x.ls.length c6, .int .i64 x.ticket, .int .i64 x.h.id, .int .i64 x.h.no, .int .i64 x.h.acked, .int .i64 x.h.since] 70)).alloc (.cells #[] 3)) w.heap.size (.slice (some ⟨w.heap.size + 1, 0, none⟩) 0 0) [] := IRow.low (base := (w.alloc (.cells #[.int .i64 x.st, .int .i64 x.epoch, .int .i64 x.gen, .slice A3 x.conf.length c3, .bool x.paused, .slice A5 x.as_.length c5, .slice A6 x.ls.length c6, .int .i64 x.ticket, .int .i64 x.h.id, .int .i64 x.h.no, .int .i64 x.h.acked, .int .i64 x.h.since] 70)).heap.size) (Rep.lit_empty _ 3 1 (by simp)) (by simp)
  have hz : ((w.alloc (.cells #[.int .i64 x.st, .int .i64 x.epoch, .int .i64 x.gen, .slice A3 x.conf.length c3, .bool x.paused, .slice A5 x.as_.length c5, .slice A6 x.ls.length c6, .int .i64 x.ticket, .int .i64 x.h.id, .int .i64 x.h.no, .int .i64 x.h.acked, .int .i64 x.h.since] 70)).alloc (.cells #[] 3)).heap.size = w.heap.size + 1 + 1 := by simp
  have HZ := Lib.hid hz
  clear h hs t3 t5 t6 hrw hz
  unfold RetI
  go_enter Try.func47, Try.ntmps47
  go_wp2_with fail
  generalize (w.alloc (.cells #[.int .i64 x.st, .int .i64 x.epoch, .int .i64 x.gen, .slice A3 x.conf.length c3, .bool x.paused, .slice A5 x.as_.length c5, .slice A6 x.ls.length c6, .int .i64 x.ticket, .int .i64 x.h.id, .int .i64 x.h.no, .int .i64 x.h.acked, .int .i64 x.h.since] 70)).alloc (.cells #[] 3) = W0 at *
  refine (arrivalsOf_any A5 c5 x.as_ W0 ((HRW.out.keep fun p hp => hb0.cell hp).more hb0.size) hn).mono ?_
  rintro e W1 ⟨rfl, B, m, hq, _, hb1⟩
  have hg : w.heap.size ≤ W0.heap.size := hb0.size
  have SS : WaS w W0.heap.size A5 c5 x.as_ W1 (.slice (some ⟨w.heap.size + 1, 0, none⟩) 0 0) ((ofDb x.as_ db []).map (sockA x.as_)) B (srtA x.as_ x.as_.length) m :=
    ⟨Later.trans hb0 hb1, HRW.out, hrow.later hb1, hq, fun b hb hm => by have h1 := (hq.fp b hm).1; rw [HZ.out] at h1; simp [Value.ownBlock] at hb; omega, hg⟩
  have HSS := Lib.hid SS
  clear hb0 hb1 q5 hrow hq SS
  generalize W0.heap.size = g at *
  obtain ⟨R0, hR0⟩ : ∃ R, srtA x.as_ x.as_.length = R := ⟨_, rfl⟩
  rw [hR0] at HSS
  have HR0 := Lib.hid hR0
  clear hR0
  have HW : ∀ (W : World) (e : Ending), NxQ w g A5 c5 x.as_ W1 (.slice (some ⟨w.heap.size + 1, 0, none⟩) 0 0) ((ofDb x.as_ db []).map (sockA x.as_)) B R0 m e W → ∃ (y : Ak) (b : Bool), e = .returned (.tuple #[.agg #[.int .i64 y.sock, .string y.db, .int .i64 y.st, .int .i64 y.ticket, .int .i64 y.since, .string y.q, .int .i64 y.line, .int .i64 y.lease], .bool b]) ∧
      Hid (WaQ w g A5 c5 x.as_ db (W.alloc (.cells #[.int .i64 y.sock, .string y.db, .int .i64 y.st, .int .i64 y.ticket, .int .i64 y.since, .string y.q, .int .i64 y.line, .int .i64 y.lease] 50)) (.slice (some ⟨w.heap.size + 1, 0, none⟩) 0 0) W.heap.size b) := by
    intro W e hq
    obtain ⟨y, b, B', R', m', rfl, hws, _, hc⟩ := hq
    refine ⟨y, b, rfl, Lib.hid ⟨[], R', B', m', hws.later (Later.alloc _ _), by simp, fun b hb e => by have := (hws.row.lt b hb).2; omega, ?_⟩⟩
    rcases hc with ⟨rfl, rfl, rfl, _⟩ | ⟨rfl, r, rfl, hy, _⟩
    · exact .inl ⟨rfl, HR0.out⟩
    · exact .inr ⟨rfl, r, y, by rw [HR0.out]; rfl, hy, heap_alloc_new _ _⟩
  have HW2 := Lib.hid HW
  clear HW
  go_wp2_with fail
  refine (next_wa HSS.out).mono ?_
  intro e W hq
  obtain ⟨y, b, rfl, HQ⟩ := HW2.out W e hq
  clear hq HW2 HSS
  go_wp2_with fail
  generalize W.alloc (.cells #[.int .i64 y.sock, .string y.db, .int .i64 y.st, .int .i64 y.ticket, .int .i64 y.since, .string y.q, .int .i64 y.line, .int .i64 y.lease] 50) = W2 at HQ ⊢
  generalize W.heap.size = D at HQ ⊢
  go_loopw [5, 7, 8] (fun q5 p ok wr => ∃ (v5 : Value) (D : Nat) (b : Bool), v5 = q5 ∧ p = .pointer (some ⟨D, 0, none⟩) ∧ ok = .bool b ∧ Hid (WaQ w g A5 c5 x.as_ db wr v5 D b)) (fun _ _ ok wr => msrW g wr ok)
  case atStart => exact ⟨_, D, b, rfl, rfl, rfl, HQ⟩
  case round =>
    clear HQ
    obtain ⟨v5, D, b, rfl, rfl, rfl, HQ⟩ := hrel
    cases b
    · obtain ⟨dn, R, B, m, hws, _, _, ⟨_, hdn⟩ | ⟨hf, _⟩⟩ := HQ.out
      · have HE := Lib.hid (And.intro hws.row hws.below)
        have HD := Lib.hid hdn
        clear hws hdn HQ
        go_wp2_with fail
        go_ret
        exact ⟨v5, rfl, by unfold waitP; rw [HD.out]; exact HE.out.1, HE.out.2⟩
      · cases hf
    · obtain ⟨dn, R, B, m, hws, hDl, hvd, ⟨hf, _⟩ | ⟨_, r, y, hdn, hy, hv⟩⟩ := HQ.out
      · cases hf
      have hm : msrW g wr (.bool true) = m + 1 := msr_true hws.hp
      have HM := Lib.hid hm
      have HY := Lib.hid hy
      have HV := Lib.hid hv
      have HDN := Lib.hid hdn
      have HS := Lib.hid hws
      have HVD := Lib.hid hvd
      clear hvd
      clear hm hy hv hdn hws HQ
      have e1 := var_cell HV.out 1
      by_cases hdb : y.db = db
      · have t1 : (y.db.toList == db.toList) = true := by simp [hdb]
        have HLN : ((ofDb x.as_ db dn).map (sockA x.as_)).length ≤ 1048576 := by
          have h1 : dn.length ≤ x.as_.length := by have h2 := srtA_len x.as_ x.as_.length; rw [HDN.out, List.length_append] at h2; omega
          rw [List.length_map]
          exact Nat.le_trans (List.length_filter_le _ _) (by omega)
        have HL5 := Lib.hid (show (ofDb x.as_ db (dn ++ [r])).map (sockA x.as_) = (ofDb x.as_ db dn).map (sockA x.as_) ++ [y.sock] by rw [ofDb_snoc x.as_ db dn r HY.out, if_pos hdb])
        clear hdb
        generalize (ofDb x.as_ db dn).map (sockA x.as_) = L at *
        have e0 := var_cell HV.out 0
        have lit := reads_lit wr #[.int .i64 y.sock] 1 1 3 (g := wr.heap.size) rfl rfl (by simp [maxLen])
        have HS2 := Lib.hid (HS.out.later (Later.alloc wr (.cells #[.int .i64 y.sock] 3)))
        have hv2 : (wr.alloc (.cells #[.int .i64 y.sock] 3)).heap[D]? = _ := ((Later.alloc wr _).block D hDl).trans HV.out
        have HV2 := Lib.hid hv2
        have hD2 : D < (wr.alloc (.cells #[.int .i64 y.sock] 3)).heap.size := Nat.lt_of_lt_of_le hDl (by simp)
        clear hv2
        go_wp2_with (first
          | (at_builtin
             refine wpList_append_any (wr.alloc (.cells #[.int .i64 y.sock] 3)) rfl (.tmp 29) (.tmp 32) 74 rfl w.heap.size 3 m0 (.int .i64 0) 1 8 Try.underlying74 hi0 hi1 hi2 hi3 rfl (by decide) v5 L.length (iV L) rfl HS2.out.row (wr.alloc (.cells #[.int .i64 y.sock] 3)).heap.size (some ⟨wr.heap.size, 0, none⟩) 1 1 [.int .i64 y.sock] rfl lit (by simp [Value.oneCell']) (by simp only [maxLen]; omega) (by omega) HS2.out.below.size ?_
             intro v9 W5 row9 hg9 hat9
             refine Halt.go ?_)
          | fail)
        have HS5 : Hid (WaS w g A5 c5 x.as_ W5 v9 ((ofDb x.as_ db (dn ++ [r])).map (sockA x.as_)) B R m) := Lib.hid (HS2.out.pushed hg9 (by rw [HL5.out]; unfold IRow; rw [List.length_append, iV_app]; exact row9) hat9)
        have HV5 := Lib.hid ((hg9.block D hD2 (fun e => HVD.out D e.symm rfl)).trans HV2.out)
        have HDN5 := Lib.hid (show srtA x.as_ x.as_.length = (dn ++ [r]) ++ R by rw [HDN.out]; simp)
        have hD5 : D < W5.heap.size := Nat.lt_of_lt_of_le hD2 hg9.size
        clear e0 e1 lit HS HS2 HV HV2 HVD row9 hg9 hat9 HL5 HDN t1 hD2 hDl
        refine Halt.mk ?_
        have d0 := var_cell HV5.out 0
        have d1 := var_cell HV5.out 1
        have d2 := var_cell HV5.out 2
        have d3 := var_cell HV5.out 3
        have d4 := var_cell HV5.out 4
        have d5 := var_cell HV5.out 5
        have d6 := var_cell HV5.out 6
        have d7 := var_cell HV5.out 7
        have HS6 := Lib.hid (HS5.out.later (Later.alloc W5 (.cells #[.int .i64 y.sock, .string y.db, .int .i64 y.st, .int .i64 y.ticket, .int .i64 y.since, .string y.q, .int .i64 y.line, .int .i64 y.lease] 50)))
        have HV6 := Lib.hid (heap_alloc_new W5 (.cells #[.int .i64 y.sock, .string y.db, .int .i64 y.st, .int .i64 y.ticket, .int .i64 y.since, .string y.q, .int .i64 y.line, .int .i64 y.lease] 50))
        have HF6 := Lib.hid HS5.out.hp.fp
        have HR6 := Lib.hid (fun b hb => (HS5.out.row.lt b hb).2)
        have hD6 : W5.heap.size < (W5.alloc (.cells #[.int .i64 y.sock, .string y.db, .int .i64 y.st, .int .i64 y.ticket, .int .i64 y.since, .string y.q, .int .i64 y.line, .int .i64 y.lease] 50)).heap.size := by simp
        have hw6 : w.heap.size ≤ W5.heap.size := HS5.out.below.size
        clear HS5
        go_wp2_with fail
        clear d0 d1 d2 d3 d4 d5 d6 d7 HV5
        generalize W5.alloc (.cells #[.int .i64 y.sock, .string y.db, .int .i64 y.st, .int .i64 y.ticket, .int .i64 y.since, .string y.q, .int .i64 y.line, .int .i64 y.lease] 50) = W6 at *
        generalize W5.heap.size = D6 at *
        refine (next_wa HS6.out).mono ?_
        intro e W7 hq
        obtain ⟨y7, b7, B7, R7, m7, rfl, hws, hmv, hc⟩ := hq
        have hv7 := (hmv.only.block D6 hD6 (fun hm => by have := (HF6.out _ hm).2; omega)).trans HV6.out
        have hD7 : D6 < W7.heap.size := Nat.lt_of_lt_of_le hD6 hmv.only.size
        have hn7 : D6 ∉ fpB g B7 := fun hm => by rcases hmv.from_ _ hm with h | h; have := (HF6.out _ h).2; omega; omega
        have ho7 : Rep.Only W7 (Rep.setRow W7 D6 0 [.int .i64 y7.sock, .string y7.db, .int .i64 y7.st, .int .i64 y7.ticket, .int .i64 y7.since, .string y7.q, .int .i64 y7.line, .int .i64 y7.lease]) [D6] := Rep.Only.of_grown (Rep.setRow_grown W7 D6 0 _) (fun k hk => by injection hk with hk; simp [hk])
        have hws8 := hws.var hn7 hw6 (fun b hb => by have := HR6.out b hb; omega) ho7
        have hb8 := setRow_box 0 [.int .i64 y7.sock, .string y7.db, .int .i64 y7.st, .int .i64 y7.ticket, .int .i64 y7.since, .string y7.q, .int .i64 y7.line, .int .i64 y7.lease] hv7
        replace hb8 : (Rep.setRow W7 D6 0 [.int .i64 y7.sock, .string y7.db, .int .i64 y7.st, .int .i64 y7.ticket, .int .i64 y7.since, .string y7.q, .int .i64 y7.line, .int .i64 y7.lease]).heap[D6]? = some (.cells #[.int .i64 y7.sock, .string y7.db, .int .i64 y7.st, .int .i64 y7.ticket, .int .i64 y7.since, .string y7.q, .int .i64 y7.line, .int .i64 y7.lease] 50 (0, 0)) := by simpa [putA] using hb8
        have HQ8 : Hid (WaQ w g A5 c5 x.as_ db (Rep.setRow W7 D6 0 [.int .i64 y7.sock, .string y7.db, .int .i64 y7.st, .int .i64 y7.ticket, .int .i64 y7.since, .string y7.q, .int .i64 y7.line, .int .i64 y7.lease]) v9 D6 b7) ∧ msrW g (Rep.setRow W7 D6 0 [.int .i64 y7.sock, .string y7.db, .int .i64 y7.st, .int .i64 y7.ticket, .int .i64 y7.since, .string y7.q, .int .i64 y7.line, .int .i64 y7.lease]) (.bool b7) < m + 1 := by
          have hD8 : D6 < (Rep.setRow W7 D6 0 [.int .i64 y7.sock, .string y7.db, .int .i64 y7.st, .int .i64 y7.ticket, .int .i64 y7.since, .string y7.q, .int .i64 y7.line, .int .i64 y7.lease]).heap.size := Nat.lt_of_lt_of_le hD7 ho7.size
          have HR7 : ∀ b, (v9 : Value).ownBlock = some b → b ≠ D6 := fun b hb => by have := HR6.out b hb; omega
          rcases hc with ⟨rfl, hR, hR7, hm7⟩ | ⟨rfl, r7, hR, hy7, hm7⟩
          · exact ⟨Lib.hid ⟨(dn ++ [r]), R7, B7, m7, hws8, hD8, HR7, .inl ⟨rfl, by rw [HDN5.out, hR, List.append_nil]⟩⟩, by rw [msr_false hws8.hp]; omega⟩
          · exact ⟨Lib.hid ⟨(dn ++ [r]), R7, B7, m7, hws8, hD8, HR7, .inr ⟨rfl, r7, y7, by rw [HDN5.out, hR], hy7, hb8⟩⟩, by rw [msr_true hws8.hp]; omega⟩
        clear hc hws hmv hn7 ho7 hws8 hb8
        have d0 := var_cell hv7 0
        have f0 := var_frozen hv7 0
        have d1 := var_cell hv7 1
        have f1 := var_frozen hv7 1
        have d2 := var_cell hv7 2
        have f2 := var_frozen hv7 2
        have d3 := var_cell hv7 3
        have f3 := var_frozen hv7 3
        have d4 := var_cell hv7 4
        have f4 := var_frozen hv7 4
        have d5 := var_cell hv7 5
        have f5 := var_frozen hv7 5
        have d6 := var_cell hv7 6
        have f6 := var_frozen hv7 6
        have d7 := var_cell hv7 7
        have f7 := var_frozen hv7 7
        go_wp2_with fail
        clear d0 f0 d1 f1 d2 f2 d3 f3 d4 f4 d5 f5 d6 f6 d7 f7 hv7
        go_roundw
        case rel => exact ⟨v9, D6, b7, rfl, rfl, rfl, HQ8.1⟩
        case measure => rw [HM.out]; exact HQ8.2
      · have t1 : (y.db.toList == db.toList) = false := by
          have hne : ¬ (y.db.toList = db.toList) := fun e => hdb (str_eq (by simp [e]))
          simp [hne]
        have HS5 : Hid (WaS w g A5 c5 x.as_ wr v5 ((ofDb x.as_ db (dn ++ [r])).map (sockA x.as_)) B R m) := Lib.hid (by rw [ofDb_snoc x.as_ db dn r HY.out, if_neg hdb, List.append_nil]; exact HS.out)
        have HV5 := Lib.hid HV.out
        have HDN5 := Lib.hid (show srtA x.as_ x.as_.length = (dn ++ [r]) ++ R by rw [HDN.out]; simp)
        clear hdb HS HV HDN HVD
        have d0 := var_cell HV5.out 0
        have d1 := var_cell HV5.out 1
        have d2 := var_cell HV5.out 2
        have d3 := var_cell HV5.out 3
        have d4 := var_cell HV5.out 4
        have d5 := var_cell HV5.out 5
        have d6 := var_cell HV5.out 6
        have d7 := var_cell HV5.out 7
        have HS6 := Lib.hid (HS5.out.later (Later.alloc wr (.cells #[.int .i64 y.sock, .string y.db, .int .i64 y.st, .int .i64 y.ticket, .int .i64 y.since, .string y.q, .int .i64 y.line, .int .i64 y.lease] 50)))
        have HV6 := Lib.hid (heap_alloc_new wr (.cells #[.int .i64 y.sock, .string y.db, .int .i64 y.st, .int .i64 y.ticket, .int .i64 y.since, .string y.q, .int .i64 y.line, .int .i64 y.lease] 50))
        have HF6 := Lib.hid HS5.out.hp.fp
        have HR6 := Lib.hid (fun b hb => (HS5.out.row.lt b hb).2)
        have hD6 : wr.heap.size < (wr.alloc (.cells #[.int .i64 y.sock, .string y.db, .int .i64 y.st, .int .i64 y.ticket, .int .i64 y.since, .string y.q, .int .i64 y.line, .int .i64 y.lease] 50)).heap.size := by simp
        have hw6 : w.heap.size ≤ wr.heap.size := HS5.out.below.size
        clear HS5
        go_wp2_with fail
        clear d0 d1 d2 d3 d4 d5 d6 d7 HV5
        generalize wr.alloc (.cells #[.int .i64 y.sock, .string y.db, .int .i64 y.st, .int .i64 y.ticket, .int .i64 y.since, .string y.q, .int .i64 y.line, .int .i64 y.lease] 50) = W6 at *
        generalize wr.heap.size = D6 at *
        refine (next_wa HS6.out).mono ?_
        intro e W7 hq
        obtain ⟨y7, b7, B7, R7, m7, rfl, hws, hmv, hc⟩ := hq
        have hv7 := (hmv.only.block D6 hD6 (fun hm => by have := (HF6.out _ hm).2; omega)).trans HV6.out
        have hD7 : D6 < W7.heap.size := Nat.lt_of_lt_of_le hD6 hmv.only.size
        have hn7 : D6 ∉ fpB g B7 := fun hm => by rcases hmv.from_ _ hm with h | h; have := (HF6.out _ h).2; omega; omega
        have ho7 : Rep.Only W7 (Rep.setRow W7 D6 0 [.int .i64 y7.sock, .string y7.db, .int .i64 y7.st, .int .i64 y7.ticket, .int .i64 y7.since, .string y7.q, .int .i64 y7.line, .int .i64 y7.lease]) [D6] := Rep.Only.of_grown (Rep.setRow_grown W7 D6 0 _) (fun k hk => by injection hk with hk; simp [hk])
        have hws8 := hws.var hn7 hw6 (fun b hb => by have := HR6.out b hb; omega) ho7
        have hb8 := setRow_box 0 [.int .i64 y7.sock, .string y7.db, .int .i64 y7.st, .int .i64 y7.ticket, .int .i64 y7.since, .string y7.q, .int .i64 y7.line, .int .i64 y7.lease] hv7
        replace hb8 : (Rep.setRow W7 D6 0 [.int .i64 y7.sock, .string y7.db, .int .i64 y7.st, .int .i64 y7.ticket, .int .i64 y7.since, .string y7.q, .int .i64 y7.line, .int .i64 y7.lease]).heap[D6]? = some (.cells #[.int .i64 y7.sock, .string y7.db, .int .i64 y7.st, .int .i64 y7.ticket, .int .i64 y7.since, .string y7.q, .int .i64 y7.line, .int .i64 y7.lease] 50 (0, 0)) := by simpa [putA] using hb8
        have HQ8 : Hid (WaQ w g A5 c5 x.as_ db (Rep.setRow W7 D6 0 [.int .i64 y7.sock, .string y7.db, .int .i64 y7.st, .int .i64 y7.ticket, .int .i64 y7.since, .string y7.q, .int .i64 y7.line, .int .i64 y7.lease]) v5 D6 b7) ∧ msrW g (Rep.setRow W7 D6 0 [.int .i64 y7.sock, .string y7.db, .int .i64 y7.st, .int .i64 y7.ticket, .int .i64 y7.since, .string y7.q, .int .i64 y7.line, .int .i64 y7.lease]) (.bool b7) < m + 1 := by
          have hD8 : D6 < (Rep.setRow W7 D6 0 [.int .i64 y7.sock, .string y7.db, .int .i64 y7.st, .int .i64 y7.ticket, .int .i64 y7.since, .string y7.q, .int .i64 y7.line, .int .i64 y7.lease]).heap.size := Nat.lt_of_lt_of_le hD7 ho7.size
          have HR7 : ∀ b, (v5 : Value).ownBlock = some b → b ≠ D6 := fun b hb => by have := HR6.out b hb; omega
          rcases hc with ⟨rfl, hR, hR7, hm7⟩ | ⟨rfl, r7, hR, hy7, hm7⟩
          · exact ⟨Lib.hid ⟨(dn ++ [r]), R7, B7, m7, hws8, hD8, HR7, .inl ⟨rfl, by rw [HDN5.out, hR, List.append_nil]⟩⟩, by rw [msr_false hws8.hp]; omega⟩
          · exact ⟨Lib.hid ⟨(dn ++ [r]), R7, B7, m7, hws8, hD8, HR7, .inr ⟨rfl, r7, y7, by rw [HDN5.out, hR], hy7, hb8⟩⟩, by rw [msr_true hws8.hp]; omega⟩
        clear hc hws hmv hn7 ho7 hws8 hb8
        have d0 := var_cell hv7 0
        have f0 := var_frozen hv7 0
        have d1 := var_cell hv7 1
        have f1 := var_frozen hv7 1
        have d2 := var_cell hv7 2
        have f2 := var_frozen hv7 2
        have d3 := var_cell hv7 3
        have f3 := var_frozen hv7 3
        have d4 := var_cell hv7 4
        have f4 := var_frozen hv7 4
        have d5 := var_cell hv7 5
        have f5 := var_frozen hv7 5
        have d6 := var_cell hv7 6
        have f6 := var_frozen hv7 6
        have d7 := var_cell hv7 7
        have f7 := var_frozen hv7 7
        go_wp2_with fail
        clear d0 f0 d1 f1 d2 f2 d3 f3 d4 f4 d5 f5 d6 f6 d7 f7 hv7
        go_roundw
        case rel => exact ⟨v5, D6, b7, rfl, rfl, rfl, HQ8.1⟩
        case measure => rw [HM.out]; exact HQ8.2

end Go.Proofs.Ytgdhhhibkhfdlaa
