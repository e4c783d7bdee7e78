/- ticketsOk of the program. (By gen_l10j.py.) -/
import Derived.Test.YtgdhhhibkhfdlaaWaitI
import Derived.Test.YtgdhhhibkhfdlaaHouseP
namespace Go.Proofs.Ytgdhhhibkhfdlaa
open Go.RowKit HeapP
set_option linter.unusedVariables false
set_option linter.unusedSimpArgs false
set_option maxRecDepth 100000

/-- dn has been gone through: its tickets ascend strictly, up to last, and lie below t. -/
def TkQ (xs : List Ak) (t : Int) (dn : List Nat) (last : Int) : Prop :=
  (∀ r, r ∈ dn → tickA xs r < t ∧ tickA xs r ≤ last) ∧ dn.Pairwise (fun a b => tickA xs a < tickA xs b) ∧ ((dn = [] ∧ last = -1) ∨ ∃ r, r ∈ dn ∧ tickA xs r = last)
theorem TkQ.snoc {xs : List Ak} {t : Int} {dn R : List Nat} {last : Int} {r : Nat} {y : Ak} (h : TkQ xs t dn last) (hs : srtA xs xs.length = dn ++ r :: R) (hy : xs[r]? = some y) (h0 : 0 ≤ y.ticket) (hl : ¬ y.ticket = last) (ht : y.ticket < t) : TkQ xs t (dn ++ [r]) y.ticket := by
  have hS := srtA_srt xs xs.length
  rw [hs] at hS
  have hlt : ∀ q, q ∈ dn → tickA xs q ≤ y.ticket := fun q hq => by
    have := (List.pairwise_append.1 hS).2.2 q hq r (by simp)
    rw [ltA_iff, tickA_of hy] at this
    omega
  have hll : last < y.ticket := by
    rcases h.2.2 with ⟨_, h1⟩ | ⟨q, hq, h1⟩
    · omega
    · have := hlt q hq; omega
  refine ⟨fun q hq => ?_, ?_, .inr ⟨r, by simp, tickA_of hy⟩⟩
  · rcases List.mem_append.1 hq with hq | hq
    · exact ⟨(h.1 q hq).1, hlt q hq⟩
    · simp at hq; subst hq; rw [tickA_of hy]; exact ⟨ht, Int.le_refl _⟩
  · rw [List.pairwise_append]
    refine ⟨h.2.1, by simp, fun a ha b hb => ?_⟩
    simp at hb; subst hb; rw [tickA_of hy]
    have := (h.1 a ha).2; omega
theorem TkQ.bad1 {xs : List Ak} {t : Int} {dn R : List Nat} {last : Int} {r : Nat} {y : Ak} (h : TkQ xs t dn last) (hs : srtA xs xs.length = dn ++ r :: R) (hy : xs[r]? = some y) (h0 : 0 ≤ y.ticket) (hl : y.ticket = last) : ¬ TickP xs t := by
  intro hp
  rcases h.2.2 with ⟨_, h1⟩ | ⟨q, hq, h1⟩
  · omega
  · have hq' : q ∈ srtA xs xs.length := by rw [hs]; simp [hq]
    have hr' : r ∈ srtA xs xs.length := by rw [hs]; simp
    obtain ⟨_, a, ha, has⟩ := (srtA_mem xs _ q).1 hq'
    obtain ⟨_, b, hb, hbs⟩ := (srtA_mem xs _ r).1 hr'
    rw [hy] at hb
    injection hb with hb
    subst hb
    rw [tickA_of ha] at h1
    have hS := srtA_srt xs xs.length
    rw [hs] at hS
    have hne : q ≠ r := fun e => by
      subst e
      have := (List.pairwise_append.1 hS).2.2 q hq q (by simp)
      rw [(ordA xs).irr] at this; cases this
    rcases Nat.lt_or_gt_of_ne hne with h2 | h2
    · exact (hp r y hy hbs).2 q a h2 ha ⟨has, by omega⟩
    · exact (hp q a ha has).2 r y h2 hy ⟨hbs, by omega⟩
theorem TkQ.bad2 {xs : List Ak} {t : Int} {dn R : List Nat} {r : Nat} {y : Ak} (hs : srtA xs xs.length = dn ++ r :: R) (hy : xs[r]? = some y) (ht : t ≤ y.ticket) : ¬ TickP xs t := by
  intro hp
  obtain ⟨_, b, hb, hbs⟩ := (srtA_mem xs _ r).1 (show r ∈ srtA xs xs.length by rw [hs]; simp)
  rw [hy] at hb
  injection hb with hb
  subst hb
  have := (hp r y hy hbs).1
  omega
theorem TkQ.good {xs : List Ak} {t : Int} {dn : List Nat} {last : Int} (h : TkQ xs t dn last) (hs : srtA xs xs.length = dn) : TickP xs t := by
  intro i y hy hst
  have hi : i ∈ dn := by rw [← hs, srtA_mem]; exact ⟨(List.getElem?_eq_some_iff.1 hy).1, y, hy, hst⟩
  refine ⟨by rw [← tickA_of hy]; exact (h.1 i hi).1, fun j z hj hz ⟨hzs, he⟩ => ?_⟩
  have hj' : j ∈ dn := by rw [← hs, srtA_mem]; exact ⟨(List.getElem?_eq_some_iff.1 hz).1, z, hz, hzs⟩
  obtain ⟨a, ha, ea⟩ := List.getElem_of_mem hi
  obtain ⟨b, hb, eb⟩ := List.getElem_of_mem hj'
  have hp := List.pairwise_iff_getElem.1 h.2.1
  rcases Nat.lt_trichotomy a b with hab | hab | hab
  · have := hp a b ha hb hab
    rw [ea, eb, tickA_of hy, tickA_of hz] at this; omega
  · subst hab; omega
  · have := hp b a hb ha hab
    rw [ea, eb, tickA_of hy, tickA_of hz] at this; omega
/-- Where the walk stands. -/
def TkW (w : World) (g : Nat) (A : Option Addr) (c : Nat) (xs : List Ak) (t : Int) (W : World) (last : Int) (D : Nat) (ok : Bool) : Prop :=
  ∃ (dn R : List Nat) (B : Option Addr) (m : Nat), WaS w g A c xs W (.slice none 0 0) [] B R m ∧ D < W.heap.size ∧ TkQ xs t dn last ∧
    ((ok = false ∧ srtA xs xs.length = dn) ∨ (ok = true ∧ ∃ r y, srtA xs xs.length = dn ++ r :: R ∧ xs[r]? = some y ∧ W.heap[D]? = some (.cells #[.int .i64 y.sock, .string y.db, .int .i64 y.st, .int .i64 y.ticket, .int .i64 y.since, .string y.q, .int .i64 y.line, .int .i64 y.lease] 50 (0, 0))))

set_option maxHeartbeats 16000000 in
theorem ticketsOk_any (A : Option Addr) (c : Nat) (xs : List Ak) (t : Int) (w : World) (h : akSR.at_ w w.heap.size [.slice A xs.length c] xs) (hn : xs.length ≤ 1048576) (h0 : ∀ (i : Nat) y, xs[i]? = some y → y.st = 2 → 0 ≤ y.ticket) :
    Calls Try.prog 122 #[.slice A xs.length c, .int .i64 t] w (RetBool w (pB (TickP xs t ∧ (0 ≤ t ∧ t ≤ 65535)))) := by
  have HRW := Lib.hid (akS_rows h).2
  have HT0 := Lib.hid (show ∀ (r : Nat) y, r ∈ srtA xs xs.length → xs[r]? = some y → 0 ≤ y.ticket from fun r y hr hy => by
    obtain ⟨_, b, hb, hbs⟩ := (srtA_mem xs _ r).1 hr
    rw [hy] at hb
    injection hb with hb
    subst hb
    exact h0 r y hy hbs)
  clear h h0
  unfold RetBool
  go_enter Try.func122, Try.ntmps122
  go_wp2_with fail
  refine (arrivalsOf_any A c xs w HRW.out hn).mono ?_
  rintro e W1 ⟨rfl, B, m, hq, _, hb1⟩
  have hg : w.heap.size ≤ w.heap.size := Nat.le_refl _
  have HSS := Lib.hid (show WaS w w.heap.size A c xs W1 (.slice none 0 0) [] B (srtA xs xs.length) m from
    ⟨hb1, HRW.out, World.ownsRow_nil _ _ _ _, hq, fun b hb hm => by simp [Value.ownBlock] at hb, hg⟩)
  clear hq hb1
  obtain ⟨g, hge⟩ : ∃ g, w.heap.size = g := ⟨_, rfl⟩
  obtain ⟨R0, hR0⟩ : ∃ R, srtA xs xs.length = R := ⟨_, rfl⟩
  rw [hR0] at HSS
  have HR0 := Lib.hid hR0
  clear hR0 hge g
  go_wp2_with fail
  refine (next_wa HSS.out).mono ?_
  intro e W hq
  obtain ⟨y, b, B', R', m', rfl, hws, _, hc⟩ := hq
  have HQ : Hid (TkW w w.heap.size A c xs t (W.alloc (.cells #[.int .i64 y.sock, .string y.db, .int .i64 y.st, .int .i64 y.ticket, .int .i64 y.since, .string y.q, .int .i64 y.line, .int .i64 y.lease] 50)) (-1) W.heap.size b) := Lib.hid (by
    refine ⟨[], R', B', m', hws.later (Later.alloc _ _), by simp, ⟨fun r hr => absurd hr (by simp), List.Pairwise.nil, .inl ⟨rfl, rfl⟩⟩, ?_⟩
    rcases hc with ⟨rfl, rfl, rfl, _⟩ | ⟨rfl, r, rfl, hy, _⟩
    · exact .inl ⟨rfl, HR0.out⟩
    · exact .inr ⟨rfl, r, y, by rw [HR0.out]; rfl, hy, heap_alloc_new _ _⟩)
  clear hc hws HSS
  go_wp2_with fail
  generalize W.alloc (.cells #[.int .i64 y.sock, .string y.db, .int .i64 y.st, .int .i64 y.ticket, .int .i64 y.since, .string y.q, .int .i64 y.line, .int .i64 y.lease] 50) = W2 at HQ ⊢
  generalize W.heap.size = D at HQ ⊢
  go_loopw [5, 7, 8] (fun l p ok wr => ∃ (last : Int) (D : Nat) (b : Bool), l = .int .i64 last ∧ p = .pointer (some ⟨D, 0, none⟩) ∧ ok = .bool b ∧ Hid (TkW w w.heap.size A c xs t wr last D b)) (fun _ _ ok wr => msrW w.heap.size wr ok)
  case atStart => exact ⟨-1, D, b, rfl, rfl, rfl, HQ⟩
  case round =>
    clear HQ
    obtain ⟨last, D, b, rfl, rfl, rfl, HQ⟩ := hrel
    cases b
    · obtain ⟨dn, R, B, m, hws, _, htk, ⟨_, hdn⟩ | ⟨hf, _⟩⟩ := HQ.out
      · have HE := Lib.hid hws.below
        have HG := Lib.hid (show pB (TickP xs t ∧ (0 ≤ t ∧ t ≤ 65535)) = inI t 0 65535 from pB_of (by
          unfold inI
          rw [decide_eq_true_eq]
          exact ⟨fun h9 => ⟨htk.good hdn, h9⟩, fun h9 => h9.2⟩))
        clear hws hdn HQ htk
        go_wp2_with fail
        refine (within_b (b := inI t 0 65535) rfl _).mono ?_
        rintro e w1 ⟨rfl, rfl⟩
        go_wp2_with fail
        go_ret
        exact ⟨by rw [HG.out]; exact rfl, HE.out⟩
      · cases hf
    · obtain ⟨dn, R, B, m, hws, hDl, htk, ⟨hf, _⟩ | ⟨_, r, y, hdn, hy, hv⟩⟩ := HQ.out
      · cases hf
      have hm : msrW w.heap.size wr (.bool true) = m + 1 := msr_true hws.hp
      have HM := Lib.hid hm
      have HY := Lib.hid hy
      have HV5 := Lib.hid hv
      have HDN := Lib.hid hdn
      have HS5 := Lib.hid hws
      have HTK := Lib.hid htk
      have HE := Lib.hid hws.below
      have hy0 : 0 ≤ y.ticket := HT0.out r y (by rw [hdn]; simp) hy
      clear hm hy hv hdn hws HQ htk
      have e3 := var_cell HV5.out 3
      by_cases hl : y.ticket = last
      · have t1 : (y.ticket == last) = true := by simp [hl]
        have HG := Lib.hid (pB_no (p := TickP xs t ∧ (0 ≤ t ∧ t ≤ 65535)) (fun h9 => HTK.out.bad1 HDN.out HY.out hy0 hl h9.1))
        clear hl
        go_wp2_with fail
        go_ret
        exact ⟨by rw [HG.out]; exact rfl, HE.out⟩
      have t1 : (y.ticket == last) = false := by simp [hl]
      by_cases ht : t ≤ y.ticket
      · have t2 : decide (t ≤ y.ticket) = true := by simp [ht]
        have HG := Lib.hid (pB_no (p := TickP xs t ∧ (0 ≤ t ∧ t ≤ 65535)) (fun h9 => TkQ.bad2 HDN.out HY.out ht h9.1))
        clear hl ht
        go_wp2_with fail
        go_ret
        exact ⟨by rw [HG.out]; exact rfl, HE.out⟩
      have t2 : decide (t ≤ y.ticket) = false := by simp [ht]
      have HTK5 := Lib.hid (HTK.out.snoc HDN.out HY.out hy0 hl (by omega))
      have HDN5 := Lib.hid (show srtA xs xs.length = (dn ++ [r]) ++ R by rw [HDN.out]; simp)
      clear hl ht HTK HDN e3
      have d0 := var_cell HV5.out 0
      have d1 := var_cell HV5.out 1
      have d2 := var_cell HV5.out 2
      have d3 := var_cell HV5.out 3
      have d4 := var_cell HV5.out 4
      have d5 := var_cell HV5.out 5
      have d6 := var_cell HV5.out 6
      have d7 := var_cell HV5.out 7
      have HS6 := Lib.hid (HS5.out.later (Later.alloc wr (.cells #[.int .i64 y.sock, .string y.db, .int .i64 y.st, .int .i64 y.ticket, .int .i64 y.since, .string y.q, .int .i64 y.line, .int .i64 y.lease] 50)))
      have HV6 := Lib.hid (heap_alloc_new wr (.cells #[.int .i64 y.sock, .string y.db, .int .i64 y.st, .int .i64 y.ticket, .int .i64 y.since, .string y.q, .int .i64 y.line, .int .i64 y.lease] 50))
      have HF6 := Lib.hid HS5.out.hp.fp
      have hD6 : wr.heap.size < (wr.alloc (.cells #[.int .i64 y.sock, .string y.db, .int .i64 y.st, .int .i64 y.ticket, .int .i64 y.since, .string y.q, .int .i64 y.line, .int .i64 y.lease] 50)).heap.size := by simp
      have hw6 : w.heap.size ≤ wr.heap.size := HS5.out.below.size
      clear HS5 HE
      go_wp2_with fail
      clear d0 d1 d2 d3 d4 d5 d6 d7 HV5
      generalize wr.alloc (.cells #[.int .i64 y.sock, .string y.db, .int .i64 y.st, .int .i64 y.ticket, .int .i64 y.since, .string y.q, .int .i64 y.line, .int .i64 y.lease] 50) = W6 at *
      generalize wr.heap.size = D6 at *
      refine (next_wa HS6.out).mono ?_
      intro e W7 hq
      obtain ⟨y7, b7, B7, R7, m7, rfl, hws, hmv, hc⟩ := hq
      have hv7 := (hmv.only.block D6 hD6 (fun hm => by have := (HF6.out _ hm).2; omega)).trans HV6.out
      have hD7 : D6 < W7.heap.size := Nat.lt_of_lt_of_le hD6 hmv.only.size
      have hn7 : D6 ∉ fpB w.heap.size B7 := fun hm => by rcases hmv.from_ _ hm with h | h; have := (HF6.out _ h).2; omega; omega
      have ho7 : Rep.Only W7 (Rep.setRow W7 D6 0 [.int .i64 y7.sock, .string y7.db, .int .i64 y7.st, .int .i64 y7.ticket, .int .i64 y7.since, .string y7.q, .int .i64 y7.line, .int .i64 y7.lease]) [D6] := Rep.Only.of_grown (Rep.setRow_grown W7 D6 0 _) (fun k hk => by injection hk with hk; simp [hk])
      have hws8 := hws.var hn7 hw6 (fun b hb => by simp [Value.ownBlock] at hb) ho7
      have hb8 := setRow_box 0 [.int .i64 y7.sock, .string y7.db, .int .i64 y7.st, .int .i64 y7.ticket, .int .i64 y7.since, .string y7.q, .int .i64 y7.line, .int .i64 y7.lease] hv7
      replace hb8 : (Rep.setRow W7 D6 0 [.int .i64 y7.sock, .string y7.db, .int .i64 y7.st, .int .i64 y7.ticket, .int .i64 y7.since, .string y7.q, .int .i64 y7.line, .int .i64 y7.lease]).heap[D6]? = some (.cells #[.int .i64 y7.sock, .string y7.db, .int .i64 y7.st, .int .i64 y7.ticket, .int .i64 y7.since, .string y7.q, .int .i64 y7.line, .int .i64 y7.lease] 50 (0, 0)) := by simpa [putA] using hb8
      have HQ8 : Hid (TkW w w.heap.size A c xs t (Rep.setRow W7 D6 0 [.int .i64 y7.sock, .string y7.db, .int .i64 y7.st, .int .i64 y7.ticket, .int .i64 y7.since, .string y7.q, .int .i64 y7.line, .int .i64 y7.lease]) y.ticket D6 b7) ∧ msrW w.heap.size (Rep.setRow W7 D6 0 [.int .i64 y7.sock, .string y7.db, .int .i64 y7.st, .int .i64 y7.ticket, .int .i64 y7.since, .string y7.q, .int .i64 y7.line, .int .i64 y7.lease]) (.bool b7) < m + 1 := by
        have hD8 : D6 < (Rep.setRow W7 D6 0 [.int .i64 y7.sock, .string y7.db, .int .i64 y7.st, .int .i64 y7.ticket, .int .i64 y7.since, .string y7.q, .int .i64 y7.line, .int .i64 y7.lease]).heap.size := Nat.lt_of_lt_of_le hD7 ho7.size
        rcases hc with ⟨rfl, hR, hR7, hm7⟩ | ⟨rfl, r7, hR, hy7, hm7⟩
        · exact ⟨Lib.hid ⟨dn ++ [r], R7, B7, m7, hws8, hD8, HTK5.out, .inl ⟨rfl, by rw [HDN5.out, hR, List.append_nil]⟩⟩, by rw [msr_false hws8.hp]; omega⟩
        · exact ⟨Lib.hid ⟨dn ++ [r], R7, B7, m7, hws8, hD8, HTK5.out, .inr ⟨rfl, r7, y7, by rw [HDN5.out, hR], hy7, hb8⟩⟩, by rw [msr_true hws8.hp]; omega⟩
      clear hc hws hmv hn7 ho7 hws8 hb8
      have d0 := var_cell hv7 0
      have f0 := var_frozen hv7 0
      have d1 := var_cell hv7 1
      have f1 := var_frozen hv7 1
      have d2 := var_cell hv7 2
      have f2 := var_frozen hv7 2
      have d3 := var_cell hv7 3
      have f3 := var_frozen hv7 3
      have d4 := var_cell hv7 4
      have f4 := var_frozen hv7 4
      have d5 := var_cell hv7 5
      have f5 := var_frozen hv7 5
      have d6 := var_cell hv7 6
      have f6 := var_frozen hv7 6
      have d7 := var_cell hv7 7
      have f7 := var_frozen hv7 7
      go_wp2_with fail
      clear d0 f0 d1 f1 d2 f2 d3 f3 d4 f4 d5 f5 d6 f6 d7 f7 hv7
      go_roundw
      case rel => exact ⟨_, D6, b7, rfl, rfl, rfl, HQ8.1⟩
      case measure => rw [HM.out]; exact HQ8.2

end Go.Proofs.Ytgdhhhibkhfdlaa
