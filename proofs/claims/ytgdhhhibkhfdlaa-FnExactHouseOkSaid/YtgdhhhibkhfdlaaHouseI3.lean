/- leasesOk, handOk, ownsNothing and ownsOk of the program. (By gen_l10i.py.) -/
import Derived.Test.YtgdhhhibkhfdlaaHouseI2
import Derived.Test.YtgdhhhibkhfdlaaConfOkI
namespace Go.Proofs.Ytgdhhhibkhfdlaa
open Go.RowKit
set_option linter.unusedVariables false
set_option linter.unusedSimpArgs false
set_option maxRecDepth 100000

set_option maxHeartbeats 8000000 in
theorem leasesOk_any (A : Option Addr) (c : Nat) (xs : List Ak) (B : Option Addr) (d : Nat) (ls : List Ln) (w : World) (h : akSR.at_ w w.heap.size [.slice A xs.length c] xs) (h' : lnSR.at_ w w.heap.size [.slice B ls.length d] ls) (hn : xs.length ≤ 1048576) (hm : ls.length ≤ 1048576) :
    Calls Try.prog 176 #[.slice A xs.length c, .slice B ls.length d] w (RetBool w (pB (PairA xs ls ∧ PairL xs ls))) := by
  have S : All (fun w' => (Below w.heap.size w w' ∧ akSR.at_ w' w'.heap.size [.slice A xs.length c] xs) ∧ lnSR.at_ w' w'.heap.size [.slice B ls.length d] ls) w := ⟨⟨Below.refl _ _, h⟩, h'⟩
  clear h h'
  unfold RetBool
  go_enter Try.func176, Try.ntmps176
  go_wp2_with fail
  go_loopw [11] (fun i wr => ∃ k : Nat, k ≤ xs.length ∧ i = .int .i64 k ∧ Hid (∀ (i : Nat) a, i < k → xs[i]? = some a → (a.st = 3 ∨ a.st = 4) → hasLP a ls) ∧ All (fun w' => (Below w.heap.size w w' ∧ akSR.at_ w' w'.heap.size [.slice A xs.length c] xs) ∧ lnSR.at_ w' w'.heap.size [.slice B ls.length d] ls) wr) (fun i _ => xs.length - (intOf i).toNat)
  case atStart => exact ⟨0, by omega, rfl, Lib.hid (fun i y hi => by omega), S⟩
  case round =>
    clear S
    obtain ⟨k, hk, rfl, HU, S⟩ := hrel
    by_cases hlt : k < xs.length
    · obtain ⟨b, off, y, rfl, hbl, hy, e0, e1, e2, e3, e4, e5, e6, e7⟩ := ak_elem (akS_rows S.out.1.2).2 hlt
      have HY := Lib.hid hy
      have S2 := S.alloc (.cells #[.int .i64 y.sock, .string y.db, .int .i64 y.st, .int .i64 y.ticket, .int .i64 y.since, .string y.q, .int .i64 y.line, .int .i64 y.lease] 50)
      have hV := heap_alloc_new wr (.cells #[.int .i64 y.sock, .string y.db, .int .i64 y.st, .int .i64 y.ticket, .int .i64 y.since, .string y.q, .int .i64 y.line, .int .i64 y.lease] 50)
      have HNX : Hid (∀ _ : (y.st = 3 ∨ y.st = 4) → hasLP y ls, ∀ (i : Nat) a, i < k + 1 → xs[i]? = some a → (a.st = 3 ∨ a.st = 4) → hasLP a ls) := Lib.hid (fun hq i z hi hz hs => by
        by_cases e : i = k
        · subst e; rw [HY.out] at hz; injection hz with hz; subst hz; exact hq hs
        · exact HU.out i z (by omega) hz hs)
      clear hy S HU
      go_upto_region 4 with (fail)
      clear e0 e1 e2 e3 e4 e5 e6 e7
      generalize wr.alloc (.cells #[.int .i64 y.sock, .string y.db, .int .i64 y.st, .int .i64 y.ticket, .int .i64 y.since, .string y.q, .int .i64 y.line, .int .i64 y.lease] 50) = W1 at *
      generalize wr.heap.size = D at *
      have v0 := var_cell hV 0
      have v1 := var_cell hV 1
      have v2 := var_cell hV 2
      have v3 := var_cell hV 3
      have v4 := var_cell hV 4
      have v5 := var_cell hV 5
      have v6 := var_cell hV 6
      have v7 := var_cell hV 7
      clear hV
      have hcase : (y.st = 3 ∨ y.st = 4) ∨ ((y.st == 3) = false ∧ (y.st == 4) = false) := by rcases st34 y.st with h | h | h; exact .inl (.inl h); exact .inl (.inr h); exact .inr h
      rcases hcase with hs | ⟨hs3, hs4⟩
      · have HS := Lib.hid hs
        have hL := hasLine_any y B d ls W1 S2.out.2 hm
        obtain ⟨b9, hb9⟩ : ∃ b, pB (hasLP y ls) = b := ⟨_, rfl⟩
        rw [hb9] at hL
        have HB := Lib.hid hb9
        have HL := Lib.hid hL
        clear hb9 hL
        rcases hs with hs | hs
        · have s3 : (y.st == 3) = true := by simp [hs]
          clear hs
          go_wp2_with fail
          clear v0 v1 v2 v3 v4 v5 v6 v7
          refine HL.out.mono ?_
          rintro e W2 ⟨rfl, hb⟩
          replace S2 := S2.later hb
          clear hb HL
          cases b9
          · have HE := Lib.hid (pB_no (p := PairA xs ls ∧ PairL xs ls) (fun h9 => by have h8 := HB.out; rw [pB_yes (h9.1 k y HY.out HS.out)] at h8; cases h8))
            go_wp2_with fail
            go_ret
            exact ⟨by rw [HE.out]; exact rfl, S2.out.1.1⟩
          · have HQ := Lib.hid (HNX.out (fun _ => pB_true HB.out))
            clear HNX
            go_wp2_with fail
            go_roundw
            case rel => exact ⟨k + 1, by omega, by go_num, HQ, S2⟩
            case measure => simp [intOf]; omega
        · have s3 : (y.st == 3) = false := by simp [hs]
          have s4 : (y.st == 4) = true := by simp [hs]
          clear hs
          go_wp2_with fail
          clear v0 v1 v2 v3 v4 v5 v6 v7
          refine HL.out.mono ?_
          rintro e W2 ⟨rfl, hb⟩
          replace S2 := S2.later hb
          clear hb HL
          cases b9
          · have HE := Lib.hid (pB_no (p := PairA xs ls ∧ PairL xs ls) (fun h9 => by have h8 := HB.out; rw [pB_yes (h9.1 k y HY.out HS.out)] at h8; cases h8))
            go_wp2_with fail
            go_ret
            exact ⟨by rw [HE.out]; exact rfl, S2.out.1.1⟩
          · have HQ := Lib.hid (HNX.out (fun _ => pB_true HB.out))
            clear HNX
            go_wp2_with fail
            go_roundw
            case rel => exact ⟨k + 1, by omega, by go_num, HQ, S2⟩
            case measure => simp [intOf]; omega
      · have HQ := Lib.hid (HNX.out (fun hs => by simp at hs3 hs4; omega))
        clear HNX
        go_wp2_with fail
        go_roundw
        case rel => exact ⟨k + 1, by omega, by go_num, HQ, S2⟩
        case measure => simp [intOf]; omega
    · have he : k = xs.length := by omega
      subst he
      have HA := Lib.hid (show PairA xs ls from fun i y hy => HU.out i y (List.getElem?_eq_some_iff.1 hy).1 hy)
      clear HU hlt hk
      obtain ⟨Wm, rfl⟩ : ∃ wo : World, wo = wr := ⟨_, rfl⟩
      go_wp2_with fail
      go_loopw [32] (fun i wr => ∃ k : Nat, k ≤ ls.length ∧ i = .int .i64 k ∧ Hid (∀ (i : Nat) a, i < k → ls[i]? = some a → a.st ≠ 0 → hasAP a xs) ∧ All (fun w' => (Below w.heap.size w w' ∧ akSR.at_ w' w'.heap.size [.slice A xs.length c] xs) ∧ lnSR.at_ w' w'.heap.size [.slice B ls.length d] ls) wr) (fun i _ => ls.length - (intOf i).toNat)
      case atStart => exact ⟨0, by omega, rfl, Lib.hid (fun i y hi => by omega), S⟩
      case round =>
        clear S
        obtain ⟨k, hk, rfl, HU, S⟩ := hrel
        by_cases hlt : k < ls.length
        · obtain ⟨b, off, y, rfl, hbl, hy, e0, e1, e2, e3, e4, e5, e6⟩ := ln_elem (lnS_rows S.out.2).2 hlt
          have HY := Lib.hid hy
          have S2 := S.alloc (.cells #[.int .i64 y.sock, .string y.db, .int .i64 y.gen, .int .i64 y.st, .int .i64 y.since, .int .i64 y.asker, .int .i64 y.lease] 52)
          have hV := heap_alloc_new wr (.cells #[.int .i64 y.sock, .string y.db, .int .i64 y.gen, .int .i64 y.st, .int .i64 y.since, .int .i64 y.asker, .int .i64 y.lease] 52)
          have HNX : Hid (∀ _ : y.st ≠ 0 → hasAP y xs, ∀ (i : Nat) a, i < k + 1 → ls[i]? = some a → a.st ≠ 0 → hasAP a xs) := Lib.hid (fun hq i z hi hz hs => by
            by_cases e : i = k
            · subst e; rw [HY.out] at hz; injection hz with hz; subst hz; exact hq hs
            · exact HU.out i z (by omega) hz hs)
          clear hy S HU
          go_upto_region 10 with (fail)
          clear e0 e1 e2 e3 e4 e5 e6
          generalize wr.alloc (.cells #[.int .i64 y.sock, .string y.db, .int .i64 y.gen, .int .i64 y.st, .int .i64 y.since, .int .i64 y.asker, .int .i64 y.lease] 52) = W1 at *
          generalize wr.heap.size = D at *
          have v0 := var_cell hV 0
          have v1 := var_cell hV 1
          have v2 := var_cell hV 2
          have v3 := var_cell hV 3
          have v4 := var_cell hV 4
          have v5 := var_cell hV 5
          have v6 := var_cell hV 6
          clear hV
          by_cases hs : y.st = 0
          · have s0 : (y.st != 0) = false := by simp [hs]
            have HQ := Lib.hid (HNX.out (fun h => absurd hs h))
            clear hs HNX
            go_wp2_with fail
            go_roundw
            case rel => exact ⟨k + 1, by omega, by go_num, HQ, S2⟩
            case measure => simp [intOf]; omega
          · have s0 : (y.st != 0) = true := by simp [hs]
            have HS := Lib.hid hs
            have hL := hasAsker_any y A c xs W1 S2.out.1.2 hn
            obtain ⟨b9, hb9⟩ : ∃ b, pB (hasAP y xs) = b := ⟨_, rfl⟩
            rw [hb9] at hL
            have HB := Lib.hid hb9
            have HL := Lib.hid hL
            clear hb9 hL hs
            go_wp2_with fail
            clear v0 v1 v2 v3 v4 v5 v6
            refine HL.out.mono ?_
            rintro e W2 ⟨rfl, hb⟩
            replace S2 := S2.later hb
            clear hb HL
            cases b9
            · have HE := Lib.hid (pB_no (p := PairA xs ls ∧ PairL xs ls) (fun h9 => by have h8 := HB.out; rw [pB_yes (h9.2 k y HY.out HS.out)] at h8; cases h8))
              go_wp2_with fail
              go_ret
              exact ⟨by rw [HE.out]; exact rfl, S2.out.1.1⟩
            · have HQ := Lib.hid (HNX.out (fun _ => pB_true HB.out))
              clear HNX
              go_wp2_with fail
              go_roundw
              case rel => exact ⟨k + 1, by omega, by go_num, HQ, S2⟩
              case measure => simp [intOf]; omega
        · have he : k = ls.length := by omega
          subst he
          have HE := Lib.hid (pB_yes (p := PairA xs ls ∧ PairL xs ls) ⟨HA.out, fun i y hy => HU.out i y (List.getElem?_eq_some_iff.1 hy).1 hy⟩)
          go_wp2_with fail
          go_ret
          exact ⟨by rw [HE.out]; exact rfl, S.out.1.1⟩

def handB (h : Hd) (m : Int) : Bool := ((inI h.id 1 60000 && inI h.no 1 20) && inI h.acked 0 m) && inI h.since 0 100000
theorem handB_iff (h : Hd) (m : Int) : handB h m = true ↔ HandP h m := by
  unfold handB HandP inI
  simp only [Bool.and_eq_true, decide_eq_true_eq, and_assoc]
set_option maxHeartbeats 4000000 in
theorem handOk_any (h : Hd) (m : Int) (w : World) : Calls Try.prog 125 #[.agg (hdC h).toArray, .int .i64 m] w (RetBool w (handB h m)) := by
  unfold hdC RetBool handB
  have hb := Later.alloc w (.cells #[.int .i64 h.id, .int .i64 h.no, .int .i64 h.acked, .int .i64 h.since] 68)
  obtain ⟨b0, h0⟩ : ∃ b, inI h.id 1 60000 = b := ⟨_, rfl⟩
  obtain ⟨b1, h1⟩ : ∃ b, inI h.no 1 20 = b := ⟨_, rfl⟩
  obtain ⟨b2, h2⟩ : ∃ b, inI h.acked 0 m = b := ⟨_, rfl⟩
  obtain ⟨b3, h3⟩ : ∃ b, inI h.since 0 100000 = b := ⟨_, rfl⟩
  rw [h0, h1, h2, h3]
  have H0 := Lib.hid h0
  have H1 := Lib.hid h1
  have H2 := Lib.hid h2
  have H3 := Lib.hid h3
  clear h0 h1 h2 h3
  go_enter Try.func125, Try.ntmps125
  go_wp2_with fail
  refine (within_b H0.out _).mono ?_
  rintro e w1 ⟨rfl, rfl⟩
  cases b0
  · go_wp2_with fail
    go_ret
    exact ⟨rfl, hb⟩
  go_wp2_with fail
  refine (within_b H1.out _).mono ?_
  rintro e w1 ⟨rfl, rfl⟩
  cases b1
  · go_wp2_with fail
    go_ret
    exact ⟨rfl, hb⟩
  go_wp2_with fail
  refine (within_b H2.out _).mono ?_
  rintro e w1 ⟨rfl, rfl⟩
  cases b2
  · go_wp2_with fail
    go_ret
    exact ⟨rfl, hb⟩
  go_wp2_with fail
  refine (timeOk_any _ _).mono ?_
  rw [H3.out]
  rintro e w1 ⟨rfl, rfl⟩
  go_wp2_with fail
  go_ret
  exact ⟨rfl, hb⟩

def nothB (x : Ho) : Bool := ((x.epoch == 0) && (x.gen == 0)) && ((x.conf.length : Int) == 0)
theorem nothB_iff (x : Ho) : nothB x = true ↔ NothingP x := by
  unfold nothB NothingP
  simp only [Bool.and_eq_true, beq_iff_eq, and_assoc]
  constructor
  · rintro ⟨h1, h2, h3⟩; exact ⟨h1, h2, by omega⟩
  · rintro ⟨h1, h2, h3⟩; exact ⟨h1, h2, by omega⟩
set_option maxHeartbeats 4000000 in
theorem ownsNothing_any (x : Ho) (A3 : Option Addr) (c3 : Nat) (A5 : Option Addr) (c5 : Nat) (A6 : Option Addr) (c6 : Nat) (w : World) : Calls Try.prog 123 #[.agg #[.int .i64 x.st, .int .i64 x.epoch, .int .i64 x.gen, .slice A3 x.conf.length c3, .bool x.paused, .slice A5 x.as_.length c5, .slice A6 x.ls.length c6, .int .i64 x.ticket, .int .i64 x.h.id, .int .i64 x.h.no, .int .i64 x.h.acked, .int .i64 x.h.since]] w (RetBool w (nothB x)) := by
  unfold RetBool nothB
  have hb := Later.alloc w (.cells #[.int .i64 x.st, .int .i64 x.epoch, .int .i64 x.gen, .slice A3 x.conf.length c3, .bool x.paused, .slice A5 x.as_.length c5, .slice A6 x.ls.length c6, .int .i64 x.ticket, .int .i64 x.h.id, .int .i64 x.h.no, .int .i64 x.h.acked, .int .i64 x.h.since] 70)
  go_enter Try.func123, Try.ntmps123
  cases t1 : (x.epoch == 0) <;> cases t2 : (x.gen == 0)
  all_goals
    go_wp2_with fail
    go_ret
    exact ⟨rfl, hb⟩

end Go.Proofs.Ytgdhhhibkhfdlaa
