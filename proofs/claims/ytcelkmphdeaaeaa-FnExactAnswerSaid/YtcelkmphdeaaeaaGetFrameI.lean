/- GetFrame of the program. -/
import Derived.Test.YtcelkmphdeaaeaaGetFrame
namespace Go.Proofs.Ytcelkmphdeaaeaa
open Go.RowKit
set_option linter.unusedVariables false

def lenF (l : List UInt8) : Int × Int :=
  if l.length = 0 then (0, 1)
  else if gK l < 1 ∨ 6 < gK l then (0, 2)
  else if gK l = 3 then (1, 0)
  else if gK l = 5 then (2, 0)
  else if l.length = 1 then (0, 1)
  else if 100 < gL l then (0, 2)
  else (2 + (gL l : Int), 0)
theorem lenF_nil {l : List UInt8} (h : l.length = 0) : lenF l = (0, 1) := if_pos h
theorem lenF_out {l : List UInt8} (h : l.length ≠ 0) (hk : gK l < 1 ∨ 6 < gK l) : lenF l = (0, 2) := by
  unfold lenF; rw [if_neg h, if_pos hk]
theorem lenF_3 {l : List UInt8} (h : l.length ≠ 0) (hk : gK l = 3) : lenF l = (1, 0) := by
  unfold lenF; rw [if_neg h, if_neg (by omega), if_pos hk]
theorem lenF_5 {l : List UInt8} (h : l.length ≠ 0) (hk : gK l = 5) : lenF l = (2, 0) := by
  unfold lenF; rw [if_neg h, if_neg (by omega), if_neg (by omega), if_pos hk]
theorem lenF_1 {l : List UInt8} (h : l.length = 1) (hk : 1 ≤ gK l ∧ gK l ≤ 6) (h3 : gK l ≠ 3) (h5 : gK l ≠ 5) : lenF l = (0, 1) := by
  unfold lenF; rw [if_neg (by omega), if_neg (by omega), if_neg h3, if_neg h5, if_pos h]
theorem lenF_t {l : List UInt8} (h : 2 ≤ l.length) (hk : 1 ≤ gK l ∧ gK l ≤ 6) (h3 : gK l ≠ 3) (h5 : gK l ≠ 5) : lenF l = if 100 < gL l then (0, 2) else (2 + (gL l : Int), 0) := by
  unfold lenF; rw [if_neg (by omega), if_neg (by omega), if_neg h3, if_neg h5, if_neg (by omega)]
def RetLen (w : World) (p : Int × Int) (e : Ending) (w' : World) : Prop := e = .returned (.tuple #[.int .i64 p.1, .int .i64 p.2]) ∧ Below w.heap.size w w'

set_option maxRecDepth 10000 in
set_option maxHeartbeats 8000000 in
theorem frameLen_any (A : Option Addr) (c : Nat) (l : List UInt8) (w : World) (h : Reads w w.heap.size 1 A l.length (bys l)) (hn : l.length ≤ 100000000) :
    Calls Try.prog 87 #[.slice A l.length c] w (RetLen w (lenF l)) := by
  unfold RetLen
  by_cases h0 : l.length = 0
  · rw [lenF_nil h0]
    have t0 : ((l.length : Int) == 0) = true := beq_iff_eq.2 (by omega)
    clear h0
    go_enter Try.func87, Try.ntmps87
    go_wp2_with fail
    go_ret2
    exact ⟨rfl, Later.refl w⟩
  have t0 : ((l.length : Int) == 0) = false := beq_eq_false_iff_ne.2 (by omega)
  have i0' : (0 : Int) < (l.length : Int) := by omega
  obtain ⟨b, off, rfl, hbw, c0⟩ := h.first h0
  obtain ⟨g0, g1⟩ := gK_byte l
  have hl2 := gL_byte l
  by_cases hk : gK l < 1 ∨ 6 < gK l
  · rw [lenF_out h0 hk]
    have HM := Lib.hid (msg_none ⟨#[]⟩ 0 hk)
    generalize gK l = k at *
    clear hk h
    go_enter Try.func87, Try.ntmps87
    go_wp2_with fail
    refine (messageOf_any ⟨k, ⟨#[]⟩, 0⟩ w).mono ?_
    rw [HM.out.1, HM.out.2]
    rintro e W1 ⟨rfl, hb⟩
    go_wp2_with fail
    go_ret2
    exact ⟨rfl, hb⟩
  have h1 : 1 ≤ gK l ∧ gK l ≤ 6 := by omega
  obtain ⟨q, hq⟩ : ∃ q, lenF l = q := ⟨_, rfl⟩
  rw [hq]
  have HQ := Lib.hid hq
  clear hq
  have hK : gK l = 1 ∨ gK l = 2 ∨ gK l = 3 ∨ gK l = 4 ∨ gK l = 5 ∨ gK l = 6 := by omega
  rcases hK with hK | hK | hK | hK | hK | hK
  · rw [hK] at c0
    have HM := Lib.hid (show msgV ⟨1, ⟨#[]⟩, 0⟩ = .iface 125 (.string ⟨#[]⟩) ∧ isK ⟨1, ⟨#[]⟩, 0⟩ = true from ⟨rfl, rfl⟩)
    have a3 := Try.as_1_3 (.string ⟨#[]⟩)
    have a5 := Try.as_1_5 (.string ⟨#[]⟩)
    by_cases hl1 : l.length = 1
    · obtain rfl : (0, 1) = q := by rw [← HQ.out, lenF_1 hl1 h1 (by omega) (by omega)]
      have t1 : ((l.length : Int) == 1) = true := beq_iff_eq.2 (by omega)
      clear hk h h1 hK HQ h0 hl1
      go_enter Try.func87, Try.ntmps87
      go_wp2_with fail
      refine (messageOf_any ⟨1, ⟨#[]⟩, 0⟩ w).mono ?_
      rw [HM.out.1, HM.out.2]
      rintro e W1 ⟨rfl, hb⟩
      have cc := bcell hb
      clear cc
      go_wp2_with fail
      go_ret2
      exact ⟨rfl, hb⟩
    have hl : 2 ≤ l.length := by omega
    have t1 : ((l.length : Int) == 1) = false := beq_eq_false_iff_ne.2 (by omega)
    have i1 : (1 : Int) < (l.length : Int) := by omega
    have c1 := h.second hl
    have hQ := HQ.out
    rw [lenF_t hl h1 (by omega) (by omega)] at hQ
    by_cases hb1 : 100 < gL l
    · rw [if_pos hb1] at hQ
      subst hQ
      have i2 : (100 : Int) < (gL l : Int) := by omega
      clear h hk h1 hK HQ h0 hl1
      go_enter Try.func87, Try.ntmps87
      go_wp2_with fail
      refine (messageOf_any ⟨1, ⟨#[]⟩, 0⟩ w).mono ?_
      rw [HM.out.1, HM.out.2]
      rintro e W1 ⟨rfl, hb⟩
      have cc := bcell hb
      have c2 := (cc.1 b (off + 1) hbw).trans c1
      clear cc
      go_wp2_with fail
      go_ret2
      exact ⟨rfl, hb⟩
    · rw [if_neg hb1] at hQ
      subst hQ
      have i2 : ¬ (100 : Int) < (gL l : Int) := by omega
      clear h hk h1 hK HQ h0 hl1
      go_enter Try.func87, Try.ntmps87
      go_wp2_with fail
      refine (messageOf_any ⟨1, ⟨#[]⟩, 0⟩ w).mono ?_
      rw [HM.out.1, HM.out.2]
      rintro e W1 ⟨rfl, hb⟩
      have cc := bcell hb
      have c2 := (cc.1 b (off + 1) hbw).trans c1
      clear cc
      go_wp2_with fail
      go_ret2
      exact ⟨rfl, hb⟩
  · rw [hK] at c0
    have HM := Lib.hid (show msgV ⟨2, ⟨#[]⟩, 0⟩ = .iface 126 (.string ⟨#[]⟩) ∧ isK ⟨2, ⟨#[]⟩, 0⟩ = true from ⟨rfl, rfl⟩)
    have a3 := Try.as_2_3 (.string ⟨#[]⟩)
    have a5 := Try.as_2_5 (.string ⟨#[]⟩)
    by_cases hl1 : l.length = 1
    · obtain rfl : (0, 1) = q := by rw [← HQ.out, lenF_1 hl1 h1 (by omega) (by omega)]
      have t1 : ((l.length : Int) == 1) = true := beq_iff_eq.2 (by omega)
      clear hk h h1 hK HQ h0 hl1
      go_enter Try.func87, Try.ntmps87
      go_wp2_with fail
      refine (messageOf_any ⟨2, ⟨#[]⟩, 0⟩ w).mono ?_
      rw [HM.out.1, HM.out.2]
      rintro e W1 ⟨rfl, hb⟩
      have cc := bcell hb
      clear cc
      go_wp2_with fail
      go_ret2
      exact ⟨rfl, hb⟩
    have hl : 2 ≤ l.length := by omega
    have t1 : ((l.length : Int) == 1) = false := beq_eq_false_iff_ne.2 (by omega)
    have i1 : (1 : Int) < (l.length : Int) := by omega
    have c1 := h.second hl
    have hQ := HQ.out
    rw [lenF_t hl h1 (by omega) (by omega)] at hQ
    by_cases hb1 : 100 < gL l
    · rw [if_pos hb1] at hQ
      subst hQ
      have i2 : (100 : Int) < (gL l : Int) := by omega
      clear h hk h1 hK HQ h0 hl1
      go_enter Try.func87, Try.ntmps87
      go_wp2_with fail
      refine (messageOf_any ⟨2, ⟨#[]⟩, 0⟩ w).mono ?_
      rw [HM.out.1, HM.out.2]
      rintro e W1 ⟨rfl, hb⟩
      have cc := bcell hb
      have c2 := (cc.1 b (off + 1) hbw).trans c1
      clear cc
      go_wp2_with fail
      go_ret2
      exact ⟨rfl, hb⟩
    · rw [if_neg hb1] at hQ
      subst hQ
      have i2 : ¬ (100 : Int) < (gL l : Int) := by omega
      clear h hk h1 hK HQ h0 hl1
      go_enter Try.func87, Try.ntmps87
      go_wp2_with fail
      refine (messageOf_any ⟨2, ⟨#[]⟩, 0⟩ w).mono ?_
      rw [HM.out.1, HM.out.2]
      rintro e W1 ⟨rfl, hb⟩
      have cc := bcell hb
      have c2 := (cc.1 b (off + 1) hbw).trans c1
      clear cc
      go_wp2_with fail
      go_ret2
      exact ⟨rfl, hb⟩
  · rw [hK] at c0
    have HM := Lib.hid (show msgV ⟨3, ⟨#[]⟩, 0⟩ = .iface 98 (.agg #[]) ∧ isK ⟨3, ⟨#[]⟩, 0⟩ = true from ⟨rfl, rfl⟩)
    have a3 := Try.as_3_3 (.agg #[])
    have a5 := Try.as_3_5 (.agg #[])
    obtain rfl : (1, 0) = q := by rw [← HQ.out, lenF_3 h0 hK]
    clear hk h h1 hK HQ h0
    go_enter Try.func87, Try.ntmps87
    go_wp2_with fail
    refine (messageOf_any ⟨3, ⟨#[]⟩, 0⟩ w).mono ?_
    rw [HM.out.1, HM.out.2]
    rintro e W1 ⟨rfl, hb⟩
    have cc := bcell hb
    clear cc
    go_wp2_with fail
    go_ret2
    exact ⟨rfl, hb⟩
  · rw [hK] at c0
    have HM := Lib.hid (show msgV ⟨4, ⟨#[]⟩, 0⟩ = .iface 127 (.string ⟨#[]⟩) ∧ isK ⟨4, ⟨#[]⟩, 0⟩ = true from ⟨rfl, rfl⟩)
    have a3 := Try.as_4_3 (.string ⟨#[]⟩)
    have a5 := Try.as_4_5 (.string ⟨#[]⟩)
    by_cases hl1 : l.length = 1
    · obtain rfl : (0, 1) = q := by rw [← HQ.out, lenF_1 hl1 h1 (by omega) (by omega)]
      have t1 : ((l.length : Int) == 1) = true := beq_iff_eq.2 (by omega)
      clear hk h h1 hK HQ h0 hl1
      go_enter Try.func87, Try.ntmps87
      go_wp2_with fail
      refine (messageOf_any ⟨4, ⟨#[]⟩, 0⟩ w).mono ?_
      rw [HM.out.1, HM.out.2]
      rintro e W1 ⟨rfl, hb⟩
      have cc := bcell hb
      clear cc
      go_wp2_with fail
      go_ret2
      exact ⟨rfl, hb⟩
    have hl : 2 ≤ l.length := by omega
    have t1 : ((l.length : Int) == 1) = false := beq_eq_false_iff_ne.2 (by omega)
    have i1 : (1 : Int) < (l.length : Int) := by omega
    have c1 := h.second hl
    have hQ := HQ.out
    rw [lenF_t hl h1 (by omega) (by omega)] at hQ
    by_cases hb1 : 100 < gL l
    · rw [if_pos hb1] at hQ
      subst hQ
      have i2 : (100 : Int) < (gL l : Int) := by omega
      clear h hk h1 hK HQ h0 hl1
      go_enter Try.func87, Try.ntmps87
      go_wp2_with fail
      refine (messageOf_any ⟨4, ⟨#[]⟩, 0⟩ w).mono ?_
      rw [HM.out.1, HM.out.2]
      rintro e W1 ⟨rfl, hb⟩
      have cc := bcell hb
      have c2 := (cc.1 b (off + 1) hbw).trans c1
      clear cc
      go_wp2_with fail
      go_ret2
      exact ⟨rfl, hb⟩
    · rw [if_neg hb1] at hQ
      subst hQ
      have i2 : ¬ (100 : Int) < (gL l : Int) := by omega
      clear h hk h1 hK HQ h0 hl1
      go_enter Try.func87, Try.ntmps87
      go_wp2_with fail
      refine (messageOf_any ⟨4, ⟨#[]⟩, 0⟩ w).mono ?_
      rw [HM.out.1, HM.out.2]
      rintro e W1 ⟨rfl, hb⟩
      have cc := bcell hb
      have c2 := (cc.1 b (off + 1) hbw).trans c1
      clear cc
      go_wp2_with fail
      go_ret2
      exact ⟨rfl, hb⟩
  · rw [hK] at c0
    have HM := Lib.hid (show msgV ⟨5, ⟨#[]⟩, 0⟩ = .iface 99 (.int .i64 0) ∧ isK ⟨5, ⟨#[]⟩, 0⟩ = true from ⟨rfl, rfl⟩)
    have a3 := Try.as_5_3 (.int .i64 0)
    have a5 := Try.as_5_5 (.int .i64 0)
    obtain rfl : (2, 0) = q := by rw [← HQ.out, lenF_5 h0 hK]
    clear hk h h1 hK HQ h0
    go_enter Try.func87, Try.ntmps87
    go_wp2_with fail
    refine (messageOf_any ⟨5, ⟨#[]⟩, 0⟩ w).mono ?_
    rw [HM.out.1, HM.out.2]
    rintro e W1 ⟨rfl, hb⟩
    have cc := bcell hb
    clear cc
    go_wp2_with fail
    go_ret2
    exact ⟨rfl, hb⟩
  · rw [hK] at c0
    have HM := Lib.hid (show msgV ⟨6, ⟨#[]⟩, 0⟩ = .iface 128 (.string ⟨#[]⟩) ∧ isK ⟨6, ⟨#[]⟩, 0⟩ = true from ⟨rfl, rfl⟩)
    have a3 := Try.as_6_3 (.string ⟨#[]⟩)
    have a5 := Try.as_6_5 (.string ⟨#[]⟩)
    by_cases hl1 : l.length = 1
    · obtain rfl : (0, 1) = q := by rw [← HQ.out, lenF_1 hl1 h1 (by omega) (by omega)]
      have t1 : ((l.length : Int) == 1) = true := beq_iff_eq.2 (by omega)
      clear hk h h1 hK HQ h0 hl1
      go_enter Try.func87, Try.ntmps87
      go_wp2_with fail
      refine (messageOf_any ⟨6, ⟨#[]⟩, 0⟩ w).mono ?_
      rw [HM.out.1, HM.out.2]
      rintro e W1 ⟨rfl, hb⟩
      have cc := bcell hb
      clear cc
      go_wp2_with fail
      go_ret2
      exact ⟨rfl, hb⟩
    have hl : 2 ≤ l.length := by omega
    have t1 : ((l.length : Int) == 1) = false := beq_eq_false_iff_ne.2 (by omega)
    have i1 : (1 : Int) < (l.length : Int) := by omega
    have c1 := h.second hl
    have hQ := HQ.out
    rw [lenF_t hl h1 (by omega) (by omega)] at hQ
    by_cases hb1 : 100 < gL l
    · rw [if_pos hb1] at hQ
      subst hQ
      have i2 : (100 : Int) < (gL l : Int) := by omega
      clear h hk h1 hK HQ h0 hl1
      go_enter Try.func87, Try.ntmps87
      go_wp2_with fail
      refine (messageOf_any ⟨6, ⟨#[]⟩, 0⟩ w).mono ?_
      rw [HM.out.1, HM.out.2]
      rintro e W1 ⟨rfl, hb⟩
      have cc := bcell hb
      have c2 := (cc.1 b (off + 1) hbw).trans c1
      clear cc
      go_wp2_with fail
      go_ret2
      exact ⟨rfl, hb⟩
    · rw [if_neg hb1] at hQ
      subst hQ
      have i2 : ¬ (100 : Int) < (gL l : Int) := by omega
      clear h hk h1 hK HQ h0 hl1
      go_enter Try.func87, Try.ntmps87
      go_wp2_with fail
      refine (messageOf_any ⟨6, ⟨#[]⟩, 0⟩ w).mono ?_
      rw [HM.out.1, HM.out.2]
      rintro e W1 ⟨rfl, hb⟩
      have cc := bcell hb
      have c2 := (cc.1 b (off + 1) hbw).trans c1
      clear cc
      go_wp2_with fail
      go_ret2
      exact ⟨rfl, hb⟩

/-- The frame of bytes that are as long as it. -/
def rdF (l : List UInt8) : Fr :=
  if gK l = 5 then ⟨5, ⟨#[]⟩, (gL l : Int)⟩
  else if 1 < l.length then ⟨gK l, ⟨(l.drop 2).toArray⟩, 0⟩
  else ⟨gK l, ⟨#[]⟩, 0⟩
def RetFr (w : World) (f : Fr) (e : Ending) (w' : World) : Prop := e = .returned (.agg (frC f).toArray) ∧ Below w.heap.size w w'

set_option maxRecDepth 10000 in
set_option maxHeartbeats 8000000 in
theorem readFrame_any (A : Option Addr) (c : Nat) (l : List UInt8) (w : World) (h : Reads w w.heap.size 1 A l.length (bys l)) (hn : l.length ≤ 100000000) (hcap : l.length ≤ c) (h0 : l.length ≠ 0) (h5 : gK l = 5 ∨ 1 < l.length → 2 ≤ l.length) :
    Calls Try.prog 88 #[.slice A l.length c] w (RetFr w (rdF l)) := by
  obtain ⟨i0, hi0, hz0, hz1, hz2⟩ := info_parts Try.info8
  unfold RetFr
  have i0' : (0 : Int) < (l.length : Int) := by omega
  obtain ⟨b, off, rfl, hbw, c0⟩ := h.first h0
  obtain ⟨g0, g1⟩ := gK_byte l
  have hl2 := gL_byte l
  obtain ⟨q, hq⟩ : ∃ q, rdF l = q := ⟨_, rfl⟩
  rw [hq]
  have HQ := Lib.hid hq
  clear hq
  by_cases hk5 : gK l = 5
  · obtain rfl : ⟨5, ⟨#[]⟩, (gL l : Int)⟩ = q := by rw [← HQ.out]; unfold rdF; rw [if_pos hk5]
    have hl := h5 (.inl hk5)
    have c1 := h.second hl
    have i1 : (1 : Int) < (l.length : Int) := by omega
    rw [hk5] at c0
    clear hk5 h5 h HQ h0
    generalize gL l = m at *
    go_enter Try.func88, Try.ntmps88
    go_wp2_with fail
    go_returns
    exact ⟨rfl, by go_grown⟩
  have t5 : (gK l == 5) = false := beq_eq_false_iff_ne.2 hk5
  by_cases hl : 1 < l.length
  · obtain rfl : ⟨gK l, ⟨(l.drop 2).toArray⟩, 0⟩ = q := by rw [← HQ.out]; unfold rdF; rw [if_neg hk5, if_pos hl]
    have h2 := h5 (.inr hl)
    have i1 : (1 : Int) < (l.length : Int) := by omega
    obtain ⟨A', hrun, hrd⟩ := slice_readsF Try.underlying22 hi0 hz1 (A := some ⟨b, off, none⟩) (n := l.length) (c := c) (lo := 2) .i64 h2 hcap
    have hrd' := hrd h
    have hsl : ∀ w, (Instr.slice 22 (.slice (some ⟨b, off, none⟩) l.length c) (some (.int .i64 2)) none none).run Try.prog w = .ok (.slice A' (l.length - 2) (c - 2)) w := hrun
    have hsz : (⟨(l.drop 2).toArray⟩ : ByteArray).size ≤ 100000000 := by
      show ((l.drop 2).toArray).size ≤ 100000000
      rw [List.size_toArray, List.length_drop]
      omega
    obtain ⟨x, hx⟩ : ∃ x : ByteArray, ⟨(l.drop 2).toArray⟩ = x := ⟨_, rfl⟩
    have hcv := string_run (P := Try.prog) (src := 22) (dst := 9) Try.underlying22 Try.underlying5 Try.underlying9 (c := c - 2) (hrd'.below (GF.start w ⟨gK l, ⟨#[]⟩, 0⟩).below)
    rw [hx] at hcv hsz ⊢
    replace hcv : (convert 22 9 (.slice A' (l.length - 2) (c - 2))).run Try.prog ((w.alloc (.cells #[.int .i64 0, .string ⟨#[]⟩, .int .i64 0] 33)).alloc (.cells #[.int .i64 (gK l), .string ⟨#[]⟩, .int .i64 0] 33)) = .ok (.string x) ((w.alloc (.cells #[.int .i64 0, .string ⟨#[]⟩, .int .i64 0] 33)).alloc (.cells #[.int .i64 (gK l), .string ⟨#[]⟩, .int .i64 0] 33)) := hcv
    generalize gK l = k at *
    clear hk5 h5 h HQ h0 hrun hrd hrd' hx hl h2
    go_enter Try.func88, Try.ntmps88
    go_wp2_with fail
    go_returns
    exact ⟨rfl, by go_grown⟩
  · obtain rfl : ⟨gK l, ⟨#[]⟩, 0⟩ = q := by rw [← HQ.out]; unfold rdF; rw [if_neg hk5, if_neg hl]
    have i1 : ¬ (1 : Int) < (l.length : Int) := by omega
    generalize gK l = k at *
    clear hk5 h5 h HQ h0 hl
    go_enter Try.func88, Try.ntmps88
    go_wp2_with fail
    go_returns
    exact ⟨rfl, by go_grown⟩

theorem gK_take {l : List UInt8} {n : Nat} (h : 1 ≤ n) : gK (l.take n) = gK l := by
  unfold gK
  simp only [List.getD, List.getElem?_take]
  rw [if_pos (by omega)]
theorem gL_take {l : List UInt8} {n : Nat} (h : 2 ≤ n) : gL (l.take n) = gL l := by
  unfold gL
  simp only [List.getD, List.getElem?_take]
  rw [if_pos (by omega)]
theorem lenF_ways (l : List UInt8) : ((lenF l).2 ≠ 0 ∧ (lenF l).1 = 0 ∧ (lenF l).2 ≤ 2 ∧ 0 ≤ (lenF l).2 ∧ getF l = (⟨0, ⟨#[]⟩, 0⟩, 0, (lenF l).2)) ∨
    (∃ n : Nat, lenF l = ((n : Int), 0) ∧ 1 ≤ n ∧ n ≤ 102 ∧ l.length ≠ 0 ∧ (gK l = 5 ∨ n ≠ 1 → 2 ≤ n) ∧
      (l.length < n → getF l = (⟨0, ⟨#[]⟩, 0⟩, 0, 1)) ∧ (n ≤ l.length → getF l = if frB (rdF (l.take n)) = true then (rdF (l.take n), (n : Int), 0) else (⟨0, ⟨#[]⟩, 0⟩, 0, 2))) := by
  by_cases h0 : l.length = 0
  · rw [lenF_nil h0, getF_nil h0]
    exact .inl ⟨by decide, rfl, by decide, by decide, rfl⟩
  by_cases hk : gK l < 1 ∨ 6 < gK l
  · rw [lenF_out h0 hk, getF_out h0 hk]
    exact .inl ⟨by decide, rfl, by decide, by decide, rfl⟩
  have h1 : 1 ≤ gK l ∧ gK l ≤ 6 := by omega
  by_cases hk3 : gK l = 3
  · refine .inr ⟨1, by rw [lenF_3 h0 hk3]; rfl, by omega, by omega, h0, by omega, fun h => absurd h (by omega), fun h => ?_⟩
    rw [getF_3 h0 hk3]
    have e : rdF (l.take 1) = ⟨3, ⟨#[]⟩, 0⟩ := by
      unfold rdF
      rw [gK_take (Nat.le_refl _), hk3, if_neg (by omega), if_neg (by rw [List.length_take]; omega)]
    rw [e]
    rfl
  by_cases hk5 : gK l = 5
  · refine .inr ⟨2, by rw [lenF_5 h0 hk5]; rfl, by omega, by omega, h0, by omega, fun h => getF_1 (by omega) h1 hk3, fun h => ?_⟩
    rw [getF_5 h hk5]
    have e : rdF (l.take 2) = ⟨5, ⟨#[]⟩, (gL l : Int)⟩ := by
      unfold rdF
      rw [gK_take (by omega), gL_take (Nat.le_refl _), if_pos hk5]
    rw [e, frB_5]
    by_cases hm : gL l ≤ 2
    · rw [if_pos hm, if_pos (by simp [inI]; omega)]
      rfl
    · rw [if_neg hm, if_neg (by simp [inI]; omega)]
      rfl
  by_cases hl1 : l.length = 1
  · rw [lenF_1 hl1 h1 hk3 hk5, getF_1 hl1 h1 hk3]
    exact .inl ⟨by decide, rfl, by decide, by decide, rfl⟩
  have hl : 2 ≤ l.length := by omega
  rw [lenF_t hl h1 hk3 hk5, getF_t hl h1 hk3 hk5]
  by_cases hb : 100 < gL l
  · rw [if_pos hb, if_pos hb]
    exact .inl ⟨by decide, rfl, by decide, by decide, rfl⟩
  rw [if_neg hb, if_neg hb]
  refine .inr ⟨2 + gL l, by rw [Int.natCast_add]; rfl, by omega, by omega, h0, by omega, fun h => by rw [if_pos h]; rfl, fun h => ?_⟩
  rw [if_neg (by omega)]
  have e : rdF (l.take (2 + gL l)) = txF l := by
    unfold rdF txF
    rw [gK_take (by omega), if_neg hk5, if_pos (by rw [List.length_take]; omega), List.drop_take, show 2 + gL l - 2 = gL l by omega]
  rw [e, Int.natCast_add]
  rfl
theorem rdF_size (l : List UInt8) (h : l.length ≤ 102) : (rdF l).s.size ≤ 102 := by
  unfold rdF
  split
  · show 0 ≤ 102; omega
  · split
    · show ((l.drop 2).toArray).size ≤ 102
      rw [List.size_toArray, List.length_drop]
      omega
    · show 0 ≤ 102; omega

/-- The result's box, still zero. -/
structure GZ (w w' : World) : Prop where
  below : Below w.heap.size w w'
  res : w'.heap[w.heap.size]? = some (.cells (frC ⟨0, ⟨#[]⟩, 0⟩).toArray 33 (0, 0))
instance GZ.keeps (w : World) : Keeps (GZ w) := ⟨fun h x => ⟨Later.trans x.below h, Keeps.keeps (F := fun w' => w'.heap[w.heap.size]? = some (.cells (frC ⟨0, ⟨#[]⟩, 0⟩).toArray 33 (0, 0))) h x.res⟩⟩
theorem GZ.start (w : World) : GZ w (w.alloc (.cells #[.int .i64 0, .string ⟨#[]⟩, .int .i64 0] 33)) := ⟨Later.alloc w _, heap_alloc_new w _⟩

set_option maxRecDepth 10000 in
set_option maxHeartbeats 8000000 in
theorem getFrame_any (A : Option Addr) (c : Nat) (l : List UInt8) (w : World) (h : Reads w w.heap.size 1 A l.length (bys l)) (hn : l.length ≤ 100000000) (hcap : l.length ≤ c) :
    Calls Try.prog 38 #[.slice A l.length c] w (RetGetF w (getF l)) := by
  obtain ⟨i0, hi0, hz0, hz1, hz2⟩ := info_parts Try.info8
  unfold RetGetF
  have S : All (GZ w) (w.alloc (.cells #[.int .i64 0, .string ⟨#[]⟩, .int .i64 0] 33)) := ⟨GZ.start w⟩
  have R0 := (h.below S.out.below).more S.out.below.size
  rcases lenF_ways l with ⟨hc, hl1, hc1, hc2, hg⟩ | ⟨n, hq, hn1, hn2, hl0, h5, hshort, hlong⟩
  · obtain ⟨⟨q1, code⟩, hp⟩ : ∃ p, lenF l = p := ⟨_, rfl⟩
    rw [hp] at hc hl1 hc1 hc2 hg
    rw [hg]
    replace hl1 : q1 = 0 := hl1
    replace hc : code ≠ 0 := hc
    have HP := Lib.hid hp
    have tc : (code != 0) = true := by simpa using hc
    subst hl1
    clear hg hp hc hc1 hc2
    go_enter Try.func38, Try.ntmps38
    go_wp2_with fail
    generalize w.alloc (.cells #[.int .i64 0, .string ⟨#[]⟩, .int .i64 0] 33) = W at S R0 ⊢
    refine (frameLen_any A c l W R0 hn).mono ?_
    rw [HP.out]
    rintro e W1 ⟨rfl, hb⟩
    replace S := S.later hb
    obtain ⟨z0, z1, z2⟩ := fr_box S.out.res
    have q0 := var_frozen S.out.res 0
    have q1 := var_frozen S.out.res 1
    have q2 := var_frozen S.out.res 2
    have hfin := S.out.below
    clear hb S
    go_wp2_with fail
    exact bodyPost_ret (v := .tuple #[.agg #[.int .i64 0, .string ⟨#[]⟩, .int .i64 0], .int .i64 0, .int .i64 code]) (by simp [results, Try.results38, go_sem, z0, z1, z2]) rfl ⟨rfl, put3_below hfin _ _ _⟩
  have HQ := Lib.hid hq
  have t0 : ((0 : Int) != 0) = false := rfl
  clear hq
  by_cases hs : l.length < n
  · rw [hshort hs]
    have i1 : (l.length : Int) < (n : Int) := by omega
    clear hshort hlong hs h5
    go_enter Try.func38, Try.ntmps38
    go_wp2_with fail
    generalize w.alloc (.cells #[.int .i64 0, .string ⟨#[]⟩, .int .i64 0] 33) = W at S R0 ⊢
    refine (frameLen_any A c l W R0 hn).mono ?_
    rw [HQ.out]
    rintro e W1 ⟨rfl, hb⟩
    replace S := S.later hb
    obtain ⟨z0, z1, z2⟩ := fr_box S.out.res
    have q0 := var_frozen S.out.res 0
    have q1 := var_frozen S.out.res 1
    have q2 := var_frozen S.out.res 2
    have hfin := S.out.below
    clear hb S
    go_wp2_with fail
    exact bodyPost_ret (v := .tuple #[.agg #[.int .i64 0, .string ⟨#[]⟩, .int .i64 0], .int .i64 0, .int .i64 1]) (by simp [results, Try.results38, go_sem, z0, z1, z2]) rfl ⟨rfl, put3_below hfin _ _ _⟩
  rw [hlong (by omega)]
  have i1 : ¬ (l.length : Int) < (n : Int) := by omega
  obtain ⟨A', hrun, hrd⟩ := slice_reads0 Try.underlying22 hi0 hz1 (A := A) (n := l.length) (c := c) (hi' := n) .i64 (by omega) hcap
  have htl : (l.take n).length = n := by rw [List.length_take]; omega
  have htk : gK (l.take n) = 5 ∨ 1 < (l.take n).length → 2 ≤ (l.take n).length := by
    rw [htl, gK_take hn1]
    intro h
    exact h5 (h.imp id (by omega))
  obtain ⟨m, hm⟩ : ∃ m, l.take n = m := ⟨_, rfl⟩
  rw [hm] at htl htk ⊢
  have R1 := hrd R0
  rw [hm] at R1
  obtain ⟨⟨fk, fs, fst⟩, hf⟩ : ∃ f, rdF m = f := ⟨_, rfl⟩
  have hfs := rdF_size m (by omega)
  rw [hf] at hfs ⊢
  replace hfs : fs.size ≤ 102 := hfs
  have HF := Lib.hid hf
  obtain ⟨r, hr⟩ : ∃ r, frB ⟨fk, fs, fst⟩ = r := ⟨_, rfl⟩
  rw [hr]
  have HR := Lib.hid hr
  have HM := Lib.hid htl
  have HK := Lib.hid htk
  have hsl := hrun
  have R2 : All (fun w' => Reads w' w'.heap.size 1 A' m.length (bys m)) (w.alloc (.cells #[.int .i64 0, .string ⟨#[]⟩, .int .i64 0] 33)) := ⟨by rw [htl]; exact R1⟩
  clear hr hf hrun hrd hm htl htk hshort hlong hs h5 R1
  cases r
  · rw [if_neg (by decide)]
    go_enter Try.func38, Try.ntmps38
    go_wp2_with fail
    generalize w.alloc (.cells #[.int .i64 0, .string ⟨#[]⟩, .int .i64 0] 33) = W at S R0 R2 ⊢
    refine (frameLen_any A c l W R0 hn).mono ?_
    rw [HQ.out]
    rintro e W1 ⟨rfl, hb⟩
    replace S := S.later hb
    replace R2 := R2.later hb
    clear hb
    go_wp2_with fail
    have J := readFrame_any A' c m W1 R2.out (by have := HM.out; omega) (by have := HM.out; omega) (by have := HM.out; omega) HK.out
    rw [HM.out] at J
    refine J.mono ?_
    clear J
    rw [HF.out]
    rintro e W2 ⟨h9, hb⟩
    replace h9 : e = .returned (.agg #[.int .i64 fk, .string fs, .int .i64 fst]) := h9
    subst h9
    replace S := S.later hb
    clear hb
    have S2 : All (fun w' => GZ w w' ∧ Hid (w'.heap[W2.heap.size]? = some (.cells (frC ⟨fk, fs, fst⟩).toArray 33 (0, 0)))) (W2.alloc (.cells (frC ⟨fk, fs, fst⟩).toArray 33)) := ⟨(S.alloc _).out, Lib.hid (heap_alloc_new W2 _)⟩
    clear S
    go_wp2_with fail
    replace S2 : All (fun w' => GZ w w' ∧ Hid (w'.heap[W2.heap.size]? = some (.cells (frC ⟨fk, fs, fst⟩).toArray 33 (0, 0)))) (W2.alloc (.cells #[.int .i64 fk, .string fs, .int .i64 fst] 33)) := S2
    generalize W2.alloc (.cells #[.int .i64 fk, .string fs, .int .i64 fst] 33) = W3 at S2 ⊢
    refine (frameOk_any ⟨fk, fs, fst⟩ W3 (by show fs.size ≤ 1048576; omega)).mono ?_
    rw [HR.out]
    rintro e W4 ⟨rfl, hb⟩
    replace S2 := S2.later hb
    obtain ⟨z0, z1, z2⟩ := fr_box S2.out.1.res
    have q0 := var_frozen S2.out.1.res 0
    have q1 := var_frozen S2.out.1.res 1
    have q2 := var_frozen S2.out.1.res 2
    have hfin := S2.out.1.below
    clear hb S2 R2
    go_wp2_with fail
    exact bodyPost_ret (v := .tuple #[.agg #[.int .i64 0, .string ⟨#[]⟩, .int .i64 0], .int .i64 0, .int .i64 2]) (by simp [results, Try.results38, go_sem, z0, z1, z2]) rfl ⟨rfl, put3_below hfin _ _ _⟩
  · rw [if_pos rfl]
    go_enter Try.func38, Try.ntmps38
    go_wp2_with fail
    generalize w.alloc (.cells #[.int .i64 0, .string ⟨#[]⟩, .int .i64 0] 33) = W at S R0 R2 ⊢
    refine (frameLen_any A c l W R0 hn).mono ?_
    rw [HQ.out]
    rintro e W1 ⟨rfl, hb⟩
    replace S := S.later hb
    replace R2 := R2.later hb
    clear hb
    go_wp2_with fail
    have J := readFrame_any A' c m W1 R2.out (by have := HM.out; omega) (by have := HM.out; omega) (by have := HM.out; omega) HK.out
    rw [HM.out] at J
    refine J.mono ?_
    clear J
    rw [HF.out]
    rintro e W2 ⟨h9, hb⟩
    replace h9 : e = .returned (.agg #[.int .i64 fk, .string fs, .int .i64 fst]) := h9
    subst h9
    replace S := S.later hb
    clear hb
    have S2 : All (fun w' => GZ w w' ∧ Hid (w'.heap[W2.heap.size]? = some (.cells (frC ⟨fk, fs, fst⟩).toArray 33 (0, 0)))) (W2.alloc (.cells (frC ⟨fk, fs, fst⟩).toArray 33)) := ⟨(S.alloc _).out, Lib.hid (heap_alloc_new W2 _)⟩
    clear S
    go_wp2_with fail
    replace S2 : All (fun w' => GZ w w' ∧ Hid (w'.heap[W2.heap.size]? = some (.cells (frC ⟨fk, fs, fst⟩).toArray 33 (0, 0)))) (W2.alloc (.cells #[.int .i64 fk, .string fs, .int .i64 fst] 33)) := S2
    generalize W2.alloc (.cells #[.int .i64 fk, .string fs, .int .i64 fst] 33) = W3 at S2 ⊢
    refine (frameOk_any ⟨fk, fs, fst⟩ W3 (by show fs.size ≤ 1048576; omega)).mono ?_
    rw [HR.out]
    rintro e W4 ⟨rfl, hb⟩
    replace S2 := S2.later hb
    obtain ⟨z0, z1, z2⟩ := fr_box S2.out.1.res
    have q0 := var_frozen S2.out.1.res 0
    have q1 := var_frozen S2.out.1.res 1
    have q2 := var_frozen S2.out.1.res 2
    obtain ⟨d0, d1, d2⟩ := fr_box S2.out.2.out
    have hfin := S2.out.1.below
    clear hb S2 R2
    go_wp2_with fail
    exact bodyPost_ret (v := .tuple #[.agg #[.int .i64 fk, .string fs, .int .i64 fst], .int .i64 (n : Int), .int .i64 0]) (by simp [results, Try.results38, go_sem, z0, z1, z2]) rfl ⟨rfl, put3_below hfin _ _ _⟩

end Go.Proofs.Ytcelkmphdeaaeaa
