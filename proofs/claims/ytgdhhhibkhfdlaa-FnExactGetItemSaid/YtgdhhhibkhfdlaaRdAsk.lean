/- The program's readers of a client and of a server connection. (By gen_l9e.py.) -/
import Derived.Test.YtgdhhhibkhfdlaaRdI
namespace Go.Proofs.Ytgdhhhibkhfdlaa
open Go.RowKit
set_option linter.unusedVariables false
set_option linter.unusedSimpArgs false

theorem setRow_only (w : World) (g o : Nat) (us : List Value) : Rep.Only w (Rep.setRow w g o us) [g] := Rep.Only.of_grown (Rep.setRow_grown w g o us) (fun a ha => by injection ha with ha; simp [ha])
theorem RdTo.row {w W : World} {g D o : Nat} {l : List UInt8} {us : List Value} (h : RdTo w g l W) (hg : g < w.heap.size) (hD : w.heap.size ≤ D) : RdTo w g l (Rep.setRow W D o us) :=
  ⟨h.at_.only (setRow_only W D o us) (fun a ha => by simp at ha; omega), h.only.then (setRow_only W D o us) (fun a ha => by simp at ha; exact .inr (by omega))⟩

set_option maxRecDepth 100000 in
set_option maxHeartbeats 8000000 in
theorem rdAsker_any (g : Nat) (l0 : List UInt8) (w : World) (h : RdA w g l0) :
    Calls Try.prog 98 #[.pointer (some ⟨g, 0, none⟩)] w fun e w' => e = .returned (.agg (akC (iAk l0).1).toArray) ∧ RdTo w g (iAk l0).2 w' := by
  have hgl := h.lt
  have ha := Later.alloc w (.cells #[.int .i64 0, .string ⟨#[]⟩, .int .i64 0, .int .i64 0, .int .i64 0, .string ⟨#[]⟩, .int .i64 0, .int .i64 0] 50)
  have hv := heap_alloc_new w (.cells #[.int .i64 0, .string ⟨#[]⟩, .int .i64 0, .int .i64 0, .int .i64 0, .string ⟨#[]⟩, .int .i64 0, .int .i64 0] 50)
  have hD : w.heap.size < (w.alloc (.cells #[.int .i64 0, .string ⟨#[]⟩, .int .i64 0, .int .i64 0, .int .i64 0, .string ⟨#[]⟩, .int .i64 0, .int .i64 0] 50)).heap.size := by simp
  have ht : RdTo w g l0 (w.alloc (.cells #[.int .i64 0, .string ⟨#[]⟩, .int .i64 0, .int .i64 0, .int .i64 0, .string ⟨#[]⟩, .int .i64 0, .int .i64 0] 50)) := ⟨h.below ha, (Rep.only_of_below ha).mono (by simp)⟩
  have HV := Lib.hid hv
  have HD := Lib.hid hD
  have HT0 := Lib.hid ht
  clear h ha hv ht hD
  obtain ⟨v1, hv⟩ : ∃ v, (iW l0).1 = v := ⟨_, rfl⟩
  obtain ⟨l1, hl⟩ : ∃ l, (iW l0).2 = l := ⟨_, rfl⟩
  have H1 := Lib.hid (And.intro hv hl)
  clear hv hl
  obtain ⟨v2, hv⟩ : ∃ v, (iB l1).1 = v := ⟨_, rfl⟩
  obtain ⟨l2, hl⟩ : ∃ l, (iB l1).2 = l := ⟨_, rfl⟩
  have H2 := Lib.hid (And.intro hv hl)
  clear hv hl
  obtain ⟨v3, hv⟩ : ∃ v, (iT l2).1 = v := ⟨_, rfl⟩
  obtain ⟨l3, hl⟩ : ∃ l, (iT l2).2 = l := ⟨_, rfl⟩
  have H3 := Lib.hid (And.intro hv hl)
  clear hv hl
  obtain ⟨v4, hv⟩ : ∃ v, (iW l3).1 = v := ⟨_, rfl⟩
  obtain ⟨l4, hl⟩ : ∃ l, (iW l3).2 = l := ⟨_, rfl⟩
  have H4 := Lib.hid (And.intro hv hl)
  clear hv hl
  obtain ⟨v5, hv⟩ : ∃ v, (iM l4).1 = v := ⟨_, rfl⟩
  obtain ⟨l5, hl⟩ : ∃ l, (iM l4).2 = l := ⟨_, rfl⟩
  have H5 := Lib.hid (And.intro hv hl)
  clear hv hl
  obtain ⟨v6, hv⟩ : ∃ v, (iT l5).1 = v := ⟨_, rfl⟩
  obtain ⟨l6, hl⟩ : ∃ l, (iT l5).2 = l := ⟨_, rfl⟩
  have H6 := Lib.hid (And.intro hv hl)
  clear hv hl
  obtain ⟨v7, hv⟩ : ∃ v, (iW l6).1 = v := ⟨_, rfl⟩
  obtain ⟨l7, hl⟩ : ∃ l, (iW l6).2 = l := ⟨_, rfl⟩
  have H7 := Lib.hid (And.intro hv hl)
  clear hv hl
  obtain ⟨v8, hv⟩ : ∃ v, (iW l7).1 = v := ⟨_, rfl⟩
  obtain ⟨l8, hl⟩ : ∃ l, (iW l7).2 = l := ⟨_, rfl⟩
  have H8 := Lib.hid (And.intro hv hl)
  clear hv hl
  have e9 : iAk l0 = (⟨v1, v3, v2, v4, v5, v6, v7, v8⟩, l8) := by unfold iAk; dsimp only; simp only [H1.out.1, H1.out.2, H2.out.1, H2.out.2, H3.out.1, H3.out.2, H4.out.1, H4.out.2, H5.out.1, H5.out.2, H6.out.1, H6.out.2, H7.out.1, H7.out.2, H8.out.1, H8.out.2]
  rw [e9]
  clear e9
  unfold akC
  go_enter Try.func98, Try.ntmps98
  go_wp2_with fail
  generalize w.alloc (.cells #[.int .i64 0, .string ⟨#[]⟩, .int .i64 0, .int .i64 0, .int .i64 0, .string ⟨#[]⟩, .int .i64 0, .int .i64 0] 50) = W0 at HV HD HT0 ⊢
  refine (rdWord_any g l0 W0 HT0.out.at_).mono ?_
  rw [H1.out.1, H1.out.2]
  rintro e W1 ⟨rfl, ht⟩
  have HT1 := Lib.hid (HT0.out.trans ht)
  replace HV : Hid (W1.heap[w.heap.size]? = some (.cells #[.int .i64 0, .string ⟨#[]⟩, .int .i64 0, .int .i64 0, .int .i64 0, .string ⟨#[]⟩, .int .i64 0, .int .i64 0] 50 (0, 0))) := Lib.hid ((ht.only.block _ HD.out (by simp; omega)).trans HV.out)
  replace HD : Hid (w.heap.size < W1.heap.size) := Lib.hid (Nat.lt_of_lt_of_le HD.out ht.only.size)
  clear ht HT0
  go_wp2_with fail
  refine (rdOctet_any g l1 W1 HT1.out.at_).mono ?_
  rw [H2.out.1, H2.out.2]
  rintro e W2 ⟨rfl, ht⟩
  have HT2 := Lib.hid (HT1.out.trans ht)
  replace HV : Hid (W2.heap[w.heap.size]? = some (.cells #[.int .i64 0, .string ⟨#[]⟩, .int .i64 0, .int .i64 0, .int .i64 0, .string ⟨#[]⟩, .int .i64 0, .int .i64 0] 50 (0, 0))) := Lib.hid ((ht.only.block _ HD.out (by simp; omega)).trans HV.out)
  replace HD : Hid (w.heap.size < W2.heap.size) := Lib.hid (Nat.lt_of_lt_of_le HD.out ht.only.size)
  clear ht HT1
  go_wp2_with fail
  refine (rdText_any g l2 W2 HT2.out.at_).mono ?_
  rw [H3.out.1, H3.out.2]
  rintro e W3 ⟨rfl, ht⟩
  have HT3 := Lib.hid (HT2.out.trans ht)
  replace HV : Hid (W3.heap[w.heap.size]? = some (.cells #[.int .i64 0, .string ⟨#[]⟩, .int .i64 0, .int .i64 0, .int .i64 0, .string ⟨#[]⟩, .int .i64 0, .int .i64 0] 50 (0, 0))) := Lib.hid ((ht.only.block _ HD.out (by simp; omega)).trans HV.out)
  replace HD : Hid (w.heap.size < W3.heap.size) := Lib.hid (Nat.lt_of_lt_of_le HD.out ht.only.size)
  clear ht HT2
  go_wp2_with fail
  refine (rdWord_any g l3 W3 HT3.out.at_).mono ?_
  rw [H4.out.1, H4.out.2]
  rintro e W4 ⟨rfl, ht⟩
  have HT4 := Lib.hid (HT3.out.trans ht)
  replace HV : Hid (W4.heap[w.heap.size]? = some (.cells #[.int .i64 0, .string ⟨#[]⟩, .int .i64 0, .int .i64 0, .int .i64 0, .string ⟨#[]⟩, .int .i64 0, .int .i64 0] 50 (0, 0))) := Lib.hid ((ht.only.block _ HD.out (by simp; omega)).trans HV.out)
  replace HD : Hid (w.heap.size < W4.heap.size) := Lib.hid (Nat.lt_of_lt_of_le HD.out ht.only.size)
  clear ht HT3
  go_wp2_with fail
  refine (rdMoment_any g l4 W4 HT4.out.at_).mono ?_
  rw [H5.out.1, H5.out.2]
  rintro e W5 ⟨rfl, ht⟩
  have HT5 := Lib.hid (HT4.out.trans ht)
  replace HV : Hid (W5.heap[w.heap.size]? = some (.cells #[.int .i64 0, .string ⟨#[]⟩, .int .i64 0, .int .i64 0, .int .i64 0, .string ⟨#[]⟩, .int .i64 0, .int .i64 0] 50 (0, 0))) := Lib.hid ((ht.only.block _ HD.out (by simp; omega)).trans HV.out)
  replace HD : Hid (w.heap.size < W5.heap.size) := Lib.hid (Nat.lt_of_lt_of_le HD.out ht.only.size)
  clear ht HT4
  go_wp2_with fail
  refine (rdText_any g l5 W5 HT5.out.at_).mono ?_
  rw [H6.out.1, H6.out.2]
  rintro e W6 ⟨rfl, ht⟩
  have HT6 := Lib.hid (HT5.out.trans ht)
  replace HV : Hid (W6.heap[w.heap.size]? = some (.cells #[.int .i64 0, .string ⟨#[]⟩, .int .i64 0, .int .i64 0, .int .i64 0, .string ⟨#[]⟩, .int .i64 0, .int .i64 0] 50 (0, 0))) := Lib.hid ((ht.only.block _ HD.out (by simp; omega)).trans HV.out)
  replace HD : Hid (w.heap.size < W6.heap.size) := Lib.hid (Nat.lt_of_lt_of_le HD.out ht.only.size)
  clear ht HT5
  go_wp2_with fail
  refine (rdWord_any g l6 W6 HT6.out.at_).mono ?_
  rw [H7.out.1, H7.out.2]
  rintro e W7 ⟨rfl, ht⟩
  have HT7 := Lib.hid (HT6.out.trans ht)
  replace HV : Hid (W7.heap[w.heap.size]? = some (.cells #[.int .i64 0, .string ⟨#[]⟩, .int .i64 0, .int .i64 0, .int .i64 0, .string ⟨#[]⟩, .int .i64 0, .int .i64 0] 50 (0, 0))) := Lib.hid ((ht.only.block _ HD.out (by simp; omega)).trans HV.out)
  replace HD : Hid (w.heap.size < W7.heap.size) := Lib.hid (Nat.lt_of_lt_of_le HD.out ht.only.size)
  clear ht HT6
  go_wp2_with fail
  refine (rdWord_any g l7 W7 HT7.out.at_).mono ?_
  rw [H8.out.1, H8.out.2]
  rintro e W8 ⟨rfl, ht⟩
  have HT8 := Lib.hid (HT7.out.trans ht)
  replace HV : Hid (W8.heap[w.heap.size]? = some (.cells #[.int .i64 0, .string ⟨#[]⟩, .int .i64 0, .int .i64 0, .int .i64 0, .string ⟨#[]⟩, .int .i64 0, .int .i64 0] 50 (0, 0))) := Lib.hid ((ht.only.block _ HD.out (by simp; omega)).trans HV.out)
  replace HD : Hid (w.heap.size < W8.heap.size) := Lib.hid (Nat.lt_of_lt_of_le HD.out ht.only.size)
  clear ht HT7
  have d0 := var_cell HV.out 0
  have f0 := var_frozen HV.out 0
  have d1 := var_cell HV.out 1
  have f1 := var_frozen HV.out 1
  have d2 := var_cell HV.out 2
  have f2 := var_frozen HV.out 2
  have d3 := var_cell HV.out 3
  have f3 := var_frozen HV.out 3
  have d4 := var_cell HV.out 4
  have f4 := var_frozen HV.out 4
  have d5 := var_cell HV.out 5
  have f5 := var_frozen HV.out 5
  have d6 := var_cell HV.out 6
  have f6 := var_frozen HV.out 6
  have d7 := var_cell HV.out 7
  have f7 := var_frozen HV.out 7
  go_wp2_with fail
  clear d0 f0 d1 f1 d2 f2 d3 f3 d4 f4 d5 f5 d6 f6 d7 f7
  have hb := setRow_box 0 [.int .i64 v1, .string v3, .int .i64 v2, .int .i64 v4, .int .i64 v5, .string v6, .int .i64 v7, .int .i64 v8] HV.out
  replace hb : (Rep.setRow W8 w.heap.size 0 [.int .i64 v1, .string v3, .int .i64 v2, .int .i64 v4, .int .i64 v5, .string v6, .int .i64 v7, .int .i64 v8]).heap[w.heap.size]? = some (.cells #[.int .i64 v1, .string v3, .int .i64 v2, .int .i64 v4, .int .i64 v5, .string v6, .int .i64 v7, .int .i64 v8] 50 (0, 0)) := by simpa [putA] using hb
  have hf := HT8.out.row (D := w.heap.size) (o := 0) (us := [.int .i64 v1, .string v3, .int .i64 v2, .int .i64 v4, .int .i64 v5, .string v6, .int .i64 v7, .int .i64 v8]) hgl (Nat.le_refl _)
  change bodyPost _ _ _ _ _ (Rep.setRow W8 w.heap.size 0 [.int .i64 v1, .string v3, .int .i64 v2, .int .i64 v4, .int .i64 v5, .string v6, .int .i64 v7, .int .i64 v8])
  generalize Rep.setRow W8 w.heap.size 0 [.int .i64 v1, .string v3, .int .i64 v2, .int .i64 v4, .int .i64 v5, .string v6, .int .i64 v7, .int .i64 v8] = Wz at hb hf ⊢
  have c0 := var_cell hb 0
  have c1 := var_cell hb 1
  have c2 := var_cell hb 2
  have c3 := var_cell hb 3
  have c4 := var_cell hb 4
  have c5 := var_cell hb 5
  have c6 := var_cell hb 6
  have c7 := var_cell hb 7
  exact bodyPost_ret (v := .agg #[.int .i64 v1, .string v3, .int .i64 v2, .int .i64 v4, .int .i64 v5, .string v6, .int .i64 v7, .int .i64 v8]) (by simp [results, Try.results98, go_sem, c0, c1, c2, c3, c4, c5, c6, c7]) rfl ⟨rfl, hf⟩

set_option maxRecDepth 100000 in
set_option maxHeartbeats 8000000 in
theorem rdLine_any (g : Nat) (l0 : List UInt8) (w : World) (h : RdA w g l0) :
    Calls Try.prog 99 #[.pointer (some ⟨g, 0, none⟩)] w fun e w' => e = .returned (.agg (lnC (iLn l0).1).toArray) ∧ RdTo w g (iLn l0).2 w' := by
  have hgl := h.lt
  have ha := Later.alloc w (.cells #[.int .i64 0, .string ⟨#[]⟩, .int .i64 0, .int .i64 0, .int .i64 0, .int .i64 0, .int .i64 0] 52)
  have hv := heap_alloc_new w (.cells #[.int .i64 0, .string ⟨#[]⟩, .int .i64 0, .int .i64 0, .int .i64 0, .int .i64 0, .int .i64 0] 52)
  have hD : w.heap.size < (w.alloc (.cells #[.int .i64 0, .string ⟨#[]⟩, .int .i64 0, .int .i64 0, .int .i64 0, .int .i64 0, .int .i64 0] 52)).heap.size := by simp
  have ht : RdTo w g l0 (w.alloc (.cells #[.int .i64 0, .string ⟨#[]⟩, .int .i64 0, .int .i64 0, .int .i64 0, .int .i64 0, .int .i64 0] 52)) := ⟨h.below ha, (Rep.only_of_below ha).mono (by simp)⟩
  have HV := Lib.hid hv
  have HD := Lib.hid hD
  have HT0 := Lib.hid ht
  clear h ha hv ht hD
  obtain ⟨v1, hv⟩ : ∃ v, (iW l0).1 = v := ⟨_, rfl⟩
  obtain ⟨l1, hl⟩ : ∃ l, (iW l0).2 = l := ⟨_, rfl⟩
  have H1 := Lib.hid (And.intro hv hl)
  clear hv hl
  obtain ⟨v2, hv⟩ : ∃ v, (iB l1).1 = v := ⟨_, rfl⟩
  obtain ⟨l2, hl⟩ : ∃ l, (iB l1).2 = l := ⟨_, rfl⟩
  have H2 := Lib.hid (And.intro hv hl)
  clear hv hl
  obtain ⟨v3, hv⟩ : ∃ v, (iT l2).1 = v := ⟨_, rfl⟩
  obtain ⟨l3, hl⟩ : ∃ l, (iT l2).2 = l := ⟨_, rfl⟩
  have H3 := Lib.hid (And.intro hv hl)
  clear hv hl
  obtain ⟨v4, hv⟩ : ∃ v, (iW l3).1 = v := ⟨_, rfl⟩
  obtain ⟨l4, hl⟩ : ∃ l, (iW l3).2 = l := ⟨_, rfl⟩
  have H4 := Lib.hid (And.intro hv hl)
  clear hv hl
  obtain ⟨v5, hv⟩ : ∃ v, (iM l4).1 = v := ⟨_, rfl⟩
  obtain ⟨l5, hl⟩ : ∃ l, (iM l4).2 = l := ⟨_, rfl⟩
  have H5 := Lib.hid (And.intro hv hl)
  clear hv hl
  obtain ⟨v6, hv⟩ : ∃ v, (iW l5).1 = v := ⟨_, rfl⟩
  obtain ⟨l6, hl⟩ : ∃ l, (iW l5).2 = l := ⟨_, rfl⟩
  have H6 := Lib.hid (And.intro hv hl)
  clear hv hl
  obtain ⟨v7, hv⟩ : ∃ v, (iW l6).1 = v := ⟨_, rfl⟩
  obtain ⟨l7, hl⟩ : ∃ l, (iW l6).2 = l := ⟨_, rfl⟩
  have H7 := Lib.hid (And.intro hv hl)
  clear hv hl
  have e9 : iLn l0 = (⟨v1, v3, v4, v2, v5, v6, v7⟩, l7) := by unfold iLn; dsimp only; simp only [H1.out.1, H1.out.2, H2.out.1, H2.out.2, H3.out.1, H3.out.2, H4.out.1, H4.out.2, H5.out.1, H5.out.2, H6.out.1, H6.out.2, H7.out.1, H7.out.2]
  rw [e9]
  clear e9
  unfold lnC
  go_enter Try.func99, Try.ntmps99
  go_wp2_with fail
  generalize w.alloc (.cells #[.int .i64 0, .string ⟨#[]⟩, .int .i64 0, .int .i64 0, .int .i64 0, .int .i64 0, .int .i64 0] 52) = W0 at HV HD HT0 ⊢
  refine (rdWord_any g l0 W0 HT0.out.at_).mono ?_
  rw [H1.out.1, H1.out.2]
  rintro e W1 ⟨rfl, ht⟩
  have HT1 := Lib.hid (HT0.out.trans ht)
  replace HV : Hid (W1.heap[w.heap.size]? = some (.cells #[.int .i64 0, .string ⟨#[]⟩, .int .i64 0, .int .i64 0, .int .i64 0, .int .i64 0, .int .i64 0] 52 (0, 0))) := Lib.hid ((ht.only.block _ HD.out (by simp; omega)).trans HV.out)
  replace HD : Hid (w.heap.size < W1.heap.size) := Lib.hid (Nat.lt_of_lt_of_le HD.out ht.only.size)
  clear ht HT0
  go_wp2_with fail
  refine (rdOctet_any g l1 W1 HT1.out.at_).mono ?_
  rw [H2.out.1, H2.out.2]
  rintro e W2 ⟨rfl, ht⟩
  have HT2 := Lib.hid (HT1.out.trans ht)
  replace HV : Hid (W2.heap[w.heap.size]? = some (.cells #[.int .i64 0, .string ⟨#[]⟩, .int .i64 0, .int .i64 0, .int .i64 0, .int .i64 0, .int .i64 0] 52 (0, 0))) := Lib.hid ((ht.only.block _ HD.out (by simp; omega)).trans HV.out)
  replace HD : Hid (w.heap.size < W2.heap.size) := Lib.hid (Nat.lt_of_lt_of_le HD.out ht.only.size)
  clear ht HT1
  go_wp2_with fail
  refine (rdText_any g l2 W2 HT2.out.at_).mono ?_
  rw [H3.out.1, H3.out.2]
  rintro e W3 ⟨rfl, ht⟩
  have HT3 := Lib.hid (HT2.out.trans ht)
  replace HV : Hid (W3.heap[w.heap.size]? = some (.cells #[.int .i64 0, .string ⟨#[]⟩, .int .i64 0, .int .i64 0, .int .i64 0, .int .i64 0, .int .i64 0] 52 (0, 0))) := Lib.hid ((ht.only.block _ HD.out (by simp; omega)).trans HV.out)
  replace HD : Hid (w.heap.size < W3.heap.size) := Lib.hid (Nat.lt_of_lt_of_le HD.out ht.only.size)
  clear ht HT2
  go_wp2_with fail
  refine (rdWord_any g l3 W3 HT3.out.at_).mono ?_
  rw [H4.out.1, H4.out.2]
  rintro e W4 ⟨rfl, ht⟩
  have HT4 := Lib.hid (HT3.out.trans ht)
  replace HV : Hid (W4.heap[w.heap.size]? = some (.cells #[.int .i64 0, .string ⟨#[]⟩, .int .i64 0, .int .i64 0, .int .i64 0, .int .i64 0, .int .i64 0] 52 (0, 0))) := Lib.hid ((ht.only.block _ HD.out (by simp; omega)).trans HV.out)
  replace HD : Hid (w.heap.size < W4.heap.size) := Lib.hid (Nat.lt_of_lt_of_le HD.out ht.only.size)
  clear ht HT3
  go_wp2_with fail
  refine (rdMoment_any g l4 W4 HT4.out.at_).mono ?_
  rw [H5.out.1, H5.out.2]
  rintro e W5 ⟨rfl, ht⟩
  have HT5 := Lib.hid (HT4.out.trans ht)
  replace HV : Hid (W5.heap[w.heap.size]? = some (.cells #[.int .i64 0, .string ⟨#[]⟩, .int .i64 0, .int .i64 0, .int .i64 0, .int .i64 0, .int .i64 0] 52 (0, 0))) := Lib.hid ((ht.only.block _ HD.out (by simp; omega)).trans HV.out)
  replace HD : Hid (w.heap.size < W5.heap.size) := Lib.hid (Nat.lt_of_lt_of_le HD.out ht.only.size)
  clear ht HT4
  go_wp2_with fail
  refine (rdWord_any g l5 W5 HT5.out.at_).mono ?_
  rw [H6.out.1, H6.out.2]
  rintro e W6 ⟨rfl, ht⟩
  have HT6 := Lib.hid (HT5.out.trans ht)
  replace HV : Hid (W6.heap[w.heap.size]? = some (.cells #[.int .i64 0, .string ⟨#[]⟩, .int .i64 0, .int .i64 0, .int .i64 0, .int .i64 0, .int .i64 0] 52 (0, 0))) := Lib.hid ((ht.only.block _ HD.out (by simp; omega)).trans HV.out)
  replace HD : Hid (w.heap.size < W6.heap.size) := Lib.hid (Nat.lt_of_lt_of_le HD.out ht.only.size)
  clear ht HT5
  go_wp2_with fail
  refine (rdWord_any g l6 W6 HT6.out.at_).mono ?_
  rw [H7.out.1, H7.out.2]
  rintro e W7 ⟨rfl, ht⟩
  have HT7 := Lib.hid (HT6.out.trans ht)
  replace HV : Hid (W7.heap[w.heap.size]? = some (.cells #[.int .i64 0, .string ⟨#[]⟩, .int .i64 0, .int .i64 0, .int .i64 0, .int .i64 0, .int .i64 0] 52 (0, 0))) := Lib.hid ((ht.only.block _ HD.out (by simp; omega)).trans HV.out)
  replace HD : Hid (w.heap.size < W7.heap.size) := Lib.hid (Nat.lt_of_lt_of_le HD.out ht.only.size)
  clear ht HT6
  have d0 := var_cell HV.out 0
  have f0 := var_frozen HV.out 0
  have d1 := var_cell HV.out 1
  have f1 := var_frozen HV.out 1
  have d2 := var_cell HV.out 2
  have f2 := var_frozen HV.out 2
  have d3 := var_cell HV.out 3
  have f3 := var_frozen HV.out 3
  have d4 := var_cell HV.out 4
  have f4 := var_frozen HV.out 4
  have d5 := var_cell HV.out 5
  have f5 := var_frozen HV.out 5
  have d6 := var_cell HV.out 6
  have f6 := var_frozen HV.out 6
  go_wp2_with fail
  clear d0 f0 d1 f1 d2 f2 d3 f3 d4 f4 d5 f5 d6 f6
  have hb := setRow_box 0 [.int .i64 v1, .string v3, .int .i64 v4, .int .i64 v2, .int .i64 v5, .int .i64 v6, .int .i64 v7] HV.out
  replace hb : (Rep.setRow W7 w.heap.size 0 [.int .i64 v1, .string v3, .int .i64 v4, .int .i64 v2, .int .i64 v5, .int .i64 v6, .int .i64 v7]).heap[w.heap.size]? = some (.cells #[.int .i64 v1, .string v3, .int .i64 v4, .int .i64 v2, .int .i64 v5, .int .i64 v6, .int .i64 v7] 52 (0, 0)) := by simpa [putA] using hb
  have hf := HT7.out.row (D := w.heap.size) (o := 0) (us := [.int .i64 v1, .string v3, .int .i64 v4, .int .i64 v2, .int .i64 v5, .int .i64 v6, .int .i64 v7]) hgl (Nat.le_refl _)
  change bodyPost _ _ _ _ _ (Rep.setRow W7 w.heap.size 0 [.int .i64 v1, .string v3, .int .i64 v4, .int .i64 v2, .int .i64 v5, .int .i64 v6, .int .i64 v7])
  generalize Rep.setRow W7 w.heap.size 0 [.int .i64 v1, .string v3, .int .i64 v4, .int .i64 v2, .int .i64 v5, .int .i64 v6, .int .i64 v7] = Wz at hb hf ⊢
  have c0 := var_cell hb 0
  have c1 := var_cell hb 1
  have c2 := var_cell hb 2
  have c3 := var_cell hb 3
  have c4 := var_cell hb 4
  have c5 := var_cell hb 5
  have c6 := var_cell hb 6
  exact bodyPost_ret (v := .agg #[.int .i64 v1, .string v3, .int .i64 v4, .int .i64 v2, .int .i64 v5, .int .i64 v6, .int .i64 v7]) (by simp [results, Try.results99, go_sem, c0, c1, c2, c3, c4, c5, c6]) rfl ⟨rfl, hf⟩

end Go.Proofs.Ytgdhhhibkhfdlaa
