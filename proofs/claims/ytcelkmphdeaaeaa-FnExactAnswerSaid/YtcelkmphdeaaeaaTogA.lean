/- Chapter 7: the answer to a query; the walk over queries. -/
import Derived.Test.YtcelkmphdeaaeaaTog
import Derived.Test.YtcelkmphdeaaeaaRet
import Derived.Handy
namespace Go.Proofs.Ytcelkmphdeaaeaa
open Go.RowKit
set_option linter.unusedVariables false

def sAborted : ByteArray := ⟨#[97, 98, 111, 114, 116, 101, 100]⟩
def sFailed : ByteArray := ⟨#[102, 97, 105, 108, 101, 100]⟩
def firstA (st : Int) (q : ByteArray) : Fr :=
  if st = 2 ∧ ¬ (wordQ q = 2 ∨ wordQ q = 3) then ⟨6, sAborted, 0⟩
  else if wordQ q = 4 then ⟨6, sFailed, 0⟩
  else if st = 2 ∧ wordQ q = 2 then ⟨4, qBack, 0⟩
  else ⟨4, q, 0⟩
def answerA (st : Int) (q : ByteArray) : List Fr :=
  if (inI st 0 2 && okB q.data.toList) = true then [firstA st q, ⟨5, ⟨#[]⟩, nextS st (wordQ q)⟩] else []
theorem answerA_yes {st : Int} {q : ByteArray} (h1 : inI st 0 2 = true) (h2 : okB q.data.toList = true) : answerA st q = [firstA st q, ⟨5, ⟨#[]⟩, nextS st (wordQ q)⟩] := by
  unfold answerA; rw [h1, h2]; rfl
theorem answerA_no1 {st : Int} {q : ByteArray} (h1 : inI st 0 2 = false) : answerA st q = [] := by
  unfold answerA; rw [h1]; rfl
theorem answerA_no2 {st : Int} {q : ByteArray} (h2 : okB q.data.toList = false) : answerA st q = [] := by
  unfold answerA; rw [h2, Bool.and_false]; rfl
theorem answerA_len (st : Int) (q : ByteArray) : (answerA st q).length ≤ 2 := by
  unfold answerA; split <;> simp
theorem ends_b {v : Int} {b : Bool} (h : decide (v = 2 ∨ v = 3) = b) (w : World) : Calls Try.prog 90 #[.int .i64 v] w fun e w' => e = .returned (.bool b) ∧ w = w' := by
  subst h; exact ends_any v w
theorem word_cases (q : ByteArray) : wordQ q = 0 ∨ wordQ q = 1 ∨ wordQ q = 2 ∨ wordQ q = 3 ∨ wordQ q = 4 := by
  have := wordQ_in q
  omega

set_option maxRecDepth 100000 in
set_option maxHeartbeats 4000000 in
theorem first_any (st : Int) (q : ByteArray) (w : World) : Calls Try.prog 110 #[.int .i64 st, .string q] w fun e w' => e = .returned (.agg (frC (firstA st q)).toArray) ∧ Below w.heap.size w w' := by
  unfold firstA
  by_cases hs : st = 2
  · subst hs
    rcases word_cases q with hv | hv | hv | hv | hv
    all_goals
      rw [hv]
      have HV := Lib.hid hv
      clear hv
      repeat (first | rw [if_pos (by decide)] | rw [if_neg (by decide)])
      go_enter Try.func110, Try.ntmps110
      go_wp2_with fail
      refine (wordOf_any q _).mono ?_
      rw [HV.out]
      rintro e w1 ⟨rfl, rfl⟩
      go_wp2_with (first | (go_at_call 90; (first | (refine (ends_b (b := true) (by decide) _).mono ?_) | (refine (ends_b (b := false) (by decide) _).mono ?_)); rintro e w' ⟨rfl, rfl⟩) | fail)
      go_returns
      exact ⟨rfl, by go_grown⟩
  · have hb := beq_no hs
    rw [if_neg (fun h => hs h.1)]
    rcases word_cases q with hv | hv | hv | hv | hv
    all_goals
      rw [hv]
      have HV := Lib.hid hv
      have hif : ∀ (p : Prop) [Decidable p] (a b : Fr), (if st = 2 ∧ p then a else b) = b := fun p _ a b => if_neg (fun h => hs h.1)
      rw [hif]
      clear hv hif hs
      repeat (first | rw [if_pos (by decide)] | rw [if_neg (by decide)])
      go_enter Try.func110, Try.ntmps110
      go_wp2_with fail
      refine (wordOf_any q _).mono ?_
      rw [HV.out]
      rintro e w1 ⟨rfl, rfl⟩
      go_wp2_with fail
      go_returns
      exact ⟨rfl, by go_grown⟩

theorem frS_lit (w : World) (base : Nat) (hb : base ≤ w.heap.size) (x y : Fr) : (w.alloc (.cells ((frC x).toArray ++ (frC y).toArray) 33)).ownsRow base 33 3 (.slice (some ⟨w.heap.size, 0, none⟩) 2 2) 2 (flatFr [x, y]) := by
  have h := World.ownsRow_lit (base := base) (e := 33) (size := 3) w ((frC x).toArray ++ (frC y).toArray) 2 hb (by simp [maxLen]) rfl
  exact h

set_option maxRecDepth 100000 in
set_option maxHeartbeats 4000000 in
theorem answerTo_any (st : Int) (q : ByteArray) (w : World) (hq : q.size ≤ 1048576) : Calls Try.prog 108 #[.int .i64 st, .string q] w (RetFrS w (answerA st q)) := by
  obtain ⟨b1, h1⟩ : ∃ b, inI st 0 2 = b := ⟨_, rfl⟩
  have H1 := Lib.hid h1
  obtain ⟨b2, h2⟩ : ∃ b, okB q.data.toList = b := ⟨_, rfl⟩
  have H2 := Lib.hid h2
  cases b1
  · rw [answerA_no1 h1]
    clear h1 h2
    go_enter Try.func108, Try.ntmps108
    go_wp2_with fail
    refine (within_b H1.out _).mono ?_
    rintro e w1 ⟨rfl, rfl⟩
    go_wp2_with fail
    go_ret
    exact ⟨_, _, rfl, World.ownsRow_lit w #[] 0 (Nat.le_refl _) (by simp [maxLen]) rfl, Later.alloc w _⟩
  · cases b2
    · rw [answerA_no2 h2]
      clear h1 h2
      go_enter Try.func108, Try.ntmps108
      go_wp2_with fail
      refine (within_b H1.out _).mono ?_
      rintro e w1 ⟨rfl, rfl⟩
      go_wp2_with fail
      refine (textOk_any q _ (by omega)).mono ?_
      rw [H2.out]
      rintro e w1 ⟨rfl, rfl⟩
      go_wp2_with fail
      go_ret
      exact ⟨_, _, rfl, World.ownsRow_lit w #[] 0 (Nat.le_refl _) (by simp [maxLen]) rfl, Later.alloc w _⟩
    · rw [answerA_yes h1 h2]
      clear h1 h2
      obtain ⟨⟨fk, fs, fst⟩, hf⟩ : ∃ f, firstA st q = f := ⟨_, rfl⟩
      obtain ⟨v, hv⟩ : ∃ v, wordQ q = v := ⟨_, rfl⟩
      obtain ⟨n, hn⟩ : ∃ n, nextS st v = n := ⟨_, rfl⟩
      rw [hf, hv, hn]
      have HF := Lib.hid hf
      have HV := Lib.hid hv
      have HN := Lib.hid hn
      clear hf hv hn
      go_enter Try.func108, Try.ntmps108
      go_wp2_with fail
      refine (within_b H1.out _).mono ?_
      rintro e w1 ⟨rfl, rfl⟩
      go_wp2_with fail
      refine (textOk_any q _ (by omega)).mono ?_
      rw [H2.out]
      rintro e w1 ⟨rfl, rfl⟩
      go_wp2_with fail
      refine (first_any st q _).mono ?_
      rw [HF.out]
      rintro e w1 ⟨h9, hb⟩
      replace h9 : e = .returned (.agg #[.int .i64 fk, .string fs, .int .i64 fst]) := h9
      subst h9
      have HB := Lib.hid hb
      clear hb
      go_wp2_with fail
      refine (wordOf_any q _).mono ?_
      rw [HV.out]
      rintro e w2 ⟨rfl, rfl⟩
      go_wp2_with fail
      refine (nextSt_any st v _).mono ?_
      rw [HN.out]
      rintro e w2 ⟨rfl, rfl⟩
      go_wp2_with fail
      go_ret
      exact ⟨_, _, rfl, frS_lit w1 w.heap.size HB.out.size ⟨fk, fs, fst⟩ ⟨5, ⟨#[]⟩, n⟩, HB.out.alloc HB.out.size _⟩

-- (by gen_toga.py)
set_option maxRecDepth 100000 in
set_option maxHeartbeats 8000000 in
theorem answerToS_any (st : Int) (q : ByteArray) (w : World) (hq : q.size ≤ 1048576) : Calls Try.prog 84 #[.int .i64 st, .string q] w (RetFrS w (answerA st q)) := by
  obtain ⟨b1, h1⟩ : ∃ b, inI st 0 2 = b := ⟨_, rfl⟩
  obtain ⟨b2, h2⟩ : ∃ b, okB q.data.toList = b := ⟨_, rfl⟩
  have H2 := Lib.hid h2
  cases b1
  · rw [answerA_no1 h1]
    have H1 : Hid (¬ (0 ≤ st ∧ st ≤ 2)) := Lib.hid (by unfold inI at h1; simp at h1; omega)
    clear h1 h2
    go_enter Try.func84, Try.ntmps84
    go_wp2_with fail
    refine (l1In_no _ H1.out).mono ?_
    rintro e w1 ⟨rfl, rfl⟩
    go_wp2_with fail
    go_ret
    exact ⟨_, _, rfl, World.ownsRow_lit w #[] 0 (Nat.le_refl _) (by simp [maxLen]) rfl, Later.alloc w _⟩
  · have H0 : Hid (0 ≤ st ∧ st ≤ 2) := Lib.hid (by unfold inI at h1; simp at h1; omega)
    cases b2
    · rw [answerA_no2 h2]
      clear h1 h2
      go_enter Try.func84, Try.ntmps84
      go_wp2_with fail
      refine (l1In_yes _ H0.out.1 H0.out.2).mono ?_
      rintro e w1 ⟨rfl, rfl⟩
      go_wp2_with fail
      refine (textOkS_any q _ (by omega)).mono ?_
      rw [H2.out]
      rintro e w1 ⟨rfl, rfl⟩
      go_wp2_with fail
      go_ret
      exact ⟨_, _, rfl, World.ownsRow_lit w #[] 0 (Nat.le_refl _) (by simp [maxLen]) rfl, Later.alloc w _⟩
    · rw [answerA_yes h1 h2]
      clear h1 h2
      unfold firstA
      obtain ⟨n, hn⟩ : ∃ n, nextS st (wordQ q) = n := ⟨_, rfl⟩
      rw [hn]
      have HN := Lib.hid hn
      clear hn
      by_cases hs : st = 2
      · subst hs
        rcases word_cases q with hv | hv | hv | hv | hv
        · rw [hv] at HN ⊢
          have HV := Lib.hid hv
          clear hv
          repeat (first | rw [if_pos (by decide)] | rw [if_neg (by decide)])
          go_enter Try.func84, Try.ntmps84
          go_wp2_with fail
          refine (l1In_yes _ H0.out.1 H0.out.2).mono ?_
          rintro e w1 ⟨rfl, rfl⟩
          go_wp2_with fail
          refine (textOkS_any q _ (by omega)).mono ?_
          rw [H2.out]
          rintro e w1 ⟨rfl, rfl⟩
          go_wp2_with fail
          refine (wordOfS_any q _).mono ?_
          rw [HV.out]
          rintro e w1 ⟨rfl, rfl⟩
          have S : All (fun w' => (Below w.heap.size w w') ∧ (w'.cell? ⟨w.heap.size, 0, none⟩ = some (.int .i64 6) ∧ w'.cell? ⟨w.heap.size, 1, none⟩ = some (.string ⟨#[97, 98, 111, 114, 116, 101, 100]⟩) ∧ w'.cell? ⟨w.heap.size, 2, none⟩ = some (.int .i64 0))) (w.alloc (.cells #[.int .i64 6, .string ⟨#[97, 98, 111, 114, 116, 101, 100]⟩, .int .i64 0] 33)) := ⟨Later.alloc w _, var_cell (heap_alloc_new w _) 0, var_cell (heap_alloc_new w _) 1, var_cell (heap_alloc_new w _) 2⟩
          go_upto_region 12 with (fail)
          generalize w.alloc (.cells #[.int .i64 6, .string ⟨#[97, 98, 111, 114, 116, 101, 100]⟩, .int .i64 0] 33) = W1 at S ⊢
          refine wp_region_lex' 100 [0, 1, 2] [3, 4, 5, 6] (fun w' => w'.cell? ⟨w.heap.size, 0, none⟩ = some (.int .i64 6) ∧ w'.cell? ⟨w.heap.size, 1, none⟩ = some (.string ⟨#[97, 98, 111, 114, 116, 101, 100]⟩) ∧ w'.cell? ⟨w.heap.size, 2, none⟩ = some (.int .i64 0)) (by kernel_rfl) (by kernel_rfl) S.drew.out.2 ?_
          replace S := S.drew
          iterate 3 (refine LexR.cons rfl ?_ (fun w' hw => ?_) ?_; rotate_left; focus (obtain ⟨hw0, hw1, hw2⟩ := hw; go_simp; (try exact rfl)); (try go_frame))
          refine LexR.nil (LexW.cons rfl ?_)
          go_wp2_with fail
          refine (nextStS_any 2 0 _).mono ?_
          rw [HN.out]
          rintro e w1 ⟨rfl, rfl⟩
          go_wp2_with fail
          refine ⟨fun _ => S.out.2, LexW.cons rfl ?_⟩
          try go_frame
          go_wp2_with fail
          refine ⟨fun _ => S.out.2, LexW.cons rfl ?_⟩
          try go_frame
          go_wp2_with fail
          refine ⟨fun _ => (S.alloc _).out.2, LexW.cons rfl ?_⟩
          try go_frame
          go_wp2_with fail
          refine ⟨fun _ => (S.alloc _).out.2, LexW.nil ?_⟩
          have HB := S.out.1
          clear S
          go_wp2_with fail
          go_ret
          exact ⟨_, _, rfl, frS_lit W1.drew w.heap.size HB.size ⟨6, ⟨#[97, 98, 111, 114, 116, 101, 100]⟩, 0⟩ ⟨5, ⟨#[]⟩, n⟩, HB.alloc HB.size _⟩
        · rw [hv] at HN ⊢
          have HV := Lib.hid hv
          clear hv
          repeat (first | rw [if_pos (by decide)] | rw [if_neg (by decide)])
          go_enter Try.func84, Try.ntmps84
          go_wp2_with fail
          refine (l1In_yes _ H0.out.1 H0.out.2).mono ?_
          rintro e w1 ⟨rfl, rfl⟩
          go_wp2_with fail
          refine (textOkS_any q _ (by omega)).mono ?_
          rw [H2.out]
          rintro e w1 ⟨rfl, rfl⟩
          go_wp2_with fail
          refine (wordOfS_any q _).mono ?_
          rw [HV.out]
          rintro e w1 ⟨rfl, rfl⟩
          have S : All (fun w' => (Below w.heap.size w w') ∧ (w'.cell? ⟨w.heap.size, 0, none⟩ = some (.int .i64 6) ∧ w'.cell? ⟨w.heap.size, 1, none⟩ = some (.string ⟨#[97, 98, 111, 114, 116, 101, 100]⟩) ∧ w'.cell? ⟨w.heap.size, 2, none⟩ = some (.int .i64 0))) (w.alloc (.cells #[.int .i64 6, .string ⟨#[97, 98, 111, 114, 116, 101, 100]⟩, .int .i64 0] 33)) := ⟨Later.alloc w _, var_cell (heap_alloc_new w _) 0, var_cell (heap_alloc_new w _) 1, var_cell (heap_alloc_new w _) 2⟩
          go_upto_region 12 with (fail)
          generalize w.alloc (.cells #[.int .i64 6, .string ⟨#[97, 98, 111, 114, 116, 101, 100]⟩, .int .i64 0] 33) = W1 at S ⊢
          refine wp_region_lex' 100 [0, 1, 2] [3, 4, 5, 6] (fun w' => w'.cell? ⟨w.heap.size, 0, none⟩ = some (.int .i64 6) ∧ w'.cell? ⟨w.heap.size, 1, none⟩ = some (.string ⟨#[97, 98, 111, 114, 116, 101, 100]⟩) ∧ w'.cell? ⟨w.heap.size, 2, none⟩ = some (.int .i64 0)) (by kernel_rfl) (by kernel_rfl) S.drew.out.2 ?_
          replace S := S.drew
          iterate 3 (refine LexR.cons rfl ?_ (fun w' hw => ?_) ?_; rotate_left; focus (obtain ⟨hw0, hw1, hw2⟩ := hw; go_simp; (try exact rfl)); (try go_frame))
          refine LexR.nil (LexW.cons rfl ?_)
          go_wp2_with fail
          refine (nextStS_any 2 1 _).mono ?_
          rw [HN.out]
          rintro e w1 ⟨rfl, rfl⟩
          go_wp2_with fail
          refine ⟨fun _ => S.out.2, LexW.cons rfl ?_⟩
          try go_frame
          go_wp2_with fail
          refine ⟨fun _ => S.out.2, LexW.cons rfl ?_⟩
          try go_frame
          go_wp2_with fail
          refine ⟨fun _ => (S.alloc _).out.2, LexW.cons rfl ?_⟩
          try go_frame
          go_wp2_with fail
          refine ⟨fun _ => (S.alloc _).out.2, LexW.nil ?_⟩
          have HB := S.out.1
          clear S
          go_wp2_with fail
          go_ret
          exact ⟨_, _, rfl, frS_lit W1.drew w.heap.size HB.size ⟨6, ⟨#[97, 98, 111, 114, 116, 101, 100]⟩, 0⟩ ⟨5, ⟨#[]⟩, n⟩, HB.alloc HB.size _⟩
        · rw [hv] at HN ⊢
          have HV := Lib.hid hv
          clear hv
          repeat (first | rw [if_pos (by decide)] | rw [if_neg (by decide)])
          go_enter Try.func84, Try.ntmps84
          go_wp2_with fail
          refine (l1In_yes _ H0.out.1 H0.out.2).mono ?_
          rintro e w1 ⟨rfl, rfl⟩
          go_wp2_with fail
          refine (textOkS_any q _ (by omega)).mono ?_
          rw [H2.out]
          rintro e w1 ⟨rfl, rfl⟩
          go_wp2_with fail
          refine (wordOfS_any q _).mono ?_
          rw [HV.out]
          rintro e w1 ⟨rfl, rfl⟩
          have S : All (fun w' => (Below w.heap.size w w') ∧ (w'.cell? ⟨w.heap.size, 0, none⟩ = some (.int .i64 4) ∧ w'.cell? ⟨w.heap.size, 1, none⟩ = some (.string ⟨#[114, 111, 108, 108, 98, 97, 99, 107]⟩) ∧ w'.cell? ⟨w.heap.size, 2, none⟩ = some (.int .i64 0))) (w.alloc (.cells #[.int .i64 4, .string ⟨#[114, 111, 108, 108, 98, 97, 99, 107]⟩, .int .i64 0] 33)) := ⟨Later.alloc w _, var_cell (heap_alloc_new w _) 0, var_cell (heap_alloc_new w _) 1, var_cell (heap_alloc_new w _) 2⟩
          go_upto_region 12 with (fail)
          generalize w.alloc (.cells #[.int .i64 4, .string ⟨#[114, 111, 108, 108, 98, 97, 99, 107]⟩, .int .i64 0] 33) = W1 at S ⊢
          refine wp_region_lex' 100 [0, 1, 2] [3, 4, 5, 6] (fun w' => w'.cell? ⟨w.heap.size, 0, none⟩ = some (.int .i64 4) ∧ w'.cell? ⟨w.heap.size, 1, none⟩ = some (.string ⟨#[114, 111, 108, 108, 98, 97, 99, 107]⟩) ∧ w'.cell? ⟨w.heap.size, 2, none⟩ = some (.int .i64 0)) (by kernel_rfl) (by kernel_rfl) S.drew.out.2 ?_
          replace S := S.drew
          iterate 3 (refine LexR.cons rfl ?_ (fun w' hw => ?_) ?_; rotate_left; focus (obtain ⟨hw0, hw1, hw2⟩ := hw; go_simp; (try exact rfl)); (try go_frame))
          refine LexR.nil (LexW.cons rfl ?_)
          go_wp2_with fail
          refine (nextStS_any 2 2 _).mono ?_
          rw [HN.out]
          rintro e w1 ⟨rfl, rfl⟩
          go_wp2_with fail
          refine ⟨fun _ => S.out.2, LexW.cons rfl ?_⟩
          try go_frame
          go_wp2_with fail
          refine ⟨fun _ => S.out.2, LexW.cons rfl ?_⟩
          try go_frame
          go_wp2_with fail
          refine ⟨fun _ => (S.alloc _).out.2, LexW.cons rfl ?_⟩
          try go_frame
          go_wp2_with fail
          refine ⟨fun _ => (S.alloc _).out.2, LexW.nil ?_⟩
          have HB := S.out.1
          clear S
          go_wp2_with fail
          go_ret
          exact ⟨_, _, rfl, frS_lit W1.drew w.heap.size HB.size ⟨4, ⟨#[114, 111, 108, 108, 98, 97, 99, 107]⟩, 0⟩ ⟨5, ⟨#[]⟩, n⟩, HB.alloc HB.size _⟩
        · rw [hv] at HN ⊢
          have HV := Lib.hid hv
          clear hv
          repeat (first | rw [if_pos (by decide)] | rw [if_neg (by decide)])
          go_enter Try.func84, Try.ntmps84
          go_wp2_with fail
          refine (l1In_yes _ H0.out.1 H0.out.2).mono ?_
          rintro e w1 ⟨rfl, rfl⟩
          go_wp2_with fail
          refine (textOkS_any q _ (by omega)).mono ?_
          rw [H2.out]
          rintro e w1 ⟨rfl, rfl⟩
          go_wp2_with fail
          refine (wordOfS_any q _).mono ?_
          rw [HV.out]
          rintro e w1 ⟨rfl, rfl⟩
          have S : All (fun w' => (Below w.heap.size w w') ∧ (w'.cell? ⟨w.heap.size, 0, none⟩ = some (.int .i64 4) ∧ w'.cell? ⟨w.heap.size, 1, none⟩ = some (.string q) ∧ w'.cell? ⟨w.heap.size, 2, none⟩ = some (.int .i64 0))) (w.alloc (.cells #[.int .i64 4, .string q, .int .i64 0] 33)) := ⟨Later.alloc w _, var_cell (heap_alloc_new w _) 0, var_cell (heap_alloc_new w _) 1, var_cell (heap_alloc_new w _) 2⟩
          go_upto_region 12 with (fail)
          generalize w.alloc (.cells #[.int .i64 4, .string q, .int .i64 0] 33) = W1 at S ⊢
          refine wp_region_lex' 100 [0, 1, 2] [3, 4, 5, 6] (fun w' => w'.cell? ⟨w.heap.size, 0, none⟩ = some (.int .i64 4) ∧ w'.cell? ⟨w.heap.size, 1, none⟩ = some (.string q) ∧ w'.cell? ⟨w.heap.size, 2, none⟩ = some (.int .i64 0)) (by kernel_rfl) (by kernel_rfl) S.drew.out.2 ?_
          replace S := S.drew
          iterate 3 (refine LexR.cons rfl ?_ (fun w' hw => ?_) ?_; rotate_left; focus (obtain ⟨hw0, hw1, hw2⟩ := hw; go_simp; (try exact rfl)); (try go_frame))
          refine LexR.nil (LexW.cons rfl ?_)
          go_wp2_with fail
          refine (nextStS_any 2 3 _).mono ?_
          rw [HN.out]
          rintro e w1 ⟨rfl, rfl⟩
          go_wp2_with fail
          refine ⟨fun _ => S.out.2, LexW.cons rfl ?_⟩
          try go_frame
          go_wp2_with fail
          refine ⟨fun _ => S.out.2, LexW.cons rfl ?_⟩
          try go_frame
          go_wp2_with fail
          refine ⟨fun _ => (S.alloc _).out.2, LexW.cons rfl ?_⟩
          try go_frame
          go_wp2_with fail
          refine ⟨fun _ => (S.alloc _).out.2, LexW.nil ?_⟩
          have HB := S.out.1
          clear S
          go_wp2_with fail
          go_ret
          exact ⟨_, _, rfl, frS_lit W1.drew w.heap.size HB.size ⟨4, q, 0⟩ ⟨5, ⟨#[]⟩, n⟩, HB.alloc HB.size _⟩
        · rw [hv] at HN ⊢
          have HV := Lib.hid hv
          clear hv
          repeat (first | rw [if_pos (by decide)] | rw [if_neg (by decide)])
          go_enter Try.func84, Try.ntmps84
          go_wp2_with fail
          refine (l1In_yes _ H0.out.1 H0.out.2).mono ?_
          rintro e w1 ⟨rfl, rfl⟩
          go_wp2_with fail
          refine (textOkS_any q _ (by omega)).mono ?_
          rw [H2.out]
          rintro e w1 ⟨rfl, rfl⟩
          go_wp2_with fail
          refine (wordOfS_any q _).mono ?_
          rw [HV.out]
          rintro e w1 ⟨rfl, rfl⟩
          have S : All (fun w' => (Below w.heap.size w w') ∧ (w'.cell? ⟨w.heap.size, 0, none⟩ = some (.int .i64 6) ∧ w'.cell? ⟨w.heap.size, 1, none⟩ = some (.string ⟨#[97, 98, 111, 114, 116, 101, 100]⟩) ∧ w'.cell? ⟨w.heap.size, 2, none⟩ = some (.int .i64 0))) (w.alloc (.cells #[.int .i64 6, .string ⟨#[97, 98, 111, 114, 116, 101, 100]⟩, .int .i64 0] 33)) := ⟨Later.alloc w _, var_cell (heap_alloc_new w _) 0, var_cell (heap_alloc_new w _) 1, var_cell (heap_alloc_new w _) 2⟩
          go_upto_region 12 with (fail)
          generalize w.alloc (.cells #[.int .i64 6, .string ⟨#[97, 98, 111, 114, 116, 101, 100]⟩, .int .i64 0] 33) = W1 at S ⊢
          refine wp_region_lex' 100 [0, 1, 2] [3, 4, 5, 6] (fun w' => w'.cell? ⟨w.heap.size, 0, none⟩ = some (.int .i64 6) ∧ w'.cell? ⟨w.heap.size, 1, none⟩ = some (.string ⟨#[97, 98, 111, 114, 116, 101, 100]⟩) ∧ w'.cell? ⟨w.heap.size, 2, none⟩ = some (.int .i64 0)) (by kernel_rfl) (by kernel_rfl) S.drew.out.2 ?_
          replace S := S.drew
          iterate 3 (refine LexR.cons rfl ?_ (fun w' hw => ?_) ?_; rotate_left; focus (obtain ⟨hw0, hw1, hw2⟩ := hw; go_simp; (try exact rfl)); (try go_frame))
          refine LexR.nil (LexW.cons rfl ?_)
          go_wp2_with fail
          refine (nextStS_any 2 4 _).mono ?_
          rw [HN.out]
          rintro e w1 ⟨rfl, rfl⟩
          go_wp2_with fail
          refine ⟨fun _ => S.out.2, LexW.cons rfl ?_⟩
          try go_frame
          go_wp2_with fail
          refine ⟨fun _ => S.out.2, LexW.cons rfl ?_⟩
          try go_frame
          go_wp2_with fail
          refine ⟨fun _ => (S.alloc _).out.2, LexW.cons rfl ?_⟩
          try go_frame
          go_wp2_with fail
          refine ⟨fun _ => (S.alloc _).out.2, LexW.nil ?_⟩
          have HB := S.out.1
          clear S
          go_wp2_with fail
          go_ret
          exact ⟨_, _, rfl, frS_lit W1.drew w.heap.size HB.size ⟨6, ⟨#[97, 98, 111, 114, 116, 101, 100]⟩, 0⟩ ⟨5, ⟨#[]⟩, n⟩, HB.alloc HB.size _⟩
      · have hb := beq_no hs
        have hif : ∀ (p : Prop) [Decidable p] (a b : Fr), (if st = 2 ∧ p then a else b) = b := fun p _ a b => if_neg (fun h => hs h.1)
        rw [hif, hif]
        clear hif hs
        rcases word_cases q with hv | hv | hv | hv | hv
        · rw [hv] at HN ⊢
          have HV := Lib.hid hv
          clear hv
          repeat (first | rw [if_pos (by decide)] | rw [if_neg (by decide)])
          go_enter Try.func84, Try.ntmps84
          go_wp2_with fail
          refine (l1In_yes _ H0.out.1 H0.out.2).mono ?_
          rintro e w1 ⟨rfl, rfl⟩
          go_wp2_with fail
          refine (textOkS_any q _ (by omega)).mono ?_
          rw [H2.out]
          rintro e w1 ⟨rfl, rfl⟩
          go_wp2_with fail
          refine (wordOfS_any q _).mono ?_
          rw [HV.out]
          rintro e w1 ⟨rfl, rfl⟩
          have S : All (fun w' => (Below w.heap.size w w') ∧ (w'.cell? ⟨w.heap.size, 0, none⟩ = some (.int .i64 4) ∧ w'.cell? ⟨w.heap.size, 1, none⟩ = some (.string q) ∧ w'.cell? ⟨w.heap.size, 2, none⟩ = some (.int .i64 0))) (w.alloc (.cells #[.int .i64 4, .string q, .int .i64 0] 33)) := ⟨Later.alloc w _, var_cell (heap_alloc_new w _) 0, var_cell (heap_alloc_new w _) 1, var_cell (heap_alloc_new w _) 2⟩
          go_upto_region 12 with (fail)
          generalize w.alloc (.cells #[.int .i64 4, .string q, .int .i64 0] 33) = W1 at S ⊢
          refine wp_region_lex' 100 [0, 1, 2] [3, 4, 5, 6] (fun w' => w'.cell? ⟨w.heap.size, 0, none⟩ = some (.int .i64 4) ∧ w'.cell? ⟨w.heap.size, 1, none⟩ = some (.string q) ∧ w'.cell? ⟨w.heap.size, 2, none⟩ = some (.int .i64 0)) (by kernel_rfl) (by kernel_rfl) S.drew.out.2 ?_
          replace S := S.drew
          iterate 3 (refine LexR.cons rfl ?_ (fun w' hw => ?_) ?_; rotate_left; focus (obtain ⟨hw0, hw1, hw2⟩ := hw; go_simp; (try exact rfl)); (try go_frame))
          refine LexR.nil (LexW.cons rfl ?_)
          go_wp2_with fail
          refine (nextStS_any st 0 _).mono ?_
          rw [HN.out]
          rintro e w1 ⟨rfl, rfl⟩
          go_wp2_with fail
          refine ⟨fun _ => S.out.2, LexW.cons rfl ?_⟩
          try go_frame
          go_wp2_with fail
          refine ⟨fun _ => S.out.2, LexW.cons rfl ?_⟩
          try go_frame
          go_wp2_with fail
          refine ⟨fun _ => (S.alloc _).out.2, LexW.cons rfl ?_⟩
          try go_frame
          go_wp2_with fail
          refine ⟨fun _ => (S.alloc _).out.2, LexW.nil ?_⟩
          have HB := S.out.1
          clear S
          go_wp2_with fail
          go_ret
          exact ⟨_, _, rfl, frS_lit W1.drew w.heap.size HB.size ⟨4, q, 0⟩ ⟨5, ⟨#[]⟩, n⟩, HB.alloc HB.size _⟩
        · rw [hv] at HN ⊢
          have HV := Lib.hid hv
          clear hv
          repeat (first | rw [if_pos (by decide)] | rw [if_neg (by decide)])
          go_enter Try.func84, Try.ntmps84
          go_wp2_with fail
          refine (l1In_yes _ H0.out.1 H0.out.2).mono ?_
          rintro e w1 ⟨rfl, rfl⟩
          go_wp2_with fail
          refine (textOkS_any q _ (by omega)).mono ?_
          rw [H2.out]
          rintro e w1 ⟨rfl, rfl⟩
          go_wp2_with fail
          refine (wordOfS_any q _).mono ?_
          rw [HV.out]
          rintro e w1 ⟨rfl, rfl⟩
          have S : All (fun w' => (Below w.heap.size w w') ∧ (w'.cell? ⟨w.heap.size, 0, none⟩ = some (.int .i64 4) ∧ w'.cell? ⟨w.heap.size, 1, none⟩ = some (.string q) ∧ w'.cell? ⟨w.heap.size, 2, none⟩ = some (.int .i64 0))) (w.alloc (.cells #[.int .i64 4, .string q, .int .i64 0] 33)) := ⟨Later.alloc w _, var_cell (heap_alloc_new w _) 0, var_cell (heap_alloc_new w _) 1, var_cell (heap_alloc_new w _) 2⟩
          go_upto_region 12 with (fail)
          generalize w.alloc (.cells #[.int .i64 4, .string q, .int .i64 0] 33) = W1 at S ⊢
          refine wp_region_lex' 100 [0, 1, 2] [3, 4, 5, 6] (fun w' => w'.cell? ⟨w.heap.size, 0, none⟩ = some (.int .i64 4) ∧ w'.cell? ⟨w.heap.size, 1, none⟩ = some (.string q) ∧ w'.cell? ⟨w.heap.size, 2, none⟩ = some (.int .i64 0)) (by kernel_rfl) (by kernel_rfl) S.drew.out.2 ?_
          replace S := S.drew
          iterate 3 (refine LexR.cons rfl ?_ (fun w' hw => ?_) ?_; rotate_left; focus (obtain ⟨hw0, hw1, hw2⟩ := hw; go_simp; (try exact rfl)); (try go_frame))
          refine LexR.nil (LexW.cons rfl ?_)
          go_wp2_with fail
          refine (nextStS_any st 1 _).mono ?_
          rw [HN.out]
          rintro e w1 ⟨rfl, rfl⟩
          go_wp2_with fail
          refine ⟨fun _ => S.out.2, LexW.cons rfl ?_⟩
          try go_frame
          go_wp2_with fail
          refine ⟨fun _ => S.out.2, LexW.cons rfl ?_⟩
          try go_frame
          go_wp2_with fail
          refine ⟨fun _ => (S.alloc _).out.2, LexW.cons rfl ?_⟩
          try go_frame
          go_wp2_with fail
          refine ⟨fun _ => (S.alloc _).out.2, LexW.nil ?_⟩
          have HB := S.out.1
          clear S
          go_wp2_with fail
          go_ret
          exact ⟨_, _, rfl, frS_lit W1.drew w.heap.size HB.size ⟨4, q, 0⟩ ⟨5, ⟨#[]⟩, n⟩, HB.alloc HB.size _⟩
        · rw [hv] at HN ⊢
          have HV := Lib.hid hv
          clear hv
          repeat (first | rw [if_pos (by decide)] | rw [if_neg (by decide)])
          go_enter Try.func84, Try.ntmps84
          go_wp2_with fail
          refine (l1In_yes _ H0.out.1 H0.out.2).mono ?_
          rintro e w1 ⟨rfl, rfl⟩
          go_wp2_with fail
          refine (textOkS_any q _ (by omega)).mono ?_
          rw [H2.out]
          rintro e w1 ⟨rfl, rfl⟩
          go_wp2_with fail
          refine (wordOfS_any q _).mono ?_
          rw [HV.out]
          rintro e w1 ⟨rfl, rfl⟩
          have S : All (fun w' => (Below w.heap.size w w') ∧ (w'.cell? ⟨w.heap.size, 0, none⟩ = some (.int .i64 4) ∧ w'.cell? ⟨w.heap.size, 1, none⟩ = some (.string q) ∧ w'.cell? ⟨w.heap.size, 2, none⟩ = some (.int .i64 0))) (w.alloc (.cells #[.int .i64 4, .string q, .int .i64 0] 33)) := ⟨Later.alloc w _, var_cell (heap_alloc_new w _) 0, var_cell (heap_alloc_new w _) 1, var_cell (heap_alloc_new w _) 2⟩
          go_upto_region 12 with (fail)
          generalize w.alloc (.cells #[.int .i64 4, .string q, .int .i64 0] 33) = W1 at S ⊢
          refine wp_region_lex' 100 [0, 1, 2] [3, 4, 5, 6] (fun w' => w'.cell? ⟨w.heap.size, 0, none⟩ = some (.int .i64 4) ∧ w'.cell? ⟨w.heap.size, 1, none⟩ = some (.string q) ∧ w'.cell? ⟨w.heap.size, 2, none⟩ = some (.int .i64 0)) (by kernel_rfl) (by kernel_rfl) S.drew.out.2 ?_
          replace S := S.drew
          iterate 3 (refine LexR.cons rfl ?_ (fun w' hw => ?_) ?_; rotate_left; focus (obtain ⟨hw0, hw1, hw2⟩ := hw; go_simp; (try exact rfl)); (try go_frame))
          refine LexR.nil (LexW.cons rfl ?_)
          go_wp2_with fail
          refine (nextStS_any st 2 _).mono ?_
          rw [HN.out]
          rintro e w1 ⟨rfl, rfl⟩
          go_wp2_with fail
          refine ⟨fun _ => S.out.2, LexW.cons rfl ?_⟩
          try go_frame
          go_wp2_with fail
          refine ⟨fun _ => S.out.2, LexW.cons rfl ?_⟩
          try go_frame
          go_wp2_with fail
          refine ⟨fun _ => (S.alloc _).out.2, LexW.cons rfl ?_⟩
          try go_frame
          go_wp2_with fail
          refine ⟨fun _ => (S.alloc _).out.2, LexW.nil ?_⟩
          have HB := S.out.1
          clear S
          go_wp2_with fail
          go_ret
          exact ⟨_, _, rfl, frS_lit W1.drew w.heap.size HB.size ⟨4, q, 0⟩ ⟨5, ⟨#[]⟩, n⟩, HB.alloc HB.size _⟩
        · rw [hv] at HN ⊢
          have HV := Lib.hid hv
          clear hv
          repeat (first | rw [if_pos (by decide)] | rw [if_neg (by decide)])
          go_enter Try.func84, Try.ntmps84
          go_wp2_with fail
          refine (l1In_yes _ H0.out.1 H0.out.2).mono ?_
          rintro e w1 ⟨rfl, rfl⟩
          go_wp2_with fail
          refine (textOkS_any q _ (by omega)).mono ?_
          rw [H2.out]
          rintro e w1 ⟨rfl, rfl⟩
          go_wp2_with fail
          refine (wordOfS_any q _).mono ?_
          rw [HV.out]
          rintro e w1 ⟨rfl, rfl⟩
          have S : All (fun w' => (Below w.heap.size w w') ∧ (w'.cell? ⟨w.heap.size, 0, none⟩ = some (.int .i64 4) ∧ w'.cell? ⟨w.heap.size, 1, none⟩ = some (.string q) ∧ w'.cell? ⟨w.heap.size, 2, none⟩ = some (.int .i64 0))) (w.alloc (.cells #[.int .i64 4, .string q, .int .i64 0] 33)) := ⟨Later.alloc w _, var_cell (heap_alloc_new w _) 0, var_cell (heap_alloc_new w _) 1, var_cell (heap_alloc_new w _) 2⟩
          go_upto_region 12 with (fail)
          generalize w.alloc (.cells #[.int .i64 4, .string q, .int .i64 0] 33) = W1 at S ⊢
          refine wp_region_lex' 100 [0, 1, 2] [3, 4, 5, 6] (fun w' => w'.cell? ⟨w.heap.size, 0, none⟩ = some (.int .i64 4) ∧ w'.cell? ⟨w.heap.size, 1, none⟩ = some (.string q) ∧ w'.cell? ⟨w.heap.size, 2, none⟩ = some (.int .i64 0)) (by kernel_rfl) (by kernel_rfl) S.drew.out.2 ?_
          replace S := S.drew
          iterate 3 (refine LexR.cons rfl ?_ (fun w' hw => ?_) ?_; rotate_left; focus (obtain ⟨hw0, hw1, hw2⟩ := hw; go_simp; (try exact rfl)); (try go_frame))
          refine LexR.nil (LexW.cons rfl ?_)
          go_wp2_with fail
          refine (nextStS_any st 3 _).mono ?_
          rw [HN.out]
          rintro e w1 ⟨rfl, rfl⟩
          go_wp2_with fail
          refine ⟨fun _ => S.out.2, LexW.cons rfl ?_⟩
          try go_frame
          go_wp2_with fail
          refine ⟨fun _ => S.out.2, LexW.cons rfl ?_⟩
          try go_frame
          go_wp2_with fail
          refine ⟨fun _ => (S.alloc _).out.2, LexW.cons rfl ?_⟩
          try go_frame
          go_wp2_with fail
          refine ⟨fun _ => (S.alloc _).out.2, LexW.nil ?_⟩
          have HB := S.out.1
          clear S
          go_wp2_with fail
          go_ret
          exact ⟨_, _, rfl, frS_lit W1.drew w.heap.size HB.size ⟨4, q, 0⟩ ⟨5, ⟨#[]⟩, n⟩, HB.alloc HB.size _⟩
        · rw [hv] at HN ⊢
          have HV := Lib.hid hv
          clear hv
          repeat (first | rw [if_pos (by decide)] | rw [if_neg (by decide)])
          go_enter Try.func84, Try.ntmps84
          go_wp2_with fail
          refine (l1In_yes _ H0.out.1 H0.out.2).mono ?_
          rintro e w1 ⟨rfl, rfl⟩
          go_wp2_with fail
          refine (textOkS_any q _ (by omega)).mono ?_
          rw [H2.out]
          rintro e w1 ⟨rfl, rfl⟩
          go_wp2_with fail
          refine (wordOfS_any q _).mono ?_
          rw [HV.out]
          rintro e w1 ⟨rfl, rfl⟩
          have S : All (fun w' => (Below w.heap.size w w') ∧ (w'.cell? ⟨w.heap.size, 0, none⟩ = some (.int .i64 6) ∧ w'.cell? ⟨w.heap.size, 1, none⟩ = some (.string ⟨#[102, 97, 105, 108, 101, 100]⟩) ∧ w'.cell? ⟨w.heap.size, 2, none⟩ = some (.int .i64 0))) (w.alloc (.cells #[.int .i64 6, .string ⟨#[102, 97, 105, 108, 101, 100]⟩, .int .i64 0] 33)) := ⟨Later.alloc w _, var_cell (heap_alloc_new w _) 0, var_cell (heap_alloc_new w _) 1, var_cell (heap_alloc_new w _) 2⟩
          go_upto_region 12 with (fail)
          generalize w.alloc (.cells #[.int .i64 6, .string ⟨#[102, 97, 105, 108, 101, 100]⟩, .int .i64 0] 33) = W1 at S ⊢
          refine wp_region_lex' 100 [0, 1, 2] [3, 4, 5, 6] (fun w' => w'.cell? ⟨w.heap.size, 0, none⟩ = some (.int .i64 6) ∧ w'.cell? ⟨w.heap.size, 1, none⟩ = some (.string ⟨#[102, 97, 105, 108, 101, 100]⟩) ∧ w'.cell? ⟨w.heap.size, 2, none⟩ = some (.int .i64 0)) (by kernel_rfl) (by kernel_rfl) S.drew.out.2 ?_
          replace S := S.drew
          iterate 3 (refine LexR.cons rfl ?_ (fun w' hw => ?_) ?_; rotate_left; focus (obtain ⟨hw0, hw1, hw2⟩ := hw; go_simp; (try exact rfl)); (try go_frame))
          refine LexR.nil (LexW.cons rfl ?_)
          go_wp2_with fail
          refine (nextStS_any st 4 _).mono ?_
          rw [HN.out]
          rintro e w1 ⟨rfl, rfl⟩
          go_wp2_with fail
          refine ⟨fun _ => S.out.2, LexW.cons rfl ?_⟩
          try go_frame
          go_wp2_with fail
          refine ⟨fun _ => S.out.2, LexW.cons rfl ?_⟩
          try go_frame
          go_wp2_with fail
          refine ⟨fun _ => (S.alloc _).out.2, LexW.cons rfl ?_⟩
          try go_frame
          go_wp2_with fail
          refine ⟨fun _ => (S.alloc _).out.2, LexW.nil ?_⟩
          have HB := S.out.1
          clear S
          go_wp2_with fail
          go_ret
          exact ⟨_, _, rfl, frS_lit W1.drew w.heap.size HB.size ⟨6, ⟨#[102, 97, 105, 108, 101, 100]⟩, 0⟩ ⟨5, ⟨#[]⟩, n⟩, HB.alloc HB.size _⟩

end Go.Proofs.Ytcelkmphdeaaeaa
