/- The bytes of a rune beyond ASCII are all beyond ASCII. -/
import Derived.Test.YtdapnhahccpebaaDoorEndDb
namespace Go.Proofs.YtdapnhahccpebaaDoor
open Go.RowKit
set_option maxRecDepth 100000
set_option linter.unusedVariables false

theorem get_at {s : ByteArray} {i : Nat} (h : i < s.size) : s.get! i = s[i] := by
  simp [ByteArray.get!, getElem!_pos, h]
  rfl
theorem width_high (s : ByteArray) (k : Nat) (h : k < s.size) (ha : 128 ≤ (s[k]'h).toNat) : k + (Utf8.decode s k).2 ≤ s.size ∧ ∀ i, i < (Utf8.decode s k).2 → 128 ≤ (s.get! (k + i)).toNat := by
  have h0 : 128 ≤ (s.get! (k + 0)).toNat := by rw [Nat.add_zero, get_at h]; exact ha
  unfold Utf8.decode
  simp only []
  split
  · omega
  · split
    · rename_i h1
      simp only [Bool.and_eq_true, beq_iff_eq, decide_eq_true_eq] at h1
      have a1 : 128 ≤ (s.get! (k + 1)).toNat := by omega
      split
      · refine ⟨by show k + 2 ≤ s.size; omega, fun i hi => ?_⟩
        have hi' : i < 2 := hi
        rcases (by omega : i = 0 ∨ i = 1) with rfl | rfl <;> assumption
      · refine ⟨by show k + 1 ≤ s.size; omega, fun i hi => ?_⟩
        have hi' : i < 1 := hi
        obtain rfl : i = 0 := by omega
        exact h0
    · split
      · rename_i h1
        simp only [Bool.and_eq_true, beq_iff_eq, decide_eq_true_eq] at h1
        have a1 : 128 ≤ (s.get! (k + 1)).toNat := by omega
        have a2 : 128 ≤ (s.get! (k + 2)).toNat := by omega
        split
        · refine ⟨by show k + 3 ≤ s.size; omega, fun i hi => ?_⟩
          have hi' : i < 3 := hi
          rcases (by omega : i = 0 ∨ i = 1 ∨ i = 2) with rfl | rfl | rfl <;> assumption
        · refine ⟨by show k + 1 ≤ s.size; omega, fun i hi => ?_⟩
          have hi' : i < 1 := hi
          obtain rfl : i = 0 := by omega
          exact h0
      · split
        · rename_i h1
          simp only [Bool.and_eq_true, beq_iff_eq, decide_eq_true_eq] at h1
          have a1 : 128 ≤ (s.get! (k + 1)).toNat := by omega
          have a2 : 128 ≤ (s.get! (k + 2)).toNat := by omega
          have a3 : 128 ≤ (s.get! (k + 3)).toNat := by omega
          split
          · refine ⟨by show k + 4 ≤ s.size; omega, fun i hi => ?_⟩
            have hi' : i < 4 := hi
            rcases (by omega : i = 0 ∨ i = 1 ∨ i = 2 ∨ i = 3) with rfl | rfl | rfl | rfl <;> assumption
          · refine ⟨by show k + 1 ≤ s.size; omega, fun i hi => ?_⟩
            have hi' : i < 1 := hi
            obtain rfl : i = 0 := by omega
            exact h0
        · refine ⟨by show k + 1 ≤ s.size; omega, fun i hi => ?_⟩
          have hi' : i < 1 := hi
          obtain rfl : i = 0 := by omega
          exact h0

/-- Where the reader stands at byte k, its part begun at f. -/
def RunTo (T : List UInt8) (k f : Nat) (ps : List (List UInt8)) (xs : List Db) : Prop :=
  f ≤ k ∧ runC T [] [] [] = runC (T.drop k) ((T.drop f).take (k - f)) ps xs
theorem RunTo.zero (T : List UInt8) : RunTo T 0 0 [] [] := ⟨Nat.le_refl _, by simp⟩
theorem RunTo.skip {T : List UInt8} {k f : Nat} {ps : List (List UInt8)} {xs : List Db} {b : UInt8} (h : RunTo T k f ps xs) (hb : T[k]? = some b) (hm : isMk b = false) : RunTo T (k + 1) f ps xs := by
  have hlt := (List.getElem?_eq_some_iff.1 hb).1
  obtain ⟨h1, h2⟩ := h
  refine ⟨by omega, ?_⟩
  have e : T.drop k = b :: T.drop (k + 1) := by rw [List.drop_eq_getElem_cons hlt, (List.getElem?_eq_some_iff.1 hb).2]
  have e2 : (T.drop f).take (k + 1 - f) = (T.drop f).take (k - f) ++ [b] := by
    rw [show k + 1 - f = (k - f) + 1 by omega, List.take_add_one, List.getElem?_drop, show f + (k - f) = k by omega, hb]
    rfl
  rw [h2, e, runC_cons, if_pos hm, e2]
theorem RunTo.skips {T : List UInt8} {f : Nat} {ps : List (List UInt8)} {xs : List Db} : ∀ (d k : Nat), RunTo T k f ps xs → (∀ i, i < d → ∃ b, T[k + i]? = some b ∧ isMk b = false) → RunTo T (k + d) f ps xs := by
  intro d
  induction d with
  | zero => intro k h _; exact h
  | succ d ih =>
    intro k h hd
    obtain ⟨b, hb, hm⟩ := hd d (by omega)
    exact (ih k h (fun i hi => hd i (by omega))).skip hb hm
theorem RunTo.bad {T : List UInt8} {k f : Nat} {ps : List (List UInt8)} {xs : List Db} {b : UInt8} (h : RunTo T k f ps xs) (hb : T[k]? = some b) (hm : isMk b = true) (hk : b ≠ mkOf ps.length) : runC T [] [] [] = none := by
  have hlt := (List.getElem?_eq_some_iff.1 hb).1
  have e : T.drop k = b :: T.drop (k + 1) := by rw [List.drop_eq_getElem_cons hlt, (List.getElem?_eq_some_iff.1 hb).2]
  rw [h.2, e, runC_cons, if_neg (by simp [hm]), if_pos hk]
theorem RunTo.part {T : List UInt8} {k f : Nat} {ps : List (List UInt8)} {xs : List Db} {b : UInt8} (h : RunTo T k f ps xs) (hb : T[k]? = some b) (hm : isMk b = true) (hk : b = mkOf ps.length) (h59 : b ≠ 59) : RunTo T (k + 1) (k + 1) (ps ++ [(T.drop f).take (k - f)]) xs := by
  have hlt := (List.getElem?_eq_some_iff.1 hb).1
  have e : T.drop k = b :: T.drop (k + 1) := by rw [List.drop_eq_getElem_cons hlt, (List.getElem?_eq_some_iff.1 hb).2]
  refine ⟨Nat.le_refl _, ?_⟩
  rw [h.2, e, runC_cons, if_neg (by simp [hm]), if_neg (fun hn => hn hk), if_neg h59]
  simp
theorem RunTo.none {T : List UInt8} {k f : Nat} {ps : List (List UInt8)} {xs : List Db} (h : RunTo T k f ps xs) (hb : T[k]? = some 59) (hk : 59 = mkOf ps.length) (he : endDb (ps ++ [(T.drop f).take (k - f)]) = Option.none) : runC T [] [] [] = Option.none := by
  have hlt := (List.getElem?_eq_some_iff.1 hb).1
  have e : T.drop k = 59 :: T.drop (k + 1) := by rw [List.drop_eq_getElem_cons hlt, (List.getElem?_eq_some_iff.1 hb).2]
  rw [h.2, e, runC_cons, if_neg (by decide), if_neg (fun hn => hn hk), if_pos rfl, he]
theorem RunTo.some {T : List UInt8} {k f : Nat} {ps : List (List UInt8)} {xs : List Db} {d : Db} (h : RunTo T k f ps xs) (hb : T[k]? = some 59) (hk : 59 = mkOf ps.length) (he : endDb (ps ++ [(T.drop f).take (k - f)]) = Option.some d) : RunTo T (k + 1) (k + 1) [] (xs ++ [d]) := by
  have hlt := (List.getElem?_eq_some_iff.1 hb).1
  have e : T.drop k = 59 :: T.drop (k + 1) := by rw [List.drop_eq_getElem_cons hlt, (List.getElem?_eq_some_iff.1 hb).2]
  refine ⟨Nat.le_refl _, ?_⟩
  rw [h.2, e, runC_cons, if_neg (by decide), if_neg (fun hn => hn hk), if_pos rfl, he]
  simp
theorem RunTo.all {T : List UInt8} {f : Nat} {ps : List (List UInt8)} {xs : List Db} (h : RunTo T T.length f ps xs) : runC T [] [] [] = Option.some xs := by
  rw [h.2, List.drop_length]
  rfl
end Go.Proofs.YtdapnhahccpebaaDoor
