/- What FnNumbers asks, in plain numbers. -/
import Derived.Test.YtlnmlfpkpplgoaaDoorDec
import Derived.Test.YtlnmlfpkpplgoaaDoorGetText
import Derived.Lib.ItoaMem
namespace Go.Proofs.YtlnmlfpkpplgoaaDoor
open Go.RowKit
set_option maxRecDepth 100000

theorem ofNat_toNat {k : Nat} (h : k < 256) : (UInt8.ofNat k).toNat = k := by
  rw [UInt8.toNat_ofNat', Nat.mod_eq_of_lt h]
theorem digit_is {k : Nat} (h : k < 10) : isDg (UInt8.ofNat (48 + k)) = true ∧ dgVal (UInt8.ofNat (48 + k)) = k := by
  have e := ofNat_toNat (k := 48 + k) (by omega)
  exact ⟨isDg_yes (by omega) (by omega), by unfold dgVal; omega⟩
theorem nDigits_le5 : ∀ (k u : Nat), 1 ≤ k → u < 10 ^ k → Lib.nDigits u ≤ k := by
  intro k
  induction k with
  | zero => intro u h; omega
  | succ k ih =>
    intro u _ hu
    rw [Lib.nDigits]
    split
    · omega
    · rename_i h10
      have hk : 1 ≤ k := by
        rcases Nat.eq_zero_or_pos k with h0 | h0
        · subst h0; omega
        · exact h0
      have := ih (u / 10) hk (by rw [Nat.pow_succ] at hu; omega)
      omega
theorem dec_acc (n : Nat) : pnAcc (Lib.decDigits n) = n ∧ (Lib.decDigits n).all isDg = true := by
  induction n using Nat.strongRecOn with
  | ind n ih =>
    rw [Lib.decDigits]
    by_cases h : n < 10
    · rw [dif_pos h]
      obtain ⟨h1, h2⟩ := digit_is h
      exact ⟨by show 0 * 10 + dgVal _ = n; omega, by rw [List.all_cons, h1]; rfl⟩
    · rw [dif_neg h]
      obtain ⟨i1, i2⟩ := ih (n / 10) (by omega)
      obtain ⟨h1, h2⟩ := digit_is (k := n % 10) (by omega)
      refine ⟨by rw [pnAcc_snoc, i1, h2]; omega, ?_⟩
      rw [List.all_append, i2, List.all_cons, h1]
      rfl

/-- The numeral of an int is parsed just where it is a word. -/
theorem pn_itoa (m : Int) : (pnOk (Lib.itoa m) 65535 = decide (0 ≤ m ∧ m ≤ 65535)) ∧ (0 ≤ m → m ≤ 65535 → pnVal (Lib.itoa m) 65535 = m) := by
  by_cases h0 : 0 ≤ m
  · obtain ⟨n, rfl⟩ := Int.eq_ofNat_of_zero_le h0
    rw [Lib.itoa_nonneg]
    obtain ⟨h1, h2⟩ := dec_acc n
    have h3 := pnTo_lt _ h2
    rw [h1] at h3
    by_cases hn : n ≤ 65535
    · have hl5 : (Lib.decDigits n).length ≤ 5 := by rw [Lib.decDigits_length]; exact nDigits_le5 5 n (by omega) (by omega)
      have hl1 : 1 ≤ (Lib.decDigits n).length := List.length_pos_iff.2 (dec_ne_nil n)
      have hz : (Lib.decDigits n).length = 1 ∨ (Lib.decDigits n)[0]? ≠ some 48 := by
        rcases Nat.eq_zero_or_pos n with h | h
        · subst h; exact .inl (by rw [Lib.decDigits_one (by omega)]; rfl)
        · exact .inr (dec_head n h)
      obtain ⟨e1, e2⟩ := pn_yes (l := Lib.decDigits n) (most := 65535) ⟨hl1, hl5, by omega, hz, h2, by rw [h1]; omega⟩
      rw [e1, e2, h1]
      exact ⟨by symm; rw [decide_eq_true_iff]; omega, fun _ _ => rfl⟩
    · obtain ⟨e1, e2⟩ := pn_no (l := Lib.decDigits n) (most := 65535) (fun h => by have := h.2.2.2.2.2; rw [h1] at this; omega)
      rw [e1, e2]
      exact ⟨by symm; rw [decide_eq_false_iff_not]; omega, fun _ h => by omega⟩
  · obtain ⟨n, rfl⟩ : ∃ n : Nat, m = -(n : Int) := ⟨m.natAbs, by omega⟩
    rw [Lib.itoa_neg n (by omega)]
    obtain ⟨e1, e2⟩ := pn_digit (l := 45 :: Lib.decDigits n) (most := 65535) (k := 0) (b := 45) rfl (by decide)
    rw [e1, e2]
    exact ⟨by symm; rw [decide_eq_false_iff_not]; omega, fun h => absurd h h0⟩
/-- The three ways of an int: a word, below, above. -/
theorem pn_ways (m : Int) : (0 ≤ m ∧ m ≤ 65535 ∧ pnOk (Lib.itoa m) 65535 = true ∧ pnVal (Lib.itoa m) 65535 = m) ∨ (m < 0 ∧ pnOk (Lib.itoa m) 65535 = false ∧ pnVal (Lib.itoa m) 65535 = 0) ∨ (0 ≤ m ∧ 65535 < m ∧ pnOk (Lib.itoa m) 65535 = false ∧ pnVal (Lib.itoa m) 65535 = 0) := by
  obtain ⟨h1, h2⟩ := pn_itoa m
  by_cases h0 : 0 ≤ m
  · by_cases h6 : m ≤ 65535
    · exact .inl ⟨h0, h6, by rw [h1]; exact decide_eq_true ⟨h0, h6⟩, h2 h0 h6⟩
    · have hf : pnOk (Lib.itoa m) 65535 = false := by rw [h1]; exact decide_eq_false (fun h => h6 h.2)
      exact .inr (.inr ⟨h0, by omega, hf, by unfold pnVal; rw [hf]; rfl⟩)
  · have hf : pnOk (Lib.itoa m) 65535 = false := by rw [h1]; exact decide_eq_false (fun h => h0 h.1)
    exact .inr (.inl ⟨by omega, hf, by unfold pnVal; rw [hf]; rfl⟩)
theorem itoa_len (m : Int) (h0 : -9223372036854775808 ≤ m) (h1 : m ≤ 9223372036854775807) : (Lib.itoa m).length ≤ 21 := by
  have key : ∀ n : Nat, n ≤ 9223372036854775808 → (Lib.decDigits n).length ≤ 20 := fun n hn => by
    rw [Lib.decDigits_length]
    exact nDigits_le5 20 n (by omega) (by omega)
  unfold Lib.itoa
  split
  · have := key m.natAbs (by omega)
    simp; omega
  · have := key m.toNat (by omega)
    omega
theorem pn_back {l : List UInt8} {most : Int} (h : pnOk l most = true) : Lib.itoa (pnVal l most) = l ∧ pnVal l most ≤ most ∧ 0 ≤ pnVal l most ∧ pnVal l most ≤ 65535 := by
  have hc := of_decide_eq_true h
  obtain ⟨e1, e2⟩ := pn_yes hc
  obtain ⟨c1, c2, c3, c4, c5, c6⟩ := hc
  have := (dec_back l c5 (by intro e; rw [e] at c1; simp at c1) c4).1
  rw [e2]
  exact ⟨by rw [Lib.itoa_nonneg]; exact this, c6, by omega, by omega⟩

/-- A word behind other bytes is read. -/
theorem gw_put (l : List UInt8) (n : Int) : gwOk (l ++ wordBytes n) l.length = true ∧ gwVal (l ++ wordBytes n) l.length = n % 65536 ∧ gwNext (l ++ wordBytes n) l.length = (l.length : Int) + 2 := by
  obtain ⟨h1, h2, h3⟩ := gw_yes (l := l ++ wordBytes n) (k := l.length) (x := u8 (n / 256)) (y := u8 n) (by simp [wordBytes]) (by simp [wordBytes]) (by simp [wordBytes])
  refine ⟨h1, ?_, h3⟩
  rw [h2, u8_cell, u8_cell]
  omega

/-- A text behind other bytes is read. -/
theorem gt_put {l s : List UInt8} (h : okB s = true) : gtO (ptB l s) l.length = some (s, (l.length : Int) + 1 + s.length) := by
  have hs := okB_len h
  have hu : (u8 (s.length : Int)).toNat = s.length := by have := u8_cell s.length; omega
  have e : ptB l s = l ++ (u8 s.length :: s) := by unfold ptB; rw [if_pos h]
  rw [e, gt_in (u := u8 s.length) (by simp) (by simp), hu]
  rw [if_neg (by simp; omega)]
  have e2 : ((l ++ (u8 (s.length : Int) :: s)).drop (l.length + 1)).take s.length = s := by
    rw [List.drop_append]
    simp [List.drop_eq_nil_of_le]
  rw [e2, if_pos h]
theorem ptB_length {l s : List UInt8} (h : okB s = true) : (ptB l s).length = l.length + 1 + s.length := by
  unfold ptB; rw [if_pos h]; simp; omega
/-- A text that lacks its last byte is not. -/
theorem gt_cut {l s : List UInt8} (h : okB s = true) : gtO ((ptB l s).take ((ptB l s).length - 1)) l.length = none := by
  have hs := okB_len h
  have hu : (u8 (s.length : Int)).toNat = s.length := by have := u8_cell s.length; omega
  have hl := ptB_length (l := l) h
  have e : ptB l s = l ++ (u8 s.length :: s) := by unfold ptB; rw [if_pos h]
  rcases Nat.eq_zero_or_pos s.length with h0 | h0
  · refine gt_out (.inr ?_)
    rw [List.length_take]
    omega
  · rw [gt_in (u := u8 s.length) (by rw [List.length_take]; omega) (by rw [List.getElem?_take, if_pos (by omega), e]; simp), hu, List.length_take]
    rw [if_pos (by omega)]

end Go.Proofs.YtlnmlfpkpplgoaaDoor
