/- Numerals of up to five digits in plain numbers. Over no program. -/
import Derived.Lib.ItoaNum
namespace Go.Proofs.YtlnmlfpkpplgoaaDoor
set_option maxRecDepth 100000

def isDg (b : UInt8) : Bool := decide (48 ≤ b.toNat) && decide (b.toNat ≤ 57)
def dgVal (b : UInt8) : Nat := b.toNat - 48
/-- The number that the digits spell. -/
def pnAcc (l : List UInt8) : Nat := l.foldl (fun a b => a * 10 + dgVal b) 0
def pnTo (l : List UInt8) (k : Nat) : Nat := pnAcc (l.take k)
def dgTo (l : List UInt8) (k : Nat) : Prop := (l.take k).all isDg = true

theorem isDg_bd {b : UInt8} (h : isDg b = true) : 48 ≤ b.toNat ∧ b.toNat ≤ 57 := by
  unfold isDg at h
  rw [Bool.and_eq_true] at h
  exact ⟨of_decide_eq_true h.1, of_decide_eq_true h.2⟩
theorem isDg_yes {b : UInt8} (h1 : 48 ≤ b.toNat) (h2 : b.toNat ≤ 57) : isDg b = true := by
  unfold isDg; rw [decide_eq_true h1, decide_eq_true h2]; rfl
theorem isDg_no {b : UInt8} (h : b.toNat < 48 ∨ 57 < b.toNat) : isDg b = false := by
  unfold isDg
  rcases h with h | h
  · rw [decide_eq_false (by omega)]; rfl
  · rw [decide_eq_false (p := b.toNat ≤ 57) (by omega), Bool.and_false]
theorem dgVal_lt {b : UInt8} (h : isDg b = true) : dgVal b < 10 := by have := isDg_bd h; unfold dgVal; omega
theorem dg_back {b : UInt8} (h : isDg b = true) : UInt8.ofNat (48 + dgVal b) = b := by
  have := isDg_bd h
  unfold dgVal
  rw [show 48 + (b.toNat - 48) = b.toNat by omega]
  simp

theorem pnAcc_snoc (l : List UInt8) (b : UInt8) : pnAcc (l ++ [b]) = pnAcc l * 10 + dgVal b := by simp [pnAcc, List.foldl_append]
theorem pnTo_zero (l : List UInt8) : pnTo l 0 = 0 := rfl
theorem pnTo_succ {l : List UInt8} {k : Nat} {b : UInt8} (h : l[k]? = some b) : pnTo l (k + 1) = pnTo l k * 10 + dgVal b := by
  unfold pnTo
  rw [List.take_add_one, h]
  exact pnAcc_snoc _ _
theorem pnTo_all (l : List UInt8) : pnTo l l.length = pnAcc l := by unfold pnTo; rw [List.take_length]
theorem dgTo_zero (l : List UInt8) : dgTo l 0 := by simp [dgTo]
theorem dgTo_succ {l : List UInt8} {k : Nat} {b : UInt8} (h : dgTo l k) (hb : l[k]? = some b) (hd : isDg b = true) : dgTo l (k + 1) := by
  unfold dgTo at *
  rw [List.take_add_one, hb, List.all_append, h]
  simp [hd]
theorem dgTo_all {l : List UInt8} (h : dgTo l l.length) : l.all isDg = true := by unfold dgTo at h; rwa [List.take_length] at h
theorem dg_bad {l : List UInt8} {k : Nat} {b : UInt8} (hb : l[k]? = some b) (hd : isDg b = false) : l.all isDg = false := by
  rw [List.all_eq_false]
  exact ⟨b, List.mem_of_getElem? hb, by simp [hd]⟩
/-- k digits spell a number below 10 to the k. -/
theorem pnTo_lt (l : List UInt8) (h : l.all isDg = true) : pnAcc l < 10 ^ l.length := by
  induction hl : l.length generalizing l with
  | zero =>
    have : l = [] := List.eq_nil_of_length_eq_zero hl
    subst this
    decide
  | succ n ih =>
    obtain ⟨l', b, rfl⟩ : ∃ l' b, l = l' ++ [b] := by
      rcases List.eq_nil_or_concat l with h0 | ⟨l', b, h0⟩
      · subst h0; simp at hl
      · exact ⟨l', b, by simpa using h0⟩
    rw [List.all_append, Bool.and_eq_true] at h
    have hb : isDg b = true := by simpa using h.2
    have h1 := ih l' h.1 (by simpa using hl)
    have h2 := dgVal_lt hb
    rw [pnAcc_snoc, Nat.pow_succ]
    omega
theorem dgTo_lt {l : List UInt8} {k : Nat} (h : dgTo l k) (hk : k ≤ l.length) : pnTo l k < 10 ^ k := by
  have := pnTo_lt (l.take k) h
  rwa [List.length_take, Nat.min_eq_left hk] at this

/-- Digits without a zero ahead are the numeral of their number. -/
theorem dec_back (l : List UInt8) (h : l.all isDg = true) (hne : l ≠ []) (hz : l.length = 1 ∨ l[0]? ≠ some 48) : Lib.decDigits (pnAcc l) = l ∧ (l[0]? ≠ some 48 → 1 ≤ pnAcc l) := by
  induction hl : l.length generalizing l with
  | zero => exact absurd (List.eq_nil_of_length_eq_zero hl) hne
  | succ n ih =>
    obtain ⟨l', b, rfl⟩ : ∃ l' b, l = l' ++ [b] := by
      rcases List.eq_nil_or_concat l with h0 | ⟨l', b, h0⟩
      · exact absurd h0 hne
      · exact ⟨l', b, by simpa using h0⟩
    rw [List.all_append, Bool.and_eq_true] at h
    have hb : isDg b = true := by simpa using h.2
    have hbd := isDg_bd hb
    have hv := dgVal_lt hb
    rcases l' with _ | ⟨x, t⟩
    · refine ⟨?_, ?_⟩
      · rw [pnAcc_snoc, show pnAcc [] = 0 from rfl, Nat.zero_mul, Nat.zero_add]
        rw [Lib.decDigits, dif_pos hv, dg_back hb]
        rfl
      · intro h0
        rw [pnAcc_snoc, show pnAcc [] = 0 from rfl]
        have hb48 : b ≠ 48 := by simpa using h0
        have : b.toNat ≠ 48 := fun e => hb48 (by rw [← UInt8.toNat_inj, e]; rfl)
        unfold dgVal
        omega
    · have hz' : (x :: t)[0]? ≠ some 48 := by
        rcases hz with h1 | h1
        · simp at h1
        · simpa using h1
      have hn : (x :: t).length = n := by simpa using hl
      obtain ⟨h1, h2⟩ := ih (x :: t) h.1 (by simp) (.inr hz') hn
      have h3 := h2 hz'
      refine ⟨?_, fun _ => by rw [pnAcc_snoc]; omega⟩
      rw [pnAcc_snoc, Lib.decDigits, dif_neg (by omega)]
      rw [show (pnAcc (x :: t) * 10 + dgVal b) / 10 = pnAcc (x :: t) by omega, show (pnAcc (x :: t) * 10 + dgVal b) % 10 = dgVal b by omega, h1, dg_back hb]
theorem dec_ne_nil (u : Nat) : Lib.decDigits u ≠ [] := by
  intro h
  have := Lib.decDigits_length u
  rw [h] at this
  have hp := Lib.nDigits_pos u
  simp at this
  omega
theorem dec_head (u : Nat) (h : 1 ≤ u) : (Lib.decDigits u)[0]? ≠ some 48 := by
  induction u using Nat.strongRecOn with
  | ind u ih =>
    rw [Lib.decDigits]
    by_cases h10 : u < 10
    · rw [dif_pos h10]
      intro e
      have e' : UInt8.ofNat (48 + u) = 48 := by simpa using e
      have := congrArg UInt8.toNat e'
      simp at this
      omega
    · rw [dif_neg h10]
      have h1 := ih (u / 10) (by omega) (by omega)
      have hne := dec_ne_nil (u / 10)
      rw [List.getElem?_append_left (List.length_pos_iff.2 hne)]
      exact h1
/-- A numeral with a zero ahead is no numeral. -/
theorem dec_no {l : List UInt8} (h1 : 1 < l.length) (h0 : l[0]? = some 48) (n : Nat) : Lib.decDigits n ≠ l := by
  intro e
  rcases Nat.eq_zero_or_pos n with hn | hn
  · subst hn
    rw [Lib.decDigits_one (by omega)] at e
    rw [← e] at h1
    simp at h1
  · have := dec_head n hn
    rw [e] at this
    exact this h0

/-- Is the text the numeral of an integer from 0 to most? -/
def pnOk (l : List UInt8) (most : Int) : Bool := decide (1 ≤ l.length ∧ l.length ≤ 5 ∧ most ≤ 65535 ∧ (l.length = 1 ∨ l[0]? ≠ some 48) ∧ l.all isDg = true ∧ (pnAcc l : Int) ≤ most)
def pnVal (l : List UInt8) (most : Int) : Int := if pnOk l most then (pnAcc l : Nat) else 0
theorem pn_no {l : List UInt8} {most : Int} (h : ¬ (1 ≤ l.length ∧ l.length ≤ 5 ∧ most ≤ 65535 ∧ (l.length = 1 ∨ l[0]? ≠ some 48) ∧ l.all isDg = true ∧ (pnAcc l : Int) ≤ most)) : pnOk l most = false ∧ pnVal l most = 0 := by
  have e : pnOk l most = false := decide_eq_false h
  exact ⟨e, by unfold pnVal; rw [e]; rfl⟩
theorem pn_lead {l : List UInt8} {most : Int} (h1 : 1 < l.length) (h0 : l[0]? = some 48) : pnOk l most = false ∧ pnVal l most = 0 :=
  pn_no fun h => by
    rcases h.2.2.2.1 with h2 | h2
    · omega
    · exact h2 h0
theorem pn_digit {l : List UInt8} {most : Int} {k : Nat} {b : UInt8} (hb : l[k]? = some b) (hd : isDg b = false) : pnOk l most = false ∧ pnVal l most = 0 :=
  pn_no fun h => by
    rw [dg_bad hb hd] at h
    exact absurd h.2.2.2.2.1 (by simp)
theorem pn_yes {l : List UInt8} {most : Int} (h : 1 ≤ l.length ∧ l.length ≤ 5 ∧ most ≤ 65535 ∧ (l.length = 1 ∨ l[0]? ≠ some 48) ∧ l.all isDg = true ∧ (pnAcc l : Int) ≤ most) : pnOk l most = true ∧ pnVal l most = (pnAcc l : Nat) := by
  have e : pnOk l most = true := decide_eq_true h
  exact ⟨e, by unfold pnVal; rw [e]; rfl⟩

end Go.Proofs.YtlnmlfpkpplgoaaDoor
