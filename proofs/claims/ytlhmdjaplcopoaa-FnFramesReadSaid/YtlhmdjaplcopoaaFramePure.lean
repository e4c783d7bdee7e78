/- What the laws of chapter 6 say, in plain lists. -/
import Derived.Test.YtlhmdjaplcopoaaFrames
namespace Go.Proofs.Ytlhmdjaplcopoaa
open Go.RowKit
set_option linter.unusedVariables false

theorem u8_back {n : Nat} (h : n ≤ 255) : (u8 (n : Int)).toNat = n := by
  have := u8_cell (n : Int)
  omega
theorem getF_cons {a b : UInt8} {r : List UInt8} {k : Int} (hk : (a.toNat : Int) = k) (h : k = 1 ∨ k = 2 ∨ k = 4 ∨ k = 6) :
    getF (a :: b :: r) = if 100 < b.toNat then badF else if r.length < b.toNat then waitF else if frB ⟨k, ⟨(r.take b.toNat).toArray⟩, 0⟩ = true then (⟨k, ⟨(r.take b.toNat).toArray⟩, 0⟩, 2 + (b.toNat : Int), 0) else badF := by
  have hg : gK (a :: b :: r) = k := hk
  rw [getF_t (by simp) (by omega) (by omega) (by omega)]
  have hl : gL (a :: b :: r) = b.toNat := rfl
  have ht : txF (a :: b :: r) = ⟨k, ⟨(r.take b.toNat).toArray⟩, 0⟩ := by unfold txF; rw [hg, hl]; rfl
  rw [hl, ht]
  have e : ((a :: b :: r).length < 2 + b.toNat) = (r.length < b.toNat) := by simp; omega
  simp only [e]
theorem put_text {k : Int} {s : ByteArray} {st : Int} (h : frB ⟨k, s, st⟩ = true) (hk : k = 1 ∨ k = 2 ∨ k = 4 ∨ k = 6) : putF ⟨k, s, st⟩ = u8 k :: u8 (s.data.toList.length : Int) :: s.data.toList ∧ st = 0 ∧ s.data.toList.length ≤ 100 := by
  have hok := frB_text h
  refine ⟨?_, ?_, okB_len hok⟩
  · rw [putF_t h (by show k ≠ 5; omega) (by show k ≠ 3; omega)]
    show ptB [u8 k] s.data.toList = _
    unfold ptB
    rw [if_pos hok]
    rfl
  · rcases hk with rfl | rfl | rfl | rfl
    · rw [frB_1, Bool.and_eq_true] at h; exact eq_of_beq h.2
    · rw [frB_2, Bool.and_eq_true] at h; exact eq_of_beq h.2
    · rw [frB_4, Bool.and_eq_true] at h; exact eq_of_beq h.2
    · rw [frB_6, Bool.and_eq_true] at h; exact eq_of_beq h.2
theorem u8_kind {k : Int} (h : k = 1 ∨ k = 2 ∨ k = 4 ∨ k = 6) : ((u8 k).toNat : Int) = k := by
  rw [u8_cell]; omega

/-- A frame comes back of its bytes, whatever is behind them. -/
theorem getF_put {f : Fr} (h : frB f = true) (t : List UInt8) : getF (putF f ++ t) = (f, ((putF f).length : Int), 0) := by
  obtain ⟨k, s, st⟩ := f
  have hkk := frB_kind h
  replace hkk : 1 ≤ k ∧ k ≤ 6 := hkk
  by_cases h3 : k = 3
  · subst h3
    rw [frB_3, Bool.and_eq_true] at h
    obtain rfl := (empty_iff s).1 h.1
    obtain rfl : st = 0 := eq_of_beq h.2
    rw [putF_3 rfl rfl, getF_3 (by simp) rfl]
    rfl
  by_cases h5 : k = 5
  · subst h5
    have hst := frB_st h
    have h0 := h
    rw [frB_5, Bool.and_eq_true] at h
    obtain rfl := (empty_iff s).1 h.1
    replace hst : 0 ≤ st ∧ st ≤ 2 := hst
    rw [putF_5 h0 rfl, getF_5 (by simp) rfl]
    have hl : gL ([u8 5] ++ [u8 st] ++ t) = st.toNat := by
      show (u8 st).toNat = st.toNat
      have := u8_cell st
      omega
    rw [show gL ([u8 (⟨5, ⟨#[]⟩, st⟩ : Fr).k] ++ [u8 (⟨5, ⟨#[]⟩, st⟩ : Fr).st] ++ t) = st.toNat from hl, if_pos (by omega)]
    have e : ((st.toNat : Nat) : Int) = st := by omega
    rw [e]
    rfl
  have hk : k = 1 ∨ k = 2 ∨ k = 4 ∨ k = 6 := by omega
  obtain ⟨hp, rfl, hle⟩ := put_text h hk
  rw [hp]
  show getF (u8 k :: u8 (s.data.toList.length : Int) :: (s.data.toList ++ t)) = _
  rw [getF_cons (u8_kind hk) hk, u8_back (by omega), if_neg (by omega), if_neg (by simp), List.take_left', if_pos h]
  · simp; omega
  · rfl
/-- Of a part of them more is waited for. -/
theorem getF_part {f : Fr} (h : frB f = true) {j : Nat} (hj : j < (putF f).length) : getF ((putF f).take j) = (⟨0, ⟨#[]⟩, 0⟩, 0, 1) := by
  by_cases h0 : j = 0
  · subst h0
    rw [getF_nil (by simp)]
    rfl
  obtain ⟨k, s, st⟩ := f
  have hkk := frB_kind h
  replace hkk : 1 ≤ k ∧ k ≤ 6 := hkk
  by_cases h3 : k = 3
  · subst h3
    rw [putF_3 h rfl] at hj
    simp at hj
    omega
  by_cases h5 : k = 5
  · subst h5
    rw [putF_5 h rfl] at hj ⊢
    simp at hj
    obtain rfl : j = 1 := by omega
    have hg : gK (([u8 5] ++ [u8 st]).take 1) = 5 := rfl
    show getF (([u8 5] ++ [u8 st]).take 1) = _
    rw [getF_1 (by simp) (by rw [hg]; decide) (by rw [hg]; decide)]
    rfl
  have hk : k = 1 ∨ k = 2 ∨ k = 4 ∨ k = 6 := by omega
  obtain ⟨hp, rfl, hle⟩ := put_text h hk
  rw [hp] at hj ⊢
  by_cases h1 : j = 1
  · subst h1
    have hg : gK ((u8 k :: u8 (s.data.toList.length : Int) :: s.data.toList).take 1) = k := u8_kind hk
    rw [getF_1 (by simp) (by rw [hg]; exact hkk) (by rw [hg]; exact h3)]
    rfl
  obtain ⟨i, rfl⟩ : ∃ i, j = i + 2 := ⟨j - 2, by omega⟩
  show getF (u8 k :: u8 (s.data.toList.length : Int) :: s.data.toList.take i) = _
  have hi : i < s.data.toList.length := by simp at hj; simpa using hj
  rw [getF_cons (u8_kind hk) hk, u8_back (by omega), if_neg (by omega), if_pos (by rw [List.length_take]; omega)]
  rfl
/-- What is not waited for stays as it is, whatever comes behind. -/
theorem getF_snoc {b : List UInt8} (x : UInt8) (h : (getF b).2.2 ≠ 1) : (getF (b ++ [x])).2.1 = (getF b).2.1 ∧ (getF (b ++ [x])).2.2 = (getF b).2.2 := by
  by_cases h0 : b.length = 0
  · rw [getF_nil h0] at h; exact absurd rfl h
  obtain ⟨a, r, rfl⟩ : ∃ a r, b = a :: r := by cases b with | nil => exact absurd rfl h0 | cons a r => exact ⟨a, r, rfl⟩
  have hgk : gK (a :: r ++ [x]) = gK (a :: r) := rfl
  have hn0 : (a :: r ++ [x]).length ≠ 0 := by simp
  by_cases hk : gK (a :: r) < 1 ∨ 6 < gK (a :: r)
  · rw [getF_out h0 hk, getF_out hn0 (by rw [hgk]; exact hk)]
    exact ⟨rfl, rfl⟩
  by_cases h3 : gK (a :: r) = 3
  · rw [getF_3 h0 h3, getF_3 hn0 (by rw [hgk]; exact h3)]
    exact ⟨rfl, rfl⟩
  cases r with
  | nil => rw [getF_1 rfl (by omega) h3] at h; exact absurd rfl h
  | cons c r =>
    by_cases h5 : gK (a :: c :: r) = 5
    · rw [getF_5 (by simp) h5, getF_5 (by simp) (by rw [hgk]; exact h5)]
      show (if c.toNat ≤ 2 then _ else _ : Fr × Int × Int).2.1 = _ ∧ _
      exact ⟨rfl, rfl⟩
    · have hkk : (a.toNat : Int) = 1 ∨ (a.toNat : Int) = 2 ∨ (a.toNat : Int) = 4 ∨ (a.toNat : Int) = 6 := by
        have e : gK (a :: c :: r) = (a.toNat : Int) := rfl
        rw [e] at hk h3 h5
        omega
      show (getF (a :: c :: (r ++ [x]))).2.1 = _ ∧ (getF (a :: c :: (r ++ [x]))).2.2 = _
      rw [getF_cons rfl hkk] at h
      rw [getF_cons rfl hkk, getF_cons rfl hkk]
      by_cases h1 : 100 < c.toNat
      · rw [if_pos h1, if_pos h1]; exact ⟨rfl, rfl⟩
      · rw [if_neg h1] at h
        rw [if_neg h1, if_neg h1]
        by_cases h2 : r.length < c.toNat
        · rw [if_pos h2] at h; exact absurd rfl h
        · rw [if_neg h2, if_neg (by simp; omega), List.take_append_of_le_length (by omega)]
          exact ⟨rfl, rfl⟩

def allF (xs : List Fr) : List UInt8 := xs.flatMap putF
theorem allF_snoc {xs : List Fr} {k : Nat} {x : Fr} (h : xs[k]? = some x) : allF (xs.take (k + 1)) = allF (xs.take k) ++ putF x := by
  rw [Rep.take_get h]
  simp [allF]
theorem all_frs : ∀ (k : Nat) (l : List UInt8), l.length ≤ k → allF (frs l).1 = l.take (allF (frs l).1).length ∧ (allF (frs l).1).length ≤ l.length ∧ ((frs l).2 = 0 → (allF (frs l).1).length = l.length) ∧ (∀ x, x ∈ (frs l).1 → frB x = true) := by
  intro k
  induction k with
  | zero => intro l h; rw [frs_nil (by omega)]; exact ⟨by simp [allF], by simp [allF], fun _ => by simp [allF]; omega, fun x hx => by cases hx⟩
  | succ k ih =>
    intro l h
    by_cases h0 : l.length = 0
    · rw [frs_nil h0]; exact ⟨by simp [allF], by simp [allF], fun _ => by simp [allF]; omega, fun x hx => by cases hx⟩
    · by_cases hc : (getF l).2.2 = 0
      · obtain ⟨n, hn, hn1, hn2, _, hfb, hpf⟩ := getF_good hc
        have hd : (l.drop n).length = l.length - n := List.length_drop
        obtain ⟨i1, i2, i3, i4⟩ := ih (l.drop n) (by omega)
        rw [frs_step h0 hc hn]
        have e : allF ((getF l).1 :: (frs (l.drop n)).1) = l.take n ++ allF (frs (l.drop n)).1 := by
          show putF (getF l).1 ++ _ = _
          rw [hpf]
          rfl
        have hlen : (l.take n).length = n := by rw [List.length_take]; omega
        refine ⟨?_, ?_, fun hz => ?_, fun x hx => ?_⟩
        · show allF ((getF l).1 :: (frs (l.drop n)).1) = l.take (allF ((getF l).1 :: (frs (l.drop n)).1)).length
          rw [e, List.length_append, hlen]
          conv => lhs; rw [i1]
          rw [List.take_add]
        · show (allF ((getF l).1 :: (frs (l.drop n)).1)).length ≤ _
          rw [e, List.length_append, hlen]
          omega
        · show (allF ((getF l).1 :: (frs (l.drop n)).1)).length = _
          rw [e, List.length_append, hlen, i3 hz]
          omega
        · rcases List.mem_cons.1 hx with rfl | hx
          · exact hfb
          · exact i4 x hx
      · rw [frs_stop h0 hc]; exact ⟨by simp [allF], by simp [allF], fun hz => absurd hz hc, fun x hx => by cases hx⟩

end Go.Proofs.Ytlhmdjaplcopoaa
