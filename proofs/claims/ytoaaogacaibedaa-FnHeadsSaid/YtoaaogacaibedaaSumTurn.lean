/- Bytes with their sum behind them: one byte turned, and the sum is wrong. -/
import Derived.Test.YtoaaogacaibedaaRet
import Derived.Test.YtoaaogacaibedaaTurn
namespace Go.Proofs.Ytoaaogacaibedaa
open Go.RowKit
set_option linter.unusedVariables false

theorem withSum_len (b : List UInt8) : (withSum b).length = b.length + 2 := by simp [withSum, wordBytes]

theorem wordBytes_inj {m n : Nat} (hm : m < 65536) (hn : n < 65536) (h : wordBytes (m : Int) = wordBytes (n : Int)) : m = n := by
  unfold wordBytes at h
  injection h with h1 h2
  injection h2 with h2 _
  have a1 := u8_cell ((m : Int) / 256)
  have a2 := u8_cell ((n : Int) / 256)
  have a3 := u8_cell (m : Int)
  have a4 := u8_cell (n : Int)
  rw [h1] at a1
  rw [h2] at a3
  omega

/-- A row of bytes with its sum, one byte turned: its sum is wrong. -/
theorem sum_turned {x : List UInt8} {i : Nat} {c c' : UInt8} (hi : (withSum x)[i]? = some c) (hne : c' ≠ c) : ((withSum x).set i c') = withSum (((withSum x).set i c').take (((withSum x).set i c').length - 2)) → False := by
  intro h
  have hlen : ((withSum x).set i c').length - 2 = x.length := by rw [List.length_set, withSum_len]; omega
  rw [hlen] at h
  by_cases hlt : i < x.length
  · have hx : x[i]? = some c := by rw [← hi]; unfold withSum; rw [List.getElem?_append_left hlt]
    have e1 : (withSum x).set i c' = x.set i c' ++ wordBytes (crc x) := by unfold withSum; rw [List.set_append_left _ _ hlt]
    have e2 : (x.set i c' ++ wordBytes (crc x)).take x.length = x.set i c' := List.take_left' (by simp)
    rw [e1, e2] at h
    unfold withSum at h
    have h2 := List.append_cancel_left h
    exact crc_set hx hne (wordBytes_inj (crc_lt _) (crc_lt _) h2).symm
  · have hge : x.length ≤ i := by omega
    have e1 : (withSum x).set i c' = x ++ (wordBytes (crc x)).set (i - x.length) c' := by unfold withSum; rw [List.set_append_right _ _ hge]
    have e2 : (x ++ (wordBytes (crc x)).set (i - x.length) c').take x.length = x := List.take_left' rfl
    rw [e1, e2] at h
    unfold withSum at h
    have h2 := List.append_cancel_left h
    have hg : (wordBytes (crc x))[i - x.length]? = some c := by rw [← hi]; unfold withSum; rw [List.getElem?_append_right hge]
    rw [← h2] at hg
    rw [List.getElem?_set] at hg
    have hlt2 : i - x.length < (wordBytes (crc x : Int)).length := by
      rcases Nat.lt_or_ge (i - x.length) (wordBytes (crc x : Int)).length with h3 | h3
      · exact h3
      · rw [if_pos rfl, if_neg (by omega)] at hg; cases hg
    rw [if_pos rfl, if_pos hlt2] at hg
    injection hg with hg
    exact hne hg

end Go.Proofs.Ytoaaogacaibedaa
