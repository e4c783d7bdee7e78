/- What PutItem gives, in plain lists. (By gen_l9c.py.) -/
import Derived.Test.YtgdhhhibkhfdlaaTItem
import Derived.Test.YtgdhhhibkhfdlaaAskBytes
import Derived.Test.YtgdhhhibkhfdlaaLinOk
namespace Go.Proofs.Ytgdhhhibkhfdlaa
open Go.RowKit
set_option linter.unusedVariables false

def itemB (x : It) : List UInt8 :=
  if x.kind = 1 then (if akB x.a = true ∧ lnEqB x.l lnZero = true ∧ x.a.lease ≤ 65535 then akBytes x.a else [])
  else if x.kind = 2 then (if lnB x.l = true ∧ akEqB x.a akZero = true ∧ x.l.lease ≤ 65535 then lnBytes x.l else [])
  else []
theorem inI_bd {n lo hi : Int} (h : inI n lo hi = true) : lo ≤ n ∧ n ≤ hi := of_decide_eq_true h
theorem akB_since {a : Ak} (h : akB a = true) : 0 ≤ a.since ∧ a.since ≤ 100000 := by
  unfold akB at h
  simp only [Bool.and_eq_true] at h
  obtain ⟨_, h⟩ := h
  split at h
  · have := akEqB_true h
    have e : a.since = 0 := by rw [this]
    omega
  · simp only [Bool.and_eq_true] at h
    obtain ⟨_, h⟩ := h
    split at h
    · have := akEqB_true h
      have e : a.since = 0 := by rw [this]
      omega
    · split at h
      · simp only [Bool.and_eq_true] at h
        exact inI_bd h.2.1
      · split at h
        · simp only [Bool.and_eq_true] at h
          have := akEqB_true h.2.2
          have e : a.since = 0 := by rw [this]
          omega
        · split at h
          · simp only [Bool.and_eq_true] at h
            have := akEqB_true h.2.2
            have e : a.since = 0 := by rw [this]
            omega
          · cases h
theorem lnB_since {x : Ln} (h : lnB x = true) : 0 ≤ x.since ∧ x.since ≤ 100000 := by
  unfold lnB at h
  simp only [Bool.and_eq_true] at h
  obtain ⟨_, _, _, h⟩ := h
  split at h
  · simp only [Bool.and_eq_true] at h
    exact inI_bd h.1
  · split at h
    · simp only [Bool.and_eq_true] at h
      have : x.since = 0 := by simpa using h.1
      omega
    · cases h
theorem itemB_len (x : It) : (itemB x).length ≤ 220 := by
  unfold itemB
  split
  · split
    · exact akBytes_len _
    · simp
  · split
    · split
      · exact lnBytes_len _
      · simp
    · simp
theorem ptB_app (l s : List UInt8) : ptB l s = l ++ ptB [] s := by
  unfold ptB
  split <;> simp
theorem u8_mod (n : Int) : u8 (n % 256) = u8 n := by
  unfold u8
  rw [Int.emod_emod]
theorem ak_chain (x : Ak) : ((ptB (((ptB (([u8 1] ++ wordBytes x.sock) ++ [u8 x.st]) x.db.data.toList ++ wordBytes x.ticket) ++ wordBytes (x.since / 256)) ++ [u8 x.since]) x.q.data.toList) ++ wordBytes x.line) ++ wordBytes x.lease = akBytes x := by
  rw [ptB_app (_ ++ [u8 x.since]), ptB_app (_ ++ [u8 x.st])]
  unfold akBytes momB
  rw [u8_mod]
  simp only [List.append_assoc]
theorem ln_chain (x : Ln) : ((((ptB (([u8 2] ++ wordBytes x.sock) ++ [u8 x.st]) x.db.data.toList ++ wordBytes x.gen) ++ wordBytes (x.since / 256)) ++ [u8 x.since]) ++ wordBytes x.asker) ++ wordBytes x.lease = lnBytes x := by
  rw [ptB_app (_ ++ [u8 x.st])]
  unfold lnBytes momB
  rw [u8_mod]
  simp only [List.append_assoc]
end Go.Proofs.Ytgdhhhibkhfdlaa
