/- Frames: what a frame is in memory, when it is right, what its bytes are, what bytes give. In plain lists. -/
import Derived.Test.YtcelkmphdeaaeaaName
import Derived.Test.YtcelkmphdeaaeaaPutText
import Derived.Test.YtcelkmphdeaaeaaTFrame
namespace Go.Proofs.Ytcelkmphdeaaeaa
open Go.RowKit
set_option linter.unusedVariables false

def zeroFr : Fr := ⟨0, ⟨#[]⟩, 0⟩

/-- Whether a kind is one that bears a text. -/
def txtK (k : Int) : Bool := decide (k = 2) || decide (k = 4) || decide (k = 6)
def frB (f : Fr) : Bool :=
  if f.k = 1 then nameB f.s.data.toList && (f.st == 0)
  else if f.k = 2 ∨ f.k = 4 ∨ f.k = 6 then okB f.s.data.toList && (f.st == 0)
  else if f.k = 5 then (f.s.data.toList == []) && inI f.st 0 2
  else if f.k = 3 then (f.s.data.toList == []) && (f.st == 0)
  else false

/-- The bytes of a frame. -/
def putF (f : Fr) : List UInt8 :=
  if frB f = false then []
  else if f.k = 5 then [u8 f.k] ++ [u8 f.st]
  else if f.k = 3 then [u8 f.k]
  else ptB [u8 f.k] f.s.data.toList
theorem putF_no {f : Fr} (h : frB f = false) : putF f = [] := if_pos h
theorem putF_5 {f : Fr} (h : frB f = true) (hk : f.k = 5) : putF f = [u8 f.k] ++ [u8 f.st] := by
  unfold putF
  rw [if_neg (by rw [h]; decide), if_pos hk]
theorem putF_3 {f : Fr} (h : frB f = true) (hk : f.k = 3) : putF f = [u8 f.k] := by
  unfold putF
  rw [if_neg (by rw [h]; decide), if_neg (by omega), if_pos hk]
theorem putF_t {f : Fr} (h : frB f = true) (hk : f.k ≠ 5) (hk3 : f.k ≠ 3) : putF f = ptB [u8 f.k] f.s.data.toList := by
  unfold putF
  rw [if_neg (by rw [h]; decide), if_neg hk, if_neg hk3]
theorem putF_len (f : Fr) : (putF f).length ≤ 102 := by
  unfold putF
  split
  · simp
  · split
    · simp
    · split
      · simp
      · exact ptB_len _ _

/-- The word of a kind, the text of a frame. -/
def wordK (k : Int) : ByteArray :=
  if k = 1 then ⟨#[104, 101, 108, 108, 111]⟩ else if k = 2 then ⟨#[113, 117, 101, 114, 121]⟩ else if k = 3 then ⟨#[98, 121, 101]⟩ else if k = 4 then ⟨#[114, 111, 119]⟩ else if k = 5 then ⟨#[114, 101, 97, 100, 121]⟩ else ⟨#[101, 114, 114, 111, 114]⟩
def digB (n : Nat) : UInt8 := UInt8.ofNat (48 + n)
def textF (f : Fr) : ByteArray :=
  if frB f = false then ⟨#[]⟩
  else if f.k = 5 then (wordK 5 ++ ⟨#[32]⟩) ++ ⟨#[digB f.st.toNat]⟩
  else if (f.s.data.toList == []) = true then wordK f.k
  else (wordK f.k ++ ⟨#[32]⟩) ++ f.s

theorem empty_iff (s : ByteArray) : (s.data.toList == []) = true ↔ s = ⟨#[]⟩ := by
  obtain ⟨⟨l⟩⟩ := s
  cases l <;> simp

theorem frB_1 (s : ByteArray) (st : Int) : frB ⟨1, s, st⟩ = (nameB s.data.toList && (st == 0)) := rfl
theorem frB_2 (s : ByteArray) (st : Int) : frB ⟨2, s, st⟩ = (okB s.data.toList && (st == 0)) := rfl
theorem frB_3 (s : ByteArray) (st : Int) : frB ⟨3, s, st⟩ = ((s.data.toList == []) && (st == 0)) := rfl
theorem frB_4 (s : ByteArray) (st : Int) : frB ⟨4, s, st⟩ = (okB s.data.toList && (st == 0)) := rfl
theorem frB_5 (s : ByteArray) (st : Int) : frB ⟨5, s, st⟩ = ((s.data.toList == []) && inI st 0 2) := rfl
theorem frB_6 (s : ByteArray) (st : Int) : frB ⟨6, s, st⟩ = (okB s.data.toList && (st == 0)) := rfl
theorem frB_no {f : Fr} (h : f.k < 1 ∨ 6 < f.k) : frB f = false := by
  unfold frB
  rw [if_neg (by omega), if_neg (by omega), if_neg (by omega), if_neg (by omega)]

/-- The six kinds, and every other. -/
theorem kinds (k : Int) : k = 1 ∨ k = 2 ∨ k = 3 ∨ k = 4 ∨ k = 5 ∨ k = 6 ∨ (k < 1 ∨ 6 < k) := by omega

end Go.Proofs.Ytcelkmphdeaaeaa
