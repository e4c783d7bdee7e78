/- A slice of bytes as data: what the exact laws do with it. (Cut out of XExact.) -/
import Derived.Test.YtgdhhhibkhfdlaaByR
import Derived.Deep.RegionHeld3
namespace Go.Proofs.Ytgdhhhibkhfdlaa
open Go.RowKit
set_option linter.unusedVariables false

def OkAny (l : List UInt8) : Prop := True
def FitsB (l : List UInt8) : Prop := l.length ≤ 1048576
theorem byte_at_shape {w : World} {B : Nat} {cs : List Value} {l : List UInt8} (h : byR.at_ w B cs l) : ∃ A c, cs = [.slice A l.length c] := by
  obtain ⟨A, c, rfl, _⟩ := h
  exact ⟨A, c, rfl⟩
theorem byte_own_shape {w : World} {base : Nat} {cs : List Value} {l : List UInt8} {fp : List Nat} (h : byR.own w base cs l fp) : ∃ A c, cs = [.slice A l.length c] := byte_at_shape (Rep.reads byR h)
theorem byte_cnt_le {l : List UInt8} (h : l.length ≤ 1048576) : l.length ≤ 8796093022208 := by omega

theorem byt_opens_ok : Rep.Opens Try.prog 22 byR OkAny := byt_opens

/-- Bytes of the call's own, as data. -/
def RetB (w : World) (l : List UInt8) (e : Ending) (w' : World) : Prop := ∃ A c fp, e = .returned (.slice A l.length c) ∧ byR.own w' w.heap.size [.slice A l.length c] l fp ∧ Below w.heap.size w w'

def markB (k : Nat) (l : List UInt8) : List UInt8 := marks k l.length

theorem byte_of {w : World} {B : Nat} {cs : List Value} {l : List UInt8} (h : byR.at_ w B cs l) : ∃ A c, cs.headD undef = .slice A l.length c ∧ l.length ≤ c ∧ Reads w B 1 A l.length (bys l) := by
  obtain ⟨A, c, rfl, hc, hr⟩ := h
  exact ⟨A, c, rfl, hc.1, hr⟩

theorem toByteS_rep (cs : List Value) (l : List UInt8) (w : World) (h : byR.at_ w w.heap.size cs l) (hf : FitsB l) : Calls Try.prog 62 #[cs.headD undef] w (RetB w l) := by
  obtain ⟨A, c, hv, _, hr⟩ := byte_of h
  rw [hv]
  unfold FitsB at hf
  refine (toByteS_any A c l w hr (by omega)).mono ?_
  rintro e w' ⟨v, rfl, ho, hb⟩
  obtain ⟨A', c', rfl, _⟩ := ho.shape
  exact ⟨A', c', _, rfl, ⟨_, rfl, ho, rfl⟩, hb⟩

theorem eqByteS_rep (cs cs' : List Value) (l : List UInt8) (w : World) (h : byR.at_ w w.heap.size cs l) (h' : byR.at_ w w.heap.size cs' l) (hf : FitsB l) : Calls Try.prog 64 #[cs.headD undef, cs'.headD undef] w fun e w' => e = .returned (.bool true) ∧ Below w.heap.size w w' := by
  obtain ⟨A, c, hv, _, hr⟩ := byte_of h
  obtain ⟨A', c', hv', _, hr'⟩ := byte_of h'
  rw [hv, hv']
  unfold FitsB at hf
  refine (eqByteS_same A A' c c' l w hr hr' (by omega)).mono ?_
  rintro e w' ⟨rfl, n, rfl⟩
  exact ⟨rfl, belowD (Below.refl _ _) n⟩

end Go.Proofs.Ytgdhhhibkhfdlaa
