/- Texts as data; marks; the fields of a struct compared one by one. -/
import Derived.Test.YtgdhhhibkhfdlaaRepMore
import Derived.Test.YtgdhhhibkhfdlaaOpen
import Derived.Laws.StructEq
import Derived.ChangeKeysEq
import Derived.WalkKit
namespace Go.Proofs.Ytgdhhhibkhfdlaa
open Go.RowKit
set_option linter.unusedVariables false

def strR (m : Nat → ByteArray) : Rep ByteArray := Rep.leaf (fun s => .string s) (fun k _ => m k)

def digF : Nat → Nat → List UInt8
  | 0, _ => []
  | f + 1, k => if k = 0 then [] else digF f (k / 10) ++ [UInt8.ofNat (48 + k % 10)]

def markText (k : Nat) : ByteArray := ⟨(109 :: (if k = 0 then [48] else digF k k)).toArray⟩

open Go.ChangeShapes Go.WideShapes Go.Deep in
theorem Rep.Opens.str {P : Program} {t : TypeId} (m : Nat → ByteArray) (ht : P.underlying t = some .string) : Rep.Opens P t (strR m) (fun s => s.size ≤ maxLen) := by
  intro H enc w base spare held fuel cs x h
  obtain ⟨s, rfl, _, hs⟩ := DataW.trod_string ht h
  exact ⟨s, rfl, hs⟩

theorem list_bytes {a b : ByteArray} (h : (a.toList == b.toList) = true) : a = b := by
  have h1 : a.toList = b.toList := by simpa using h
  obtain ⟨⟨l⟩⟩ := a
  obtain ⟨⟨m⟩⟩ := b
  rw [ByteArray.toList_mk, ByteArray.toList_mk] at h1
  rw [h1]

theorem eqFields_cons {P : Program} (d : Nat) (xs ys : Array Value) (f : Field) (fs : List Field) (t o : Nat) (a b : Value) (r : Bool) (w : World) (hf : (f.type, f.offset, decide (f.name = "_")) = (t, o, false))
    (ha : (part t xs o).run P w = .ok a w) (hb : (part t ys o).run P w = .ok b w) (hr : (Op.equalIn d t a b).run P w = .ok r w) :
    (Op.eqFields d xs ys (f :: fs)).run P w = if r = true then (Op.eqFields d xs ys fs).run P w else .ok false w := by
  simp only [Prod.mk.injEq] at hf
  obtain ⟨rfl, rfl, h3⟩ := hf
  have h4 : f.name ≠ "_" := of_decide_eq_false h3
  simp only [Op.eqFields, if_pos h4, Sem.run_bind, ha, hb, hr, Result.andThen_ok]
  cases r
  · simp [Sem.run_pure]
  · simp

theorem Try.strKey : Try.prog.plainKey 9 = true := by kernel_rfl

theorem Try.intKey : Try.prog.plainKey 3 = true := by kernel_rfl

end Go.Proofs.Ytgdhhhibkhfdlaa
