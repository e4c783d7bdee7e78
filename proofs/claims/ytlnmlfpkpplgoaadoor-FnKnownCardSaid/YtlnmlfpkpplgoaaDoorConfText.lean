/- ConfText, of the program and of the model. -/
import Derived.Test.YtlnmlfpkpplgoaaDoorConfOkI
import Derived.Test.YtlnmlfpkpplgoaaDoorNumText
import Derived.Test.YtlnmlfpkpplgoaaDoorLex
import Derived.Maps.RangeWalk
import Derived.WalkSpells
namespace Go.Proofs.YtlnmlfpkpplgoaaDoor
open Go.RowKit
set_option maxRecDepth 100000
set_option linter.unusedVariables false

instance Tab.keeps : Keeps Tab := ⟨fun h x => x.below h⟩

def numT (n : Int) : ByteArray := ⟨(Lib.itoa n).toArray⟩
def colon : ByteArray := ⟨#[58]⟩
def slash : ByteArray := ⟨#[47]⟩
def dbT (d : Db) : ByteArray := ((((((((d.name ++ (⟨#[58]⟩ : ByteArray)) ++ (⟨(Lib.itoa d.size).toArray⟩ : ByteArray)) ++ (⟨#[47]⟩ : ByteArray)) ++ (⟨(Lib.itoa d.queue).toArray⟩ : ByteArray)) ++ (⟨#[47]⟩ : ByteArray)) ++ (⟨(Lib.itoa d.wait).toArray⟩ : ByteArray)) ++ (⟨#[47]⟩ : ByteArray)) ++ (⟨(Lib.itoa d.idle).toArray⟩ : ByteArray))
def dbL (d : Db) : List UInt8 := d.name.data.toList ++ [58] ++ Lib.itoa d.size ++ [47] ++ Lib.itoa d.queue ++ [47] ++ Lib.itoa d.wait ++ [47] ++ Lib.itoa d.idle
theorem ba_append (a b : ByteArray) : (a ++ b).data.toList = a.data.toList ++ b.data.toList := by simp
theorem dbT_list (d : Db) : (dbT d).data.toList = dbL d := by simp [dbT, dbL]

/-- A valid database's numbers are small. -/
def SmallDb (d : Db) : Prop := d.name.size ≤ 8 ∧ (0 ≤ d.size ∧ d.size ≤ 20) ∧ (0 ≤ d.queue ∧ d.queue ≤ 20) ∧ (0 ≤ d.wait ∧ d.wait ≤ 20) ∧ (0 ≤ d.idle ∧ d.idle ≤ 20)
theorem small_of {d : Db} (h : dbB d = true) : SmallDb d := by
  unfold dbB at h
  simp only [Bool.and_eq_true] at h
  obtain ⟨⟨⟨⟨h0, h1⟩, h2⟩, h3⟩, h4⟩ := h
  unfold nameB at h0
  simp only [Bool.and_eq_true] at h0
  have g0 := of_decide_eq_true h0.1
  have g1 := of_decide_eq_true h1
  have g2 := of_decide_eq_true h2
  have g3 := of_decide_eq_true h3
  have g4 := of_decide_eq_true h4
  have e : d.name.data.toList.length = d.name.size := by simp
  exact ⟨by omega, by omega, by omega, by omega, by omega⟩
theorem itoa_small {n : Int} (h0 : 0 ≤ n) (h1 : n ≤ 20) : (Lib.itoa n).length ≤ 20 := by
  obtain ⟨m, rfl⟩ := Int.eq_ofNat_of_zero_le h0
  rw [Lib.itoa_nonneg]
  exact decDigits_le m (by omega)

end Go.Proofs.YtlnmlfpkpplgoaaDoor
