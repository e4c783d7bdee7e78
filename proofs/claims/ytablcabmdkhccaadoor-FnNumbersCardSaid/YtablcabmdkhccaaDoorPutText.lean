/- Contracts of chapter 1: PutText, GetText. -/
import Derived.Test.YtablcabmdkhccaaDoorText
import Derived.Laws.IdiomStrings
import Derived.Laws.BytesArg
import Derived.Lib.AppendStr
import Derived.Outline
namespace Go.Proofs.YtablcabmdkhccaaDoor
open Go.RowKit

/-- The encoding of a text behind other bytes. -/
def ptB (l : List UInt8) (s : List UInt8) : List UInt8 := if okB s then l ++ (u8 s.length :: s) else l

theorem okB_len {l : List UInt8} (h : okB l = true) : l.length ≤ 100 := by
  unfold okB at h
  rw [Bool.and_eq_true] at h
  exact of_decide_eq_true h.1
theorem ptB_len (l s : List UInt8) : (ptB l s).length ≤ l.length + 101 := by
  unfold ptB
  by_cases h : okB s = true
  · have := okB_len h
    rw [if_pos h]; simp; omega
  · rw [if_neg h]; omega

theorem one_byte (n : Nat) (h : n < 256) : [Value.int .u8 (n : Int)] = bys [u8 n] := by
  simp only [bys, List.map_cons, List.map_nil, u8_cell]
  rw [Int.emod_eq_of_lt (by omega) (by omega)]

/-- What '[]byte(s)' lays reads as the bytes of s. -/
theorem reads_str (w : World) (s : ByteArray) (e : TypeId) (cap : Nat) (f : Nat × Nat) :
    Reads (w.drew.alloc (.cells (bytesRow s cap) e f)) (w.drew.alloc (.cells (bytesRow s cap) e f)).heap.size 1 (some ⟨w.heap.size, 0, none⟩) s.data.toList.length (bys s.data.toList) := by
  refine ⟨by simp [bys], fun _ => ⟨_, rfl, by simp, fun j u hu => ?_⟩⟩
  have hadd : (⟨w.heap.size, 0, none⟩ : Addr).add j = ⟨w.heap.size, j, none⟩ := by unfold Addr.add; split <;> simp_all
  rw [hadd, cell_of_row _ w.heap.size j (bytesRow s cap) e f (heap_alloc_new w.drew _)]
  have hj : j < s.data.size := by
    rcases Nat.lt_or_ge j s.data.size with h | h
    · exact h
    · rw [List.getElem?_eq_none (by simpa [bys] using h)] at hu; cases hu
  simp only [bytesRow]
  simp only [bys, List.getElem?_map] at hu
  rw [← hu]
  have hjs : j < s.size := hj
  simp [Array.getElem?_append, hjs]

set_option maxHeartbeats 400000 in
theorem putText_any (A : Option Addr) (c : Nat) (s : ByteArray) (l : List UInt8) (w : World) (h : Reads w w.heap.size 1 A l.length (bys l)) (hn : l.length ≤ 100000000) (hs : s.size ≤ 100000000) :
    Calls Tryd.prog 9 #[.slice A l.length c, .string s] w fun e w' => ∃ v, e = .returned v ∧ Owns w' w.heap.size 5 v (ptB l s.data.toList) ∧ Below w.heap.size w w' := by
  by_cases hok : okB s.data.toList = true
  · have hsz : s.size ≤ 100 := by simpa using okB_len hok
    have HP := Lib.hid (show ptB l s.data.toList = l ++ (u8 s.size :: s.data.toList) by unfold ptB; rw [if_pos hok]; simp)
    have hcv := fun w => run_bytes_of_string (P := Tryd.prog) w 9 22 5 s Tryd.underlying9 Tryd.underlying22 Tryd.underlying5
    go_enter Tryd.func9, Tryd.ntmps9
    go_wp2_with fail
    refine (textOk_any s w (by omega)).mono ?_
    rintro e w1 ⟨rfl, rfl⟩
    go_wp2_with fail
    have hnew := reads_new w #[.int .u8 (s.size : Int)] 1 5 rfl (by simp [maxLen])
    rw [show (#[Value.int .u8 (s.size : Int)] : Array Value).toList = bys [u8 s.size] from one_byte s.size (by omega)] at hnew
    refine (joined_any A _ c 1 l [u8 s.size] _ ((h.alloc (Nat.le_refl _) _).more (by simp)) hnew (by omega) (by simp)).mono ?_
    clear hnew
    rintro e w1 ⟨v1, rfl, hown1, hb1⟩
    have hW1 : Below w.heap.size w w1 := ((Below.refl _ _).alloc (Nat.le_refl _) _).trans (hb1.mono (by simp))
    replace hown1 := ownsRow_mono hown1 (show w.heap.size ≤ _ by simp)
    obtain ⟨L1, hL1, hL1n⟩ : ∃ L1, l ++ [u8 s.size] = L1 ∧ L1.length ≤ 200000000 := ⟨_, rfl, by simp; omega⟩
    rw [hL1] at hown1
    have HL1 := Lib.hid hL1
    clear hL1
    obtain ⟨A1, c1, rfl, _, _, hr1, _⟩ := Owns.shape hown1
    clear hb1 hown1
    go_wp2_with fail
    have hrs := reads_str w1 s 5 (grownCap w1 s.size 0 5) ((bytesRow s (grownCap w1 s.size 0 5)).size, (bytesRow s (grownCap w1 s.size 0 5)).size + 1)
    have J := joined_any A1 _ c1 (grownCap w1 s.size 0 5) L1 s.data.toList _ ((hr1.drew.alloc (Nat.le_refl _) _).more (by simp)) hrs (by omega) (by simp; omega)
    rw [show s.data.toList.length = s.size by simp] at J
    refine J.mono ?_
    clear J hrs hr1
    rintro e w2 ⟨v2, rfl, hown2, hb2⟩
    have hW2 : Below w.heap.size w w2 := (hW1.drew.alloc hW1.size _).trans (hb2.mono (Nat.le_trans hW1.size (by simp)))
    replace hown2 := ownsRow_mono hown2 (show w.heap.size ≤ _ from Nat.le_trans hW1.size (by simp))
    go_wp2_with fail
    go_ret
    refine ⟨v2, rfl, ?_, hW2⟩
    rw [HP.out]
    rw [← HL1.out] at hown2
    simpa [Owns] using hown2
  · have hokf : okB s.data.toList = false := by simpa using hok
    have HP := Lib.hid (show ptB l s.data.toList = l ++ [] by unfold ptB; rw [if_neg hok]; simp)
    clear hok
    go_enter Tryd.func9, Tryd.ntmps9
    go_wp2_with fail
    refine (textOk_any s w (by omega)).mono ?_
    rintro e w1 ⟨rfl, rfl⟩
    go_wp2_with fail
    refine (joined_any A none c 0 l [] w h Reads.none_ (by omega) (by simp)).mono ?_
    rintro e w1 ⟨v, rfl, hown, hb⟩
    go_wp2_with fail
    go_ret
    exact ⟨v, rfl, by rw [HP.out]; exact hown, hb⟩

theorem strCells_bys (s : ByteArray) : Lib.strCells s = bys s.data.toList := rfl

end Go.Proofs.YtablcabmdkhccaaDoor
