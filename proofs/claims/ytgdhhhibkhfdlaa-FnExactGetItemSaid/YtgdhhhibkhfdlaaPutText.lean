/- Contracts of chapter 1: PutText, GetText. -/
import Derived.Test.YtgdhhhibkhfdlaaText
import Derived.Laws.IdiomStrings
import Derived.Laws.BytesArg
import Derived.Lib.AppendStr
import Derived.Outline
namespace Go.Proofs.Ytgdhhhibkhfdlaa
open Go.RowKit

/-- The encoding of a text behind other bytes. -/
def ptB (l : List UInt8) (s : List UInt8) : List UInt8 := if okB s then l ++ (u8 s.length :: s) else l

theorem okB_len {l : List UInt8} (h : okB l = true) : l.length ≤ 100 := by
  unfold okB at h
  rw [Bool.and_eq_true] at h
  exact of_decide_eq_true h.1
theorem ptB_len (l s : List UInt8) : (ptB l s).length ≤ l.length + 101 := by
  unfold ptB
  by_cases h : okB s = true
  · have := okB_len h
    rw [if_pos h]; simp; omega
  · rw [if_neg h]; omega

theorem one_byte (n : Nat) (h : n < 256) : [Value.int .u8 (n : Int)] = bys [u8 n] := by
  simp only [bys, List.map_cons, List.map_nil, u8_cell]
  rw [Int.emod_eq_of_lt (by omega) (by omega)]

/-- What '[]byte(s)' lays reads as the bytes of s. -/
theorem reads_str (w : World) (s : ByteArray) (e : TypeId) (cap : Nat) (f : Nat × Nat) :
    Reads (w.drew.alloc (.cells (bytesRow s cap) e f)) (w.drew.alloc (.cells (bytesRow s cap) e f)).heap.size 1 (some ⟨w.heap.size, 0, none⟩) s.data.toList.length (bys s.data.toList) := by
  refine ⟨by simp [bys], fun _ => ⟨_, rfl, by simp, fun j u hu => ?_⟩⟩
  have hadd : (⟨w.heap.size, 0, none⟩ : Addr).add j = ⟨w.heap.size, j, none⟩ := by unfold Addr.add; split <;> simp_all
  rw [hadd, cell_of_row _ w.heap.size j (bytesRow s cap) e f (heap_alloc_new w.drew _)]
  have hj : j < s.data.size := by
    rcases Nat.lt_or_ge j s.data.size with h | h
    · exact h
    · rw [List.getElem?_eq_none (by simpa [bys] using h)] at hu; cases hu
  simp only [bytesRow]
  simp only [bys, List.getElem?_map] at hu
  rw [← hu]
  have hjs : j < s.size := hj
  simp [Array.getElem?_append, hjs]

set_option maxHeartbeats 400000 in
theorem putText_any (A : Option Addr) (c : Nat) (s : ByteArray) (l : List UInt8) (w : World) (h : Reads w w.heap.size 1 A l.length (bys l)) (hn : l.length ≤ 100000000) (hs : s.size ≤ 100000000) :
    Calls Try.prog 89 #[.slice A l.length c, .string s] w fun e w' => ∃ v, e = .returned v ∧ Owns w' w.heap.size 5 v (ptB l s.data.toList) ∧ Below w.heap.size w w' := by
  by_cases hok : okB s.data.toList = true
  · have hsz : s.size ≤ 100 := by simpa using okB_len hok
    have HP := Lib.hid (show ptB l s.data.toList = l ++ (u8 s.size :: s.data.toList) by unfold ptB; rw [if_pos hok]; simp)
    have hcv := fun w => run_bytes_of_string (P := Try.prog) w 9 22 5 s Try.underlying9 Try.underlying22 Try.underlying5
    go_enter Try.func89, Try.ntmps89
    go_wp2_with fail
    refine (textOk_any s w (by omega)).mono ?_
    rintro e w1 ⟨rfl, rfl⟩
    go_wp2_with fail
    have hnew := reads_new w #[.int .u8 (s.size : Int)] 1 5 rfl (by simp [maxLen])
    rw [show (#[Value.int .u8 (s.size : Int)] : Array Value).toList = bys [u8 s.size] from one_byte s.size (by omega)] at hnew
    refine (joined_any A _ c 1 l [u8 s.size] _ ((h.alloc (Nat.le_refl _) _).more (by simp)) hnew (by omega) (by simp)).mono ?_
    clear hnew
    rintro e w1 ⟨v1, rfl, hown1, hb1⟩
    have hW1 : Below w.heap.size w w1 := ((Below.refl _ _).alloc (Nat.le_refl _) _).trans (hb1.mono (by simp))
    replace hown1 := ownsRow_mono hown1 (show w.heap.size ≤ _ by simp)
    obtain ⟨L1, hL1, hL1n⟩ : ∃ L1, l ++ [u8 s.size] = L1 ∧ L1.length ≤ 200000000 := ⟨_, rfl, by simp; omega⟩
    rw [hL1] at hown1
    have HL1 := Lib.hid hL1
    clear hL1
    obtain ⟨A1, c1, rfl, _, _, hr1, _⟩ := Owns.shape hown1
    clear hb1 hown1
    go_wp2_with fail
    have hrs := reads_str w1 s 5 (grownCap w1 s.size 0 5) ((bytesRow s (grownCap w1 s.size 0 5)).size, (bytesRow s (grownCap w1 s.size 0 5)).size + 1)
    have J := joined_any A1 _ c1 (grownCap w1 s.size 0 5) L1 s.data.toList _ ((hr1.drew.alloc (Nat.le_refl _) _).more (by simp)) hrs (by omega) (by simp; omega)
    rw [show s.data.toList.length = s.size by simp] at J
    refine J.mono ?_
    clear J hrs hr1
    rintro e w2 ⟨v2, rfl, hown2, hb2⟩
    have hW2 : Below w.heap.size w w2 := (hW1.drew.alloc hW1.size _).trans (hb2.mono (Nat.le_trans hW1.size (by simp)))
    replace hown2 := ownsRow_mono hown2 (show w.heap.size ≤ _ from Nat.le_trans hW1.size (by simp))
    go_wp2_with fail
    go_ret
    refine ⟨v2, rfl, ?_, hW2⟩
    rw [HP.out]
    rw [← HL1.out] at hown2
    simpa [Owns] using hown2
  · have hokf : okB s.data.toList = false := by simpa using hok
    have HP := Lib.hid (show ptB l s.data.toList = l ++ [] by unfold ptB; rw [if_neg hok]; simp)
    clear hok
    go_enter Try.func89, Try.ntmps89
    go_wp2_with fail
    refine (textOk_any s w (by omega)).mono ?_
    rintro e w1 ⟨rfl, rfl⟩
    go_wp2_with fail
    refine (joined_any A none c 0 l [] w h Reads.none_ (by omega) (by simp)).mono ?_
    rintro e w1 ⟨v, rfl, hown, hb⟩
    go_wp2_with fail
    go_ret
    exact ⟨v, rfl, by rw [HP.out]; exact hown, hb⟩

theorem strCells_bys (s : ByteArray) : Lib.strCells s = bys s.data.toList := rfl

set_option maxHeartbeats 1000000 in
theorem putTextS_any (A : Option Addr) (c : Nat) (s : ByteArray) (l : List UInt8) (w : World) (h : Reads w w.heap.size 1 A l.length (bys l)) (hn : l.length ≤ 100000000) (hs : s.size ≤ 100000000) :
    Calls Try.prog 113 #[.slice A l.length c, .string s] w fun e w' => ∃ v, e = .returned v ∧ Owns w' w.heap.size 5 v (ptB l s.data.toList) ∧ Below w.heap.size w w' := by
  obtain ⟨i0, hi0, hz0, hz1, hz2⟩ := info_parts Try.info8
  have hb0 : Below w.heap.size w (w.alloc (.cells #[] 5)) := (Below.refl _ _).alloc (Nat.le_refl _) _
  have hown0 : (w.alloc (.cells #[] 5)).ownsRow w.heap.size 5 1 (.slice (some ⟨w.heap.size, 0, none⟩) 0 0) 0 [] := World.ownsRow_lit w #[] 0 (Nat.le_refl _) (by simp) rfl
  by_cases hok : okB s.data.toList = true
  · have hsz : s.size ≤ 100 := by simpa using okB_len hok
    have HP := Lib.hid (show ptB l s.data.toList = l ++ (u8 s.size :: s.data.toList) by unfold ptB; rw [if_pos hok]; simp)
    go_enter Try.func113, Try.ntmps113
    go_wp2_with (first
     | (at_builtin
        refine wpList_append_any _ rfl (.tmp 6) (.tmp 7) _ rfl w.heap.size 5 i0 _ 1 1 Try.underlying22 hi0 hz0 hz1 hz2 rfl (by omega) _ 0 [] rfl hown0 w.heap.size A l.length c (bys l) rfl (h.below hb0) (bys_one l) (by simp only [maxLen]; omega) (by omega) hb0.size ?_
        intro v2 w2 hown2 hg2 hat2
        have hb2 : Below w.heap.size w w2 := hb0.grown hg2 hb0.size (fun k hk => (hown0.lt k hk).1)
        clear hown0 hg2 hat2)
     | fail)
    refine (textOkS_any s w2 (by omega)).mono ?_
    rintro e w3 ⟨rfl, rfl⟩
    go_wp2_with (first
     | (at_builtin
        have hnew := reads_new w2 #[.int .u8 (s.size : Int)] 1 5 rfl (by simp [maxLen])
        refine wpList_append_any _ rfl (.tmp 13) (.tmp 17) _ rfl w.heap.size 5 i0 _ 1 1 Try.underlying22 hi0 hz0 hz1 hz2 rfl (by omega) v2 (0 + l.length) ([] ++ bys l) rfl (hown2.alloc _) _ _ 1 _ _ rfl hnew (by simp; rfl) (by simp only [maxLen]; omega) (by omega) (Nat.le_trans hb2.size (by simp)) ?_
        clear hnew
        intro v3 w3 hown3 hg3 hat3
        have hb3 : Below w.heap.size w w3 := (hb2.alloc hb2.size _).grown hg3 (Nat.le_trans hb2.size (by simp)) (fun k hk => (hown2.lt k hk).1)
        clear hg3 hat3)
     | (at_builtin
        refine Lib.wpList_append_own_string _ rfl (.tmp 18) (.tmp 19) _ _ rfl w.heap.size 5 i0 Try.underlying22 Try.underlying9 hi0 hz0 hz1 hz2 v3 _ _ rfl hown3 s rfl (by simp only [maxLen]; omega) (by omega) hb3.size ?_
        intro v4 w4 hown4 hg4 _))
    go_ret
    refine ⟨v4, rfl, ?_, hb3.grown hg4 hb3.size (fun k hk => (hown3.lt k hk).1)⟩
    rw [HP.out]
    have e1 : [Value.int .u8 (s.size : Int)] = bys [u8 s.size] := one_byte s.size (by omega)
    rw [e1, strCells_bys] at hown4
    unfold Owns
    rw [show bys (l ++ (u8 s.size :: s.data.toList)) = [] ++ bys l ++ bys [u8 s.size] ++ bys s.data.toList by simp [bys]]
    rw [show (l ++ (u8 s.size :: s.data.toList)).length = 0 + l.length + 1 + s.size by simp; omega]
    exact hown4
  · have hokf : okB s.data.toList = false := by simpa using hok
    have HP := Lib.hid (show ptB l s.data.toList = l by unfold ptB; rw [if_neg hok])
    clear hok
    go_enter Try.func113, Try.ntmps113
    go_wp2_with (first
     | (at_builtin
        refine wpList_append_any _ rfl (.tmp 6) (.tmp 7) _ rfl w.heap.size 5 i0 _ 1 1 Try.underlying22 hi0 hz0 hz1 hz2 rfl (by omega) _ 0 [] rfl hown0 w.heap.size A l.length c (bys l) rfl (h.below hb0) (bys_one l) (by simp only [maxLen]; omega) (by omega) hb0.size ?_
        intro v2 w2 hown2 hg2 hat2
        have hb2 : Below w.heap.size w w2 := hb0.grown hg2 hb0.size (fun k hk => (hown0.lt k hk).1)
        clear hown0 hg2 hat2)
     | fail)
    refine (textOkS_any s w2 (by omega)).mono ?_
    rintro e w3 ⟨rfl, rfl⟩
    go_wp2_with fail
    go_ret
    exact ⟨v2, rfl, by rw [HP.out]; simpa [Owns] using hown2, hb2⟩

end Go.Proofs.Ytgdhhhibkhfdlaa
