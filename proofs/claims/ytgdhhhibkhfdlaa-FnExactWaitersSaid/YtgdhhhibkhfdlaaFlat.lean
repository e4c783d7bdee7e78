/- Rows of the call's own whose elements hold no memory: marks written cell by cell, and found again. Plain lemmas, over any program; the contract of the helper that makes a marked text. -/
import Derived.Test.YtgdhhhibkhfdlaaRepMore
import Derived.Test.YtgdhhhibkhfdlaaNum
namespace Go.Proofs.Ytgdhhhibkhfdlaa
open Go.RowKit
set_option linter.unusedVariables false

/-- A row of the call's own, n elements of 'size' cells each; the first m cells are as f says. -/
def FlatTo (w : World) (base : Nat) (e : TypeId) (size n : Nat) (v : Value) (f : Nat → Value) (m : Nat) : Prop :=
  ∃ cells : List Value, w.ownsRow base e size v n cells ∧ ∀ j, j < m → cells[j]? = some (f j)

section
variable {w w' : World} {base : Nat} {e : TypeId} {size n m c g : Nat} {v : Value} {f : Nat → Value}
theorem FlatTo.zero {cells : List Value} (h : w.ownsRow base e size v n cells) (f : Nat → Value) : FlatTo w base e size n v f 0 := ⟨cells, h, fun j hj => by omega⟩
theorem FlatTo.later (h : FlatTo w base e size n v f m) (hb : Below w.heap.size w w') : FlatTo w' base e size n v f m := by
  obtain ⟨cells, ho, hc⟩ := h
  exact ⟨cells, ownsRow_below ho hb (Nat.le_refl _), hc⟩
theorem FlatTo.there (h : FlatTo w base e size n (.slice (some ⟨g, 0, none⟩) n c) f m) (j : Nat) (hj : j < n * size) : (∃ u, w.cell? ⟨g, j, none⟩ = some u) ∧ w.frozen? ⟨g, j, none⟩ = false := by
  obtain ⟨cells, ho, hc⟩ := h
  have hl := ho.1
  have hx := ho.cellAt j hj
  rw [List.getElem?_eq_getElem (by omega)] at hx
  exact ⟨⟨_, hx⟩, ho.frozenAt j⟩
theorem FlatTo.row (h : FlatTo w base e size n (.slice (some ⟨g, 0, none⟩) n c) f m) : base ≤ g ∧ g < w.heap.size := by
  obtain ⟨cells, ho, hc⟩ := h
  exact ho.lt g rfl
theorem FlatTo.set (h : FlatTo w base e size n (.slice (some ⟨g, 0, none⟩) n c) f m) (hm : m < n * size) {u : Value} (hu : f m = u) : FlatTo (w.setCell ⟨g, m, none⟩ u) base e size n (.slice (some ⟨g, 0, none⟩) n c) f (m + 1) := by
  obtain ⟨cells, ho, hc⟩ := h
  have hl := ho.1
  refine ⟨cells.set m u, (ho.stored m u).1, fun j hj => ?_⟩
  rw [List.getElem?_set]
  by_cases he : m = j
  · subst he
    rw [if_pos rfl, if_pos (by omega), hu]
  · rw [if_neg he]
    exact hc j (by omega)
/-- What is marked reads so. -/
theorem FlatTo.reads (h : FlatTo w base e size n v f (n * size)) (hs : 0 < size) : ∃ A c, v = .slice A n c ∧ (0 < n → ∃ b off, A = some ⟨b, off, none⟩ ∧ b < w.heap.size ∧ ∀ j, j < n * size → w.cell? ⟨b, off + j, none⟩ = some (f j)) := by
  obtain ⟨cells, ho, hc⟩ := h
  rcases ho.2 with ⟨rfl, h0⟩ | ⟨g, cap, cur, rfl, hb, hg, hnc, hcm, _, _⟩
  · subst h0
    exact ⟨none, 0, rfl, fun h => absurd h (by omega)⟩
  · refine ⟨some ⟨g, 0, none⟩, cap, rfl, fun hn => ⟨g, 0, rfl, (Array.getElem?_eq_some_iff.1 hg).1, fun j hj => ?_⟩⟩
    rw [Nat.zero_add, ho.cellAt j hj]
    exact hc j hj
end

/-- The text of a mark. -/
def mtxt (k : Nat) : ByteArray := if k = 0 then ⟨#[109, 48]⟩ else ⟨(109 :: Lib.decDigits k).toArray⟩

set_option maxRecDepth 100000 in
set_option maxHeartbeats 1000000 in
theorem markText_any (k : Nat) (hk : k ≤ 9223372036854775807) (w : World) :
    Calls Try.prog 188 #[.int .i64 k] w fun e w' => e = .returned (.string (mtxt k)) ∧ Below w.heap.size w w' := by
  by_cases hM : k = 0
  · subst hM
    go_enter Try.func188, Try.ntmps188
    go_wp2
    go_ret
    exact ⟨rfl, Below.refl _ _⟩
  · have hp : (0 : Int) < (k : Int) := by omega
    have hp' : ¬ ((k : Int) ≤ 0) := by omega
    have HT := Lib.hid (show mtxt k = ⟨(109 :: Lib.decDigits k).toArray⟩ from if_neg hM)
    go_enter Try.func188, Try.ntmps188
    go_wp2
    go_loopw [0, 3] (fun x s wr => ∃ (m : Nat) (acc : List UInt8), m ≤ 9223372036854775807 ∧ x = .int .i64 m ∧ s = .string ⟨acc.toArray⟩ ∧ NumInv k m acc ∧ Below w.heap.size w wr) (fun x _ _ => (intOf x).toNat)
    case atStart => exact ⟨k, [], hk, rfl, rfl, numInv_start hM, Below.refl _ _⟩
    case round =>
      obtain ⟨m, acc, hm1, rfl, rfl, hinv, hb⟩ := hrel
      have HI := Lib.hid hinv
      clear hinv
      have hlen := numInv_len HI.out
      have hdl : (Lib.decDigits k).length ≤ 20 := decDigits_le k (by omega)
      have hal : acc.length ≤ 20 := by omega
      clear hlen hdl
      by_cases hm : m = 0
      · subst hm
        have HE := Lib.hid (numInv_end HI.out)
        have hz : ((0 : Int) != 0) = false := by simp
        go_wp2
        go_ret
        exact ⟨by rw [HT.out, ← HE.out]; exact ret_str (str_cons _ _), hb⟩
      · have hne : (0 : Int) < (m : Int) := by omega
        have i1 : 0 ≤ (m : Int) % 10 := by omega
        have i2 : (m : Int) % 10 < 10 := by omega
        have hcv := string_run (P := Try.prog) (src := 22) (dst := 9) Try.underlying22 Try.underlying5 Try.underlying9 (c := 1) (reads_dig wr m 5)
        have HN := Lib.hid (numInv_step hm HI.out)
        clear HI
        go_wp2
        go_roundw
        case rel => exact ⟨m / 10, dgt m :: acc, by omega, by go_num, str_cons _ _, HN.out, hb.alloc hb.size _⟩
        case measure => simp [intOf]; omega

end Go.Proofs.Ytgdhhhibkhfdlaa
