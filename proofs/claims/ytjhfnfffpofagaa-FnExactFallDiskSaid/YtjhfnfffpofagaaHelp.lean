/- Contracts of the helpers that every exact law calls: a copy of a byte slice, equality of two byte slices that hold the same bytes, marks written and found again. -/
import Derived.Test.YtjhfnfffpofagaaProg
import Derived.Test.YtjhfnfffpofagaaMem
import Derived.BigQuiet
import Derived.Deep.QuietTactic
import Derived.Lib.Hide
import Derived.KernelRfl
import Derived.Outline
namespace Go.Proofs.Ytjhfnfffpofagaa
open Go.RowKit

theorem Try.info8 : (Try.prog.info? 5).map (fun i => (i.zero, i.size, i.bytes)) = some (some (.int .u8 0), 1, 1) := by kernel_rfl

theorem take_snoc_get {l : List UInt8} {k : Nat} {u : UInt8} (h : l[k]? = some u) : l.take (k + 1) = l.take k ++ [u] := by
  rw [List.take_add_one, h]; rfl

/-- What the row holds when the first k bytes have been copied. -/
def half (l : List UInt8) (k : Nat) : List UInt8 := l.take k ++ List.replicate (l.length - k) 0

theorem half_length {l : List UInt8} {k : Nat} (h : k ≤ l.length) : (half l k).length = l.length := by
  simp [half]; omega
theorem half_zero (l : List UInt8) : half l 0 = List.replicate l.length 0 := by simp [half]
theorem half_all (l : List UInt8) : half l l.length = l := by simp [half]
theorem half_get {l : List UInt8} {k : Nat} (h : k < l.length) : (half l k)[k]? = some 0 := by
  unfold half
  rw [List.getElem?_append_right (by simp; omega)]
  simp [List.getElem?_replicate]
  omega
theorem half_set {l : List UInt8} {k : Nat} {u : UInt8} (h : l[k]? = some u) : (bys (half l k)).set k (.int .u8 (u.toNat : Int)) = bys (half l (k + 1)) := by
  have hk : k < l.length := by
    rcases Nat.lt_or_ge k l.length with h' | h'
    · exact h'
    · rw [List.getElem?_eq_none h'] at h; cases h
  have e : l.length - k = (l.length - (k + 1)) + 1 := by omega
  unfold half bys
  rw [take_snoc_get h, e, List.replicate_succ]
  simp only [List.map_append, List.map_cons, List.append_assoc, List.cons_append, List.nil_append]
  rw [List.set_append_right _ _ (by simp; omega)]
  have : k - (List.map (fun b : UInt8 => Value.int .u8 (b.toNat : Int)) (l.take k)).length = 0 := by simp; omega
  rw [this]
  rfl

theorem bys_zeros (n : Nat) : bys (List.replicate n 0) = (madeCells (Value.int .u8 0).cells (n * 1)).toList := by
  rw [Nat.mul_one]
  have : (Value.int .u8 0).cells = #[Value.int .u8 0] := rfl
  rw [this, toList_madeCells_one]
  simp [bys]

set_option maxHeartbeats 400000 in
theorem toByteS_any (A : Option Addr) (c : Nat) (l : List UInt8) (w : World) (h : Reads w w.heap.size 1 A l.length (bys l)) (hn : l.length ≤ 140737488351232) :
    Calls Try.prog 37 #[.slice A l.length c] w fun e w' => ∃ v, e = .returned v ∧ Owns w' w.heap.size 5 v l ∧ Below w.heap.size w w' := by
  obtain ⟨i0, hi0, hz0, hz1, hz2⟩ := info_parts Try.info8
  go_enter Try.func37, Try.ntmps37
  go_wp2_with (at_make; refine wpList_make_full _ rfl _ _ _ rfl w.heap.size 5 i0 _ 1 Try.underlying22 hi0 hz0 hz1 _ _ _ _ l.length rfl rfl rfl rfl (by rw [hz2]; omega) (by simp only [maxLen]; omega) (Nat.le_refl _) ?_; intro w1 hown1 hg1)
  have hb1 : Below w.heap.size w w1 := (Below.refl _ _).grown hg1 (Nat.le_refl _) (fun _ hk => by cases hk)
  have hh : (madeCells (Value.int .u8 0).cells (l.length * 1)).toList = bys (half l 0) := by rw [half_zero, bys_zeros]
  rw [hh] at hown1
  clear hh
  go_loopw [4] (fun i wr => ∃ k : Nat, k ≤ l.length ∧ i = .int .i64 k ∧ Below w.heap.size w wr ∧ wr.ownsRow w.heap.size 5 1 (.slice (some ⟨w.heap.size, 0, none⟩) l.length l.length) l.length (bys (half l k))) (fun i _ => l.length - (intOf i).toNat)
  case atStart => exact ⟨0, by omega, rfl, hb1, hown1⟩
  case round =>
    obtain ⟨k, hk, rfl, hb, hown⟩ := hrel
    clear hown1 hg1 hb1
    by_cases hlt : k < l.length
    · obtain ⟨b, off, u, rfl, hbl, hu, hcell⟩ := (h.below hb).byte hlt
      have hdst : wr.cell? ⟨w.heap.size, k, none⟩ = some (.int .u8 0) := by
        rw [hown.cellAt k (by omega), bys_get (half_get hlt)]; rfl
      have hfr := hown.frozenAt k
      go_wp2
      go_roundw
      case rel =>
        have hst := hown.stored k (.int .u8 (u.toNat : Int))
        rw [half_set hu] at hst
        exact ⟨k + 1, by omega, by go_num, hb.setCell (by exact Nat.le_refl _) _, hst.1⟩
      case measure => simp [intOf]; omega
    · have he : k = l.length := by omega
      subst he
      rw [half_all] at hown
      go_wp2
      go_ret
      exact ⟨_, rfl, hown, hb⟩

set_option maxHeartbeats 400000 in
/-- Two slices that hold the same bytes are equal. -/
theorem eqByteS_same (A B : Option Addr) (c d : Nat) (l : List UInt8) (w : World) (h : Reads w w.heap.size 1 A l.length (bys l)) (h' : Reads w w.heap.size 1 B l.length (bys l)) (hn : l.length ≤ 140737488351232) :
    Calls Try.prog 34 #[.slice A l.length c, .slice B l.length d] w fun e w' => e = .returned (.bool true) ∧ ∃ n, w' = w.drewN n := by
  have hnn : ((l.length : Int) != (l.length : Int)) = false := by simp
  go_enter Try.func34, Try.ntmps34
  go_wp2
  go_loopw [5] (fun i wr => ∃ k : Nat, k ≤ l.length ∧ i = .int .i64 k ∧ ∃ n, wr = w.drewN n) (fun i _ => l.length - (intOf i).toNat)
  case atStart => exact ⟨0, by omega, rfl, 0, rfl⟩
  case round =>
    obtain ⟨k, hk, rfl, n, rfl⟩ := hrel
    by_cases hlt : k < l.length
    · obtain ⟨b, off, u, rfl, hbl, hu, hcell⟩ := h.byte hlt
      obtain ⟨b', off', u', rfl, hbl', hu', hcell'⟩ := h'.byte hlt
      have huu : u' = u := by rw [hu] at hu'; injection hu' with hu'; exact hu'.symm
      subst huu
      clear hu hu'
      have hne : (((u'.toNat : Nat) : Int) != ((u'.toNat : Nat) : Int)) = false := by simp
      have h0 : (0 : Int) ≤ (k : Int) := by omega
      have hki : (k : Int) < (l.length : Int) := by omega
      go_wp2
      go_quiet (fail)
      go_wp2
      go_roundw
      case rel => exact ⟨k + 1, by omega, by go_num, _, rfl⟩
      case measure => simp [intOf]; omega
    · have he : k = l.length := by omega
      subst he
      go_wp2
      go_ret
      exact ⟨rfl, n, rfl⟩

/-- The marks k, k+1, .. -/
def marks (k n : Nat) : List UInt8 := (List.range n).map fun j => UInt8.ofNat (k + j)
theorem marks_length (k n : Nat) : (marks k n).length = n := by simp [marks]
theorem marks_succ (k n : Nat) : marks k (n + 1) = marks k n ++ [UInt8.ofNat (k + n)] := by simp [marks, List.range_succ]
theorem marks_get {k n j : Nat} (h : j < n) : (marks k n)[j]? = some (UInt8.ofNat (k + j)) := by simp [marks, h]

def marked (k : Nat) (l : List UInt8) (j : Nat) : List UInt8 := marks k j ++ l.drop j
theorem mark_cell (k j : Nat) : (((UInt8.ofNat (k + j)).toNat : Nat) : Int) = ((k : Int) + (j : Int)) % 256 := by
  simp
theorem drop_cons {l : List UInt8} {j : Nat} (h : j < l.length) : l.drop j = l[j] :: l.drop (j + 1) := List.drop_eq_getElem_cons h
theorem marked_get {k j : Nat} {l : List UInt8} (h : j < l.length) : (bys (marked k l j))[j]? = some (.int .u8 ((l[j]).toNat : Int)) := by
  apply bys_get
  unfold marked
  rw [List.getElem?_append_right (by rw [marks_length]; omega), marks_length]
  simp [h]
theorem marked_set {k j : Nat} {l : List UInt8} (h : j < l.length) : (bys (marked k l j)).set j (Value.int .u8 (((k : Int) + (j : Int)) % 256)) = bys (marked k l (j + 1)) := by
  unfold marked
  rw [drop_cons h, marks_succ, ← mark_cell]
  unfold bys
  simp only [List.map_append, List.map_cons, List.append_assoc, List.cons_append, List.nil_append]
  rw [List.set_append_right _ _ (by simp [marks_length])]
  have : j - (List.map (fun b : UInt8 => Value.int .u8 (b.toNat : Int)) (marks k j)).length = 0 := by simp [marks_length]
  rw [this]
  rfl
theorem marked_zero (k : Nat) (l : List UInt8) : marked k l 0 = l := by simp [marked, marks]
theorem marked_all (k : Nat) (l : List UInt8) : marked k l l.length = marks k l.length := by simp [marked]

set_option maxHeartbeats 400000 in
/-- Marks are written over all the bytes of a row of the caller's own. -/
theorem markByteS_row (g c k0 : Nat) (l : List UInt8) (w : World) (base : Nat) (h : Owns w base 5 (.slice (some ⟨g, 0, none⟩) l.length c) l) (hn : l.length ≤ 140737488351232) (hk : k0 ≤ 140737488351232) :
    Calls Try.prog 35 #[.slice (some ⟨g, 0, none⟩) l.length c, .int .i64 k0] w fun e w' => e = .returned (.int .i64 (k0 + l.length : Nat)) ∧ Owns w' base 5 (.slice (some ⟨g, 0, none⟩) l.length c) (marks k0 l.length) ∧ w.grownBy w' (some g) := by
  go_enter Try.func35, Try.ntmps35
  go_wp2
  go_loopw [1, 5] (fun q i wr => ∃ k : Nat, k ≤ l.length ∧ i = .int .i64 k ∧ q = .int .i64 (k0 + k : Nat) ∧ w.grownBy wr (some g) ∧ wr.ownsRow base 5 1 (.slice (some ⟨g, 0, none⟩) l.length c) l.length (bys (marked k0 l k))) (fun _ i _ => l.length - (intOf i).toNat)
  case atStart => exact ⟨0, by omega, rfl, by simp, World.grownBy.refl _ _, by rw [marked_zero]; exact h⟩
  case round =>
    obtain ⟨k, hk, rfl, rfl, hg, hown⟩ := hrel
    clear h
    by_cases hlt : k < l.length
    · have hdst : wr.cell? ⟨g, k, none⟩ = some (.int .u8 ((l[k]).toNat : Int)) := (hown.cellAt k (by omega)).trans (marked_get hlt)
      have hfr := hown.frozenAt k
      go_wp2
      go_roundw
      case rel =>
        have hst := hown.stored k (.int .u8 (((k0 : Int) + (k : Int)) % 256))
        rw [marked_set hlt] at hst
        exact ⟨k + 1, by omega, by go_num, by go_num, hg.trans hst.2, hst.1⟩
      case measure => simp [intOf]; omega
    · have he : k = l.length := by omega
      subst he
      rw [marked_all] at hown
      go_wp2
      go_ret
      exact ⟨by go_num, by unfold Owns; rw [marks_length]; exact hown, hg⟩

set_option maxHeartbeats 400000 in
theorem markByteS_any (v : Value) (k0 : Nat) (l : List UInt8) (w : World) (base : Nat) (h : Owns w base 5 v l) (hn : l.length ≤ 140737488351232) (hk : k0 ≤ 140737488351232) :
    Calls Try.prog 35 #[v, .int .i64 k0] w fun e w' => e = .returned (.int .i64 (k0 + l.length : Nat)) ∧ Owns w' base 5 v (marks k0 l.length) ∧ w.grownBy w' v.ownBlock := by
  rcases h.2 with ⟨rfl, h0⟩ | ⟨g, cap, cur, rfl, _⟩
  · have hl : l = [] := List.eq_nil_of_length_eq_zero h0
    subst hl
    clear h0
    have hown : Owns w base 5 (.slice none 0 0) (marks k0 0) := by simpa [Owns, marks] using h
    clear h
    go_enter Try.func35, Try.ntmps35
    go_wp2
    refine wp_loop_rounds 1 ?_
    rw [rounds_succ]
    go_wp2
    go_ret
    exact ⟨by simp, hown, World.grownBy.refl _ _⟩
  · exact markByteS_row g cap k0 l w base h hn hk

set_option maxHeartbeats 400000 in
/-- Marks that lie there are found. -/
theorem heldByteS_any (A : Option Addr) (c k0 n : Nat) (w : World) (h : Reads w w.heap.size 1 A n (bys (marks k0 n))) (hn : n ≤ 140737488351232) (hk : k0 ≤ 140737488351232) :
    Calls Try.prog 36 #[.slice A n c, .int .i64 k0] w fun e w' => e = .returned (.int .i64 (k0 + n : Nat)) ∧ w = w' := by
  go_enter Try.func36, Try.ntmps36
  go_wp2
  go_loop [1, 5] (fun q i => ∃ k : Nat, k ≤ n ∧ i = .int .i64 k ∧ q = .int .i64 (k0 + k : Nat)) (fun _ i => n - (intOf i).toNat)
  case atStart => exact ⟨0, by omega, rfl, by simp⟩
  case round =>
    obtain ⟨k, hk, rfl, rfl⟩ := hrel
    by_cases hlt : k < n
    · obtain ⟨b, off, u, rfl, hbl, hu, hcell⟩ := h.byte hlt
      rw [marks_get hlt] at hu
      injection hu with hu
      subst hu
      rw [mark_cell] at hcell
      have hne : (((k0 : Int) + (k : Int)) % 256 != ((k0 : Int) + (k : Int)) % 256) = false := by simp
      go_wp2
      go_round
      case rel => exact ⟨k + 1, by omega, by go_num, by go_num⟩
      case measure => simp [intOf]; omega
    · have he : k = n := by omega
      subst he
      go_wp2
      go_ret
      exact ⟨by go_num, rfl⟩

end Go.Proofs.Ytjhfnfffpofagaa
