/- bytes.Clone, slices.Clone; the program's copy of a disk. -/
import Derived.Test.YtjhfnfffpofagaaCopyS
import Derived.WalkSpells
namespace Go.Proofs.Ytjhfnfffpofagaa
open Go.RowKit
set_option linter.unusedVariables false

/-- Bytes of the call's own come back. -/
def RetBytes (w : World) (l : List UInt8) (e : Ending) (w' : World) : Prop := ∃ A c, e = .returned (.slice A l.length c) ∧ Owns w' w.heap.size 5 (.slice A l.length c) l ∧ Below w.heap.size w w'

set_option maxHeartbeats 1000000 in
theorem bclone_any (A : Option Addr) (c : Nat) (l : List UInt8) (w : World) (h : Reads w w.heap.size 1 A l.length (bys l)) (hl : l.length ≤ 1048576) :
    Calls Try.prog 67 #[.slice A l.length c] w (RetBytes w l) := by
  obtain ⟨j0, hj0, hj1, hj2, hj3⟩ := info_parts Try.info8
  rcases A with _ | ad
  · have h0 : l = [] := by
      rcases Nat.eq_zero_or_pos l.length with h0 | h0
      · exact List.eq_nil_of_length_eq_zero h0
      · obtain ⟨ad, hh, _⟩ := h.2 h0
        cases hh
    subst h0
    have hnil := Lib.run_eql_slice_nil (P := Try.prog) w 22 5 none 0 c 0 0 Try.underlying22
    go_enter Try.func67, Try.ntmps67
    go_wp2
    go_ret
    exact ⟨none, 0, rfl, ⟨by simp [bys], .inl ⟨rfl, rfl⟩⟩, Below.refl _ _⟩
  · have hnil := Lib.run_eql_slice_nil (P := Try.prog) w 22 5 (some ad) l.length c 0 0 Try.underlying22
    go_enter Try.func67, Try.ntmps67
    go_wp2_with (at_builtin
                 go_must (refine Rep.wpList_bytes _ w rfl (.tmp 5) (.tmp 6) _ rfl 5 j0 Try.underlying22 hj0 hj1 hj2 hj3 _ rfl w.heap.size (Rep.lit_empty w _ _ rfl) (by simp) w.heap.size (some ad) c l rfl (h.alloc (Nat.le_refl _) _) hl ?_)
                 intro A3 c3 w3 hown3 hg3 hv3)
    go_ret
    exact ⟨A3, c3, rfl, hown3, ((Below.refl _ _).alloc (Nat.le_refl _) _).grown hg3 (by simp) hv3⟩

/-- A row whose elements are not copied: the cells as they were. -/
theorem row_cells_one {α : Type} {R : Rep α} {w : World} {B n : Nat} {A : Option Addr} {xs : List α} {cells : List Value} (hx : xs.length = n) (hr : Reads w B R.size A n cells) (he : ∀ i x, xs[i]? = some x → R.at_ w B (Rep.seg R.size i cells) x) (hs : 0 < R.size)
    (h1 : ∀ cs x, R.at_ w B cs x → ∀ u, u ∈ cs → u.oneCell' = true) : ∀ u ∈ cells, u.oneCell' = true := by
  intro u hu
  obtain ⟨j, hj, rfl⟩ := List.mem_iff_getElem.1 hu
  have hl := hr.1
  have hd : j / R.size < n := (Nat.div_lt_iff_lt_mul hs).2 (by omega)
  obtain ⟨x, hx'⟩ := Rep.getElem?_of_lt hx hd
  have hm := Nat.mod_lt j hs
  have hg := Rep.seg_get (size := R.size) (i := j / R.size) (j := j % R.size) (cells := cells) hm
  rw [Nat.mul_comm, Nat.div_add_mod, List.getElem?_eq_getElem hj] at hg
  exact h1 _ _ (he _ x hx') _ (List.mem_of_getElem? hg)

/-- Elements of a row that has been copied as it lies: the cells. -/
def Shallow (w : World) (B e size : Nat) (v : Value) (n : Nat) (cells : List Value) : Prop := w.ownsRow B e size v n cells

set_option maxHeartbeats 1000000 in
theorem sclone_secs (A : Option Addr) (c n : Nat) (cells : List Value) (w : World) (h : Reads w w.heap.size 1 A n cells) (h1 : ∀ u ∈ cells, u.oneCell' = true) (hl : n ≤ 1048576) :
    Calls Try.prog 66 #[.slice A n c] w fun e w' => ∃ v, e = .returned v ∧ w'.ownsRow w.heap.size 22 1 v n cells ∧ Below w.heap.size w w' := by
  obtain ⟨i0, hi0, hz0, hz1, hz2⟩ := info_parts Try.info22
  rcases A with _ | ad
  · have hn : n = 0 := by
      rcases Nat.eq_zero_or_pos n with h0 | h0
      · exact h0
      · obtain ⟨ad, hh, _⟩ := h.2 h0
        cases hh
    subst hn
    have hc : cells = [] := List.eq_nil_of_length_eq_zero (by have := h.1; omega)
    subst hc
    have hnil := Lib.run_eql_slice_nil (P := Try.prog) w 24 22 none 0 c 0 0 Try.underlying24
    go_enter Try.func66, Try.ntmps66
    go_wp2
    go_ret
    exact ⟨_, rfl, ⟨by simp, .inl ⟨rfl, rfl⟩⟩, Below.refl _ _⟩
  · have hnil := Lib.run_eql_slice_nil (P := Try.prog) w 24 22 (some ad) n c 0 0 Try.underlying24
    go_enter Try.func66, Try.ntmps66
    go_wp2_with (at_builtin
                 go_must (refine wpList_append_any _ rfl (.tmp 5) (.tmp 6) _ rfl w.heap.size 22 i0 _ 1 24 Try.underlying24 hi0 hz0 hz1 hz2 rfl (by omega) _ 0 [] rfl (Rep.lit_empty w _ _ rfl) w.heap.size (some ad) n c cells rfl (h.alloc (Nat.le_refl _) _) h1 (by simp only [maxLen]; omega) (by omega) (by simp) ?_)
                 intro v3 w3 hown3 hg3 hat3)
    go_ret
    exact ⟨v3, rfl, by simpa using hown3, ((Below.refl _ _).alloc (Nat.le_refl _) _).grown hg3 (by simp) (fun k hk => ((Rep.lit_empty w 22 1 rfl).lt k hk).1)⟩

set_option maxHeartbeats 1000000 in
theorem sclone_cache (A : Option Addr) (c n : Nat) (cells : List Value) (w : World) (h : Reads w w.heap.size 2 A n cells) (h1 : ∀ u ∈ cells, u.oneCell' = true) (hl : n ≤ 1048576) :
    Calls Try.prog 68 #[.slice A n c] w fun e w' => ∃ v, e = .returned v ∧ w'.ownsRow w.heap.size 42 2 v n cells ∧ Below w.heap.size w w' := by
  obtain ⟨i0, hi0, hz0, hz1, hz2⟩ := info_parts Try.info42
  rcases A with _ | ad
  · have hn : n = 0 := by
      rcases Nat.eq_zero_or_pos n with h0 | h0
      · exact h0
      · obtain ⟨ad, hh, _⟩ := h.2 h0
        cases hh
    subst hn
    have hc : cells = [] := List.eq_nil_of_length_eq_zero (by have := h.1; omega)
    subst hc
    have hnil := Lib.run_eql_slice_nil (P := Try.prog) w 25 42 none 0 c 0 0 Try.underlying25
    go_enter Try.func68, Try.ntmps68
    go_wp2
    go_ret
    exact ⟨_, rfl, ⟨by simp, .inl ⟨rfl, rfl⟩⟩, Below.refl _ _⟩
  · have hnil := Lib.run_eql_slice_nil (P := Try.prog) w 25 42 (some ad) n c 0 0 Try.underlying25
    go_enter Try.func68, Try.ntmps68
    go_wp2_with (at_builtin
                 go_must (refine wpList_append_any _ rfl (.tmp 5) (.tmp 6) _ rfl w.heap.size 42 i0 _ 2 32 Try.underlying25 hi0 hz0 hz1 hz2 rfl (by omega) _ 0 [] rfl (Rep.lit_empty w _ _ rfl) w.heap.size (some ad) n c cells rfl (h.alloc (Nat.le_refl _) _) h1 (by simp only [maxLen]; omega) (by omega) (by simp) ?_)
                 intro v3 w3 hown3 hg3 hat3)
    go_ret
    exact ⟨v3, rfl, by simpa using hown3, ((Below.refl _ _).alloc (Nat.le_refl _) _).grown hg3 (by simp) (fun k hk => ((Rep.lit_empty w 42 2 rfl).lt k hk).1)⟩

end Go.Proofs.Ytjhfnfffpofagaa
