/- What came in, as the reader reads it, holds data: opened by type. Plain, over any program. -/
import Derived.Test.YtgdhhhibkhfdlaaRepRow
import Derived.Deep.Slices
import Derived.ChangeArms
import Derived.ChangeOld
import Derived.WideShapes
namespace Go.Proofs.Ytgdhhhibkhfdlaa
open Go.RowKit Go.ChangeShapes Go.WideShapes Go.Deep
set_option linter.unusedVariables false
namespace Rep
variable {α : Type}

/-- Whatever reads as a datum of type t holds data in the sense of R, and they are 'ok'. -/
def Opens (P : Program) (t : TypeId) (R : Rep α) (ok : α → Prop) : Prop :=
  ∀ (H : Type) (enc : TypeId × Value → H) (w : World) (base : Nat) (spare : Nat → Bool) (held : Bool) (fuel : Nat) (cs : List Value) (x : DataW H × List MemPlace), DataW.trod enc P w base spare held fuel t cs = some x → ∃ y, R.at_ w w.heap.size cs y ∧ ok y

theorem Opens.int {P : Program} {t : TypeId} (ht : P.underlying t = some (.int .i64)) : Opens P t Rep.int (fun n => (Lit.int .i64 n).wf = true) := by
  intro H enc w base spare held fuel cs x h
  obtain ⟨n, rfl, _, hw⟩ := DataW.trod_int ht h
  exact ⟨n, rfl, hw⟩
theorem Opens.bool {P : Program} {t : TypeId} (ht : P.underlying t = some .bool) : Opens P t Rep.bool (fun _ => True) := by
  intro H enc w base spare held fuel cs x h
  obtain ⟨b, rfl, _⟩ := DataW.trod_bool ht h
  exact ⟨b, rfl, trivial⟩

theorem list_of {P : Nat → α → Prop} (n : Nat) (h : ∀ i, i < n → ∃ y, P i y) : ∃ xs : List α, xs.length = n ∧ ∀ i y, xs[i]? = some y → P i y := by
  induction n with
  | zero => exact ⟨[], rfl, fun i y hy => by simp at hy⟩
  | succ n ih =>
    obtain ⟨xs, hl, hx⟩ := ih fun i hi => h i (by omega)
    obtain ⟨y, hy⟩ := h n (by omega)
    refine ⟨xs ++ [y], by simp [hl], fun i z hz => ?_⟩
    by_cases hi : i < n
    · rw [List.getElem?_append_left (by omega)] at hz
      exact hx i z hz
    · rw [List.getElem?_append_right (by omega)] at hz
      have hin : i = n := by
        have := (List.getElem?_eq_some_iff.1 hz).1
        simp at this
        omega
      subst hin
      simp [hl] at hz
      subst hz
      exact hy

/-- A slice, element by element. -/
theorem Opens.row {P : Program} {t e : TypeId} {R : Rep α} {ok : α → Prop} (ht : P.underlying t = some (.slice e)) (hC : P.cellsOf e = R.size) (hs : 0 < R.size) (he : Opens P e R ok)
    (H : Type) (enc : TypeId × Value → H) (w : World) (base : Nat) (spare : Nat → Bool) (held : Bool) (fuel : Nat) (cs : List Value) (x : DataW H × List MemPlace) (h : DataW.trod enc P w base spare held fuel t cs = some x) :
    ∃ (A : Option Addr) (len cap : Nat) (xs : List α), cs = [.slice A len cap] ∧ xs.length = len ∧ (len ≤ cap ∧ cap ≤ maxLen) ∧ RowsAt R w w.heap.size A len xs ∧ ∀ y, y ∈ xs → ok y := by
  rcases open_slice ht h with ⟨rfl, _⟩ | ⟨a, len, cap, m, n, D, Pl, rfl, hb, hl, hm, hmm, hx, hi⟩
  · exact ⟨none, 0, 0, [], rfl, rfl, ⟨Nat.le_refl _, by simp [maxLen]⟩, ⟨rfl, [], ⟨by simp, fun h => absurd h (by omega)⟩, fun i x hx => by simp at hx⟩, fun y hy => by simp at hy⟩
  · rw [hC] at hi
    have hlm : len ≤ m := by rw [hmm]; split <;> omega
    have hall : ∀ i, i < len → ∃ (y : α) (cs' : List Value), cs'.length = R.size ∧ (∀ r, r < R.size → w.cell? ((a.add (i * R.size)).add r) = cs'[r]?) ∧ R.at_ w w.heap.size cs' y ∧ ok y := by
      intro i hil
      obtain ⟨cs', hc, ht'⟩ := hi i (by omega)
      obtain ⟨_, hlen, hcell⟩ := World.cells?_some hc
      obtain ⟨y, hy, hok⟩ := he H enc w base spare held n cs' _ ht'
      exact ⟨y, cs', hlen, hcell, hy, hok⟩
    have hcells : ∀ j, j < len * R.size → ∃ u, w.cell? (a.add j) = some u := by
      intro j hj
      have hd : j / R.size < len := (Nat.div_lt_iff_lt_mul hs).2 hj
      obtain ⟨y, cs', hlen, hcell, _⟩ := hall (j / R.size) hd
      have hr := Nat.mod_lt j hs
      have := hcell (j % R.size) hr
      rw [Go.Proofs.Ytgdhhhibkhfdlaa.add_of_add, Nat.mul_comm, Nat.div_add_mod, List.getElem?_eq_getElem (by omega)] at this
      exact ⟨_, this⟩
    obtain ⟨xs, hxl, hxs⟩ := list_of len hall
    refine ⟨some a, len, cap, xs, rfl, hxl, ⟨hl, hm⟩, ⟨hxl, (List.range (len * R.size)).map (fun j => (w.cell? (a.add j)).getD undef), ⟨by simp, ?_⟩, ?_⟩, ?_⟩
    · intro hn
      obtain ⟨u, hu⟩ := hcells 0 (Nat.mul_pos hn hs)
      refine ⟨a, rfl, ?_, ?_⟩
      · have := World.block_lt_of_cell? w _ hu
        rwa [Go.Proofs.Ytgdhhhibkhfdlaa.block_of_add] at this
      · intro j v hv
        rw [List.getElem?_map] at hv
        by_cases hj : j < len * R.size
        · rw [List.getElem?_range hj] at hv
          obtain ⟨u', hu'⟩ := hcells j hj
          simp only [Option.map_some, hu', Option.getD_some] at hv
          rw [hu']
          exact hv
        · rw [List.getElem?_eq_none (by simpa using Nat.le_of_not_lt hj)] at hv
          cases hv
    · intro i y hy
      have hil : i < len := by have := (List.getElem?_eq_some_iff.1 hy).1; omega
      obtain ⟨cs', hlen, hcell, hat, hok⟩ := hxs i y hy
      have : seg R.size i ((List.range (len * R.size)).map (fun j => (w.cell? (a.add j)).getD undef)) = cs' := by
        refine seg_ext (n := len) (by simp) hil hlen fun j hj => ?_
        have h1 : (i + 1) * R.size ≤ len * R.size := Nat.mul_le_mul_right _ hil
        rw [Nat.add_mul, Nat.one_mul] at h1
        have h2 := hcell j hj
        rw [Go.Proofs.Ytgdhhhibkhfdlaa.add_of_add] at h2
        rw [List.getElem?_map, List.getElem?_range (by omega), Option.map_some, h2, List.getElem?_eq_getElem (by omega)]
        rfl
      rw [this]
      exact hat
    · intro y hy
      obtain ⟨i, hi, rfl⟩ := List.mem_iff_getElem.1 hy
      obtain ⟨cs', _, _, _, hok⟩ := hxs i _ (List.getElem?_eq_getElem hi)
      exact hok

theorem Opens.rows {P : Program} {t e e' : TypeId} {R : Rep α} {ok : α → Prop} (ht : P.underlying t = some (.slice e)) (hC : P.cellsOf e = R.size) (hs : 0 < R.size) (he : Opens P e R ok) : Opens P t (Rep.rows e' R) (fun xs => ∀ y, y ∈ xs → ok y) := by
  intro H enc w base spare held fuel cs x h
  obtain ⟨A, len, cap, xs, rfl, rfl, hc, hr, hok⟩ := Opens.row ht hC hs he H enc w base spare held fuel cs x h
  exact ⟨xs, ⟨A, cap, rfl, hc, hr⟩, hok⟩

def u8R : Rep UInt8 := leaf (fun b => .int .u8 (b.toNat : Int)) (fun k _ => UInt8.ofNat k)
theorem Opens.u8 {P : Program} {t : TypeId} (ht : P.underlying t = some (.int .u8)) : Opens P t u8R (fun _ => True) := by
  intro H enc w base spare held fuel cs x h
  obtain ⟨n, rfl, _, hw⟩ := DataW.trod_int ht h
  exact ⟨UInt8.ofNat n.toNat, by show [Value.int .u8 n] = [Value.int .u8 (((UInt8.ofNat n.toNat).toNat : Nat) : Int)]; rw [u8_of_wf hw], trivial⟩
theorem Opens.bytes {P : Program} {t e e' : TypeId} (ht : P.underlying t = some (.slice e)) (he : P.underlying e = some (.int .u8)) (hC : P.cellsOf e = 1) : Opens P t (Rep.bytes e') (fun _ => True) := by
  intro H enc w base spare held fuel cs x h
  obtain ⟨A, len, cap, xs, rfl, rfl, hc, ⟨_, cells, hr, hel⟩, hok⟩ := Opens.row (R := u8R) ht hC (by show 0 < 1; omega) (Opens.u8 he) H enc w base spare held fuel cs x h
  refine ⟨xs, ⟨A, cap, rfl, hc, ?_⟩, trivial⟩
  have hcl : cells = bys xs := by
    apply List.ext_getElem?
    intro j
    have hlen := hr.1
    rw [show u8R.size = 1 from rfl, Nat.mul_one] at hlen
    by_cases hj : j < xs.length
    · have h1 := hel j _ (List.getElem?_eq_getElem hj)
      have h2 := seg_get (size := 1) (i := j) (j := 0) (cells := cells) (by omega)
      rw [show seg 1 j cells = [.int .u8 (xs[j].toNat : Int)] from h1] at h2
      rw [bys_get (List.getElem?_eq_getElem hj)]
      simpa using h2.symm
    · rw [List.getElem?_eq_none (by omega), List.getElem?_eq_none (by rw [bys_length]; omega)]
  rw [← hcl]
  exact hr

/-- A field of a structure. -/
theorem Opens.field {P : Program} {t : TypeId} {R : Rep α} {ok : α → Prop} {H : Type} {enc : TypeId × Value → H} {w : World} {base : Nat} {spare : Nat → Bool} {held : Bool} {n off sz i : Nat} {cs : List Value} {xs : List (DataW H × List MemPlace)}
    (h : Opens P t R ok) (hf : DataW.trod enc P w base spare held n t ((cs.drop off).take (P.cellsOf t)) = xs[i]?) (hi : i < xs.length) (hC : P.cellsOf t = sz) : ∃ y, R.at_ w w.heap.size ((cs.drop off).take sz) y ∧ ok y := by
  rw [List.getElem?_eq_getElem hi, hC] at hf
  exact h H enc w base spare held n _ _ hf

end Rep
end Go.Proofs.Ytgdhhhibkhfdlaa
