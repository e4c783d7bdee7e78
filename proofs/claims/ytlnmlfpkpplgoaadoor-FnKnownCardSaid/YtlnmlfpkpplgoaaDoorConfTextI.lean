/- ConfText of the program. -/
import Derived.Test.YtlnmlfpkpplgoaaDoorConfTextS
import Derived.Deep.DeepMust
namespace Go.Proofs.YtlnmlfpkpplgoaaDoor
open Go.RowKit
set_option maxRecDepth 100000
set_option linter.unusedVariables false

theorem lens_le {C : Nat} : ∀ {l : List (List UInt8)}, (∀ x, x ∈ l → x.length ≤ C) → Lib.lens l ≤ C * l.length := by
  intro l
  induction l with
  | nil => intro _; simp [Lib.lens]
  | cons a r ih =>
    intro h
    have h1 := h a (by simp)
    have h2 := ih fun x hx => h x (by simp [hx])
    simp only [Lib.lens, List.map_cons, List.sum_cons, List.length_cons] at h2 ⊢
    rw [Nat.mul_add]
    omega
theorem join_le {C : Nat} {l : List (List UInt8)} (h : ∀ x, x ∈ l → x.length ≤ C) (s : List UInt8) : (Lib.join l s).length ≤ (s.length + C) * l.length := by
  match l, h with
  | [], _ => simp [Lib.join_nil]
  | a :: r, h =>
    have h1 := lens_le h
    rw [Lib.join_length]
    simp only [List.length_cons] at h1 ⊢
    have : s.length * r.length ≤ s.length * (r.length + 1) := Nat.mul_le_mul_left _ (by omega)
    rw [Nat.add_mul]
    omega
theorem dbL_le {d : Db} (h : SmallDb d) : (dbL d).length ≤ 100 := by
  obtain ⟨s0, ⟨s1, s1'⟩, ⟨s2, s2'⟩, ⟨s3, s3'⟩, ⟨s4, s4'⟩⟩ := h
  have n1 := itoa_small s1 s1'
  have n2 := itoa_small s2 s2'
  have n3 := itoa_small s3 s3'
  have n4 := itoa_small s4 s4'
  have e : d.name.data.toList.length = d.name.size := by simp
  simp only [dbL, List.length_append, List.length_cons, List.length_nil]
  omega

theorem Tryd.infoStr : (Tryd.prog.info? 9).map (fun i => (i.zero, i.size, i.bytes)) = some (some (.string ⟨#[]⟩), 1, 16) := by kernel_rfl
def stR : Rep ByteArray := strR markText

theorem str_cells {w : World} {B b off n : Nat} {ts : List ByteArray} (h : Rep.RowsAt stR w B (some ⟨b, off, none⟩) n ts) : ∀ (j : Nat) (x : ByteArray), ts[j]? = some x → w.cell? ⟨b, off + j, none⟩ = some (.string x) ∧ b < B := by
  intro j x hx
  have hl := h.1
  have hj : j < n := by have := (List.getElem?_eq_some_iff.1 hx).1; omega
  obtain ⟨b', off', cs, y, hA, hb, hy, hat, hcell⟩ := h.elem hj (show 0 < 1 by omega)
  injection hA with hA
  injection hA with e1 e2 _
  subst e1 e2
  rw [hx] at hy
  injection hy with hy
  subst hy
  have hat' : cs = [.string x] := hat
  subst hat'
  have h2 := hcell 0 _ rfl
  have e : stR.size = 1 := rfl
  rw [e, Nat.mul_one, Nat.add_zero] at h2
  exact ⟨h2, hb⟩

end Go.Proofs.YtlnmlfpkpplgoaaDoor
