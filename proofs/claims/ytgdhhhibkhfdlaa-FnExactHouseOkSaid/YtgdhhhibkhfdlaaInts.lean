/- Rows of ints of the call's own. (By gen_l10c.py.) -/
import Derived.Test.YtgdhhhibkhfdlaaHeapP
namespace Go.Proofs.Ytgdhhhibkhfdlaa
open Go.RowKit
set_option linter.unusedVariables false

def iV (l : List Int) : List Value := l.map fun (n : Int) => Value.int .i64 n
theorem iV_len (l : List Int) : (iV l).length = l.length := by simp [iV]
theorem iV_app (l m : List Int) : iV (l ++ m) = iV l ++ iV m := by simp [iV]
theorem iV_take (l : List Int) (k : Nat) : (iV l).take k = iV (l.take k) := by simp [iV, List.map_take]
theorem iV_drop (l : List Int) (k : Nat) : (iV l).drop k = iV (l.drop k) := by simp [iV, List.map_drop]
theorem iV_get {l : List Int} {k : Nat} {n : Int} (h : l[k]? = some n) : (iV l)[k]? = some (.int .i64 n) := by simp [iV, h]
theorem iV_one (l : List Int) : ∀ u ∈ iV l, u.oneCell' = true := by
  intro u hu
  obtain ⟨n, _, rfl⟩ := List.mem_map.1 hu
  rfl
theorem Try.infoI : (Try.prog.info? 3).map (fun i => (i.zero, i.size, i.bytes)) = some (some (.int .i64 0), 1, 8) := by kernel_rfl
def IRow (w : World) (base : Nat) (v : Value) (l : List Int) : Prop := w.ownsRow base 3 1 v l.length (iV l)
theorem IRow.shape {w : World} {base : Nat} {v : Value} {l : List Int} (h : IRow w base v l) : ∃ A c, v = .slice A l.length c ∧ l.length ≤ c ∧ c ≤ maxLen ∧ Reads w w.heap.size 1 A l.length (iV l) := by
  have h' := h
  rcases h.2 with ⟨rfl, h0⟩ | ⟨g, cap, cur, rfl, hb, hg, hnc, hcm, _, _⟩
  · have hl : l = [] := List.eq_nil_of_length_eq_zero h0
    subst hl
    exact ⟨none, 0, rfl, Nat.le_refl _, by simp, Reads.none_⟩
  · exact ⟨_, cap, rfl, hnc, hcm, Reads.of_own h'⟩
theorem IRow.later {w w' : World} {base : Nat} {v : Value} {l : List Int} (h : IRow w base v l) (hb : Below w.heap.size w w') : IRow w' base v l := Rep.ownsRow_block h fun g hg => hb.block g (h.lt g (by simpa using hg)).2
theorem IRow.low {w : World} {base base' : Nat} {v : Value} {l : List Int} (h : IRow w base v l) (hb : base' ≤ base) : IRow w base' v l := ownsRow_mono h hb
def RetI (w : World) (l : List Int) (e : Ending) (w' : World) : Prop := ∃ v, e = .returned v ∧ IRow w' w.heap.size v l ∧ Below w.heap.size w w'
open HeapP in
theorem srtA_len (xs : List Ak) : ∀ i, (srtA xs i).length ≤ i := by
  intro i
  induction i with
  | zero => simp [srtA]
  | succ i ih =>
    have hi : ∀ x (R : List Nat), (ins (ltA xs) x R).length = R.length + 1 := by
      intro x R
      induction R with
      | nil => rfl
      | cons r R ih => unfold ins; split <;> simp [ih]
    show (match xs[i]? with | some a => if a.st = 2 then ins (ltA xs) i (srtA xs i) else srtA xs i | none => srtA xs i).length ≤ i + 1
    split
    · split
      · rw [hi]; omega
      · omega
    · omega
theorem ofDb_len (xs : List Ak) (db : ByteArray) (i : Nat) : (ofDb xs db (srtA xs i)).length ≤ i := Nat.le_trans (List.length_filter_le _ _) (srtA_len xs i)

end Go.Proofs.Ytgdhhhibkhfdlaa
