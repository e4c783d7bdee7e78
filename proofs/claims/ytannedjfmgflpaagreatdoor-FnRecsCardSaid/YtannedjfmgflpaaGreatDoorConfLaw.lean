/- What FnConfs says of configurations, in plain lists. -/
import Derived.Test.YtannedjfmgflpaaGreatDoorConfBack
import Derived.Test.YtannedjfmgflpaaGreatDoorConfAt
import Derived.Test.YtannedjfmgflpaaGreatDoorDbNe
namespace Go.Proofs.YtannedjfmgflpaaGreatDoor
open Go.RowKit
set_option maxRecDepth 100000
set_option linter.unusedVariables false

theorem confT_no {xs : List Db} (h : confB xs = false) : confT xs = ⟨#[]⟩ := by unfold confT; rw [h]; rfl
theorem confT_yes {xs : List Db} (h : confB xs = true) : (confT xs).data.toList = Lib.join (xs.map dbL) [59] := by unfold confT; rw [h]; rfl
theorem parse_nil : parseS [] = ([], false) := by
  cases h : parseS [] with
  | mk ys b =>
    cases b with
    | true =>
      obtain ⟨hc, hj⟩ := parse_back h
      have h1 : 1 ≤ ys.length := (confB_good hc).1.1
      match ys, h1 with
      | x :: r, _ =>
        have h2 := congrArg List.length hj
        rw [List.map_cons, Lib.join_cons] at h2
        simp [dbL] at h2
    | false =>
      unfold parseS at h
      split at h
      · exact h.symm
      · unfold okOf at h
        split at h
        · split at h
          · injection h with _ h2; cases h2
          · exact h.symm
        · exact h.symm
theorem confT_len (xs : List Db) : (confT xs).size ≤ 100 := by
  cases h : confB xs with
  | false => rw [confT_no h]; exact Nat.zero_le _
  | true =>
    have h1 := confT_yes h
    obtain ⟨hd, hl⟩ := conf_dbs h
    have h2 := join_le3 (l := xs.map dbL) (fun p hp => by obtain ⟨d, hm, rfl⟩ := List.mem_map.1 hp; exact (dbOf_text (hd d hm)).2.2) (by simpa using hl)
    rw [← h1] at h2
    simpa using h2
theorem parse_confT_no {xs : List Db} (h : confB xs = false) : parseS (confT xs).data.toList = ([], false) := by rw [confT_no h]; exact parse_nil
theorem parse_confT {xs : List Db} (h : confB xs = true) : parseS (confT xs).data.toList = (xs, true) := by rw [confT_yes h]; exact parse_text h
theorem confT_back {s : ByteArray} {xs : List Db} (h : parseS s.data.toList = (xs, true)) : confT xs = s := by
  obtain ⟨hc, hj⟩ := parse_back h
  have h1 := confT_yes hc
  rw [hj] at h1
  obtain ⟨⟨l⟩⟩ := s
  generalize confT xs = t at h1
  obtain ⟨⟨m⟩⟩ := t
  simp at h1
  rw [h1]
theorem dbAt_own {xs : List Db} {i : Nat} {x : Db} (h : confB xs = true) (hx : xs[i]? = some x) : dbAt xs x.name = (x, true) := by
  refine dbAt_hit (k := i) (fun j y hj hy => ?_) hx (by simp)
  cases hb : (y.name.toList == x.name.toList) with
  | false => rfl
  | true => exact absurd (list_bytes hb) ((confB_good h).2.2 i j x y hj (List.getElem?_eq_some_iff.1 hx).1 hx hy)

end Go.Proofs.YtannedjfmgflpaaGreatDoor
