/- What writing, syncing and falling do to what is read. Plain facts. -/
import Derived.Test.YtkpcjnamoejjjaaFall0
namespace Go.Proofs.Ytkpcjnamoejjjaa
open Go.RowKit Go.Maps
set_option linter.unusedVariables false

theorem key_push {cache : List Wr} {x : Wr} {k : Nat} (hk : k < cache.length) (i : Int) : key (cache ++ [x]) k i = key cache k i := by
  unfold key
  rw [List.getElem?_append_left hk]
theorem idxC_push {cache : List Wr} {x : Wr} (i : Int) : ∀ k, k ≤ cache.length → idxC (key (cache ++ [x])) k i = idxC (key cache) k i := by
  intro k
  induction k with
  | zero => intro _; rfl
  | succ k ih =>
    intro hk
    show (if key (cache ++ [x]) k i = true then some k else idxC (key (cache ++ [x])) k i) = (if key cache k i = true then some k else idxC (key cache) k i)
    rw [key_push (by omega), ih (by omega)]
theorem idxC_last {cache : List Wr} {x : Wr} (i : Int) : idxC (key (cache ++ [x])) (cache.length + 1) i = if x.n = i then some cache.length else idxC (key cache) cache.length i := by
  show (if key (cache ++ [x]) cache.length i = true then some cache.length else idxC (key (cache ++ [x])) cache.length i) = _
  rw [idxC_push i _ (Nat.le_refl _), show key (cache ++ [x]) cache.length i = (x.n == i) from key_eq (by simp) i]
  by_cases h : x.n = i
  · rw [if_pos h, if_pos (by simpa using h)]
  · rw [if_neg h, if_neg (by simpa using h)]

/-- What is read of any sector, of a valid disk. -/
theorem readTo_push (d : Disk) (n : Int) (b : List UInt8) (f : Int) (dn : Bool) (i : Int) : readTo ⟨d.secs, d.cache ++ [⟨n, b⟩], f, dn⟩ i (d.cache.length + 1) = if n = i then b else readTo d i d.cache.length := by
  unfold readTo
  show (match idxC (key (d.cache ++ [(⟨n, b⟩ : Wr)])) (d.cache.length + 1) i with | some j => ((d.cache ++ [(⟨n, b⟩ : Wr)]).getD j ⟨0, []⟩).b | none => d.secs.getD i.toNat []) = _
  rw [idxC_last i]
  by_cases h : n = i
  · rw [if_pos h, if_pos h]
    show ((d.cache ++ [(⟨n, b⟩ : Wr)]).getD d.cache.length ⟨0, []⟩).b = b
    rw [List.getD_eq_getElem?_getD]
    simp
  · rw [if_neg h, if_neg h]
    rcases he : idxC (key d.cache) d.cache.length i with _ | j
    · rfl
    · have hj := (idxC_lt he).1
      show ((d.cache ++ [(⟨n, b⟩ : Wr)]).getD j ⟨0, []⟩).b = (d.cache.getD j ⟨0, []⟩).b
      rw [List.getD_eq_getElem?_getD, List.getD_eq_getElem?_getD, List.getElem?_append_left hj]

theorem good_write {d : Disk} {n : Int} {b : List UInt8} (h : WriteGood d n b) : DiskGood (writeSec d n b) := by
  obtain ⟨⟨⟨h1, h2, h3⟩, h4, h5, h6, h7⟩, hd, hn, hb, hc⟩ := h
  have hw : WriteGood d n b := ⟨⟨⟨h1, h2, h3⟩, h4, h5, h6, h7⟩, hd, hn, hb, hc⟩
  by_cases h0 : d.fuse = 0
  · rw [writeSec_zero hw h0]
    exact ⟨⟨h1, h2, h3⟩, h4, h5, by show (-1 : Int) ≤ -1; omega, by show (-1 : Int) ≤ 1000; omega⟩
  · rw [writeSec_go hw h0]
    refine ⟨⟨h1, h2, by show (d.cache ++ [(⟨n, b⟩ : Wr)]).length ≤ 30; simp; omega⟩, h4, fun x hx => ?_, ?_⟩
    · replace hx : x ∈ d.cache ++ [(⟨n, b⟩ : Wr)] := hx
      rw [List.mem_append] at hx
      rcases hx with hx | hx
      · exact h5 x hx
      · simp at hx
        subst hx
        exact ⟨hn.1, hn.2, hb⟩
    · show -1 ≤ fuseAfter d.fuse ∧ fuseAfter d.fuse ≤ 1000
      unfold fuseAfter
      split <;> omega

theorem secAt_small {d : Disk} (h : DiskGood d) {idx : Int → Option Nat} (hi : IdxOk d idx) {i : Nat} (hin : i < d.secs.length) : (secAt d idx i).length ≤ 160 := by
  unfold secAt
  rcases he : idx (i : Int) with _ | j
  · show (d.secs.getD i []).length ≤ _
    rw [List.getD_eq_getElem?_getD, List.getElem?_eq_getElem hin]
    exact h.2.1 _ (List.getElem_mem hin)
  · obtain ⟨y, hy, _⟩ := hi i j he
    show (d.cache.getD j ⟨0, []⟩).b.length ≤ _
    rw [List.getD_eq_getElem?_getD, hy]
    exact (h.2.2.1 y (List.mem_of_getElem? hy)).2.2
theorem good_flush {d : Disk} (h : DiskGood d) {idx : Int → Option Nat} (hi : IdxOk d idx) {f : Int} (dn : Bool) (h1 : -1 ≤ f) (h2 : f ≤ 1000) : DiskGood ⟨flushSecs d idx, [], f, dn⟩ := by
  refine ⟨⟨by show 1 ≤ (flushSecs d idx).length; rw [flushSecs_length]; exact h.1.1, by show (flushSecs d idx).length ≤ 40; rw [flushSecs_length]; exact h.1.2.1, Nat.zero_le _⟩, fun b hb => ?_, fun x hx => (by cases hx), h1, h2⟩
  replace hb : b ∈ flushSecs d idx := hb
  unfold flushSecs at hb
  rw [List.mem_map] at hb
  obtain ⟨i, hi1, rfl⟩ := hb
  exact secAt_small h hi (by simpa using hi1)
theorem flush_get {d : Disk} {idx : Int → Option Nat} {i : Nat} (hin : i < d.secs.length) : (flushSecs d idx).getD i [] = secAt d idx i := by
  unfold flushSecs
  rw [List.getD_eq_getElem?_getD, List.getElem?_map, List.getElem?_range hin]
  rfl
/-- Without cached writes a sector's own bytes are read. -/
theorem readTo_nil (s : List (List UInt8)) (f : Int) (dn : Bool) (i : Int) (k : Nat) (hk : k = 0) : readTo ⟨s, [], f, dn⟩ i k = s.getD i.toNat [] := by
  subst hk
  rfl
/-- Synced sectors hold what was read. -/
theorem read_flush {d : Disk} {i : Nat} (hin : i < d.secs.length) (f : Int) (dn : Bool) : readTo ⟨flushSecs d (idxC (key d.cache) d.cache.length), [], f, dn⟩ (i : Int) 0 = readTo d (i : Int) d.cache.length := by
  rw [readTo_nil _ _ _ _ _ rfl]
  show (flushSecs d (idxC (key d.cache) d.cache.length)).getD ((i : Int).toNat) [] = _
  rw [show ((i : Int).toNat) = i by simp, flush_get hin]
  unfold secAt readTo
  rw [show ((i : Int).toNat) = i by simp]
  rcases idxC (key d.cache) d.cache.length (i : Int) with _ | j <;> rfl
/-- A disk without cached writes keeps its sectors when power fails. -/
theorem flush_nil (s : List (List UInt8)) (f : Int) (dn : Bool) (p : Nat → Int → Bool) : flushSecs ⟨s, [], f, dn⟩ (idxC p 0) = s := by
  refine List.ext_getElem? fun i => ?_
  by_cases h : i < s.length
  · have h1 : (flushSecs ⟨s, [], f, dn⟩ (idxC p 0))[i]? = some (secAt ⟨s, [], f, dn⟩ (idxC p 0) i) := by
      unfold flushSecs
      rw [List.getElem?_map, List.getElem?_range h]
      rfl
    rw [h1, List.getElem?_eq_getElem h]
    show some (s.getD i []) = _
    rw [List.getD_eq_getElem?_getD, List.getElem?_eq_getElem h]
    rfl
  · rw [List.getElem?_eq_none (by rw [flushSecs_length]; show s.length ≤ i; omega), List.getElem?_eq_none (by omega)]
/-- Each sector, after power has failed, is as it was or as a cached write has it. -/
theorem secAt_from {d : Disk} {idx : Int → Option Nat} (hi : IdxOk d idx) (i : Nat) : secAt d idx i = d.secs.getD i [] ∨ ∃ x, x ∈ d.cache ∧ x.n = (i : Int) ∧ secAt d idx i = x.b := by
  unfold secAt
  rcases he : idx (i : Int) with _ | j
  · exact .inl rfl
  · obtain ⟨y, hy, hyn⟩ := hi i j he
    refine .inr ⟨y, List.mem_of_getElem? hy, hyn, ?_⟩
    show (d.cache.getD j ⟨0, []⟩).b = y.b
    rw [List.getD_eq_getElem?_getD, hy]
    rfl

end Go.Proofs.Ytkpcjnamoejjjaa
