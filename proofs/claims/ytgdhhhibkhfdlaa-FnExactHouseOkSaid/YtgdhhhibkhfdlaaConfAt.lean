/- DbAt, of the program and of the model. -/
import Derived.Test.YtgdhhhibkhfdlaaConfOkS
namespace Go.Proofs.Ytgdhhhibkhfdlaa
open Go.RowKit
set_option linter.unusedVariables false

def dbAt : List Db → ByteArray → Db × Bool
  | [], _ => (dbZero, false)
  | x :: xs, n => if (x.name.toList == n.toList) = true then (x, true) else dbAt xs n
def NoneTo (xs : List Db) (n : ByteArray) (k : Nat) : Prop := ∀ i x, i < k → xs[i]? = some x → (x.name.toList == n.toList) = false
theorem NoneTo.zero (xs : List Db) (n : ByteArray) : NoneTo xs n 0 := fun i x h => absurd h (by omega)
theorem NoneTo.succ {xs : List Db} {n : ByteArray} {k : Nat} {x : Db} (h : NoneTo xs n k) (hx : xs[k]? = some x) (hn : (x.name.toList == n.toList) = false) : NoneTo xs n (k + 1) := by
  intro i y hi hy
  by_cases hk : i < k
  · exact h i y hk hy
  · obtain rfl : i = k := by omega
    rw [hx] at hy
    injection hy with hy
    subst hy
    exact hn
theorem dbAt_hit : ∀ {xs : List Db} {n : ByteArray} {k : Nat} {x : Db}, NoneTo xs n k → xs[k]? = some x → (x.name.toList == n.toList) = true → dbAt xs n = (x, true) := by
  intro xs
  induction xs with
  | nil => intro n k x _ hx; simp at hx
  | cons y ys ih =>
    intro n k x hno hx hn
    cases k with
    | zero =>
      simp only [List.getElem?_cons_zero] at hx
      injection hx with hx
      subst hx
      unfold dbAt
      rw [if_pos hn]
    | succ k =>
      have h0 := hno 0 y (by omega) rfl
      unfold dbAt
      rw [if_neg (by rw [h0]; simp)]
      have hno' : NoneTo ys n k := fun i z hi hz => hno (i + 1) z (by omega) (by simpa using hz)
      exact ih hno' (by simpa using hx) hn
theorem dbAt_none : ∀ {xs : List Db} {n : ByteArray}, NoneTo xs n xs.length → dbAt xs n = (dbZero, false) := by
  intro xs
  induction xs with
  | nil => intro n _; rfl
  | cons y ys ih =>
    intro n hno
    have h0 := hno 0 y (by simp) rfl
    unfold dbAt
    rw [if_neg (by rw [h0]; simp)]
    have hno' : NoneTo ys n ys.length := fun i z hi hz => hno (i + 1) z (by simp; omega) (by simpa using hz)
    exact ih hno'
theorem dbAt_true : ∀ {xs : List Db} {n : ByteArray}, (dbAt xs n).2 = true → ∃ (j : Nat) (y : Db), xs[j]? = some y ∧ y.name = n := by
  intro xs
  induction xs with
  | nil => intro n h; simp [dbAt] at h
  | cons y ys ih =>
    intro n h
    unfold dbAt at h
    by_cases hy : (y.name.toList == n.toList) = true
    · exact ⟨0, y, rfl, str_eq hy⟩
    · rw [if_neg hy] at h
      obtain ⟨j, z, hz, hn⟩ := ih h
      exact ⟨j + 1, z, by simpa using hz, hn⟩
theorem dbAt_false : ∀ {xs : List Db} {n : ByteArray}, (dbAt xs n).2 = false → ∀ (j : Nat) (y : Db), xs[j]? = some y → y.name ≠ n := by
  intro xs
  induction xs with
  | nil => intro n _ j y hy; simp at hy
  | cons x ys ih =>
    intro n h j y hy
    unfold dbAt at h
    by_cases hx : (x.name.toList == n.toList) = true
    · rw [if_pos hx] at h; simp at h
    · rw [if_neg hx] at h
      cases j with
      | zero =>
        simp only [List.getElem?_cons_zero] at hy
        injection hy with hy
        subst hy
        exact str_ne (by simpa using hx)
      | succ j => exact ih h j y (by simpa using hy)

/-- A database comes back, and whether there is one. -/
def RetDb (w : World) (p : Db × Bool) (e : Ending) (w' : World) : Prop := e = .returned (.tuple #[.agg (dbC p.1).toArray, .bool p.2]) ∧ Below w.heap.size w w'

theorem dbC_zero : (dbC dbZero).toArray = #[.string ⟨#[]⟩, .int .i64 0, .int .i64 0, .int .i64 0, .int .i64 0] := rfl

set_option maxRecDepth 100000 in
set_option maxHeartbeats 4000000 in
theorem dbAtS_any (A : Option Addr) (c : Nat) (xs : List Db) (s : ByteArray) (w : World) (h : Rep.RowsAt dbR w w.heap.size A xs.length xs) (hn : xs.length ≤ 1048576) :
    Calls Try.prog 130 #[.slice A xs.length c, .string s] w (RetDb w (dbAt xs s)) := by
  go_enter Try.func130, Try.ntmps130
  go_wp2
  have hb0 : Below w.heap.size w (w.alloc (.cells #[.string ⟨#[]⟩, .int .i64 0, .int .i64 0, .int .i64 0, .int .i64 0] 81)) := (Below.refl _ _).alloc (Nat.le_refl _) _
  have hv := heap_alloc_new w (.cells #[.string ⟨#[]⟩, .int .i64 0, .int .i64 0, .int .i64 0, .int .i64 0] 81)
  generalize hgW : w.alloc (.cells #[.string ⟨#[]⟩, .int .i64 0, .int .i64 0, .int .i64 0, .int .i64 0] 81) = W1 at hb0 hv ⊢
  clear hgW
  have V := Lib.hid hv
  clear hv
  go_loopw [6] (fun i wr => ∃ k : Nat, k ≤ xs.length ∧ i = .int .i64 k ∧ Hid (NoneTo xs s k) ∧ wr = W1) (fun i _ => xs.length - (intOf i).toNat)
  case atStart => exact ⟨0, by omega, rfl, Lib.hid (NoneTo.zero xs s), rfl⟩
  case round =>
    obtain ⟨k, hk, rfl, hno, rfl⟩ := hrel
    have q0 : wr.cell? ⟨w.heap.size, 0, none⟩ = some (.string ⟨#[]⟩) := var_cell V.out 0
    have q1 : wr.cell? ⟨w.heap.size, 1, none⟩ = some (.int .i64 0) := var_cell V.out 1
    have q2 : wr.cell? ⟨w.heap.size, 2, none⟩ = some (.int .i64 0) := var_cell V.out 2
    have q3 : wr.cell? ⟨w.heap.size, 3, none⟩ = some (.int .i64 0) := var_cell V.out 3
    have q4 : wr.cell? ⟨w.heap.size, 4, none⟩ = some (.int .i64 0) := var_cell V.out 4
    have f0 := var_frozen V.out 0
    have f1 := var_frozen V.out 1
    have f2 := var_frozen V.out 2
    have f3 := var_frozen V.out 3
    have f4 := var_frozen V.out 4
    have hlt0 : w.heap.size < wr.heap.size := World.block_lt_of_cell? wr ⟨w.heap.size, 0, none⟩ q0
    by_cases hlt : k < xs.length
    · obtain ⟨b, off, x, rfl, hbl, hx, c0, c1, c2, c3, c4⟩ := db_elem (h.keep fun p hp => hb0.cell hp) hlt
      have HX := Lib.hid hx
      clear hx
      have i1 : (0 : Int) ≤ (k : Int) := by omega
      have i2 : (k : Int) < (xs.length : Int) := by omega
      by_cases hq : (x.name.toList == s.toList) = true
      · have HE := Lib.hid (dbAt_hit hno.out HX.out hq)
        go_wp2
        refine bodyPost_ret (v := .tuple #[.agg (dbC x).toArray, .bool true]) (by simp [results, Try.results130, go_sem, dbC, q0, q1, q2, q3, q4]) rfl ⟨by rw [HE.out], ?_⟩
        repeat (refine Below.setCell ?_ (by first | (simp; done) | (simp; omega)) _)
        exact hb0
      · have hq' : (x.name.toList == s.toList) = false := by simpa using hq
        have HN := Lib.hid (hno.out.succ HX.out hq')
        clear hq
        go_wp2
        go_roundw
        case rel => exact ⟨k + 1, by omega, by go_num, HN, trivial⟩
        case measure => simp [intOf]; omega
    · have he : k = xs.length := by omega
      subst he
      have HE := Lib.hid (dbAt_none hno.out)
      go_wp2
      refine bodyPost_ret (v := .tuple #[.agg (dbC dbZero).toArray, .bool false]) (by simp [results, Try.results130, go_sem, dbC_zero, q0, q1, q2, q3, q4]) rfl ⟨by rw [HE.out], ?_⟩
      repeat (refine Below.setCell ?_ (by first | (simp; done) | (simp; omega)) _)
      exact hb0

set_option maxRecDepth 100000 in
set_option maxHeartbeats 4000000 in
theorem dbAt_any (A : Option Addr) (c : Nat) (xs : List Db) (s : ByteArray) (w : World) (h : Rep.RowsAt dbR w w.heap.size A xs.length xs) (hn : xs.length ≤ 1048576) :
    Calls Try.prog 56 #[.slice A xs.length c, .string s] w (RetDb w (dbAt xs s)) := by
  go_enter Try.func56, Try.ntmps56
  go_wp2
  have hb0 : Below w.heap.size w (w.alloc (.cells #[.string ⟨#[]⟩, .int .i64 0, .int .i64 0, .int .i64 0, .int .i64 0] 81)) := (Below.refl _ _).alloc (Nat.le_refl _) _
  have hv := heap_alloc_new w (.cells #[.string ⟨#[]⟩, .int .i64 0, .int .i64 0, .int .i64 0, .int .i64 0] 81)
  generalize hgW : w.alloc (.cells #[.string ⟨#[]⟩, .int .i64 0, .int .i64 0, .int .i64 0, .int .i64 0] 81) = W1 at hb0 hv ⊢
  clear hgW
  have V := Lib.hid hv
  clear hv
  go_loopw [10] (fun i wr => ∃ k : Nat, k ≤ xs.length ∧ i = .int .i64 k ∧ Hid (NoneTo xs s k) ∧ Hid (wr.heap[w.heap.size]? = some (.cells #[.string ⟨#[]⟩, .int .i64 0, .int .i64 0, .int .i64 0, .int .i64 0] 81 (0, 0))) ∧ Below w.heap.size w wr) (fun i _ => xs.length - (intOf i).toNat)
  case atStart => exact ⟨0, by omega, rfl, Lib.hid (NoneTo.zero xs s), V, hb0⟩
  case round =>
    clear V hb0
    obtain ⟨k, hk, rfl, hno, V, hb0⟩ := hrel
    have q0 : wr.cell? ⟨w.heap.size, 0, none⟩ = some (.string ⟨#[]⟩) := var_cell V.out 0
    have q1 : wr.cell? ⟨w.heap.size, 1, none⟩ = some (.int .i64 0) := var_cell V.out 1
    have q2 : wr.cell? ⟨w.heap.size, 2, none⟩ = some (.int .i64 0) := var_cell V.out 2
    have q3 : wr.cell? ⟨w.heap.size, 3, none⟩ = some (.int .i64 0) := var_cell V.out 3
    have q4 : wr.cell? ⟨w.heap.size, 4, none⟩ = some (.int .i64 0) := var_cell V.out 4
    have f0 := var_frozen V.out 0
    have f1 := var_frozen V.out 1
    have f2 := var_frozen V.out 2
    have f3 := var_frozen V.out 3
    have f4 := var_frozen V.out 4
    have hlt0 : w.heap.size < wr.heap.size := World.block_lt_of_cell? wr ⟨w.heap.size, 0, none⟩ q0
    by_cases hlt : k < xs.length
    · obtain ⟨b, off, x, rfl, hbl, hx, c0, c1, c2, c3, c4⟩ := db_elem (h.keep fun p hp => hb0.cell hp) hlt
      have HX := Lib.hid hx
      clear hx
      have i1 : (0 : Int) ≤ (k : Int) := by omega
      have i2 : (k : Int) < (xs.length : Int) := by omega
      by_cases hq : (x.name.toList == s.toList) = true
      · have HE := Lib.hid (dbAt_hit hno.out HX.out hq)
        go_wp2
        refine bodyPost_ret (v := .tuple #[.agg (dbC x).toArray, .bool true]) (by simp [results, Try.results56, go_sem, dbC, hlt0, q0, q1, q2, q3, q4]) rfl ⟨by rw [HE.out], ?_⟩
        refine Below.alloc ?_ (by simp; omega) _
        repeat (refine Below.setCell ?_ (by first | (simp; done) | (simp; omega)) _)
        exact hb0
      · have hq' : (x.name.toList == s.toList) = false := by simpa using hq
        have HN := Lib.hid (hno.out.succ HX.out hq')
        clear hq
        go_wp2
        go_roundw
        case rel => exact ⟨k + 1, by omega, by go_num, HN, Lib.hid ((Below.heap_alloc _ _ _ hlt0).trans V.out), hb0.alloc hb0.size _⟩
        case measure => simp [intOf]; omega
    · have he : k = xs.length := by omega
      subst he
      have HE := Lib.hid (dbAt_none hno.out)
      go_wp2
      refine bodyPost_ret (v := .tuple #[.agg (dbC dbZero).toArray, .bool false]) (by simp [results, Try.results56, go_sem, dbC_zero, q0, q1, q2, q3, q4]) rfl ⟨by rw [HE.out], ?_⟩
      repeat (refine Below.setCell ?_ (by first | (simp; done) | (simp; omega)) _)
      exact hb0

end Go.Proofs.Ytgdhhhibkhfdlaa
