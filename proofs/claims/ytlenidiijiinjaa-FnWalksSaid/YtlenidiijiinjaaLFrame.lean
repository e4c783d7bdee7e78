/- Lists of Frame: their cells, equality of what is the same, marks that are found again. (By gen_list.py.) -/
import Derived.Test.YtlenidiijiinjaaFlat
import Derived.Test.YtlenidiijiinjaaTFrame
import Derived.Test.YtlenidiijiinjaaLex
import Derived.Maps.RangeWalk
import Derived.Deep.Cut
namespace Go.Proofs.Ytlenidiijiinjaa
open Go.RowKit
set_option maxRecDepth 100000
set_option linter.unusedVariables false

def flatFr (xs : List Fr) : List Value := xs.flatMap frC
theorem flatFr_append (xs ys : List Fr) : flatFr (xs ++ ys) = flatFr xs ++ flatFr ys := by simp [flatFr]
theorem flatFr_length (xs : List Fr) : (flatFr xs).length = xs.length * 3 := by
  induction xs with
  | nil => rfl
  | cons x xs ih => rw [show flatFr (x :: xs) = frC x ++ flatFr xs from rfl, List.length_append, ih, List.length_cons, show (frC x).length = 3 from rfl]; omega
theorem flatFr_get : ∀ (xs : List Fr) (k j : Nat) (x : Fr), xs[k]? = some x → j < 3 → (flatFr xs)[k * 3 + j]? = (frC x)[j]? := by
  intro xs
  induction xs with
  | nil => intro k j x h; cases h
  | cons y ys ih =>
    intro k j x h hj
    have hl : (frC y).length = 3 := rfl
    rw [show flatFr (y :: ys) = frC y ++ flatFr ys from rfl]
    cases k with
    | zero =>
      rw [List.getElem?_cons_zero] at h
      injection h with h
      subst h
      rw [List.getElem?_append_left (by omega)]
      simp
    | succ k =>
      rw [List.getElem?_cons_succ] at h
      rw [List.getElem?_append_right (by omega), show (k + 1) * 3 + j - (frC y).length = k * 3 + j by omega]
      exact ih k j x h hj
theorem one_flatFr (xs : List Fr) : ∀ u ∈ flatFr xs, u.oneCell' = true := by
  intro u hu
  obtain ⟨x, _, h⟩ := List.mem_flatMap.1 hu
  simp [frC] at h
  rcases h with rfl | rfl | rfl <;> rfl

/-- A list that lies in memory. -/
def FrAt (w : World) (A : Option Addr) (xs : List Fr) : Prop := Reads w w.heap.size 3 A xs.length (flatFr xs)
instance frAt_keeps (A : Option Addr) (xs : List Fr) : Keeps (fun w => FrAt w A xs) := ⟨fun h x => (Reads.below x h).more h.size⟩
theorem frS_elem {w : World} {A : Option Addr} {xs : List Fr} {k : Nat} (h : FrAt w A xs) (hk : k < xs.length) :
    ∃ b off x, A = some ⟨b, off, none⟩ ∧ b < w.heap.size ∧ xs[k]? = some x ∧ w.cell? ⟨b, off + k * 3, none⟩ = some (.int .i64 x.k) ∧ w.cell? ⟨b, off + k * 3 + 1, none⟩ = some (.string x.s) ∧ w.cell? ⟨b, off + k * 3 + 2, none⟩ = some (.int .i64 x.st) := by
  obtain ⟨hl, hr⟩ := h
  obtain ⟨ad, hA, hb, hc⟩ := hr (by omega)
  obtain ⟨b, off, z⟩ := ad
  have hp : (flatFr xs)[0]? = some _ := List.getElem?_eq_getElem (show 0 < (flatFr xs).length by rw [flatFr_length]; omega)
  have hsp : z = none := by simpa [Addr.add] using World.cell?_spot (hc 0 _ hp)
  subst hsp
  have ea : ∀ j, (⟨b, off, none⟩ : Addr).add j = ⟨b, off + j, none⟩ := fun j => by
    unfold Addr.add
    split <;> simp_all
  have hx := List.getElem?_eq_getElem hk
  have e0 : (flatFr xs)[k * 3]? = some (.int .i64 xs[k].k) := flatFr_get xs k 0 _ hx (by omega)
  have e1 : (flatFr xs)[k * 3 + 1]? = some (.string xs[k].s) := flatFr_get xs k 1 _ hx (by omega)
  have e2 : (flatFr xs)[k * 3 + 2]? = some (.int .i64 xs[k].st) := flatFr_get xs k 2 _ hx (by omega)
  have c0 := hc _ _ e0
  have c1 := hc _ _ e1
  have c2 := hc _ _ e2
  rw [ea] at c0 c1 c2
  exact ⟨b, off, _, hA, hb, hx, c0, c1, c2⟩

def RetFrS (w : World) (xs : List Fr) (e : Ending) (w' : World) : Prop := ∃ A c, e = .returned (.slice A xs.length c) ∧ w'.ownsRow w.heap.size 40 3 (.slice A xs.length c) xs.length (flatFr xs) ∧ Below w.heap.size w w'
theorem frS_own_at {w : World} {base : Nat} {A : Option Addr} {c : Nat} {xs : List Fr} (h : w.ownsRow base 40 3 (.slice A xs.length c) xs.length (flatFr xs)) : FrAt w A xs := Reads.of_own h
theorem frS_flat {w : World} {base c m : Nat} {e : TypeId} {A : Option Addr} {f : Nat → Value} (h : FlatTo w base e 3 m (.slice A m c) f (m * 3)) : 0 < m → ∃ b off, A = some ⟨b, off, none⟩ ∧ b < w.heap.size ∧ ∀ j, j < m * 3 → w.cell? ⟨b, off + j, none⟩ = some (f j) := by
  obtain ⟨A', c', he, hr⟩ := h.reads (by omega)
  injection he with he
  subst he
  exact hr
theorem Try.infoFrB : (Try.prog.info? 40).map (fun i => (i.zero, i.size, i.bytes)) = some (some (.agg #[.int .i64 0, .string ⟨#[]⟩, .int .i64 0]), 3, 32) := by kernel_rfl

set_option maxHeartbeats 1000000 in
theorem eqFrS_same (A B : Option Addr) (c d : Nat) (xs : List Fr) (w : World) (h : FrAt w A xs) (h' : FrAt w B xs) (hn : xs.length ≤ 1048576) :
    Calls Try.prog 23 #[.slice A xs.length c, .slice B xs.length d] w fun e w' => e = .returned (.bool true) ∧ Below w.heap.size w w' := by
  have hnn : ((xs.length : Int) != (xs.length : Int)) = false := by simp
  have S : All (fun w' => Below w.heap.size w w' ∧ FrAt w' A xs ∧ FrAt w' B xs) w := ⟨Below.refl _ _, h, h'⟩
  clear h h'
  go_enter Try.func23, Try.ntmps23
  go_wp2
  go_loopw [5] (fun i wr => ∃ k : Nat, k ≤ xs.length ∧ i = .int .i64 k ∧ All (fun w' => Below w.heap.size w w' ∧ FrAt w' A xs ∧ FrAt w' B xs) wr) (fun i _ => xs.length - (intOf i).toNat)
  case atStart => exact ⟨0, by omega, rfl, S⟩
  case round =>
    obtain ⟨k, hk, rfl, S2⟩ := hrel
    clear S
    by_cases hlt : k < xs.length
    · obtain ⟨b, off, x, rfl, hbl, hx, c0, c1, c2⟩ := frS_elem S2.out.2.1 hlt
      obtain ⟨b', off', x', rfl, hbl', hx', c0', c1', c2'⟩ := frS_elem S2.out.2.2 hlt
      obtain rfl : x = x' := by rw [hx] at hx'; injection hx'
      clear hx hx'
      have i1 : (0 : Int) ≤ (k : Int) := by omega
      have i2 : (k : Int) < (xs.length : Int) := by omega
      go_wp2
      go_still_tail 8, (by kernel_rfl)
      change wpList _ _ _ _ _ wr.drew
      replace S2 := S2.drew
      go_wp2_with fail
      refine (eqFr_same x wr.drew).mono ?_
      rintro e w2 ⟨rfl, hb2⟩
      replace S2 := S2.later hb2
      clear hb2
      go_wp2_with fail
      go_roundw
      case rel => exact ⟨k + 1, by omega, by go_num, S2⟩
      case measure => simp [intOf]; omega
    · have he : k = xs.length := by omega
      subst he
      go_wp2
      go_ret
      exact ⟨rfl, S2.out.1⟩

def frMk (k0 j : Nat) : Value := if j % 3 = 1 then .string (mtxt (k0 + j)) else .int .i64 ((k0 + j : Nat) : Int)
theorem frMk0 (k0 k : Nat) : frMk k0 (k * 3 + 0) = .int .i64 ((k0 + k * 3 + 0 : Nat) : Int) := by unfold frMk; rw [if_neg (by omega)]; rw [Nat.add_assoc]
theorem frMk1 (k0 k : Nat) : frMk k0 (k * 3 + 1) = .string (mtxt (k0 + k * 3 + 1)) := by unfold frMk; rw [if_pos (by omega), Nat.add_assoc]
theorem frMk2 (k0 k : Nat) : frMk k0 (k * 3 + 2) = .int .i64 ((k0 + k * 3 + 2 : Nat) : Int) := by unfold frMk; rw [if_neg (by omega)]; rw [Nat.add_assoc]

set_option maxHeartbeats 1000000 in
theorem markFrS_row (g c k0 n : Nat) (w : World) (base : Nat) (h : FlatTo w base 40 3 n (.slice (some ⟨g, 0, none⟩) n c) (frMk k0) 0) (hn : n ≤ 1048576) (hk : k0 ≤ 1048576) (hbase : base ≤ w.heap.size) :
    Calls Try.prog 24 #[.slice (some ⟨g, 0, none⟩) n c, .int .i64 k0] w fun e w' => e = .returned (.int .i64 ((k0 + n * 3 : Nat) : Int)) ∧ FlatTo w' base 40 3 n (.slice (some ⟨g, 0, none⟩) n c) (frMk k0) (n * 3) ∧ Below base w w' := by
  go_enter Try.func24, Try.ntmps24
  go_wp2
  go_loopw [1, 5] (fun q i wr => ∃ k m : Nat, k ≤ n ∧ i = .int .i64 k ∧ q = .int .i64 m ∧ Hid (m = k0 + k * 3) ∧ FlatTo wr base 40 3 n (.slice (some ⟨g, 0, none⟩) n c) (frMk k0) (k * 3) ∧ Below base w wr) (fun _ i _ => n - (intOf i).toNat)
  case atStart => exact ⟨0, k0, by omega, rfl, rfl, Lib.hid (by omega), h, Below.refl _ _⟩
  case round =>
    obtain ⟨k, m, hk1, rfl, rfl, hm, hfl, hb⟩ := hrel
    clear h
    have hm1 : m ≤ 12582912 := by have := hm.out; omega
    by_cases hlt : k < n
    · have i1 : (0 : Int) ≤ (k : Int) := by omega
      have i2 : (k : Int) < (n : Int) := by omega
      have hgr := hfl.row
      obtain ⟨⟨u0, c0⟩, f0⟩ := hfl.there (k * 3) (by omega)
      have HF := Lib.hid hfl
      have HB := Lib.hid hb
      clear hfl hb
      go_wp2_with fail
      refine (markText_any (m + 1) (by omega) _).mono ?_
      rintro e w3 ⟨rfl, hb2⟩
      have r1 := HF.out.set (by omega) (u := .int .i64 ((m : Int))) (by rw [show k * 3 = k * 3 + 0 from rfl, frMk0, hm.out]; first | rfl | (congr 1; omega) | (congr 1))
      have b1 := HB.out.setCell hgr.1 (p := ⟨g, k * 3, none⟩) (.int .i64 ((m : Int)))
      have r1L := r1.later hb2
      have b1L := b1.trans (hb2.mono (by have := HB.out.size; first | omega | (simp; omega)))
      have r2 := r1L.set (by omega) (u := .string (mtxt (m + 1))) (by rw [frMk1, hm.out])
      have b2 := b1L.setCell hgr.1 (p := ⟨g, k * 3 + 1, none⟩) (.string (mtxt (m + 1)))
      clear c0 f0
      obtain ⟨⟨u1, c1⟩, f1⟩ := r1L.there (k * 3 + 1) (by omega)
      obtain ⟨⟨u2, c2⟩, f2⟩ := r1L.there (k * 3 + 2) (by omega)
      have HF1 := Lib.hid r2
      have HB1 := Lib.hid b2
      clear r2 b2 r1L b1L hb2 r1 b1
      skip
      go_wp2_with fail
      have r3 := HF1.out.set (by omega) (u := .int .i64 ((m : Int) + 1 + 1)) (by rw [frMk2, hm.out]; first | rfl | (congr 1; omega) | (congr 1))
      have b3 := HB1.out.setCell hgr.1 (p := ⟨g, k * 3 + 2, none⟩) (.int .i64 ((m : Int) + 1 + 1))
      go_roundw
      case rel => exact ⟨k + 1, m + 3, by omega, by go_num, by go_num, Lib.hid (by rw [hm.out]; omega), by rw [show (k + 1) * 3 = k * 3 + 1 + 1 + 1 by omega]; exact r3, b3⟩
      case measure => simp [intOf]; omega
    · have he : k = n := by omega
      subst he
      go_wp2
      go_ret
      exact ⟨by rw [hm.out]; rfl, hfl, hb⟩

theorem markFrS_any (v : Value) (k0 n : Nat) (cells : List Value) (w : World) (base : Nat) (h : w.ownsRow base 40 3 v n cells) (hn : n ≤ 1048576) (hk : k0 ≤ 1048576) (hbase : base ≤ w.heap.size) :
    Calls Try.prog 24 #[v, .int .i64 k0] w fun e w' => e = .returned (.int .i64 ((k0 + n * 3 : Nat) : Int)) ∧ FlatTo w' base 40 3 n v (frMk k0) (n * 3) ∧ Below base w w' := by
  have hz := FlatTo.zero h (frMk k0)
  rcases h.2 with ⟨rfl, rfl⟩ | ⟨g, cap, cur, rfl, _⟩
  · have hz2 : FlatTo w base 40 3 0 (.slice none 0 0) (frMk k0) (0 * 3) := hz
    clear hz h
    go_enter Try.func24, Try.ntmps24
    go_wp2
    refine wp_loop_rounds 1 ?_
    rw [rounds_succ]
    go_wp2
    go_ret
    exact ⟨rfl, hz2, Below.refl _ _⟩
  · exact markFrS_row g cap k0 n w base hz hn hk hbase

set_option maxHeartbeats 2000000 in
theorem heldFrS_any (A : Option Addr) (c k0 n : Nat) (w : World) (h : 0 < n → ∃ b off, A = some ⟨b, off, none⟩ ∧ b < w.heap.size ∧ ∀ j, j < n * 3 → w.cell? ⟨b, off + j, none⟩ = some (frMk k0 j)) (hn : n ≤ 1048576) (hk : k0 ≤ 1048576) :
    Calls Try.prog 25 #[.slice A n c, .int .i64 k0] w fun e w' => e = .returned (.int .i64 ((k0 + n * 3 : Nat) : Int)) ∧ Below w.heap.size w w' := by
  have HH := Lib.hid h
  clear h
  go_enter Try.func25, Try.ntmps25
  go_wp2
  go_loopw [1, 5] (fun q i wr => ∃ k m : Nat, k ≤ n ∧ i = .int .i64 k ∧ q = .int .i64 m ∧ Hid (m = k0 + k * 3) ∧ Below w.heap.size w wr) (fun _ i _ => n - (intOf i).toNat)
  case atStart => exact ⟨0, k0, by omega, rfl, rfl, Lib.hid (by omega), Below.refl _ _⟩
  case round =>
    obtain ⟨k, m, hk1, rfl, rfl, hm, hb⟩ := hrel
    have hm1 : m ≤ 12582912 := by have := hm.out; omega
    by_cases hlt : k < n
    · obtain ⟨b, off, rfl, hbl, hcell⟩ := HH.out (by omega)
      have c0 : wr.cell? ⟨b, off + k * 3, none⟩ = some (.int .i64 ((m : Int))) := by rw [hb.cell (p := ⟨b, _, none⟩) hbl, show off + k * 3 = off + (k * 3 + 0) from rfl, hcell _ (by omega), frMk0, hm.out]; first | rfl | (congr 1)
      have c1 : wr.cell? ⟨b, off + k * 3 + 1, none⟩ = some (.string (mtxt (m + 1))) := by rw [hb.cell (p := ⟨b, _, none⟩) hbl, Nat.add_assoc, hcell _ (by omega), frMk1, hm.out]
      have c2 : wr.cell? ⟨b, off + k * 3 + 2, none⟩ = some (.int .i64 ((m : Int) + 1 + 1)) := by rw [hb.cell (p := ⟨b, _, none⟩) hbl, Nat.add_assoc, hcell _ (by omega), frMk2, hm.out]; first | rfl | (congr 1)
      have i1 : (k : Int) < (n : Int) := by omega
      have i0 : (0 : Int) ≤ (k : Int) := by omega
      have q0 : ((m : Int) != (m : Int)) = false := by simp
      have q1 : ((mtxt (m + 1)).toList != (mtxt (m + 1)).toList) = false := by simp
      have q2 : ((m : Int) + 1 + 1 != (m : Int) + 1 + 1) = false := by simp
      have S1 : All (fun w' => Below w.heap.size w w' ∧ (w'.cell? ⟨b, off + k * 3 + 1, none⟩ = some (.string (mtxt (m + 1))) ∧ w'.cell? ⟨b, off + k * 3 + 2, none⟩ = some (.int .i64 ((m : Int) + 1 + 1)))) wr := ⟨hb, ⟨c1, c2⟩⟩
      clear c1 c2 hcell hbl hb
      go_wp2_with fail
      clear c0
      refine wp_region_lex' 100 [0, 1, 2, 3, 4, 5] [6, 7] (fun w' => w'.cell? ⟨b, off + k * 3 + 1, none⟩ = some (.string (mtxt (m + 1))) ∧ w'.cell? ⟨b, off + k * 3 + 2, none⟩ = some (.int .i64 ((m : Int) + 1 + 1))) (by kernel_rfl) (by kernel_rfl) S1.drew.out.2 ?_
      replace S1 := S1.drew
      iterate 6 (refine LexR.cons rfl ?_ (fun w' hw => ?_) ?_; rotate_left; focus (obtain ⟨hw1, hw2⟩ := hw; go_simp; (try exact rfl)); (try go_frame))
      refine LexR.nil (LexW.cons rfl ?_)
      go_wp2_with fail
      refine (markText_any (m + 1) (by omega) _).mono ?_
      rintro e v1 ⟨rfl, hb2⟩
      replace S1 := S1.later hb2
      clear hb2
      go_wp2_with fail
      refine ⟨fun _ => S1.out.2, LexW.cons rfl ?_⟩
      try go_frame
      go_wp2_with fail
      refine ⟨fun _ => S1.out.2, LexW.nil ?_⟩
      obtain ⟨hbe, c1, c2⟩ := S1.out
      clear S1 c1
      go_wp2
      go_roundw
      case rel => exact ⟨k + 1, m + 3, by omega, by go_num, by go_num, Lib.hid (by rw [hm.out]; omega), hbe⟩
      case measure => simp [intOf]; omega
    · have he : k = n := by omega
      subst he
      go_wp2
      go_ret
      exact ⟨by rw [hm.out]; rfl, hb⟩

end Go.Proofs.Ytlenidiijiinjaa
