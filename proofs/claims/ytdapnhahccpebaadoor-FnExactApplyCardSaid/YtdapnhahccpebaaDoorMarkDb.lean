/- Marks of a configuration of the call's own, and marks that are found again. -/
import Derived.Test.YtdapnhahccpebaaDoorFlat
import Derived.Test.YtdapnhahccpebaaDoorParseConfS
import Derived.Test.YtdapnhahccpebaaDoorLex
namespace Go.Proofs.YtdapnhahccpebaaDoor
open Go.RowKit
set_option maxRecDepth 100000
set_option linter.unusedVariables false

def dbMk (k0 j : Nat) : Value := if j % 5 = 0 then .string (mtxt (k0 + j)) else .int .i64 ((k0 + j : Nat) : Int)
theorem dbMk0 (k0 k : Nat) : dbMk k0 (k * 5) = .string (mtxt (k0 + k * 5)) := by unfold dbMk; rw [if_pos (by omega)]
theorem dbMkS (k0 k j : Nat) (h0 : 0 < j) (h5 : j < 5) : dbMk k0 (k * 5 + j) = .int .i64 ((k0 + k * 5 + j : Nat) : Int) := by unfold dbMk; rw [if_neg (by omega), Nat.add_assoc]

set_option maxHeartbeats 1000000 in
theorem markDbS_row (g c k0 n : Nat) (w : World) (base : Nat) (h : FlatTo w base 35 5 n (.slice (some ⟨g, 0, none⟩) n c) (dbMk k0) 0) (hn : n ≤ 1048576) (hk : k0 ≤ 1048576) (hbase : base ≤ w.heap.size) :
    Calls Tryd.prog 32 #[.slice (some ⟨g, 0, none⟩) n c, .int .i64 k0] w fun e w' => e = .returned (.int .i64 ((k0 + n * 5 : Nat) : Int)) ∧ FlatTo w' base 35 5 n (.slice (some ⟨g, 0, none⟩) n c) (dbMk k0) (n * 5) ∧ Below base w w' := by
  go_enter Tryd.func32, Tryd.ntmps32
  go_wp2
  go_loopw [1, 5] (fun q i wr => ∃ k m : Nat, k ≤ n ∧ i = .int .i64 k ∧ q = .int .i64 m ∧ Hid (m = k0 + k * 5) ∧ FlatTo wr base 35 5 n (.slice (some ⟨g, 0, none⟩) n c) (dbMk k0) (k * 5) ∧ Below base w wr) (fun _ i _ => n - (intOf i).toNat)
  case atStart => exact ⟨0, k0, by omega, rfl, rfl, Lib.hid (by omega), h, Below.refl _ _⟩
  case round =>
    obtain ⟨k, m, hk1, rfl, rfl, hm, hfl, hb⟩ := hrel
    clear h
    have hm1 : m ≤ 6291456 := by have := hm.out; omega
    by_cases hlt : k < n
    · go_wp2_with fail
      refine (markText_any m (by omega) wr).mono ?_
      rintro e w2 ⟨rfl, hb2⟩
      have hfl2 := hfl.later hb2
      have hgr := hfl2.row
      have hb3 : Below base w w2 := hb.trans (hb2.mono (Nat.le_trans hbase hb.size))
      obtain ⟨⟨u0, c0⟩, f0⟩ := hfl2.there (k * 5) (by omega)
      obtain ⟨⟨u1, c1⟩, f1⟩ := hfl2.there (k * 5 + 1) (by omega)
      obtain ⟨⟨u2, c2⟩, f2⟩ := hfl2.there (k * 5 + 2) (by omega)
      obtain ⟨⟨u3, c3⟩, f3⟩ := hfl2.there (k * 5 + 3) (by omega)
      obtain ⟨⟨u4, c4⟩, f4⟩ := hfl2.there (k * 5 + 4) (by omega)
      have HF := Lib.hid hfl2
      have HB := Lib.hid hb3
      clear hfl2 hb3 hfl hb hb2
      go_wp2
      have r1 := HF.out.set (by omega) (u := .string (mtxt m)) (by rw [dbMk0, hm.out])
      have r2 := r1.set (by omega) (u := .int .i64 ((m : Int) + 1)) (by rw [dbMkS _ _ 1 (by omega) (by omega), hm.out]; congr 1)
      have r3 := r2.set (by omega) (u := .int .i64 ((m : Int) + 1 + 1)) (by rw [dbMkS _ _ 2 (by omega) (by omega), hm.out]; congr 1)
      have r4 := r3.set (by omega) (u := .int .i64 ((m : Int) + 1 + 1 + 1)) (by rw [dbMkS _ _ 3 (by omega) (by omega), hm.out]; congr 1)
      have r5 := r4.set (by omega) (u := .int .i64 ((m : Int) + 1 + 1 + 1 + 1)) (by rw [dbMkS _ _ 4 (by omega) (by omega), hm.out]; congr 1)
      go_roundw
      case rel => exact ⟨k + 1, m + 5, by omega, by go_num, by go_num, Lib.hid (by rw [hm.out]; omega), by rw [show (k + 1) * 5 = k * 5 + 1 + 1 + 1 + 1 + 1 by omega]; exact r5, ((((HB.out.setCell hgr.1 _).setCell hgr.1 _).setCell hgr.1 _).setCell hgr.1 _).setCell hgr.1 _⟩
      case measure => simp [intOf]; omega
    · have he : k = n := by omega
      subst he
      go_wp2
      go_ret
      exact ⟨by rw [hm.out]; rfl, hfl, hb⟩

theorem markDbS_any (v : Value) (k0 n : Nat) (cells : List Value) (w : World) (base : Nat) (h : w.ownsRow base 35 5 v n cells) (hn : n ≤ 1048576) (hk : k0 ≤ 1048576) (hbase : base ≤ w.heap.size) :
    Calls Tryd.prog 32 #[v, .int .i64 k0] w fun e w' => e = .returned (.int .i64 ((k0 + n * 5 : Nat) : Int)) ∧ FlatTo w' base 35 5 n v (dbMk k0) (n * 5) ∧ Below base w w' := by
  have hz := FlatTo.zero h (dbMk k0)
  rcases h.2 with ⟨rfl, rfl⟩ | ⟨g, cap, cur, rfl, _⟩
  · have hz2 : FlatTo w base 35 5 0 (.slice none 0 0) (dbMk k0) (0 * 5) := hz
    clear hz h
    go_enter Tryd.func32, Tryd.ntmps32
    go_wp2
    refine wp_loop_rounds 1 ?_
    rw [rounds_succ]
    go_wp2
    go_ret
    exact ⟨rfl, hz2, Below.refl _ _⟩
  · exact markDbS_row g cap k0 n w base hz hn hk hbase

theorem flat_cells {w : World} {base c n : Nat} {e : TypeId} {A : Option Addr} {f : Nat → Value} (h : FlatTo w base e 5 n (.slice A n c) f (n * 5)) : 0 < n → ∃ b off, A = some ⟨b, off, none⟩ ∧ b < w.heap.size ∧ ∀ j, j < n * 5 → w.cell? ⟨b, off + j, none⟩ = some (f j) := by
  obtain ⟨A', c', he, hr⟩ := h.reads (by omega)
  injection he with he
  subst he
  exact hr

set_option maxHeartbeats 1000000 in
theorem heldDbS_any (A : Option Addr) (c k0 n : Nat) (w : World) (h : 0 < n → ∃ b off, A = some ⟨b, off, none⟩ ∧ b < w.heap.size ∧ ∀ j, j < n * 5 → w.cell? ⟨b, off + j, none⟩ = some (dbMk k0 j)) (hn : n ≤ 1048576) (hk : k0 ≤ 1048576) :
    Calls Tryd.prog 33 #[.slice A n c, .int .i64 k0] w fun e w' => e = .returned (.int .i64 ((k0 + n * 5 : Nat) : Int)) ∧ Below w.heap.size w w' := by
  have HH := Lib.hid h
  clear h
  go_enter Tryd.func33, Tryd.ntmps33
  go_wp2
  go_loopw [1, 5] (fun q i wr => ∃ k m : Nat, k ≤ n ∧ i = .int .i64 k ∧ q = .int .i64 m ∧ Hid (m = k0 + k * 5) ∧ Below w.heap.size w wr) (fun _ i _ => n - (intOf i).toNat)
  case atStart => exact ⟨0, k0, by omega, rfl, rfl, Lib.hid (by omega), Below.refl _ _⟩
  case round =>
    obtain ⟨k, m, hk1, rfl, rfl, hm, hb⟩ := hrel
    have hm1 : m ≤ 6291456 := by have := hm.out; omega
    by_cases hlt : k < n
    · obtain ⟨b, off, rfl, hbl, hcell⟩ := HH.out (by omega)
      have c0 : wr.cell? ⟨b, off + k * 5, none⟩ = some (.string (mtxt m)) := by rw [hb.cell (p := ⟨b, _, none⟩) hbl, hcell _ (by omega), dbMk0, hm.out]
      have c1 : wr.cell? ⟨b, off + k * 5 + 1, none⟩ = some (.int .i64 ((m : Int) + 1)) := by rw [hb.cell (p := ⟨b, _, none⟩) hbl, Nat.add_assoc, hcell _ (by omega), dbMkS _ _ 1 (by omega) (by omega), hm.out]; congr 1
      have c2 : wr.cell? ⟨b, off + k * 5 + 2, none⟩ = some (.int .i64 ((m : Int) + 1 + 1)) := by rw [hb.cell (p := ⟨b, _, none⟩) hbl, Nat.add_assoc, hcell _ (by omega), dbMkS _ _ 2 (by omega) (by omega), hm.out]; congr 1
      have c3 : wr.cell? ⟨b, off + k * 5 + 3, none⟩ = some (.int .i64 ((m : Int) + 1 + 1 + 1)) := by rw [hb.cell (p := ⟨b, _, none⟩) hbl, Nat.add_assoc, hcell _ (by omega), dbMkS _ _ 3 (by omega) (by omega), hm.out]; congr 1
      have c4 : wr.cell? ⟨b, off + k * 5 + 4, none⟩ = some (.int .i64 ((m : Int) + 1 + 1 + 1 + 1)) := by rw [hb.cell (p := ⟨b, _, none⟩) hbl, Nat.add_assoc, hcell _ (by omega), dbMkS _ _ 4 (by omega) (by omega), hm.out]; congr 1
      have S : All (fun w' => Below w.heap.size w w' ∧ w'.cell? ⟨b, off + k * 5, none⟩ = some (.string (mtxt m)) ∧ w'.cell? ⟨b, off + k * 5 + 1, none⟩ = some (.int .i64 ((m : Int) + 1)) ∧ w'.cell? ⟨b, off + k * 5 + 2, none⟩ = some (.int .i64 ((m : Int) + 1 + 1)) ∧ w'.cell? ⟨b, off + k * 5 + 3, none⟩ = some (.int .i64 ((m : Int) + 1 + 1 + 1)) ∧ w'.cell? ⟨b, off + k * 5 + 4, none⟩ = some (.int .i64 ((m : Int) + 1 + 1 + 1 + 1))) wr := ⟨hb, c0, c1, c2, c3, c4⟩
      clear c0 c1 c2 c3 c4 hcell hbl hb
      have i1 : (k : Int) < (n : Int) := by omega
      have i0 : (0 : Int) ≤ (k : Int) := by omega
      go_wp2_with fail
      refine wp_region_lex' 100 [0, 1, 2, 3, 4, 5] [6, 7] (fun w' => w'.cell? ⟨b, off + k * 5, none⟩ = some (.string (mtxt m))) (by kernel_rfl) (by kernel_rfl) S.drew.out.2.1 ?_
      replace S := S.drew
      iterate 6 (refine LexR.cons rfl ?_ (fun w' hw => ?_) ?_; rotate_left; focus (go_simp; (try exact rfl)); (try go_frame))
      refine LexR.nil (LexW.cons rfl ?_)
      go_wp2_with fail
      refine (markText_any m (by omega) _).mono ?_
      rintro e w2 ⟨rfl, hb2⟩
      replace S := S.later hb2
      clear hb2
      go_wp2_with fail
      refine ⟨fun _ => S.out.2.1, LexW.cons rfl ?_⟩
      try go_frame
      go_wp2_with fail
      refine ⟨fun _ => S.out.2.1, LexW.nil ?_⟩
      have hbe := S.out.1
      obtain ⟨_, _, c1, c2, c3, c4⟩ := S.out
      have q0 : ((mtxt m).toList != (mtxt m).toList) = false := by simp
      have q1 : ((m : Int) + 1 != (m : Int) + 1) = false := by simp
      have q2 : ((m : Int) + 1 + 1 != (m : Int) + 1 + 1) = false := by simp
      have q3 : ((m : Int) + 1 + 1 + 1 != (m : Int) + 1 + 1 + 1) = false := by simp
      have q4 : ((m : Int) + 1 + 1 + 1 + 1 != (m : Int) + 1 + 1 + 1 + 1) = false := by simp
      clear S
      go_wp2
      go_roundw
      case rel => exact ⟨k + 1, m + 5, by omega, by go_num, by go_num, Lib.hid (by rw [hm.out]; omega), hbe⟩
      case measure => simp [intOf]; omega
    · have he : k = n := by omega
      subst he
      go_wp2
      go_ret
      exact ⟨by rw [hm.out]; rfl, hb⟩

end Go.Proofs.YtdapnhahccpebaaDoor
