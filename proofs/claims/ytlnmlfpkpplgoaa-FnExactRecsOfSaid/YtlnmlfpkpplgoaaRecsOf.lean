/- Lists of records: equality of what is the same, marks; RecsOf of the model and of the program. -/
import Derived.Test.YtlnmlfpkpplgoaaRecList
import Derived.Test.YtlnmlfpkpplgoaaLex
import Derived.Maps.RangeWalk
namespace Go.Proofs.Ytlnmlfpkpplgoaa
open Go.RowKit
set_option linter.unusedVariables false

theorem Try.infoRecB : (Try.prog.info? 33).map (fun i => (i.zero, i.size, i.bytes)) = some (some (.agg #[.int .i64 0, .int .i64 0, .int .i64 0, .string ⟨#[]⟩]), 4, 40) := by kernel_rfl

set_option maxHeartbeats 1000000 in
theorem eqRecS_same (A B : Option Addr) (c d : Nat) (xs : List Rec) (w : World) (h : RecsAt w A xs) (h' : RecsAt w B xs) (hn : xs.length ≤ 1048576) :
    Calls Try.prog 8 #[.slice A xs.length c, .slice B xs.length d] w fun e w' => e = .returned (.bool true) ∧ Below w.heap.size w w' := by
  have hnn : ((xs.length : Int) != (xs.length : Int)) = false := by simp
  have S : All (fun w' => Below w.heap.size w w' ∧ RecsAt w' A xs ∧ RecsAt w' B xs) w := ⟨Below.refl _ _, h, h'⟩
  clear h h'
  go_enter Try.func8, Try.ntmps8
  go_wp2
  go_loopw [5] (fun i wr => ∃ k : Nat, k ≤ xs.length ∧ i = .int .i64 k ∧ All (fun w' => Below w.heap.size w w' ∧ RecsAt w' A xs ∧ RecsAt w' B xs) wr) (fun i _ => xs.length - (intOf i).toNat)
  case atStart => exact ⟨0, by omega, rfl, S⟩
  case round =>
    obtain ⟨k, hk, rfl, S2⟩ := hrel
    clear S
    by_cases hlt : k < xs.length
    · obtain ⟨b, off, x, rfl, hbl, hx, c0, c1, c2, c3⟩ := recs_elem S2.out.2.1 hlt
      obtain ⟨b', off', x', rfl, hbl', hx', c0', c1', c2', c3'⟩ := recs_elem S2.out.2.2 hlt
      obtain rfl : x = x' := by rw [hx] at hx'; injection hx'
      clear hx hx'
      have i1 : (0 : Int) ≤ (k : Int) := by omega
      have i2 : (k : Int) < (xs.length : Int) := by omega
      go_wp2
      go_still_tail 8, (by kernel_rfl)
      change wpList _ _ _ _ _ wr.drew
      replace S2 := S2.drew
      go_wp2_with fail
      refine (eqRec_same x wr.drew).mono ?_
      rintro e w2 ⟨rfl, hb2⟩
      replace S2 := S2.later hb2
      clear hb2
      go_wp2_with fail
      go_roundw
      case rel => exact ⟨k + 1, by omega, by go_num, S2⟩
      case measure => simp [intOf]; omega
    · have he : k = xs.length := by omega
      subst he
      go_wp2
      go_ret
      exact ⟨rfl, S2.out.1⟩

def recMk (k0 j : Nat) : Value := if j % 4 = 3 then .string (mtxt (k0 + j)) else .int .i64 ((k0 + j : Nat) : Int)
theorem recMk3 (k0 k : Nat) : recMk k0 (k * 4 + 3) = .string (mtxt (k0 + k * 4 + 3)) := by unfold recMk; rw [if_pos (by omega), Nat.add_assoc]
theorem recMkS (k0 k j : Nat) (h5 : j < 3) : recMk k0 (k * 4 + j) = .int .i64 ((k0 + k * 4 + j : Nat) : Int) := by unfold recMk; rw [if_neg (by omega), Nat.add_assoc]

set_option maxHeartbeats 1000000 in
theorem markRecS_row (g c k0 n : Nat) (w : World) (base : Nat) (h : FlatTo w base 33 4 n (.slice (some ⟨g, 0, none⟩) n c) (recMk k0) 0) (hn : n ≤ 1048576) (hk : k0 ≤ 1048576) (hbase : base ≤ w.heap.size) :
    Calls Try.prog 9 #[.slice (some ⟨g, 0, none⟩) n c, .int .i64 k0] w fun e w' => e = .returned (.int .i64 ((k0 + n * 4 : Nat) : Int)) ∧ FlatTo w' base 33 4 n (.slice (some ⟨g, 0, none⟩) n c) (recMk k0) (n * 4) ∧ Below base w w' := by
  go_enter Try.func9, Try.ntmps9
  go_wp2
  go_loopw [1, 5] (fun q i wr => ∃ k m : Nat, k ≤ n ∧ i = .int .i64 k ∧ q = .int .i64 m ∧ Hid (m = k0 + k * 4) ∧ FlatTo wr base 33 4 n (.slice (some ⟨g, 0, none⟩) n c) (recMk k0) (k * 4) ∧ Below base w wr) (fun _ i _ => n - (intOf i).toNat)
  case atStart => exact ⟨0, k0, by omega, rfl, rfl, Lib.hid (by omega), h, Below.refl _ _⟩
  case round =>
    obtain ⟨k, m, hk1, rfl, rfl, hm, hfl, hb⟩ := hrel
    clear h
    have hm1 : m ≤ 6291456 := by have := hm.out; omega
    by_cases hlt : k < n
    · obtain ⟨⟨u0, c0⟩, f0⟩ := hfl.there (k * 4) (by omega)
      obtain ⟨⟨u1, c1⟩, f1⟩ := hfl.there (k * 4 + 1) (by omega)
      obtain ⟨⟨u2, c2⟩, f2⟩ := hfl.there (k * 4 + 2) (by omega)
      have hgr := hfl.row
      have HF := Lib.hid hfl
      have HB := Lib.hid hb
      clear hfl hb
      have i1 : (0 : Int) ≤ (k : Int) := by omega
      have i2 : (k : Int) < (n : Int) := by omega
      go_wp2_with fail
      refine (markText_any (m + 3) (by omega) _).mono ?_
      rintro e w2 ⟨rfl, hb2⟩
      have r1 := HF.out.set (by omega) (u := .int .i64 (m : Int)) (by rw [show k * 4 = k * 4 + 0 from rfl, recMkS _ _ 0 (by omega), hm.out]; congr 1)
      have r2 := r1.set (by omega) (u := .int .i64 ((m : Int) + 1)) (by rw [recMkS _ _ 1 (by omega), hm.out]; congr 1)
      have r3 := r2.set (by omega) (u := .int .i64 ((m : Int) + 1 + 1)) (by rw [recMkS _ _ 2 (by omega), hm.out]; congr 1)
      have b3 := ((HB.out.setCell hgr.1 (p := ⟨g, k * 4, none⟩) (.int .i64 (m : Int))).setCell hgr.1 (p := ⟨g, k * 4 + 1, none⟩) (.int .i64 ((m : Int) + 1))).setCell hgr.1 (p := ⟨g, k * 4 + 2, none⟩) (.int .i64 ((m : Int) + 1 + 1))
      have r4 := r3.later hb2
      have b4 := b3.trans (hb2.mono (by simp; have := HB.out.size; omega))
      obtain ⟨⟨u3, c3⟩, f3⟩ := r4.there (k * 4 + 3) (by omega)
      have HR := Lib.hid (r4.set (by omega) (u := .string (mtxt (m + 3))) (by rw [recMk3, hm.out]))
      have HB4 := Lib.hid (b4.setCell hgr.1 (p := ⟨g, k * 4 + 3, none⟩) (.string (mtxt (m + 3))))
      clear r1 r2 r3 r4 b3 b4 hb2 HF HB c0 c1 c2 f0 f1 f2
      go_wp2_with fail
      go_roundw
      case rel => exact ⟨k + 1, m + 4, by omega, by go_num, by go_num, Lib.hid (by rw [hm.out]; omega), by rw [show (k + 1) * 4 = k * 4 + 1 + 1 + 1 + 1 by omega]; exact HR.out, HB4.out⟩
      case measure => simp [intOf]; omega
    · have he : k = n := by omega
      subst he
      go_wp2
      go_ret
      exact ⟨by rw [hm.out]; rfl, hfl, hb⟩

theorem markRecS_any (v : Value) (k0 n : Nat) (cells : List Value) (w : World) (base : Nat) (h : w.ownsRow base 33 4 v n cells) (hn : n ≤ 1048576) (hk : k0 ≤ 1048576) (hbase : base ≤ w.heap.size) :
    Calls Try.prog 9 #[v, .int .i64 k0] w fun e w' => e = .returned (.int .i64 ((k0 + n * 4 : Nat) : Int)) ∧ FlatTo w' base 33 4 n v (recMk k0) (n * 4) ∧ Below base w w' := by
  have hz := FlatTo.zero h (recMk k0)
  rcases h.2 with ⟨rfl, rfl⟩ | ⟨g, cap, cur, rfl, _⟩
  · have hz2 : FlatTo w base 33 4 0 (.slice none 0 0) (recMk k0) (0 * 4) := hz
    clear hz h
    go_enter Try.func9, Try.ntmps9
    go_wp2
    refine wp_loop_rounds 1 ?_
    rw [rounds_succ]
    go_wp2
    go_ret
    exact ⟨rfl, hz2, Below.refl _ _⟩
  · exact markRecS_row g cap k0 n w base hz hn hk hbase

set_option maxHeartbeats 1000000 in
theorem heldRecS_any (A : Option Addr) (c k0 n : Nat) (w : World) (h : 0 < n → ∃ b off, A = some ⟨b, off, none⟩ ∧ b < w.heap.size ∧ ∀ j, j < n * 4 → w.cell? ⟨b, off + j, none⟩ = some (recMk k0 j)) (hn : n ≤ 1048576) (hk : k0 ≤ 1048576) :
    Calls Try.prog 10 #[.slice A n c, .int .i64 k0] w fun e w' => e = .returned (.int .i64 ((k0 + n * 4 : Nat) : Int)) ∧ Below w.heap.size w w' := by
  have HH := Lib.hid h
  clear h
  go_enter Try.func10, Try.ntmps10
  go_wp2
  go_loopw [1, 5] (fun q i wr => ∃ k m : Nat, k ≤ n ∧ i = .int .i64 k ∧ q = .int .i64 m ∧ Hid (m = k0 + k * 4) ∧ Below w.heap.size w wr) (fun _ i _ => n - (intOf i).toNat)
  case atStart => exact ⟨0, k0, by omega, rfl, rfl, Lib.hid (by omega), Below.refl _ _⟩
  case round =>
    obtain ⟨k, m, hk1, rfl, rfl, hm, hb⟩ := hrel
    have hm1 : m ≤ 6291456 := by have := hm.out; omega
    by_cases hlt : k < n
    · obtain ⟨b, off, rfl, hbl, hcell⟩ := HH.out (by omega)
      have c0 : wr.cell? ⟨b, off + k * 4, none⟩ = some (.int .i64 (m : Int)) := by rw [hb.cell (p := ⟨b, _, none⟩) hbl, show off + k * 4 = off + (k * 4 + 0) from rfl, hcell _ (by omega), recMkS _ _ 0 (by omega), hm.out]; congr 1
      have c1 : wr.cell? ⟨b, off + k * 4 + 1, none⟩ = some (.int .i64 ((m : Int) + 1)) := by rw [hb.cell (p := ⟨b, _, none⟩) hbl, Nat.add_assoc, hcell _ (by omega), recMkS _ _ 1 (by omega), hm.out]; congr 1
      have c2 : wr.cell? ⟨b, off + k * 4 + 2, none⟩ = some (.int .i64 ((m : Int) + 1 + 1)) := by rw [hb.cell (p := ⟨b, _, none⟩) hbl, Nat.add_assoc, hcell _ (by omega), recMkS _ _ 2 (by omega), hm.out]; congr 1
      have c3 : wr.cell? ⟨b, off + k * 4 + 3, none⟩ = some (.string (mtxt (m + 3))) := by rw [hb.cell (p := ⟨b, _, none⟩) hbl, Nat.add_assoc, hcell _ (by omega), recMk3, hm.out]
      have S : All (fun w' => Below w.heap.size w w' ∧ w'.cell? ⟨b, off + k * 4 + 3, none⟩ = some (.string (mtxt (m + 3)))) wr := ⟨hb, c3⟩
      have i1 : (k : Int) < (n : Int) := by omega
      have i0 : (0 : Int) ≤ (k : Int) := by omega
      have q0 : ((m : Int) != (m : Int)) = false := by simp
      have q1 : ((m : Int) + 1 != (m : Int) + 1) = false := by simp
      have q2 : ((m : Int) + 1 + 1 != (m : Int) + 1 + 1) = false := by simp
      have q3 : ((mtxt (m + 3)).toList != (mtxt (m + 3)).toList) = false := by simp
      clear c3 hcell hbl hb
      go_wp2_with fail
      clear c0 c1 c2
      refine wp_region_lex' 100 [0, 1, 2, 3, 4, 5] [6, 7] (fun w' => w'.cell? ⟨b, off + k * 4 + 3, none⟩ = some (.string (mtxt (m + 3)))) (by kernel_rfl) (by kernel_rfl) S.drew.out.2 ?_
      replace S := S.drew
      iterate 6 (refine LexR.cons rfl ?_ (fun w' hw => ?_) ?_; rotate_left; focus (go_simp; (try exact rfl)); (try go_frame))
      refine LexR.nil (LexW.cons rfl ?_)
      go_wp2_with fail
      refine (markText_any (m + 3) (by omega) _).mono ?_
      rintro e w2 ⟨rfl, hb2⟩
      replace S := S.later hb2
      clear hb2
      go_wp2_with fail
      refine ⟨fun _ => S.out.2, LexW.cons rfl ?_⟩
      try go_frame
      go_wp2_with fail
      refine ⟨fun _ => S.out.2, LexW.nil ?_⟩
      have hbe := S.out.1
      clear S
      go_wp2
      go_roundw
      case rel => exact ⟨k + 1, m + 4, by omega, by go_num, by go_num, Lib.hid (by rw [hm.out]; omega), hbe⟩
      case measure => simp [intOf]; omega
    · have he : k = n := by omega
      subst he
      go_wp2
      go_ret
      exact ⟨by rw [hm.out]; rfl, hb⟩

end Go.Proofs.Ytlnmlfpkpplgoaa
