/- The marks of rows of flat structs and of a House: which blocks turn, what comes back. (By gen_weak.py.) -/
import Derived.Test.YtgdhhhibkhfdlaaRHouse
import Derived.Test.YtgdhhhibkhfdlaaFlat
namespace Go.Proofs.Ytgdhhhibkhfdlaa
open Go.RowKit
set_option linter.unusedVariables false
set_option linter.unusedSimpArgs false
set_option maxRecDepth 100000

theorem row_there {w : World} {base g n c size : Nat} {e : TypeId} {cells : List Value} (h : w.ownsRow base e size (.slice (some ⟨g, 0, none⟩) n c) n cells) (j : Nat) (hj : j < n * size) : ∃ u, w.cell? ⟨g, j, none⟩ = some u := by
  refine ⟨cells[j]'(by rw [h.1]; exact hj), ?_⟩
  rw [World.ownsRow.cellAt h j hj]
  exact List.getElem?_eq_getElem _
/-- The row's cells are there, whatever they hold. -/
def AnyRow (w : World) (base : Nat) (e : TypeId) (size n g c : Nat) : Prop := ∃ cells, w.ownsRow base e size (.slice (some ⟨g, 0, none⟩) n c) n cells
theorem AnyRow.later {w w' : World} {base : Nat} {e : TypeId} {size n g c : Nat} (h : AnyRow w base e size n g c) (hb : Below w.heap.size w w') : AnyRow w' base e size n g c := by
  obtain ⟨cells, h⟩ := h
  exact ⟨cells, Rep.ownsRow_block h fun a ha => hb.block a (h.lt a (by simpa using ha)).2⟩
theorem AnyRow.set {w : World} {base : Nat} {e : TypeId} {size n g c : Nat} (h : AnyRow w base e size n g c) (j : Nat) (u : Value) : AnyRow (w.setCell ⟨g, j, none⟩ u) base e size n g c := by
  obtain ⟨cells, h⟩ := h
  exact ⟨_, (h.stored j u).1⟩
theorem AnyRow.cell {w : World} {base : Nat} {e : TypeId} {size n g c : Nat} (h : AnyRow w base e size n g c) (j : Nat) (hj : j < n * size) : ∃ u, w.cell? ⟨g, j, none⟩ = some u := by
  obtain ⟨cells, h⟩ := h
  exact row_there h j hj
theorem AnyRow.open_ {w : World} {base : Nat} {e : TypeId} {size n g c : Nat} (h : AnyRow w base e size n g c) (j : Nat) : w.frozen? ⟨g, j, none⟩ = false := by
  obtain ⟨cells, h⟩ := h
  exact World.ownsRow.frozenAt h j

set_option maxHeartbeats 4000000 in
theorem markDbS_w0 (g c k0 n : Nat) (w : World) (base : Nat) (h : AnyRow w base 81 5 n g c) (hn : n ≤ 1048576) (hk : k0 ≤ 4398046511104) :
    Calls Try.prog 144 #[.slice (some ⟨g, 0, none⟩) n c, .int .i64 k0] w fun e w' => e = .returned (.int .i64 ((k0 + n * 5 : Nat) : Int)) ∧ Rep.Only w w' [g] := by
  go_enter Try.func144, Try.ntmps144
  go_wp2
  go_loopw [1, 5] (fun q i wr => ∃ k m : Nat, k ≤ n ∧ i = .int .i64 k ∧ q = .int .i64 m ∧ Hid (m = k0 + k * 5) ∧ Hid (AnyRow wr base 81 5 n g c) ∧ Hid (Rep.Only w wr [g])) (fun _ i _ => n - (intOf i).toNat)
  case atStart => exact ⟨0, k0, by omega, rfl, rfl, Lib.hid (by omega), Lib.hid h, Lib.hid (Rep.Only.refl _ _)⟩
  case round =>
    clear h
    obtain ⟨k, m, hk1, rfl, rfl, hm, HR, HO⟩ := hrel
    have hm1 : m ≤ 4398054899712 := by have := hm.out; omega
    by_cases hlt : k < n
    · skip
      obtain ⟨u0, c0⟩ := HR.out.cell (k * 5) (by omega)
      have f0 := HR.out.open_ (k * 5)
      obtain ⟨u1, c1⟩ := HR.out.cell (k * 5 + 1) (by omega)
      have f1 := HR.out.open_ (k * 5 + 1)
      obtain ⟨u2, c2⟩ := HR.out.cell (k * 5 + 2) (by omega)
      have f2 := HR.out.open_ (k * 5 + 2)
      obtain ⟨u3, c3⟩ := HR.out.cell (k * 5 + 3) (by omega)
      have f3 := HR.out.open_ (k * 5 + 3)
      obtain ⟨u4, c4⟩ := HR.out.cell (k * 5 + 4) (by omega)
      have f4 := HR.out.open_ (k * 5 + 4)
      go_wp2_with fail
      clear c0 f0 c1 f1 c2 f2 c3 f3 c4 f4
      have hmt := markText_any (m + 0) (by omega) wr
      rw [show ((m + 0 : Nat) : Int) = (m : Int) from by omega] at hmt
      refine hmt.mono ?_
      clear hmt
      rintro e V1 ⟨rfl, hb⟩
      replace HR := Lib.hid (HR.out.later hb)
      replace HO := Lib.hid (HO.out.trans ((Rep.only_of_below hb).mono (by simp)))
      clear hb
      obtain ⟨u0, c0⟩ := HR.out.cell (k * 5) (by omega)
      have f0 := HR.out.open_ (k * 5)
      obtain ⟨u1, c1⟩ := HR.out.cell (k * 5 + 1) (by omega)
      have f1 := HR.out.open_ (k * 5 + 1)
      obtain ⟨u2, c2⟩ := HR.out.cell (k * 5 + 2) (by omega)
      have f2 := HR.out.open_ (k * 5 + 2)
      obtain ⟨u3, c3⟩ := HR.out.cell (k * 5 + 3) (by omega)
      have f3 := HR.out.open_ (k * 5 + 3)
      obtain ⟨u4, c4⟩ := HR.out.cell (k * 5 + 4) (by omega)
      have f4 := HR.out.open_ (k * 5 + 4)
      go_wp2_with fail
      clear c0 f0 c1 f1 c2 f2 c3 f3 c4 f4
      replace HR := Lib.hid (HR.out.set (k * 5) (.string (mtxt (m + 0))))
      replace HO := Lib.hid (HO.out.trans (Rep.Only.setCell _ (p := ⟨g, k * 5, none⟩) (by simp) (.string (mtxt (m + 0)))))
      replace HR := Lib.hid (HR.out.set (k * 5 + 1) (.int .i64 ((m : Int) + 1)))
      replace HO := Lib.hid (HO.out.trans (Rep.Only.setCell _ (p := ⟨g, k * 5 + 1, none⟩) (by simp) (.int .i64 ((m : Int) + 1))))
      replace HR := Lib.hid (HR.out.set (k * 5 + 2) (.int .i64 ((m : Int) + 1 + 1)))
      replace HO := Lib.hid (HO.out.trans (Rep.Only.setCell _ (p := ⟨g, k * 5 + 2, none⟩) (by simp) (.int .i64 ((m : Int) + 1 + 1))))
      replace HR := Lib.hid (HR.out.set (k * 5 + 3) (.int .i64 ((m : Int) + 1 + 1 + 1)))
      replace HO := Lib.hid (HO.out.trans (Rep.Only.setCell _ (p := ⟨g, k * 5 + 3, none⟩) (by simp) (.int .i64 ((m : Int) + 1 + 1 + 1))))
      replace HR := Lib.hid (HR.out.set (k * 5 + 4) (.int .i64 ((m : Int) + 1 + 1 + 1 + 1)))
      replace HO := Lib.hid (HO.out.trans (Rep.Only.setCell _ (p := ⟨g, k * 5 + 4, none⟩) (by simp) (.int .i64 ((m : Int) + 1 + 1 + 1 + 1))))
      go_roundw
      case rel => exact ⟨k + 1, m + 5, by omega, by go_num, by go_num, Lib.hid (by rw [hm.out]; omega), HR, HO⟩
      case measure => simp [intOf]; omega
    · have he : k = n := by omega
      subst he
      go_wp2
      go_ret
      exact ⟨by rw [hm.out]; rfl, HO.out⟩

theorem markDbS_w (v : Value) (k0 n : Nat) (cells : List Value) (w : World) (base : Nat) (h : w.ownsRow base 81 5 v n cells) (hn : n ≤ 1048576) (hk : k0 ≤ 4398046511104) :
    Calls Try.prog 144 #[v, .int .i64 k0] w fun e w' => e = .returned (.int .i64 ((k0 + n * 5 : Nat) : Int)) ∧ Rep.Only w w' v.ownBlock.toList := by
  rcases h.2 with ⟨rfl, rfl⟩ | ⟨g, cap, cur, rfl, _⟩
  · clear h
    go_enter Try.func144, Try.ntmps144
    go_wp2
    refine wp_loop_rounds 1 ?_
    rw [rounds_succ]
    go_wp2
    go_ret
    exact ⟨rfl, Rep.Only.refl _ _⟩
  · exact markDbS_w0 g cap k0 n w base ⟨cells, h⟩ hn hk

set_option maxHeartbeats 4000000 in
theorem markAskerS_w0 (g c k0 n : Nat) (w : World) (base : Nat) (h : AnyRow w base 50 8 n g c) (hn : n ≤ 1048576) (hk : k0 ≤ 4398046511104) :
    Calls Try.prog 145 #[.slice (some ⟨g, 0, none⟩) n c, .int .i64 k0] w fun e w' => e = .returned (.int .i64 ((k0 + n * 8 : Nat) : Int)) ∧ Rep.Only w w' [g] := by
  go_enter Try.func145, Try.ntmps145
  go_wp2
  go_loopw [1, 5] (fun q i wr => ∃ k m : Nat, k ≤ n ∧ i = .int .i64 k ∧ q = .int .i64 m ∧ Hid (m = k0 + k * 8) ∧ Hid (AnyRow wr base 50 8 n g c) ∧ Hid (Rep.Only w wr [g])) (fun _ i _ => n - (intOf i).toNat)
  case atStart => exact ⟨0, k0, by omega, rfl, rfl, Lib.hid (by omega), Lib.hid h, Lib.hid (Rep.Only.refl _ _)⟩
  case round =>
    clear h
    obtain ⟨k, m, hk1, rfl, rfl, hm, HR, HO⟩ := hrel
    have hm1 : m ≤ 4398054899712 := by have := hm.out; omega
    by_cases hlt : k < n
    · skip
      obtain ⟨u0, c0⟩ := HR.out.cell (k * 8) (by omega)
      have f0 := HR.out.open_ (k * 8)
      obtain ⟨u1, c1⟩ := HR.out.cell (k * 8 + 1) (by omega)
      have f1 := HR.out.open_ (k * 8 + 1)
      obtain ⟨u2, c2⟩ := HR.out.cell (k * 8 + 2) (by omega)
      have f2 := HR.out.open_ (k * 8 + 2)
      obtain ⟨u3, c3⟩ := HR.out.cell (k * 8 + 3) (by omega)
      have f3 := HR.out.open_ (k * 8 + 3)
      obtain ⟨u4, c4⟩ := HR.out.cell (k * 8 + 4) (by omega)
      have f4 := HR.out.open_ (k * 8 + 4)
      obtain ⟨u5, c5⟩ := HR.out.cell (k * 8 + 5) (by omega)
      have f5 := HR.out.open_ (k * 8 + 5)
      obtain ⟨u6, c6⟩ := HR.out.cell (k * 8 + 6) (by omega)
      have f6 := HR.out.open_ (k * 8 + 6)
      obtain ⟨u7, c7⟩ := HR.out.cell (k * 8 + 7) (by omega)
      have f7 := HR.out.open_ (k * 8 + 7)
      go_wp2_with fail
      clear c0 f0 c1 f1 c2 f2 c3 f3 c4 f4 c5 f5 c6 f6 c7 f7
      replace HR := Lib.hid (HR.out.set (k * 8) (.int .i64 ((m : Int))))
      replace HO := Lib.hid (HO.out.trans (Rep.Only.setCell _ (p := ⟨g, k * 8, none⟩) (by simp) (.int .i64 ((m : Int)))))
      generalize (wr.setCell ⟨g, k * 8, none⟩ (.int .i64 ((m : Int)))) = V1 at HR HO ⊢
      have hmt := markText_any (m + 1) (by omega) V1
      rw [show ((m + 1 : Nat) : Int) = (m : Int) + 1 from by omega] at hmt
      refine hmt.mono ?_
      clear hmt
      rintro e V2 ⟨rfl, hb⟩
      replace HR := Lib.hid (HR.out.later hb)
      replace HO := Lib.hid (HO.out.trans ((Rep.only_of_below hb).mono (by simp)))
      clear hb
      obtain ⟨u0, c0⟩ := HR.out.cell (k * 8) (by omega)
      have f0 := HR.out.open_ (k * 8)
      obtain ⟨u1, c1⟩ := HR.out.cell (k * 8 + 1) (by omega)
      have f1 := HR.out.open_ (k * 8 + 1)
      obtain ⟨u2, c2⟩ := HR.out.cell (k * 8 + 2) (by omega)
      have f2 := HR.out.open_ (k * 8 + 2)
      obtain ⟨u3, c3⟩ := HR.out.cell (k * 8 + 3) (by omega)
      have f3 := HR.out.open_ (k * 8 + 3)
      obtain ⟨u4, c4⟩ := HR.out.cell (k * 8 + 4) (by omega)
      have f4 := HR.out.open_ (k * 8 + 4)
      obtain ⟨u5, c5⟩ := HR.out.cell (k * 8 + 5) (by omega)
      have f5 := HR.out.open_ (k * 8 + 5)
      obtain ⟨u6, c6⟩ := HR.out.cell (k * 8 + 6) (by omega)
      have f6 := HR.out.open_ (k * 8 + 6)
      obtain ⟨u7, c7⟩ := HR.out.cell (k * 8 + 7) (by omega)
      have f7 := HR.out.open_ (k * 8 + 7)
      go_wp2_with fail
      clear c0 f0 c1 f1 c2 f2 c3 f3 c4 f4 c5 f5 c6 f6 c7 f7
      replace HR := Lib.hid (HR.out.set (k * 8 + 1) (.string (mtxt (m + 1))))
      replace HO := Lib.hid (HO.out.trans (Rep.Only.setCell _ (p := ⟨g, k * 8 + 1, none⟩) (by simp) (.string (mtxt (m + 1)))))
      replace HR := Lib.hid (HR.out.set (k * 8 + 2) (.int .i64 ((m : Int) + 1 + 1)))
      replace HO := Lib.hid (HO.out.trans (Rep.Only.setCell _ (p := ⟨g, k * 8 + 2, none⟩) (by simp) (.int .i64 ((m : Int) + 1 + 1))))
      replace HR := Lib.hid (HR.out.set (k * 8 + 3) (.int .i64 ((m : Int) + 1 + 1 + 1)))
      replace HO := Lib.hid (HO.out.trans (Rep.Only.setCell _ (p := ⟨g, k * 8 + 3, none⟩) (by simp) (.int .i64 ((m : Int) + 1 + 1 + 1))))
      replace HR := Lib.hid (HR.out.set (k * 8 + 4) (.int .i64 ((m : Int) + 1 + 1 + 1 + 1)))
      replace HO := Lib.hid (HO.out.trans (Rep.Only.setCell _ (p := ⟨g, k * 8 + 4, none⟩) (by simp) (.int .i64 ((m : Int) + 1 + 1 + 1 + 1))))
      generalize ((((V2.setCell ⟨g, k * 8 + 1, none⟩ (.string (mtxt (m + 1)))).setCell ⟨g, k * 8 + 2, none⟩ (.int .i64 ((m : Int) + 1 + 1))).setCell ⟨g, k * 8 + 3, none⟩ (.int .i64 ((m : Int) + 1 + 1 + 1))).setCell ⟨g, k * 8 + 4, none⟩ (.int .i64 ((m : Int) + 1 + 1 + 1 + 1))) = V3 at HR HO ⊢
      have hmt := markText_any (m + 5) (by omega) V3
      rw [show ((m + 5 : Nat) : Int) = (m : Int) + 1 + 1 + 1 + 1 + 1 from by omega] at hmt
      refine hmt.mono ?_
      clear hmt
      rintro e V4 ⟨rfl, hb⟩
      replace HR := Lib.hid (HR.out.later hb)
      replace HO := Lib.hid (HO.out.trans ((Rep.only_of_below hb).mono (by simp)))
      clear hb
      obtain ⟨u0, c0⟩ := HR.out.cell (k * 8) (by omega)
      have f0 := HR.out.open_ (k * 8)
      obtain ⟨u1, c1⟩ := HR.out.cell (k * 8 + 1) (by omega)
      have f1 := HR.out.open_ (k * 8 + 1)
      obtain ⟨u2, c2⟩ := HR.out.cell (k * 8 + 2) (by omega)
      have f2 := HR.out.open_ (k * 8 + 2)
      obtain ⟨u3, c3⟩ := HR.out.cell (k * 8 + 3) (by omega)
      have f3 := HR.out.open_ (k * 8 + 3)
      obtain ⟨u4, c4⟩ := HR.out.cell (k * 8 + 4) (by omega)
      have f4 := HR.out.open_ (k * 8 + 4)
      obtain ⟨u5, c5⟩ := HR.out.cell (k * 8 + 5) (by omega)
      have f5 := HR.out.open_ (k * 8 + 5)
      obtain ⟨u6, c6⟩ := HR.out.cell (k * 8 + 6) (by omega)
      have f6 := HR.out.open_ (k * 8 + 6)
      obtain ⟨u7, c7⟩ := HR.out.cell (k * 8 + 7) (by omega)
      have f7 := HR.out.open_ (k * 8 + 7)
      go_wp2_with fail
      clear c0 f0 c1 f1 c2 f2 c3 f3 c4 f4 c5 f5 c6 f6 c7 f7
      replace HR := Lib.hid (HR.out.set (k * 8 + 5) (.string (mtxt (m + 5))))
      replace HO := Lib.hid (HO.out.trans (Rep.Only.setCell _ (p := ⟨g, k * 8 + 5, none⟩) (by simp) (.string (mtxt (m + 5)))))
      replace HR := Lib.hid (HR.out.set (k * 8 + 6) (.int .i64 ((m : Int) + 1 + 1 + 1 + 1 + 1 + 1)))
      replace HO := Lib.hid (HO.out.trans (Rep.Only.setCell _ (p := ⟨g, k * 8 + 6, none⟩) (by simp) (.int .i64 ((m : Int) + 1 + 1 + 1 + 1 + 1 + 1))))
      replace HR := Lib.hid (HR.out.set (k * 8 + 7) (.int .i64 ((m : Int) + 1 + 1 + 1 + 1 + 1 + 1 + 1)))
      replace HO := Lib.hid (HO.out.trans (Rep.Only.setCell _ (p := ⟨g, k * 8 + 7, none⟩) (by simp) (.int .i64 ((m : Int) + 1 + 1 + 1 + 1 + 1 + 1 + 1))))
      go_roundw
      case rel => exact ⟨k + 1, m + 8, by omega, by go_num, by go_num, Lib.hid (by rw [hm.out]; omega), HR, HO⟩
      case measure => simp [intOf]; omega
    · have he : k = n := by omega
      subst he
      go_wp2
      go_ret
      exact ⟨by rw [hm.out]; rfl, HO.out⟩

theorem markAskerS_w (v : Value) (k0 n : Nat) (cells : List Value) (w : World) (base : Nat) (h : w.ownsRow base 50 8 v n cells) (hn : n ≤ 1048576) (hk : k0 ≤ 4398046511104) :
    Calls Try.prog 145 #[v, .int .i64 k0] w fun e w' => e = .returned (.int .i64 ((k0 + n * 8 : Nat) : Int)) ∧ Rep.Only w w' v.ownBlock.toList := by
  rcases h.2 with ⟨rfl, rfl⟩ | ⟨g, cap, cur, rfl, _⟩
  · clear h
    go_enter Try.func145, Try.ntmps145
    go_wp2
    refine wp_loop_rounds 1 ?_
    rw [rounds_succ]
    go_wp2
    go_ret
    exact ⟨rfl, Rep.Only.refl _ _⟩
  · exact markAskerS_w0 g cap k0 n w base ⟨cells, h⟩ hn hk

set_option maxHeartbeats 4000000 in
theorem markLineS_w0 (g c k0 n : Nat) (w : World) (base : Nat) (h : AnyRow w base 52 7 n g c) (hn : n ≤ 1048576) (hk : k0 ≤ 4398046511104) :
    Calls Try.prog 146 #[.slice (some ⟨g, 0, none⟩) n c, .int .i64 k0] w fun e w' => e = .returned (.int .i64 ((k0 + n * 7 : Nat) : Int)) ∧ Rep.Only w w' [g] := by
  go_enter Try.func146, Try.ntmps146
  go_wp2
  go_loopw [1, 5] (fun q i wr => ∃ k m : Nat, k ≤ n ∧ i = .int .i64 k ∧ q = .int .i64 m ∧ Hid (m = k0 + k * 7) ∧ Hid (AnyRow wr base 52 7 n g c) ∧ Hid (Rep.Only w wr [g])) (fun _ i _ => n - (intOf i).toNat)
  case atStart => exact ⟨0, k0, by omega, rfl, rfl, Lib.hid (by omega), Lib.hid h, Lib.hid (Rep.Only.refl _ _)⟩
  case round =>
    clear h
    obtain ⟨k, m, hk1, rfl, rfl, hm, HR, HO⟩ := hrel
    have hm1 : m ≤ 4398054899712 := by have := hm.out; omega
    by_cases hlt : k < n
    · skip
      obtain ⟨u0, c0⟩ := HR.out.cell (k * 7) (by omega)
      have f0 := HR.out.open_ (k * 7)
      obtain ⟨u1, c1⟩ := HR.out.cell (k * 7 + 1) (by omega)
      have f1 := HR.out.open_ (k * 7 + 1)
      obtain ⟨u2, c2⟩ := HR.out.cell (k * 7 + 2) (by omega)
      have f2 := HR.out.open_ (k * 7 + 2)
      obtain ⟨u3, c3⟩ := HR.out.cell (k * 7 + 3) (by omega)
      have f3 := HR.out.open_ (k * 7 + 3)
      obtain ⟨u4, c4⟩ := HR.out.cell (k * 7 + 4) (by omega)
      have f4 := HR.out.open_ (k * 7 + 4)
      obtain ⟨u5, c5⟩ := HR.out.cell (k * 7 + 5) (by omega)
      have f5 := HR.out.open_ (k * 7 + 5)
      obtain ⟨u6, c6⟩ := HR.out.cell (k * 7 + 6) (by omega)
      have f6 := HR.out.open_ (k * 7 + 6)
      go_wp2_with fail
      clear c0 f0 c1 f1 c2 f2 c3 f3 c4 f4 c5 f5 c6 f6
      replace HR := Lib.hid (HR.out.set (k * 7) (.int .i64 ((m : Int))))
      replace HO := Lib.hid (HO.out.trans (Rep.Only.setCell _ (p := ⟨g, k * 7, none⟩) (by simp) (.int .i64 ((m : Int)))))
      generalize (wr.setCell ⟨g, k * 7, none⟩ (.int .i64 ((m : Int)))) = V1 at HR HO ⊢
      have hmt := markText_any (m + 1) (by omega) V1
      rw [show ((m + 1 : Nat) : Int) = (m : Int) + 1 from by omega] at hmt
      refine hmt.mono ?_
      clear hmt
      rintro e V2 ⟨rfl, hb⟩
      replace HR := Lib.hid (HR.out.later hb)
      replace HO := Lib.hid (HO.out.trans ((Rep.only_of_below hb).mono (by simp)))
      clear hb
      obtain ⟨u0, c0⟩ := HR.out.cell (k * 7) (by omega)
      have f0 := HR.out.open_ (k * 7)
      obtain ⟨u1, c1⟩ := HR.out.cell (k * 7 + 1) (by omega)
      have f1 := HR.out.open_ (k * 7 + 1)
      obtain ⟨u2, c2⟩ := HR.out.cell (k * 7 + 2) (by omega)
      have f2 := HR.out.open_ (k * 7 + 2)
      obtain ⟨u3, c3⟩ := HR.out.cell (k * 7 + 3) (by omega)
      have f3 := HR.out.open_ (k * 7 + 3)
      obtain ⟨u4, c4⟩ := HR.out.cell (k * 7 + 4) (by omega)
      have f4 := HR.out.open_ (k * 7 + 4)
      obtain ⟨u5, c5⟩ := HR.out.cell (k * 7 + 5) (by omega)
      have f5 := HR.out.open_ (k * 7 + 5)
      obtain ⟨u6, c6⟩ := HR.out.cell (k * 7 + 6) (by omega)
      have f6 := HR.out.open_ (k * 7 + 6)
      go_wp2_with fail
      clear c0 f0 c1 f1 c2 f2 c3 f3 c4 f4 c5 f5 c6 f6
      replace HR := Lib.hid (HR.out.set (k * 7 + 1) (.string (mtxt (m + 1))))
      replace HO := Lib.hid (HO.out.trans (Rep.Only.setCell _ (p := ⟨g, k * 7 + 1, none⟩) (by simp) (.string (mtxt (m + 1)))))
      replace HR := Lib.hid (HR.out.set (k * 7 + 2) (.int .i64 ((m : Int) + 1 + 1)))
      replace HO := Lib.hid (HO.out.trans (Rep.Only.setCell _ (p := ⟨g, k * 7 + 2, none⟩) (by simp) (.int .i64 ((m : Int) + 1 + 1))))
      replace HR := Lib.hid (HR.out.set (k * 7 + 3) (.int .i64 ((m : Int) + 1 + 1 + 1)))
      replace HO := Lib.hid (HO.out.trans (Rep.Only.setCell _ (p := ⟨g, k * 7 + 3, none⟩) (by simp) (.int .i64 ((m : Int) + 1 + 1 + 1))))
      replace HR := Lib.hid (HR.out.set (k * 7 + 4) (.int .i64 ((m : Int) + 1 + 1 + 1 + 1)))
      replace HO := Lib.hid (HO.out.trans (Rep.Only.setCell _ (p := ⟨g, k * 7 + 4, none⟩) (by simp) (.int .i64 ((m : Int) + 1 + 1 + 1 + 1))))
      replace HR := Lib.hid (HR.out.set (k * 7 + 5) (.int .i64 ((m : Int) + 1 + 1 + 1 + 1 + 1)))
      replace HO := Lib.hid (HO.out.trans (Rep.Only.setCell _ (p := ⟨g, k * 7 + 5, none⟩) (by simp) (.int .i64 ((m : Int) + 1 + 1 + 1 + 1 + 1))))
      replace HR := Lib.hid (HR.out.set (k * 7 + 6) (.int .i64 ((m : Int) + 1 + 1 + 1 + 1 + 1 + 1)))
      replace HO := Lib.hid (HO.out.trans (Rep.Only.setCell _ (p := ⟨g, k * 7 + 6, none⟩) (by simp) (.int .i64 ((m : Int) + 1 + 1 + 1 + 1 + 1 + 1))))
      go_roundw
      case rel => exact ⟨k + 1, m + 7, by omega, by go_num, by go_num, Lib.hid (by rw [hm.out]; omega), HR, HO⟩
      case measure => simp [intOf]; omega
    · have he : k = n := by omega
      subst he
      go_wp2
      go_ret
      exact ⟨by rw [hm.out]; rfl, HO.out⟩

theorem markLineS_w (v : Value) (k0 n : Nat) (cells : List Value) (w : World) (base : Nat) (h : w.ownsRow base 52 7 v n cells) (hn : n ≤ 1048576) (hk : k0 ≤ 4398046511104) :
    Calls Try.prog 146 #[v, .int .i64 k0] w fun e w' => e = .returned (.int .i64 ((k0 + n * 7 : Nat) : Int)) ∧ Rep.Only w w' v.ownBlock.toList := by
  rcases h.2 with ⟨rfl, rfl⟩ | ⟨g, cap, cur, rfl, _⟩
  · clear h
    go_enter Try.func146, Try.ntmps146
    go_wp2
    refine wp_loop_rounds 1 ?_
    rw [rounds_succ]
    go_wp2
    go_ret
    exact ⟨rfl, Rep.Only.refl _ _⟩
  · exact markLineS_w0 g cap k0 n w base ⟨cells, h⟩ hn hk

def cntHo (x : Ho) : Nat := x.conf.length * 5 + x.as_.length * 8 + x.ls.length * 7
theorem cntHo_le {x : Ho} (h : FitsHo x) : cntHo x ≤ 8796093022208 := by
  have h1 := h.1.1; have h2 := h.2.1.1; have h3 := h.2.2.1
  unfold cntHo; omega
theorem rows_raw {α : Type} {R : Rep α} {e : TypeId} {w : World} {base : Nat} {A : Option Addr} {c : Nat} {xs : List α} {fp : List Nat} (h : (Rep.rows e R).own w base [.slice A xs.length c] xs fp) : ∃ cells, w.ownsRow base e R.size (.slice A xs.length c) xs.length cells ∧ ∀ a, a ∈ (Value.slice A xs.length c).ownBlock.toList → a ∈ fp := by
  obtain ⟨v, hv, cells, fps, ho, _, _, hf, _⟩ := h
  injection hv with hv
  subst hv
  exact ⟨cells, ho, fun a ha => by rw [hf]; exact List.mem_append_left _ ha⟩

set_option maxHeartbeats 4000000 in
theorem markHo_rep (cs : List Value) (k0 : Nat) (x : Ho) (fp : List Nat) (w : World) (base : Nat) (h : hoR.own w base cs x fp) (hs : FitsHo x) (hk0 : k0 ≤ 1099511627776) :
    Calls Try.prog 70 #[.agg cs.toArray, .int .i64 k0] w fun e w' => e = .returned (.int .i64 ((k0 + cntHo x : Nat) : Int)) ∧ Rep.Only w w' fp := by
  obtain ⟨A3, c3, A5, c5, A6, c6, rfl⟩ := ho_own_shape h
  obtain ⟨f3, f5, f6, o3, o5, o6, hfp, hnd⟩ := ho_inv h
  obtain ⟨n3, n5, n6⟩ : x.conf.length ≤ 1048576 ∧ x.as_.length ≤ 1048576 ∧ x.ls.length ≤ 1048576 := ⟨hs.1.1, hs.2.1.1, hs.2.2.1⟩
  obtain ⟨r3, q3, m3⟩ := rows_raw o3
  obtain ⟨r5, q5, m5⟩ := rows_raw o5
  obtain ⟨r6, q6, m6⟩ := rows_raw o6
  have hd : ∀ a, (a ∈ f3 → a ∉ f5 ∧ a ∉ f6) ∧ (a ∈ f5 → a ∉ f6) := by
    intro a
    have h1 := List.nodup_append.1 hnd
    have h2 := List.nodup_append.1 h1.2.1
    exact ⟨fun ha => ⟨fun hb => h1.2.2 a ha a (by simp [hb]) rfl, fun hb => h1.2.2 a ha a (by simp [hb]) rfl⟩, fun ha hb => h2.2.2 a ha a (by simp [hb]) rfl⟩
  have HD := Lib.hid hd
  have HF := Lib.hid hfp
  have M3 := Lib.hid m3
  have M5 := Lib.hid m5
  have M6 := Lib.hid m6
  have hw := heap_alloc_new w (.cells #[.int .i64 x.st, .int .i64 x.epoch, .int .i64 x.gen, .slice A3 x.conf.length c3, .bool x.paused, .slice A5 x.as_.length c5, .slice A6 x.ls.length c6, .int .i64 x.ticket, .int .i64 x.h.id, .int .i64 x.h.no, .int .i64 x.h.acked, .int .i64 x.h.since] 70)
  have hl3 := fun a (ha : a ∈ f3) => (Rep.lt dbsR o3 a ha).2
  have hl5 := fun a (ha : a ∈ f5) => (Rep.lt akSR o5 a ha).2
  have hl6 := fun a (ha : a ∈ f6) => (Rep.lt lnSR o6 a ha).2
  have HL3 := Lib.hid hl3
  have HL5 := Lib.hid hl5
  have HL6 := Lib.hid hl6
  have ho : Rep.Only w (w.alloc (.cells #[.int .i64 x.st, .int .i64 x.epoch, .int .i64 x.gen, .slice A3 x.conf.length c3, .bool x.paused, .slice A5 x.as_.length c5, .slice A6 x.ls.length c6, .int .i64 x.ticket, .int .i64 x.h.id, .int .i64 x.h.no, .int .i64 x.h.acked, .int .i64 x.h.since] 70)) fp := (Rep.only_of_below (Later.alloc w _)).mono (by simp)
  have Q3 := Lib.hid (q3.alloc (.cells #[.int .i64 x.st, .int .i64 x.epoch, .int .i64 x.gen, .slice A3 x.conf.length c3, .bool x.paused, .slice A5 x.as_.length c5, .slice A6 x.ls.length c6, .int .i64 x.ticket, .int .i64 x.h.id, .int .i64 x.h.no, .int .i64 x.h.acked, .int .i64 x.h.since] 70))
  have Q5 := Lib.hid (q5.alloc (.cells #[.int .i64 x.st, .int .i64 x.epoch, .int .i64 x.gen, .slice A3 x.conf.length c3, .bool x.paused, .slice A5 x.as_.length c5, .slice A6 x.ls.length c6, .int .i64 x.ticket, .int .i64 x.h.id, .int .i64 x.h.no, .int .i64 x.h.acked, .int .i64 x.h.since] 70))
  have Q6 := Lib.hid (q6.alloc (.cells #[.int .i64 x.st, .int .i64 x.epoch, .int .i64 x.gen, .slice A3 x.conf.length c3, .bool x.paused, .slice A5 x.as_.length c5, .slice A6 x.ls.length c6, .int .i64 x.ticket, .int .i64 x.h.id, .int .i64 x.h.no, .int .i64 x.h.acked, .int .i64 x.h.since] 70))
  have HO := Lib.hid ho
  have HW := Lib.hid hw
  clear h hs o3 o5 o6 hfp hnd hd m3 m5 m6 hl3 hl5 hl6 ho q3 q5 q6 hw
  unfold cntHo
  go_enter Try.func70, Try.ntmps70
  go_wp2_with fail
  generalize w.alloc (.cells #[.int .i64 x.st, .int .i64 x.epoch, .int .i64 x.gen, .slice A3 x.conf.length c3, .bool x.paused, .slice A5 x.as_.length c5, .slice A6 x.ls.length c6, .int .i64 x.ticket, .int .i64 x.h.id, .int .i64 x.h.no, .int .i64 x.h.acked, .int .i64 x.h.since] 70) = W0 at *
  refine (markDbS_w _ k0 x.conf.length r3 W0 base Q3.out n3 (by omega)).mono ?_
  rintro e W1 ⟨rfl, o1⟩
  obtain ⟨p1, hp1⟩ : ∃ p : Nat, k0 + x.conf.length * 5 = p := ⟨_, rfl⟩
  have HP1 := Lib.hid hp1
  rw [hp1]
  have hp1b : p1 ≤ 1099520016384 := by omega
  clear hp1
  replace Q5 := Lib.hid (Rep.ownsRow_block Q5.out fun a ha => o1.block a (Q5.out.lt a (by simpa using ha)).2 (fun hm => (HD.out a).1 (M3.out a hm) |>.1 (M5.out a ha)))
  replace Q6 := Lib.hid (Rep.ownsRow_block Q6.out fun a ha => o1.block a (Q6.out.lt a (by simpa using ha)).2 (fun hm => (HD.out a).1 (M3.out a hm) |>.2 (M6.out a ha)))
  replace HW := Lib.hid ((o1.block w.heap.size (Array.getElem?_eq_some_iff.1 HW.out).1 (fun hm => by have := HL3.out _ (M3.out _ hm); omega)).trans HW.out)
  replace HO := Lib.hid (HO.out.trans (o1.mono (fun a ha => (HF.out a).2 (.inl (M3.out a ha)))))
  clear o1
  have d5 := var_cell HW.out 5
  go_wp2_with fail
  clear d5
  refine (markAskerS_w _ p1 x.as_.length r5 W1 base Q5.out n5 (by omega)).mono ?_
  rintro e W2 ⟨rfl, o1⟩
  obtain ⟨p2, hp2⟩ : ∃ p : Nat, p1 + x.as_.length * 8 = p := ⟨_, rfl⟩
  have HP2 := Lib.hid hp2
  rw [hp2]
  have hp2b : p2 ≤ 1099530016384 := by omega
  clear hp2
  replace Q6 := Lib.hid (Rep.ownsRow_block Q6.out fun a ha => o1.block a (Q6.out.lt a (by simpa using ha)).2 (fun hm => (HD.out a).2 (M5.out a hm) (M6.out a ha)))
  replace HW := Lib.hid ((o1.block w.heap.size (Array.getElem?_eq_some_iff.1 HW.out).1 (fun hm => by have := HL5.out _ (M5.out _ hm); omega)).trans HW.out)
  replace HO := Lib.hid (HO.out.trans (o1.mono (fun a ha => (HF.out a).2 (.inr (.inl (M5.out a ha))))))
  clear o1
  have d6 := var_cell HW.out 6
  go_wp2_with fail
  clear d6
  refine (markLineS_w _ p2 x.ls.length r6 W2 base Q6.out n6 (by omega)).mono ?_
  rintro e W3 ⟨rfl, o1⟩
  replace HO := Lib.hid (HO.out.trans (o1.mono (fun a ha => (HF.out a).2 (.inr (.inr (M6.out a ha))))))
  clear o1
  go_wp2_with fail
  go_ret
  exact ⟨by have h1 := HP1.out; have h2 := HP2.out; rw [show k0 + (x.conf.length * 5 + x.as_.length * 8 + x.ls.length * 7) = p2 + x.ls.length * 7 by omega]; exact rfl, HO.out⟩

end Go.Proofs.Ytgdhhhibkhfdlaa
