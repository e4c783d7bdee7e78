/- SameConf, of the program and of the model. -/
import Derived.Test.YtannedjfmgflpaaDoorDbNe
import Derived.BigQuiet
import Derived.Deep.QuietTactic
namespace Go.Proofs.YtannedjfmgflpaaDoor
open Go.RowKit
set_option maxRecDepth 100000
set_option linter.unusedVariables false

noncomputable def sameB (xs ys : List Db) : Bool := @decide (xs = ys) (Classical.propDecidable _)
theorem sameB_yes {xs ys : List Db} (h : xs = ys) : sameB xs ys = true := by unfold sameB; exact @decide_eq_true _ (Classical.propDecidable _) h
theorem sameB_no {xs ys : List Db} (h : ¬ xs = ys) : sameB xs ys = false := by unfold sameB; exact @decide_eq_false _ (Classical.propDecidable _) h

set_option maxRecDepth 100000 in
set_option maxHeartbeats 4000000 in
theorem sameConfS_any (A B : Option Addr) (c d : Nat) (xs ys : List Db) (w : World) (h : Rep.RowsAt dbR w w.heap.size A xs.length xs) (h' : Rep.RowsAt dbR w w.heap.size B ys.length ys) (hn : xs.length ≤ 1048576) (hm : ys.length ≤ 1048576) :
    Calls Tryd.prog 16 #[.slice A xs.length c, .slice B ys.length d] w (RetBool w (sameB xs ys)) := by
  unfold RetBool
  by_cases hl : xs.length = ys.length
  · have hlb : ((xs.length : Int) != (ys.length : Int)) = false := by rw [hl]; simp
    have HL := Lib.hid hl
    clear hl
    go_enter Tryd.func16, Tryd.ntmps16
    go_wp2
    go_loopw [5] (fun i wr => ∃ k : Nat, k ≤ xs.length ∧ i = .int .i64 k ∧ Hid (xs.take k = ys.take k) ∧ Hid (∃ n, wr = w.drewN n)) (fun i _ => xs.length - (intOf i).toNat)
    case atStart => exact ⟨0, by omega, rfl, Lib.hid rfl, Lib.hid ⟨0, rfl⟩⟩
    case round =>
      obtain ⟨k, hk, rfl, hto, hw⟩ := hrel
      obtain ⟨n, rfl⟩ := hw.out
      by_cases hlt : k < xs.length
      · have hky : k < ys.length := by have := HL.out; omega
        obtain ⟨b, off, x, rfl, hbl, hx, c0, c1, c2, c3, c4⟩ := db_elem h hlt
        obtain ⟨b', off', y, rfl, hbl', hy, d0, d1, d2, d3, d4⟩ := db_elem h' hky
        have HX := Lib.hid hx
        have HYY := Lib.hid hy
        have i1 : (0 : Int) ≤ (k : Int) := by omega
        have i2 : (k : Int) < (xs.length : Int) := by omega
        have i3 : (k : Int) < (ys.length : Int) := by omega
        clear hx hy
        have g1 := fun a b w => db_guard .neq a b x y w
        have g2 := fun w => db_equal x y w
        obtain ⟨v, hv⟩ : ∃ v, dbEqB x y = v := ⟨_, rfl⟩
        rw [hv] at g2
        unfold dbC at g1 g2
        have HV := Lib.hid hv
        clear hv
        cases v
        · have HE := Lib.hid (show sameB xs ys = false from sameB_no fun e => by
            subst e
            have h1 := HX.out
            rw [HYY.out] at h1
            injection h1 with h1
            have := HV.out
            rw [h1, dbEqB_self] at this
            cases this)
          go_wp2
          go_quiet (fail)
          go_wp2
          go_ret
          exact ⟨by rw [HE.out]; rfl, belowD (belowD (Below.refl _ _) _) _⟩
        · have HN := Lib.hid (show xs.take (k + 1) = ys.take (k + 1) by
            rw [Rep.take_get HX.out, Rep.take_get HYY.out, hto.out, dbEqB_true HV.out])
          go_wp2
          go_quiet (fail)
          go_wp2
          go_roundw
          case rel => exact ⟨k + 1, by omega, by go_num, HN, Lib.hid ⟨_, rfl⟩⟩
          case measure => simp [intOf]; omega
      · have he : k = xs.length := by omega
        subst he
        have HE := Lib.hid (sameB_yes (xs := xs) (ys := ys) (by have h1 := hto.out; rw [List.take_length] at h1; rw [h1]; exact List.take_of_length_le (by rw [HL.out]; exact Nat.le_refl _)))
        go_wp2
        go_ret
        exact ⟨by rw [HE.out]; rfl, belowD (Below.refl _ _) _⟩
  · have hlb : ((xs.length : Int) != (ys.length : Int)) = true := by simp; omega
    have HE := Lib.hid (sameB_no (xs := xs) (ys := ys) (fun e => hl (by rw [e])))
    clear hl
    go_enter Tryd.func16, Tryd.ntmps16
    go_wp2
    go_ret
    exact ⟨by rw [HE.out]; rfl, Below.refl _ _⟩

set_option maxRecDepth 100000 in
set_option maxHeartbeats 4000000 in
theorem sliceEq_any (A B : Option Addr) (c d : Nat) (xs ys : List Db) (w : World) (h : Rep.RowsAt dbR w w.heap.size A xs.length xs) (h' : Rep.RowsAt dbR w w.heap.size B ys.length ys) (hn : xs.length ≤ 1048576) (hm : ys.length ≤ 1048576) :
    Calls Tryd.prog 44 #[.slice A xs.length c, .slice B ys.length d] w (RetBool w (sameB xs ys)) := by
  unfold RetBool
  by_cases hl : xs.length = ys.length
  · have hlb : ((xs.length : Int) != (ys.length : Int)) = false := by rw [hl]; simp
    have HL := Lib.hid hl
    clear hl
    go_enter Tryd.func44, Tryd.ntmps44
    go_wp2
    go_loopw [13] (fun i wr => ∃ k : Nat, k ≤ xs.length ∧ i = .int .i64 k ∧ Hid (xs.take k = ys.take k) ∧ Hid (∃ n, wr = w.drewN n)) (fun i _ => xs.length - (intOf i).toNat)
    case atStart => exact ⟨0, by omega, rfl, Lib.hid rfl, Lib.hid ⟨0, rfl⟩⟩
    case round =>
      obtain ⟨k, hk, rfl, hto, hw⟩ := hrel
      obtain ⟨n, rfl⟩ := hw.out
      by_cases hlt : k < xs.length
      · have hky : k < ys.length := by have := HL.out; omega
        obtain ⟨b, off, x, rfl, hbl, hx, c0, c1, c2, c3, c4⟩ := db_elem h hlt
        obtain ⟨b', off', y, rfl, hbl', hy, d0, d1, d2, d3, d4⟩ := db_elem h' hky
        have HX := Lib.hid hx
        have HYY := Lib.hid hy
        have i1 : (0 : Int) ≤ (k : Int) := by omega
        have i2 : (k : Int) < (xs.length : Int) := by omega
        have i3 : (k : Int) < (ys.length : Int) := by omega
        clear hx hy
        have g1 := fun a b w => db_guard .neq a b x y w
        have g2 := fun w => db_equal x y w
        obtain ⟨v, hv⟩ : ∃ v, dbEqB x y = v := ⟨_, rfl⟩
        rw [hv] at g2
        unfold dbC at g1 g2
        have HV := Lib.hid hv
        clear hv
        cases v
        · have HE := Lib.hid (show sameB xs ys = false from sameB_no fun e => by
            subst e
            have h1 := HX.out
            rw [HYY.out] at h1
            injection h1 with h1
            have := HV.out
            rw [h1, dbEqB_self] at this
            cases this)
          go_wp2
          go_quiet (fail)
          go_wp2
          go_ret
          exact ⟨by rw [HE.out]; rfl, belowD (belowD (Below.refl _ _) _) _⟩
        · have HN := Lib.hid (show xs.take (k + 1) = ys.take (k + 1) by
            rw [Rep.take_get HX.out, Rep.take_get HYY.out, hto.out, dbEqB_true HV.out])
          go_wp2
          go_quiet (fail)
          go_wp2
          go_roundw
          case rel => exact ⟨k + 1, by omega, by go_num, HN, Lib.hid ⟨_, rfl⟩⟩
          case measure => simp [intOf]; omega
      · have he : k = xs.length := by omega
        subst he
        have HE := Lib.hid (sameB_yes (xs := xs) (ys := ys) (by have h1 := hto.out; rw [List.take_length] at h1; rw [h1]; exact List.take_of_length_le (by rw [HL.out]; exact Nat.le_refl _)))
        go_wp2
        go_ret
        exact ⟨by rw [HE.out]; rfl, belowD (Below.refl _ _) _⟩
  · have hlb : ((xs.length : Int) != (ys.length : Int)) = true := by simp; omega
    have HE := Lib.hid (sameB_no (xs := xs) (ys := ys) (fun e => hl (by rw [e])))
    clear hl
    go_enter Tryd.func44, Tryd.ntmps44
    go_wp2
    go_ret
    exact ⟨by rw [HE.out]; rfl, Below.refl _ _⟩

set_option maxHeartbeats 400000 in
theorem sameConf_any (A B : Option Addr) (c d : Nat) (xs ys : List Db) (w : World) (h : Rep.RowsAt dbR w w.heap.size A xs.length xs) (h' : Rep.RowsAt dbR w w.heap.size B ys.length ys) (hn : xs.length ≤ 1048576) (hm : ys.length ≤ 1048576) :
    Calls Tryd.prog 15 #[.slice A xs.length c, .slice B ys.length d] w (RetBool w (sameB xs ys)) := by
  obtain ⟨y, hy⟩ : ∃ y, sameB xs ys = y := ⟨_, rfl⟩
  have C := sliceEq_any A B c d xs ys w h h' hn hm
  rw [hy] at C ⊢
  clear hy
  unfold RetBool at C ⊢
  go_enter Tryd.func15, Tryd.ntmps15
  go_wp2_with fail
  refine C.mono ?_
  rintro e w2 ⟨rfl, hb⟩
  clear C
  go_wp2_with fail
  go_ret
  exact ⟨rfl, hb⟩

end Go.Proofs.YtannedjfmgflpaaDoor
