/- ConfOk of the model. -/
import Derived.Test.YtdapnhahccpebaaDoorConfOk0
namespace Go.Proofs.YtdapnhahccpebaaDoor
open Go.RowKit
set_option maxRecDepth 100000
set_option linter.unusedVariables false

theorem str_ne {a b : ByteArray} (h : (a.toList == b.toList) = false) : a ≠ b := by
  intro e
  subst e
  simp at h
theorem str_eq {a b : ByteArray} (h : (a.toList == b.toList) = true) : a = b := by
  have h1 : a.toList = b.toList := by simpa using h
  obtain ⟨⟨l⟩⟩ := a
  obtain ⟨⟨m⟩⟩ := b
  rw [ByteArray.toList_mk, ByteArray.toList_mk] at h1
  rw [h1]

set_option maxRecDepth 100000 in
set_option maxHeartbeats 4000000 in
theorem confOkS_any (A : Option Addr) (c : Nat) (xs : List Db) (w : World) (h : Rep.RowsAt dbR w w.heap.size A xs.length xs) (hf : FitsDbs xs) :
    Calls Tryd.prog 19 #[.slice A xs.length c] w (RetBool w (confB xs)) := by
  have hn := hf.1
  have HF := Lib.hid hf.2
  clear hf
  unfold RetBool
  go_enter Tryd.func19, Tryd.ntmps19
  go_wp2
  go_loopw [3] (fun i wr => ∃ k : Nat, k ≤ xs.length ∧ i = .int .i64 k ∧ Hid (ConfTo xs k) ∧ Below w.heap.size w wr) (fun i _ => xs.length - (intOf i).toNat)
  case atStart => exact ⟨0, by omega, rfl, Lib.hid (ConfTo.zero xs), Below.refl _ _⟩
  case round =>
    obtain ⟨k, hk, rfl, hto, hb⟩ := hrel
    by_cases hlt : k < xs.length
    · obtain ⟨b, off, x, rfl, hbl, hx, c0, c1, c2, c3, c4⟩ := db_elem (h.keep fun p hp => hb.cell hp) hlt
      have HX := Lib.hid hx
      have hxs := HF.out x (List.mem_of_getElem? hx)
      clear hx
      have i1 : (0 : Int) ≤ (k : Int) := by omega
      have i2 : (k : Int) < (xs.length : Int) := by omega
      obtain ⟨y, hy⟩ : ∃ y, dbB x = y := ⟨_, rfl⟩
      have HY := Lib.hid hy
      clear hy
      go_wp2_with fail
      refine (l3Db_b x wr hxs).mono ?_
      rintro e w2 ⟨rfl, hb2⟩
      rw [HY.out]
      have hb3 := hb.trans (hb2.mono hb.size)
      clear hb2 c0 c1 c2 c3 c4
      cases y
      · have HE := Lib.hid (conf_bad_db HX.out HY.out)
        go_wp2_with fail
        go_ret
        exact ⟨by rw [HE.out]; rfl, hb3⟩
      · obtain ⟨wo, hwo⟩ : ∃ wo : World, wo = wr := ⟨_, rfl⟩
        clear hb hwo
        go_wp2_with fail
        go_loopw [4] (fun i wr => ∃ j : Nat, j ≤ k ∧ i = .int .i64 j ∧ Hid (∀ i y, i < j → xs[i]? = some y → y.name ≠ x.name) ∧ Below w.heap.size w wr) (fun i _ => k - (intOf i).toNat)
        case atStart => exact ⟨0, by omega, rfl, Lib.hid (fun i y h => absurd h (by omega)), hb3⟩
        case round =>
          clear hb3
          obtain ⟨j, hj, rfl, hnot, hb⟩ := hrel
          by_cases hjk : j < k
          · have hrows := h.keep fun p hp => hb.cell hp
            obtain ⟨b1, off1, x1, hA, hbl1, hx1, c0, c1, c2, c3, c4⟩ := db_elem hrows hlt
            obtain ⟨b2, off2, y, hA2, hbl2, hy, d0, d1, d2, d3, d4⟩ := db_elem hrows (show j < xs.length by omega)
            injection hA with hA
            injection hA with e1 e2 _
            injection hA2 with hA2
            injection hA2 with e3 e4 _
            subst e1 e2 e3 e4
            obtain rfl : x = x1 := by have := HX.out; rw [hx1] at this; injection this with this; exact this.symm
            have HYJ := Lib.hid hy
            clear hx1 hy
            have i3 : (0 : Int) ≤ (j : Int) := by omega
            have i4 : (j : Int) < (xs.length : Int) := by omega
            have i5 : (j : Int) < (k : Int) := by omega
            obtain ⟨q, hq⟩ : ∃ q, (y.name.toList == x.name.toList) = q := ⟨_, rfl⟩
            cases q
            · have HN := Lib.hid (show ∀ i z, i < j + 1 → xs[i]? = some z → z.name ≠ x.name from fun i z hi hz => by
                by_cases h2 : i < j
                · exact hnot.out i z h2 hz
                · obtain rfl : i = j := by omega
                  have := HYJ.out
                  rw [hz] at this
                  injection this with this
                  subst this
                  exact str_ne hq)
              go_wp2
              go_quiet (fail)
              go_wp2
              go_roundw
              case rel => exact ⟨j + 1, by omega, by go_num, HN, belowD hb _⟩
              case measure => simp [intOf]; omega
            · have HE := Lib.hid (conf_bad_twice HX.out HYJ.out hjk (str_eq hq))
              go_wp2
              go_quiet (fail)
              go_wp2
              go_ret
              exact ⟨by rw [HE.out]; rfl, belowD hb _⟩
          · obtain rfl : j = k := by omega
            have HN := Lib.hid (hto.out.succ HX.out HY.out (fun i y hi hy => hnot.out i y hi hy))
            go_wp2
            go_roundw
            case rel => exact ⟨j + 1, by omega, by go_num, HN, hb⟩
            case measure => simp [intOf]; omega
    · have he : k = xs.length := by omega
      subst he
      obtain ⟨y, hy⟩ : ∃ y, inI (xs.length : Int) 1 3 = y := ⟨_, rfl⟩
      have HE := Lib.hid (show confB xs = y by
        unfold inI at hy
        cases y
        · exact conf_bad_len fun h => of_decide_eq_false hy (by omega)
        · have := of_decide_eq_true hy
          exact confB_yes ⟨by omega, hto.out⟩)
      go_wp2_with (go_at_call 63; refine (l1In_b hy _).mono ?_; rintro e w' ⟨rfl, rfl⟩)
      go_ret
      exact ⟨by rw [HE.out]; rfl, hb⟩

end Go.Proofs.YtdapnhahccpebaaDoor
