/- Chapter 3: when a name, a database, a list of databases is right; the model's functions. ConfOk of the model. -/
import Derived.Test.YtgdhhhibkhfdlaaRet
import Derived.Test.YtgdhhhibkhfdlaaName
import Derived.Test.YtgdhhhibkhfdlaaConfEq
namespace Go.Proofs.Ytgdhhhibkhfdlaa
open Go.RowKit
set_option linter.unusedVariables false

def dbB (d : Db) : Bool := nameB d.name.data.toList && inI d.size 1 3 && inI d.queue 0 4 && inI d.wait 1 20 && inI d.idle 1 20

/-- The first k databases are right, and no two of them have one name. -/
def ConfTo (xs : List Db) (k : Nat) : Prop :=
  (∀ i x, i < k → xs[i]? = some x → dbB x = true) ∧ (∀ i j x y, j < i → i < k → xs[i]? = some x → xs[j]? = some y → y.name ≠ x.name)
def ConfGood (xs : List Db) : Prop := (1 ≤ xs.length ∧ xs.length ≤ 3) ∧ ConfTo xs xs.length
noncomputable def confB (xs : List Db) : Bool := @decide (ConfGood xs) (Classical.propDecidable _)
theorem confB_yes {xs : List Db} (h : ConfGood xs) : confB xs = true := by unfold confB; exact @decide_eq_true _ (Classical.propDecidable _) h
theorem confB_no {xs : List Db} (h : ¬ ConfGood xs) : confB xs = false := by unfold confB; exact @decide_eq_false _ (Classical.propDecidable _) h
theorem confB_good {xs : List Db} (h : confB xs = true) : ConfGood xs := by unfold confB at h; exact @of_decide_eq_true _ (Classical.propDecidable _) h
theorem confB_bad {xs : List Db} (h : confB xs = false) : ¬ ConfGood xs := by unfold confB at h; exact @of_decide_eq_false _ (Classical.propDecidable _) h
theorem ConfTo.zero (xs : List Db) : ConfTo xs 0 := ⟨fun i x h => absurd h (by omega), fun i j x y _ h => absurd h (by omega)⟩
theorem ConfTo.succ {xs : List Db} {k : Nat} {x : Db} (h : ConfTo xs k) (hx : xs[k]? = some x) (hd : dbB x = true) (hn : ∀ j y, j < k → xs[j]? = some y → y.name ≠ x.name) : ConfTo xs (k + 1) := by
  refine ⟨fun i y hi hy => ?_, fun i j y z hj hi hy hz => ?_⟩
  · by_cases hk : i < k
    · exact h.1 i y hk hy
    · obtain rfl : i = k := by omega
      rw [hx] at hy
      injection hy with hy
      subst hy
      exact hd
  · by_cases hk : i < k
    · exact h.2 i j y z hj hk hy hz
    · obtain rfl : i = k := by omega
      rw [hx] at hy
      injection hy with hy
      subst hy
      exact hn j z hj hz
theorem conf_bad_db {xs : List Db} {k : Nat} {x : Db} (hx : xs[k]? = some x) (hd : dbB x = false) : confB xs = false := confB_no fun h => by
  have := h.2.1 k x (List.getElem?_eq_some_iff.1 hx).1 hx
  rw [hd] at this
  cases this
theorem conf_bad_twice {xs : List Db} {k j : Nat} {x y : Db} (hx : xs[k]? = some x) (hy : xs[j]? = some y) (hj : j < k) (hn : y.name = x.name) : confB xs = false := confB_no fun h => h.2.2 k j x y hj (List.getElem?_eq_some_iff.1 hx).1 hx hy hn
theorem conf_bad_len {xs : List Db} (h : ¬ (1 ≤ xs.length ∧ xs.length ≤ 3)) : confB xs = false := confB_no fun h' => h h'.1



set_option maxHeartbeats 2000000 in
theorem l3Db_b (d : Db) (w : World) (hd : d.name.size ≤ 1048576) : Calls Try.prog 178 #[.agg (dbC d).toArray] w (RetBool w (dbB d)) := by
  obtain ⟨b0, h0⟩ : ∃ b, nameB d.name.data.toList = b := ⟨_, rfl⟩
  obtain ⟨b1, h1⟩ : ∃ b, inI d.size 1 3 = b := ⟨_, rfl⟩
  obtain ⟨b2, h2⟩ : ∃ b, inI d.queue 0 4 = b := ⟨_, rfl⟩
  obtain ⟨b3, h3⟩ : ∃ b, inI d.wait 1 20 = b := ⟨_, rfl⟩
  obtain ⟨b4, h4⟩ : ∃ b, inI d.idle 1 20 = b := ⟨_, rfl⟩
  have HC := Lib.hid (show dbB d = (b0 && b1 && b2 && b3 && b4) by unfold dbB; rw [h0, h1, h2, h3, h4])
  unfold dbC RetBool
  cases b0
  rotate_left
  cases b1
  rotate_left
  cases b2
  rotate_left
  cases b3
  rotate_left
  cases b4
  all_goals
    go_enter Try.func178, Try.ntmps178
    go_wp2_with (first
      | (go_at_call 110; refine (l1Name_b h0 _ hd).mono ?_; rintro e w' ⟨rfl, rfl⟩)
      | (go_at_call 86; refine (l1In_b (by assumption) _).mono ?_; rintro e w' ⟨rfl, rfl⟩))
    go_ret
    exact ⟨by rw [HC.out]; simp, (Below.refl _ _).alloc (Nat.le_refl _) _⟩

end Go.Proofs.Ytgdhhhibkhfdlaa

namespace Go.Proofs.Ytgdhhhibkhfdlaa
open Go.RowKit
set_option linter.unusedVariables false

theorem str_ne {a b : ByteArray} (h : (a.toList == b.toList) = false) : a ≠ b := by
  intro e
  subst e
  simp at h
theorem str_eq {a b : ByteArray} (h : (a.toList == b.toList) = true) : a = b := by
  have h1 : a.toList = b.toList := by simpa using h
  obtain ⟨⟨l⟩⟩ := a
  obtain ⟨⟨m⟩⟩ := b
  rw [ByteArray.toList_mk, ByteArray.toList_mk] at h1
  rw [h1]

set_option maxRecDepth 100000 in
set_option maxHeartbeats 4000000 in
theorem confOkS_any (A : Option Addr) (c : Nat) (xs : List Db) (w : World) (h : Rep.RowsAt dbR w w.heap.size A xs.length xs) (hf : FitsDbs xs) :
    Calls Try.prog 128 #[.slice A xs.length c] w (RetBool w (confB xs)) := by
  have hn := hf.1
  have HF := Lib.hid hf.2
  clear hf
  unfold RetBool
  go_enter Try.func128, Try.ntmps128
  go_wp2
  go_loopw [3] (fun i wr => ∃ k : Nat, k ≤ xs.length ∧ i = .int .i64 k ∧ Hid (ConfTo xs k) ∧ Below w.heap.size w wr) (fun i _ => xs.length - (intOf i).toNat)
  case atStart => exact ⟨0, by omega, rfl, Lib.hid (ConfTo.zero xs), Below.refl _ _⟩
  case round =>
    obtain ⟨k, hk, rfl, hto, hb⟩ := hrel
    by_cases hlt : k < xs.length
    · obtain ⟨b, off, x, rfl, hbl, hx, c0, c1, c2, c3, c4⟩ := db_elem (h.keep fun p hp => hb.cell hp) hlt
      have HX := Lib.hid hx
      have hxs := HF.out x (List.mem_of_getElem? hx)
      clear hx
      have i1 : (0 : Int) ≤ (k : Int) := by omega
      have i2 : (k : Int) < (xs.length : Int) := by omega
      obtain ⟨y, hy⟩ : ∃ y, dbB x = y := ⟨_, rfl⟩
      have HY := Lib.hid hy
      clear hy
      go_wp2_with fail
      refine (l3Db_b x wr hxs).mono ?_
      rintro e w2 ⟨rfl, hb2⟩
      rw [HY.out]
      have hb3 := hb.trans (hb2.mono hb.size)
      clear hb2 c0 c1 c2 c3 c4
      cases y
      · have HE := Lib.hid (conf_bad_db HX.out HY.out)
        go_wp2_with fail
        go_ret
        exact ⟨by rw [HE.out]; rfl, hb3⟩
      · obtain ⟨wo, hwo⟩ : ∃ wo : World, wo = wr := ⟨_, rfl⟩
        clear hb hwo
        go_wp2_with fail
        go_loopw [4] (fun i wr => ∃ j : Nat, j ≤ k ∧ i = .int .i64 j ∧ Hid (∀ i y, i < j → xs[i]? = some y → y.name ≠ x.name) ∧ Below w.heap.size w wr) (fun i _ => k - (intOf i).toNat)
        case atStart => exact ⟨0, by omega, rfl, Lib.hid (fun i y h => absurd h (by omega)), hb3⟩
        case round =>
          clear hb3
          obtain ⟨j, hj, rfl, hnot, hb⟩ := hrel
          by_cases hjk : j < k
          · have hrows := h.keep fun p hp => hb.cell hp
            obtain ⟨b1, off1, x1, hA, hbl1, hx1, c0, c1, c2, c3, c4⟩ := db_elem hrows hlt
            obtain ⟨b2, off2, y, hA2, hbl2, hy, d0, d1, d2, d3, d4⟩ := db_elem hrows (show j < xs.length by omega)
            injection hA with hA
            injection hA with e1 e2 _
            injection hA2 with hA2
            injection hA2 with e3 e4 _
            subst e1 e2 e3 e4
            obtain rfl : x = x1 := by have := HX.out; rw [hx1] at this; injection this with this; exact this.symm
            have HYJ := Lib.hid hy
            clear hx1 hy
            have i3 : (0 : Int) ≤ (j : Int) := by omega
            have i4 : (j : Int) < (xs.length : Int) := by omega
            have i5 : (j : Int) < (k : Int) := by omega
            obtain ⟨q, hq⟩ : ∃ q, (y.name.toList == x.name.toList) = q := ⟨_, rfl⟩
            cases q
            · have HN := Lib.hid (show ∀ i z, i < j + 1 → xs[i]? = some z → z.name ≠ x.name from fun i z hi hz => by
                by_cases h2 : i < j
                · exact hnot.out i z h2 hz
                · obtain rfl : i = j := by omega
                  have := HYJ.out
                  rw [hz] at this
                  injection this with this
                  subst this
                  exact str_ne hq)
              go_wp2
              go_quiet (fail)
              go_wp2
              go_roundw
              case rel => exact ⟨j + 1, by omega, by go_num, HN, belowD hb _⟩
              case measure => simp [intOf]; omega
            · have HE := Lib.hid (conf_bad_twice HX.out HYJ.out hjk (str_eq hq))
              go_wp2
              go_quiet (fail)
              go_wp2
              go_ret
              exact ⟨by rw [HE.out]; rfl, belowD hb _⟩
          · obtain rfl : j = k := by omega
            have HN := Lib.hid (hto.out.succ HX.out HY.out (fun i y hi hy => hnot.out i y hi hy))
            go_wp2
            go_roundw
            case rel => exact ⟨j + 1, by omega, by go_num, HN, hb⟩
            case measure => simp [intOf]; omega
    · have he : k = xs.length := by omega
      subst he
      obtain ⟨y, hy⟩ : ∃ y, inI (xs.length : Int) 1 3 = y := ⟨_, rfl⟩
      have HE := Lib.hid (show confB xs = y by
        unfold inI at hy
        cases y
        · exact conf_bad_len fun h => of_decide_eq_false hy (by omega)
        · have := of_decide_eq_true hy
          exact confB_yes ⟨by omega, hto.out⟩)
      go_wp2_with (go_at_call 86; refine (l1In_b hy _).mono ?_; rintro e w' ⟨rfl, rfl⟩)
      go_ret
      exact ⟨by rw [HE.out]; rfl, hb⟩

end Go.Proofs.Ytgdhhhibkhfdlaa
