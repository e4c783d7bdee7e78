/- The walk of FnHeads. -/
import Derived.Test.YtoaaogacaibedaaHeadI
import Derived.Test.YtoaaogacaibedaaDrawHead
import Derived.Test.YtoaaogacaibedaaBent
import Derived.Test.YtoaaogacaibedaaSumTurn
import Derived.Deep.Cut
namespace Go.Proofs.Ytoaaogacaibedaa
open Go.RowKit
set_option linter.unusedVariables false

theorem head_word {l : List UInt8} {k : Nat} {n : Int} (h0 : 0 ≤ n) (h1 : n ≤ 65535) (hl : k + 2 ≤ l.length) (hx : l[k]? = some (u8 (n / 256))) (hy : l[k + 1]? = some (u8 n)) : gwVal l k = n := by
  rw [(gw_yes hl hx hy).2.1, u8_cell, u8_cell]
  omega
theorem head_round {g n : Int} (hg : 1 ≤ g ∧ g ≤ 60000) (hn : 0 ≤ n ∧ n ≤ 18) : (headL g n).length = 6 ∧ getHeadP (headL g n) = ((g, n), true) := by
  have e : headL g n = u8 (g / 256) :: u8 g :: u8 (n / 256) :: u8 n :: wordBytes (crc (headBody g n)) := by
    rw [headL_yes (by unfold inI; simp; omega) (by unfold inI; simp; omega)]
    simp [withSum, headBody, wordBytes]
  have hl : (headL g n).length = 6 := by rw [e]; simp [wordBytes]
  have w0 : gwVal (headL g n) 0 = g := head_word (k := 0) (by omega) (by omega) (by omega) (by rw [e]; rfl) (by rw [e]; rfl)
  have w2 : gwVal (headL g n) 2 = n := head_word (k := 2) (by omega) (by omega) (by omega) (by rw [e]; rfl) (by rw [e]; rfl)
  refine ⟨hl, ?_⟩
  rw [getHeadP_yes hl (by rw [w0, w2]), w0, w2]
theorem head_turned {g n : Int} {l' : List UInt8} (hg : 1 ≤ g ∧ g ≤ 60000) (hn : 0 ≤ n ∧ n ≤ 18) (ht : Turned (headL g n) l') : l'.length = 6 ∧ getHeadP l' = ((0, 0), false) := by
  obtain ⟨i, b, b', hi, hne, rfl⟩ := ht
  have hl := (head_round hg hn).1
  have hy := headL_yes (g := g) (n := n) (by unfold inI; simp; omega) (by unfold inI; simp; omega)
  refine ⟨by simp [hl], getHeadP_no fun h => ?_⟩
  rw [hy] at h hi
  obtain ⟨h6, h2⟩ := h
  refine sum_turned hi hne ?_
  generalize (withSum (headBody g n)).set i b' = l' at h6 h2 ⊢
  unfold headL at h2
  split at h2
  · have e : l'.take (l'.length - 2) = headBody (gwVal l' 0) (gwVal l' 2) := by
      conv => lhs; rw [← h2]
      rw [withSum_len]
      unfold withSum
      rw [Nat.add_sub_cancel, List.take_left']
      rfl
    rw [e]
    exact h2.symm
  · rw [← h2] at h6
    simp at h6
theorem getHead_back {l : List UInt8} {x y : Int} (h : getHeadP l = ((x, y), true)) : headL x y = l := by
  unfold getHeadP at h
  split at h
  · rename_i hc
    injection h with h _
    injection h with h1 h2
    subst h1 h2
    exact hc.2
  · injection h with _ h; cases h
theorem getHead_zero {l : List UInt8} {x y : Int} (h : getHeadP l = ((x, y), false)) : x = 0 ∧ y = 0 := by
  unfold getHeadP at h
  split at h
  · injection h with _ h; cases h
  · injection h with h _
    injection h with h1 h2
    exact ⟨h1.symm, h2.symm⟩

theorem sameH_any (A B : Option Addr) (c c' M M' : Nat) (a b : List UInt8) (w : World) (h : Reads w M 1 A a.length (bys a)) (h' : Reads w M' 1 B b.length (bys b)) :
    Calls Try.prog 13 #[.slice A a.length c, .slice B b.length c'] w fun e w' => e = .returned (.bool (a == b)) ∧ w = w' := by
  have h1 := string_run (P := Try.prog) (c := c) Try.underlying22 Try.underlying5 Try.underlying9 h
  have h2 := string_run (P := Try.prog) (c := c') Try.underlying22 Try.underlying5 Try.underlying9 h'
  go_enter Try.func13, Try.ntmps13
  go_wp2
  go_ret
  simp

set_option maxRecDepth 100000 in
set_option maxHeartbeats 8000000 in
theorem walk_FnHeads (a0 : Option Addr) (len0 cap0 : Nat) (z0 : List Int) (w : World) (w0 : IsRow .u8 w a0 len0 cap0 z0) :
    Calls Try.prog 3 #[.slice a0 len0 cap0] w fun e w' => e = .returned (.bool true) ∧ Below w.heap.size w w' := by
  obtain ⟨code, rfl, _, hr⟩ := w0.reads
  clear w0
  by_cases hbig : (1048576 : Int) < code.length
  · go_enter Try.func3, Try.ntmps3
    go_wp2_with (first | (go_at_call 7; go_in) | fail)
    go_ret
    exact ⟨rfl, Below.refl _ _⟩
  · have hn : code.length ≤ 1048576 := by omega
    have HR := Lib.hid hr
    clear hr
    go_enter Try.func3, Try.ntmps3
    go_wp2_with (first | (go_at_call 7; go_in) | fail)
    refine (drawHeadOf_any a0 cap0 code w HR.out hn).mono ?_
    rintro e W1 ⟨⟨ga, gb, rfl⟩, hb⟩
    have S : All (fun w' => Below w.heap.size w w') W1 := ⟨hb⟩
    clear hb
    go_wp2_with fail
    refine (headOf_any ga gb W1).mono ?_
    rintro e W2 ⟨v2, rfl, o2, hb⟩
    obtain ⟨L, hL⟩ : ∃ L, headL ga gb = L := ⟨_, rfl⟩
    rw [hL] at o2
    have HL := Lib.hid hL
    have hLn : L.length ≤ 6 := by rw [← hL]; exact headL_len _ _
    clear hL
    obtain ⟨A2, c2, rfl, hk2, _, r2, _⟩ := o2.shape
    have S2 : All (fun w' => Below w.heap.size w w' ∧ Reads w' w'.heap.size 1 A2 L.length (bys L)) W2 := ⟨(S.later hb).out, r2⟩
    clear hb o2 r2 S
    go_wp2_with fail
    refine (drawGetHead_any a0 cap0 code W2 ((HR.out.below S2.out.1).more S2.out.1.size) hn).mono ?_
    rintro e W3 ⟨A3, c3, l3, rfl, hl3, hk3, r3, hb⟩
    have S3 : All (fun w' => (Below w.heap.size w w' ∧ Reads w' w'.heap.size 1 A2 L.length (bys L)) ∧ Reads w' w'.heap.size 1 A3 l3.length (bys l3)) W3 := ⟨(S2.later hb).out, r3⟩
    clear hb r3 S2
    obtain ⟨⟨⟨x, y⟩, is⟩, hp⟩ : ∃ p, getHeadP l3 = p := ⟨_, rfl⟩
    have HP := Lib.hid hp
    clear hp
    go_wp2_with fail
    refine (getHead_any A3 c3 l3 W3 S3.out.2 (by omega)).mono ?_
    rw [HP.out]
    rintro e W4 ⟨rfl, hb⟩
    replace S3 := S3.later hb
    clear hb
    go_wp2_with fail
    refine (getHeadS_any A3 c3 l3 W4 S3.out.2 (by omega)).mono ?_
    rw [HP.out]
    rintro e W5 ⟨rfl, hb⟩
    replace S3 := S3.later hb
    clear hb
    have oo : (is != is) = false := by simp
    go_upto_region 8 with (fail)
    go_cut [56] from 43 (fun v W' => v = .bool false ∧ All (fun w' => (Below w.heap.size w w' ∧ Reads w' w'.heap.size 1 A2 L.length (bys L)) ∧ Reads w' w'.heap.size 1 A3 l3.length (bys l3)) W')
    case first =>
      cases is
      · go_wp2_with fail
        go_meet
        case rel => exact ⟨rfl, S3⟩
      · have HB := Lib.hid (getHead_back HP.out)
        go_wp2_with fail
        refine (headOf_any x y W5).mono ?_
        rw [HB.out]
        rintro e W6 ⟨v6, rfl, o6, hb⟩
        obtain ⟨A6, c6, rfl, hk6, _, r6, _⟩ := o6.shape
        replace S3 := S3.later hb
        clear hb o6
        have ee : (l3 == l3) = true := by simp
        go_wp2_with fail
        refine (sameH_any A6 A3 c6 c3 _ _ l3 l3 W6 r6 S3.out.2).mono ?_
        rw [ee]
        rintro e W7 ⟨rfl, rfl⟩
        clear r6 ee
        go_wp2_with fail
        go_meet
        case rel => exact ⟨rfl, S3⟩
    case rest =>
      clear S3 oo HP
      obtain ⟨rfl, S⟩ := hcut
      by_cases h1 : ga < 1
      · have e0 : L = [] := by rw [← HL.out]; exact headL_no (.inl (by unfold inI; simp; omega))
        have hfin := S.out.1.1
        subst e0
        clear S HL
        go_wp2_with fail
        go_ret
        exact ⟨rfl, hfin⟩
      by_cases h2 : 60000 < ga
      · have e0 : L = [] := by rw [← HL.out]; exact headL_no (.inl (by unfold inI; simp; omega))
        have hfin := S.out.1.1
        subst e0
        clear S HL
        go_wp2_with fail
        go_ret
        exact ⟨rfl, hfin⟩
      by_cases h3 : gb < 0
      · have e0 : L = [] := by rw [← HL.out]; exact headL_no (.inr (by unfold inI; simp; omega))
        have hfin := S.out.1.1
        subst e0
        clear S HL
        go_wp2_with fail
        go_ret
        exact ⟨rfl, hfin⟩
      by_cases h4 : 18 < gb
      · have e0 : L = [] := by rw [← HL.out]; exact headL_no (.inr (by unfold inI; simp; omega))
        have hfin := S.out.1.1
        subst e0
        clear S HL
        go_wp2_with fail
        go_ret
        exact ⟨rfl, hfin⟩
      have hrd := head_round (g := ga) (n := gb) (by omega) (by omega)
      rw [HL.out] at hrd
      have HY := Lib.hid hrd
      have hT : ∀ l', Turned L l' → l'.length = 6 ∧ getHeadP l' = ((0, 0), false) := fun l' h => head_turned (g := ga) (n := gb) (by omega) (by omega) (by rw [HL.out]; exact h)
      have HT := Lib.hid hT
      clear hrd hT HL
      go_wp2_with fail
      clear h1 h2 h3 h4
      refine (getHead_any A2 c2 L wc S.out.1.2 (by omega)).mono ?_
      rw [HY.out.2]
      rintro e W6 ⟨rfl, hb⟩
      replace S := S.later hb
      clear hb
      go_wp2_with fail
      refine (bent_any a0 A2 cap0 c2 code L W6 ((HR.out.below S.out.1.1).more S.out.1.1.size) S.out.1.2 hn (by omega) (by have := HY.out.1; omega)).mono ?_
      rintro e W7 ⟨v7, l7, rfl, ht, o7, hb⟩
      have HZ := Lib.hid (HT.out l7 ht)
      obtain ⟨A7, c7, rfl, hk7, _, r7, _⟩ := o7.shape
      replace S := S.later hb
      clear hb o7 ht HT
      go_wp2_with fail
      refine (getHead_any A7 c7 l7 W7 r7 (by have := HZ.out.1; omega)).mono ?_
      rw [HZ.out.2]
      rintro e W8 ⟨rfl, hb⟩
      replace S := S.later hb
      have hfin := S.out.1.1
      clear hb r7 S
      have aa : (ga == ga) = true := by simp
      have bb : (gb == gb) = true := by simp
      go_wp2_with fail
      go_ret
      exact ⟨rfl, hfin⟩

end Go.Proofs.Ytoaaogacaibedaa
