/- HeadOf and GetHead of the program. -/
import Derived.Test.YtoaaogacaibedaaHead
import Derived.Test.YtoaaogacaibedaaShelf
namespace Go.Proofs.Ytoaaogacaibedaa
open Go.RowKit
set_option linter.unusedVariables false

theorem sameB_any (A B : Option Addr) (c c' M M' : Nat) (a b : List UInt8) (w : World) (h : Reads w M 1 A a.length (bys a)) (h' : Reads w M' 1 B b.length (bys b)) :
    Calls Try.prog 36 #[.slice A a.length c, .slice B b.length c'] w fun e w' => e = .returned (.bool (a == b)) ∧ w = w' := by
  have h1 := string_run (P := Try.prog) (c := c) Try.underlying22 Try.underlying5 Try.underlying9 h
  have h2 := string_run (P := Try.prog) (c := c') Try.underlying22 Try.underlying5 Try.underlying9 h'
  refine (Try.bytes_Equal_strs _ _ _ _ w h1 h2).mono ?_
  rintro e w' ⟨rfl, rfl⟩
  exact ⟨by simp [Lib.toList_data], rfl⟩

set_option maxHeartbeats 1000000 in
theorem headOf_any (g n : Int) (w : World) : Calls Try.prog 9 #[.int .i64 g, .int .i64 n] w (RetOwn w (headL g n)) := by
  obtain ⟨b1, h1⟩ : ∃ b, inI g 1 60000 = b := ⟨_, rfl⟩
  obtain ⟨b2, h2⟩ : ∃ b, inI n 0 18 = b := ⟨_, rfl⟩
  unfold RetOwn
  cases b1
  · rw [headL_no (.inl h1)]
    go_enter Try.func9, Try.ntmps9
    go_wp2_with (go_at_call 27; refine (within_b (by assumption) _).mono ?_; rintro e w' ⟨rfl, rfl⟩)
    go_ret
    exact ⟨_, rfl, own_empty w _ (Nat.le_refl _), Later.alloc w _⟩
  · cases b2
    · rw [headL_no (.inr h2)]
      go_enter Try.func9, Try.ntmps9
      go_wp2_with (go_at_call 27; refine (within_b (by assumption) _).mono ?_; rintro e w' ⟨rfl, rfl⟩)
      go_ret
      exact ⟨_, rfl, own_empty w _ (Nat.le_refl _), Later.alloc w _⟩
    · rw [headL_yes h1 h2]
      go_enter Try.func9, Try.ntmps9
      go_wp2_with (go_at_call 27; refine (within_b (by assumption) _).mono ?_; rintro e w' ⟨rfl, rfl⟩)
      clear h1 h2
      have S : All (fun w' => Below w.heap.size w w') w := ⟨Later.refl w⟩
      refine (putWord_any none 0 g [] w Reads.none_ (by simp)).mono ?_
      rintro e W2 ⟨v2, rfl, o2, hb⟩
      replace S := S.later hb
      obtain ⟨A2, c2, rfl, _, _, r2, _⟩ := o2.shape
      clear hb o2
      go_wp2_with fail
      refine (putWord_any A2 c2 n _ W2 r2 (by simp [wordBytes])).mono ?_
      rintro e W3 ⟨v3, rfl, o3, hb⟩
      replace S := S.later hb
      obtain ⟨A3, c3, rfl, _, _, r3, _⟩ := o3.shape
      have L3 := Lib.hid (show ([] ++ wordBytes g ++ wordBytes n).length = 4 by simp [wordBytes])
      obtain ⟨l3, hl3⟩ : ∃ l3, [] ++ wordBytes g ++ wordBytes n = l3 := ⟨_, rfl⟩
      rw [hl3] at r3 L3 ⊢
      have HL3 := Lib.hid hl3
      clear hl3
      clear hb o3 r2
      go_wp2_with fail
      refine (sum_any A3 c3 l3 W3 r3 (by have := L3.out; omega)).mono ?_
      rintro e W4 ⟨rfl, rfl⟩
      go_wp2_with fail
      refine (putWord_any A3 c3 (crc l3) l3 W3 r3 (by have := L3.out; omega)).mono ?_
      rintro e W5 ⟨v5, rfl, o5, hb⟩
      go_wp2_with fail
      go_ret
      exact ⟨_, rfl, by unfold withSum headBody; rw [HL3.out]; exact ownsRow_mono o5 S.out.size, Later.trans S.out hb⟩

set_option maxHeartbeats 1000000 in
theorem getHead_any (A : Option Addr) (c : Nat) (l : List UInt8) (w : World) (h : Reads w w.heap.size 1 A l.length (bys l)) (hn : l.length ≤ 100000000) : Calls Try.prog 11 #[.slice A l.length c] w (RetHead w (getHeadP l)) := by
  obtain ⟨p, hp⟩ : ∃ p, getHeadP l = p := ⟨_, rfl⟩
  rw [hp]
  have HP := Lib.hid hp
  clear hp
  unfold RetHead
  by_cases hl : l.length = 6
  · have hok0 : gwOk l 0 = true := by unfold gwOk; rw [hl]; rfl
    have hn0 : gwNext l 0 = 2 := by unfold gwNext; rw [hok0]; rfl
    have h6 : ((l.length : Int) != 6) = false := by rw [hl]; rfl
    have HL6 := Lib.hid hl
    clear hl
    go_enter Try.func11, Try.ntmps11
    go_wp2_with fail
    refine (getWord_any A c 0 l w h hn).mono ?_
    rw [hn0, hok0]
    rintro e W1 ⟨rfl, n1, rfl⟩
    go_wp2_with fail
    refine (getWord_any A c 2 l _ (h.drewN n1) hn).mono ?_
    rintro e W2 ⟨rfl, n2, rfl⟩
    have R2 := (h.drewN n1).drewN n2
    have B2 := belowD (belowD (Below.refl w.heap.size w) n1) n2
    generalize (w.drewN n1).drewN n2 = W2 at R2 B2 ⊢
    clear hok0 hn0
    go_wp2_with fail
    refine (headOf_any (gwVal l 0) (gwVal l 2) W2).mono ?_
    rintro e W3 ⟨v3, rfl, o3, hb⟩
    obtain ⟨A3, c3, rfl, _, _, r3, _⟩ := o3.shape
    replace R2 := (R2.below (hb.mono (Nat.le_refl _) |>.mono B2.size)).more (Nat.le_trans B2.size hb.size)
    replace B2 := Later.trans B2 hb
    have HE := Lib.hid (show (headL (gwVal l 0) (gwVal l 2) == l) = true ↔ headL (gwVal l 0) (gwVal l 2) = l by simp)
    clear hb o3
    go_wp2_with fail
    refine (sameB_any A3 A c3 c _ _ _ l W3 r3 R2).mono ?_
    obtain ⟨y, hy⟩ : ∃ y, (headL (gwVal l 0) (gwVal l 2) == l) = y := ⟨_, rfl⟩
    rw [hy]
    have HY := Lib.hid hy
    clear hy
    rintro e W4 ⟨rfl, rfl⟩
    cases y
    · have hq := getHeadP_no (l := l) (fun h9 => by have h8 := HE.out.2 h9.2; rw [HY.out] at h8; cases h8)
      rw [HP.out] at hq
      subst hq
      go_wp2_with fail
      go_ret3
      exact ⟨rfl, B2⟩
    · have hq := getHeadP_yes HL6.out (HE.out.1 HY.out)
      rw [HP.out] at hq
      subst hq
      go_wp2_with fail
      go_ret3
      exact ⟨rfl, B2⟩
  · have hq := getHeadP_no (l := l) (fun h9 => hl h9.1)
    rw [HP.out] at hq
    subst hq
    have h6 : ((l.length : Int) != 6) = true := by simp; omega
    clear hl
    go_enter Try.func11, Try.ntmps11
    go_wp2_with fail
    go_ret3
    exact ⟨rfl, Later.refl w⟩

theorem headSec_any (g : Int) (w : World) (g1 : 0 ≤ g) (g2 : g ≤ 1000000) : Calls Try.prog 47 #[.int .i64 g] w fun e w' => e = .returned (.int .i64 (g % 2)) ∧ w = w' := by
  have h0 : 0 ≤ g % 2 := by omega
  have h1 : g % 2 ≤ 1 := by omega
  have ht : g.tmod 2 = g % 2 := Int.tmod_eq_emod_of_nonneg g1
  go_enter Try.func47, Try.ntmps47
  go_wp2
  go_ret
  exact ⟨rfl, rfl⟩

end Go.Proofs.Ytoaaogacaibedaa
