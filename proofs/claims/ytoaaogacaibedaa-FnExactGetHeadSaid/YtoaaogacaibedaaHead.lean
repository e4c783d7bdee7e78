/- The heads of the journal: what they are, in plain lists; HeadOf and GetHead of the model. -/
import Derived.Test.YtoaaogacaibedaaRet
import Derived.Test.YtoaaogacaibedaaText
import Derived.Test.YtoaaogacaibedaaSum
namespace Go.Proofs.Ytoaaogacaibedaa
open Go.RowKit
set_option linter.unusedVariables false

def headBody (g n : Int) : List UInt8 := [] ++ wordBytes g ++ wordBytes n
def headL (g n : Int) : List UInt8 := if inI g 1 60000 = true ∧ inI n 0 18 = true then withSum (headBody g n) else []
theorem headL_len (g n : Int) : (headL g n).length ≤ 6 := by
  unfold headL
  split
  · simp [withSum, headBody, wordBytes]
  · simp
theorem headL_no {g n : Int} (h : inI g 1 60000 = false ∨ inI n 0 18 = false) : headL g n = [] := by
  unfold headL
  rw [if_neg]
  rintro ⟨h1, h2⟩
  rcases h with h | h
  · rw [h] at h1; cases h1
  · rw [h] at h2; cases h2
theorem headL_yes {g n : Int} (h : inI g 1 60000 = true) (h2 : inI n 0 18 = true) : headL g n = withSum (headBody g n) := if_pos ⟨h, h2⟩
def getHeadP (l : List UInt8) : (Int × Int) × Bool := if l.length = 6 ∧ headL (gwVal l 0) (gwVal l 2) = l then ((gwVal l 0, gwVal l 2), true) else ((0, 0), false)
def RetHead (w : World) (p : (Int × Int) × Bool) (e : Ending) (w' : World) : Prop := e = .returned (.tuple #[.int .i64 p.1.1, .int .i64 p.1.2, .bool p.2]) ∧ Below w.heap.size w w'
theorem getHeadP_no {l : List UInt8} (h : ¬ (l.length = 6 ∧ headL (gwVal l 0) (gwVal l 2) = l)) : getHeadP l = ((0, 0), false) := if_neg h
theorem getHeadP_yes {l : List UInt8} (h : l.length = 6) (h2 : headL (gwVal l 0) (gwVal l 2) = l) : getHeadP l = ((gwVal l 0, gwVal l 2), true) := if_pos ⟨h, h2⟩

set_option maxHeartbeats 1000000 in
theorem headOfS_any (g n : Int) (w : World) : Calls Try.prog 15 #[.int .i64 g, .int .i64 n] w (RetOwn w (headL g n)) := by
  obtain ⟨b1, h1⟩ : ∃ b, inI g 1 60000 = b := ⟨_, rfl⟩
  obtain ⟨b2, h2⟩ : ∃ b, inI n 0 18 = b := ⟨_, rfl⟩
  unfold RetOwn
  cases b1
  · rw [headL_no (.inl h1)]
    go_enter Try.func15, Try.ntmps15
    go_wp2_with (go_at_call 40; refine (l1In_b (by assumption) _).mono ?_; rintro e w' ⟨rfl, rfl⟩)
    go_ret
    exact ⟨_, rfl, own_empty w _ (Nat.le_refl _), Later.alloc w _⟩
  · cases b2
    · rw [headL_no (.inr h2)]
      go_enter Try.func15, Try.ntmps15
      go_wp2_with (go_at_call 40; refine (l1In_b (by assumption) _).mono ?_; rintro e w' ⟨rfl, rfl⟩)
      go_ret
      exact ⟨_, rfl, own_empty w _ (Nat.le_refl _), Later.alloc w _⟩
    · rw [headL_yes h1 h2]
      go_enter Try.func15, Try.ntmps15
      go_wp2_with (go_at_call 40; refine (l1In_b (by assumption) _).mono ?_; rintro e w' ⟨rfl, rfl⟩)
      clear h1 h2
      have S : All (fun w' => Below w.heap.size w w') (w.alloc (.cells #[] 5)) := ⟨Later.alloc w _⟩
      have o0 := own_empty w w.heap.size (Nat.le_refl _)
      generalize w.alloc (.cells #[] 5) = W1 at S o0 ⊢
      refine (putWordS_any (some ⟨w.heap.size, 0, none⟩) 0 g [] W1 (Owns.reads o0) (by simp)).mono ?_
      rintro e W2 ⟨v2, rfl, o2, hb⟩
      replace S := S.later hb
      obtain ⟨A2, c2, rfl, _, _, r2, _⟩ := o2.shape
      clear hb o2 o0
      go_wp2_with fail
      refine (putWordS_any A2 c2 n _ W2 r2 (by simp [wordBytes])).mono ?_
      rintro e W3 ⟨v3, rfl, o3, hb⟩
      replace S := S.later hb
      obtain ⟨A3, c3, rfl, _, _, r3, _⟩ := o3.shape
      have L3 := Lib.hid (show ([] ++ wordBytes g ++ wordBytes n).length = 4 by simp [wordBytes])
      obtain ⟨l3, hl3⟩ : ∃ l3, [] ++ wordBytes g ++ wordBytes n = l3 := ⟨_, rfl⟩
      rw [hl3] at r3 L3 ⊢
      have HL3 := Lib.hid hl3
      clear hl3
      clear hb o3 r2
      go_wp2_with fail
      refine (sumS_any A3 c3 l3 W3 r3 (by have := L3.out; omega)).mono ?_
      rintro e W4 ⟨rfl, rfl⟩
      go_wp2_with fail
      refine (putWordS_any A3 c3 (crc l3) l3 W3 r3 (by have := L3.out; omega)).mono ?_
      rintro e W5 ⟨v5, rfl, o5, hb⟩
      go_wp2_with fail
      go_ret
      exact ⟨_, rfl, by unfold withSum headBody; rw [HL3.out]; exact ownsRow_mono o5 S.out.size, Later.trans S.out hb⟩

set_option maxHeartbeats 1000000 in
theorem getHeadS_any (A : Option Addr) (c : Nat) (l : List UInt8) (w : World) (h : Reads w w.heap.size 1 A l.length (bys l)) (hn : l.length ≤ 100000000) : Calls Try.prog 12 #[.slice A l.length c] w (RetHead w (getHeadP l)) := by
  obtain ⟨p, hp⟩ : ∃ p, getHeadP l = p := ⟨_, rfl⟩
  rw [hp]
  have HP := Lib.hid hp
  clear hp
  unfold RetHead
  go_enter Try.func12, Try.ntmps12
  go_wp2_with fail
  refine (getWordS_any A c 0 l w h hn).mono ?_
  rintro e W1 ⟨rfl, n1, rfl⟩
  go_wp2_with fail
  refine (getWordS_any A c 2 l _ (h.drewN n1) hn).mono ?_
  rintro e W2 ⟨rfl, n2, rfl⟩
  have R2 := (h.drewN n1).drewN n2
  have B2 := belowD (belowD (Below.refl w.heap.size w) n1) n2
  generalize (w.drewN n1).drewN n2 = W2 at R2 B2 ⊢
  by_cases hl : l.length = 6
  · have hok : gwOk l 2 = true := by unfold gwOk; rw [hl]; rfl
    have h6 : ((l.length : Int) != 6) = false := by rw [hl]; rfl
    have HL6 := Lib.hid hl
    rw [hok]
    clear hl hok
    go_wp2_with fail
    refine (headOfS_any (gwVal l 0) (gwVal l 2) W2).mono ?_
    rintro e W3 ⟨v3, rfl, o3, hb⟩
    obtain ⟨A3, c3, rfl, _, _, r3, _⟩ := o3.shape
    replace R2 := (R2.below (hb.mono (Nat.le_refl _) |>.mono B2.size)).more (Nat.le_trans B2.size hb.size)
    replace B2 := Later.trans B2 hb
    have HE := Lib.hid (show (headL (gwVal l 0) (gwVal l 2) == l) = true ↔ headL (gwVal l 0) (gwVal l 2) = l by simp)
    clear hb o3
    go_wp2_with fail
    refine (l1Same_any A3 A c3 c _ _ _ l W3 r3 R2).mono ?_
    obtain ⟨y, hy⟩ : ∃ y, (headL (gwVal l 0) (gwVal l 2) == l) = y := ⟨_, rfl⟩
    rw [hy]
    have HY := Lib.hid hy
    clear hy
    rintro e W4 ⟨rfl, rfl⟩
    cases y
    · have hq := getHeadP_no (l := l) (fun h9 => by have h8 := HE.out.2 h9.2; rw [HY.out] at h8; cases h8)
      rw [HP.out] at hq
      subst hq
      go_wp2_with fail
      go_ret3
      exact ⟨rfl, B2⟩
    · have hq := getHeadP_yes HL6.out (HE.out.1 HY.out)
      rw [HP.out] at hq
      subst hq
      go_wp2_with fail
      go_ret3
      exact ⟨rfl, B2⟩
  · have hq := getHeadP_no (l := l) (fun h9 => hl h9.1)
    rw [HP.out] at hq
    subst hq
    have h6 : ((l.length : Int) != 6) = true := by simp; omega
    clear hl
    obtain ⟨ok, hok⟩ : ∃ ok, gwOk l 2 = ok := ⟨_, rfl⟩
    rw [hok]
    cases ok
    · go_wp2_with fail
      go_ret3
      exact ⟨rfl, B2⟩
    · go_wp2_with fail
      go_ret3
      exact ⟨rfl, B2⟩

end Go.Proofs.Ytoaaogacaibedaa
