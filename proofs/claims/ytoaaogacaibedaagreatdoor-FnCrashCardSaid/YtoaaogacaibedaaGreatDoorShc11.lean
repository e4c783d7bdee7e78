/- What the theorem needs, out of many texts. -/
import Derived.Test.YtoaaogacaibedaaGreatDoorShc8
namespace Go.Proofs.YtoaaogacaibedaaGreatDoor
open Go.RowKit
set_option maxRecDepth 100000
set_option linter.unusedVariables false
def txtOr (z : Bool) (n t : Bool) : Bool := if z then n else t
noncomputable def knownB (k : Known) : Bool :=
 inI k.gen 0 60000 && (inI k.pGen 0 60000 && (inI k.epoch 0 60000 && (inI k.owner 0 1 && (!((k.epoch == 0) && !(k.owner == 0)) && (txtOr (k.gen == 0) (nilB k.text) (txtB k.text) && (txtOr (k.pGen == 0) (nilB k.pText) (txtB k.pText) && ((k.pGen == 0) || decide (k.gen < k.pGen))))))))
theorem zero_no {x : Int} (h : (x == 0) = false) : (x != 0) = true := by simp at h ⊢; exact h
theorem zero_yes {x : Int} (h : (x == 0) = true) : (x != 0) = false := by simp at h ⊢; exact h
theorem pos_of {x : Int} (h : inI x 0 60000 = true) (h2 : (x == 0) = false) : 0 < x := by have := of_decide_eq_true h; simp at h2; omega
set_option maxHeartbeats 8000000 in
theorem knownOkS_any (k : Known) (w : World) :
  Calls Tryz.prog 90 #[.agg (knownC k).toArray] w (RetBool w (knownB k)) := by
 obtain ⟨b0, h0⟩ : ∃ b, inI k.gen 0 60000 = b := ⟨_, rfl⟩
 obtain ⟨b1, h1⟩ : ∃ b, inI k.pGen 0 60000 = b := ⟨_, rfl⟩
 obtain ⟨b2, h2⟩ : ∃ b, inI k.epoch 0 60000 = b := ⟨_, rfl⟩
 obtain ⟨b3, h3⟩ : ∃ b, inI k.owner 0 1 = b := ⟨_, rfl⟩
 obtain ⟨ez, h4⟩ : ∃ b, (k.epoch == 0) = b := ⟨_, rfl⟩
 obtain ⟨oz, h5⟩ : ∃ b, (k.owner == 0) = b := ⟨_, rfl⟩
 obtain ⟨gz, h6⟩ : ∃ b, (k.gen == 0) = b := ⟨_, rfl⟩
 obtain ⟨pz, h7⟩ : ∃ b, (k.pGen == 0) = b := ⟨_, rfl⟩
 obtain ⟨pg, h8⟩ : ∃ b, decide (k.gen < k.pGen) = b := ⟨_, rfl⟩
 obtain ⟨n1, hn1⟩ : ∃ b, nilB k.text = b := ⟨_, rfl⟩
 obtain ⟨n2, hn2⟩ : ∃ b, nilB k.pText = b := ⟨_, rfl⟩
 obtain ⟨t1, ht1⟩ : ∃ b, txtB k.text = b := ⟨_, rfl⟩
 obtain ⟨t2, ht2⟩ : ∃ b, txtB k.pText = b := ⟨_, rfl⟩
 have HC := Lib.hid (show knownB k = (b0 && (b1 && (b2 && (b3 && (!(ez && !oz) && (txtOr gz n1 t1 && (txtOr pz n2 t2 && (pz || pg)))))))) by
  unfold knownB; rw [h0, h1, h2, h3, h4, h5, h6, h7, h8, hn1, hn2, ht1, ht2])
 have HN1 := Lib.hid hn1
 have HN2 := Lib.hid hn2
 have HT1 := Lib.hid ht1
 have HT2 := Lib.hid ht2
 clear hn1 hn2 ht1 ht2
 unfold knownC RetBool
 cases b0
 ·go_enter Tryz.func90, Tryz.ntmps90
  go_wp2_with (go_at_call 67; refine (l1In_b (by assumption) _).mono ?_; rintro e w' ⟨rfl, rfl⟩)
  go_ret
  exact ⟨by rw [HC.out]; simp [txtOr], (Below.refl _ _).alloc (Nat.le_refl _) _⟩
 ·cases b1
  ·go_enter Tryz.func90, Tryz.ntmps90
   go_wp2_with (go_at_call 67; refine (l1In_b (by assumption) _).mono ?_; rintro e w' ⟨rfl, rfl⟩)
   go_ret
   exact ⟨by rw [HC.out]; simp [txtOr], (Below.refl _ _).alloc (Nat.le_refl _) _⟩
  ·cases b2
   ·go_enter Tryz.func90, Tryz.ntmps90
    go_wp2_with (go_at_call 67; refine (l1In_b (by assumption) _).mono ?_; rintro e w' ⟨rfl, rfl⟩)
    go_ret
    exact ⟨by rw [HC.out]; simp [txtOr], (Below.refl _ _).alloc (Nat.le_refl _) _⟩
   ·cases b3
    ·go_enter Tryz.func90, Tryz.ntmps90
     go_wp2_with (go_at_call 67; refine (l1In_b (by assumption) _).mono ?_; rintro e w' ⟨rfl, rfl⟩)
     go_ret
     exact ⟨by rw [HC.out]; simp [txtOr], (Below.refl _ _).alloc (Nat.le_refl _) _⟩
    ·cases ez
     ·cases gz
      ·have q6 := zero_no h6
       have q6p := pos_of h0 h6
       cases t1
       ·go_enter Tryz.func90, Tryz.ntmps90
        go_wp2_with (go_at_call 67; refine (l1In_b (by assumption) _).mono ?_; rintro e w' ⟨rfl, rfl⟩)
        refine (l4Text_any _ _).mono ?_
        rw [HT1.out]
        rintro e w2 ⟨rfl, hb2⟩
        obtain ⟨hc, hf⟩ := bcell hb2
        have hz : w.heap.size < w2.heap.size := by have := hb2.size; simp at this; omega
        replace hb2 : Below w.heap.size w w2 := ((Below.refl _ _).alloc (Nat.le_refl _) _).trans (hb2.mono (by simp))
        go_wp2_with fail
        go_ret
        exact ⟨by rw [HC.out]; simp [txtOr], hb2⟩
       ·cases pz
        ·have q7 := zero_no h7
         have q7p := pos_of h1 h7
         cases pg
         ·have q8 : ¬ k.gen < k.pGen := of_decide_eq_false h8
          go_enter Tryz.func90, Tryz.ntmps90
          go_wp2_with (go_at_call 67; refine (l1In_b (by assumption) _).mono ?_; rintro e w' ⟨rfl, rfl⟩)
          refine (l4Text_any _ _).mono ?_
          rw [HT1.out]
          rintro e w2 ⟨rfl, hb2⟩
          obtain ⟨hc, hf⟩ := bcell hb2
          have hz : w.heap.size < w2.heap.size := by have := hb2.size; simp at this; omega
          replace hb2 : Below w.heap.size w w2 := ((Below.refl _ _).alloc (Nat.le_refl _) _).trans (hb2.mono (by simp))
          go_wp2_with fail
          go_ret
          exact ⟨by rw [HC.out]; simp [txtOr], hb2⟩
         ·have q8 : k.gen < k.pGen := of_decide_eq_true h8
          go_enter Tryz.func90, Tryz.ntmps90
          go_wp2_with (go_at_call 67; refine (l1In_b (by assumption) _).mono ?_; rintro e w' ⟨rfl, rfl⟩)
          refine (l4Text_any _ _).mono ?_
          rw [HT1.out]
          rintro e w2 ⟨rfl, hb2⟩
          obtain ⟨hc, hf⟩ := bcell hb2
          have hz : w.heap.size < w2.heap.size := by have := hb2.size; simp at this; omega
          replace hb2 : Below w.heap.size w w2 := ((Below.refl _ _).alloc (Nat.le_refl _) _).trans (hb2.mono (by simp))
          go_wp2_with fail
          refine (l4Text_any _ _).mono ?_
          rw [HT2.out]
          rintro e w3 ⟨rfl, hb3⟩
          obtain ⟨hc3, hf3⟩ := bcell hb3
          replace hb3 : Below w.heap.size w w3 := Later.trans hb2 hb3
          go_wp2_with fail
          go_ret
          exact ⟨by rw [HC.out]; simp [txtOr], hb3⟩
        ·have q7 := zero_yes h7
         cases n2
         ·obtain ⟨e3, e4⟩ := nil_no HN2.out
          go_enter Tryz.func90, Tryz.ntmps90
          go_wp2_with (go_at_call 67; refine (l1In_b (by assumption) _).mono ?_; rintro e w' ⟨rfl, rfl⟩)
          refine (l4Text_any _ _).mono ?_
          rw [HT1.out]
          rintro e w2 ⟨rfl, hb2⟩
          obtain ⟨hc, hf⟩ := bcell hb2
          have hz : w.heap.size < w2.heap.size := by have := hb2.size; simp at this; omega
          replace hb2 : Below w.heap.size w w2 := ((Below.refl _ _).alloc (Nat.le_refl _) _).trans (hb2.mono (by simp))
          go_wp2_with fail
          go_ret
          exact ⟨by rw [HC.out]; simp [txtOr], hb2⟩
         ·have HX := nil_yes HN2.out
          rw [HX]
          clear HX
          go_enter Tryz.func90, Tryz.ntmps90
          go_wp2_with (go_at_call 67; refine (l1In_b (by assumption) _).mono ?_; rintro e w' ⟨rfl, rfl⟩)
          refine (l4Text_any _ _).mono ?_
          rw [HT1.out]
          rintro e w2 ⟨rfl, hb2⟩
          obtain ⟨hc, hf⟩ := bcell hb2
          have hz : w.heap.size < w2.heap.size := by have := hb2.size; simp at this; omega
          replace hb2 : Below w.heap.size w w2 := ((Below.refl _ _).alloc (Nat.le_refl _) _).trans (hb2.mono (by simp))
          go_wp2_with fail
          go_ret
          exact ⟨by rw [HC.out]; simp [txtOr], hb2⟩
      ·have q6 := zero_yes h6
       cases n1
       ·obtain ⟨e1, e2⟩ := nil_no HN1.out
        go_enter Tryz.func90, Tryz.ntmps90
        go_wp2_with (go_at_call 67; refine (l1In_b (by assumption) _).mono ?_; rintro e w' ⟨rfl, rfl⟩)
        go_ret
        exact ⟨by rw [HC.out]; simp [txtOr], (Below.refl _ _).alloc (Nat.le_refl _) _⟩
       ·have HX := nil_yes HN1.out
        rw [HX]
        clear HX
        have q6p : ¬ 0 < k.gen := by simp at h6; omega
        cases pz
        ·have q7 := zero_no h7
         have q7p := pos_of h1 h7
         cases pg
         ·have q8 : ¬ k.gen < k.pGen := of_decide_eq_false h8
          exact absurd q7p (by simp at h6; omega)
         ·have q8 : k.gen < k.pGen := of_decide_eq_true h8
          go_enter Tryz.func90, Tryz.ntmps90
          go_wp2_with (go_at_call 67; refine (l1In_b (by assumption) _).mono ?_; rintro e w' ⟨rfl, rfl⟩)
          refine (l4Text_any _ _).mono ?_
          rw [HT2.out]
          rintro e w2 ⟨rfl, hb2⟩
          obtain ⟨hc, hf⟩ := bcell hb2
          have hz : w.heap.size < w2.heap.size := by have := hb2.size; simp at this; omega
          replace hb2 : Below w.heap.size w w2 := ((Below.refl _ _).alloc (Nat.le_refl _) _).trans (hb2.mono (by simp))
          go_wp2_with fail
          go_ret
          exact ⟨by rw [HC.out]; simp [txtOr], hb2⟩
        ·have q7 := zero_yes h7
         cases n2
         ·obtain ⟨e3, e4⟩ := nil_no HN2.out
          go_enter Tryz.func90, Tryz.ntmps90
          go_wp2_with (go_at_call 67; refine (l1In_b (by assumption) _).mono ?_; rintro e w' ⟨rfl, rfl⟩)
          go_ret
          exact ⟨by rw [HC.out]; simp [txtOr], (Below.refl _ _).alloc (Nat.le_refl _) _⟩
         ·have HX := nil_yes HN2.out
          rw [HX]
          clear HX
          go_enter Tryz.func90, Tryz.ntmps90
          go_wp2_with (go_at_call 67; refine (l1In_b (by assumption) _).mono ?_; rintro e w' ⟨rfl, rfl⟩)
          go_ret
          exact ⟨by rw [HC.out]; simp [txtOr], (Below.refl _ _).alloc (Nat.le_refl _) _⟩
     ·cases oz
      ·have q5 := zero_no h5
       go_enter Tryz.func90, Tryz.ntmps90
       go_wp2_with (go_at_call 67; refine (l1In_b (by assumption) _).mono ?_; rintro e w' ⟨rfl, rfl⟩)
       go_ret
       exact ⟨by rw [HC.out]; simp [txtOr], (Below.refl _ _).alloc (Nat.le_refl _) _⟩
      ·have q5 := zero_yes h5
       cases gz
       ·have q6 := zero_no h6
        have q6p := pos_of h0 h6
        cases t1
        ·go_enter Tryz.func90, Tryz.ntmps90
         go_wp2_with (go_at_call 67; refine (l1In_b (by assumption) _).mono ?_; rintro e w' ⟨rfl, rfl⟩)
         refine (l4Text_any _ _).mono ?_
         rw [HT1.out]
         rintro e w2 ⟨rfl, hb2⟩
         obtain ⟨hc, hf⟩ := bcell hb2
         have hz : w.heap.size < w2.heap.size := by have := hb2.size; simp at this; omega
         replace hb2 : Below w.heap.size w w2 := ((Below.refl _ _).alloc (Nat.le_refl _) _).trans (hb2.mono (by simp))
         go_wp2_with fail
         go_ret
         exact ⟨by rw [HC.out]; simp [txtOr], hb2⟩
        ·cases pz
         ·have q7 := zero_no h7
          have q7p := pos_of h1 h7
          cases pg
          ·have q8 : ¬ k.gen < k.pGen := of_decide_eq_false h8
           go_enter Tryz.func90, Tryz.ntmps90
           go_wp2_with (go_at_call 67; refine (l1In_b (by assumption) _).mono ?_; rintro e w' ⟨rfl, rfl⟩)
           refine (l4Text_any _ _).mono ?_
           rw [HT1.out]
           rintro e w2 ⟨rfl, hb2⟩
           obtain ⟨hc, hf⟩ := bcell hb2
           have hz : w.heap.size < w2.heap.size := by have := hb2.size; simp at this; omega
           replace hb2 : Below w.heap.size w w2 := ((Below.refl _ _).alloc (Nat.le_refl _) _).trans (hb2.mono (by simp))
           go_wp2_with fail
           go_ret
           exact ⟨by rw [HC.out]; simp [txtOr], hb2⟩
          ·have q8 : k.gen < k.pGen := of_decide_eq_true h8
           go_enter Tryz.func90, Tryz.ntmps90
           go_wp2_with (go_at_call 67; refine (l1In_b (by assumption) _).mono ?_; rintro e w' ⟨rfl, rfl⟩)
           refine (l4Text_any _ _).mono ?_
           rw [HT1.out]
           rintro e w2 ⟨rfl, hb2⟩
           obtain ⟨hc, hf⟩ := bcell hb2
           have hz : w.heap.size < w2.heap.size := by have := hb2.size; simp at this; omega
           replace hb2 : Below w.heap.size w w2 := ((Below.refl _ _).alloc (Nat.le_refl _) _).trans (hb2.mono (by simp))
           go_wp2_with fail
           refine (l4Text_any _ _).mono ?_
           rw [HT2.out]
           rintro e w3 ⟨rfl, hb3⟩
           obtain ⟨hc3, hf3⟩ := bcell hb3
           replace hb3 : Below w.heap.size w w3 := Later.trans hb2 hb3
           go_wp2_with fail
           go_ret
           exact ⟨by rw [HC.out]; simp [txtOr], hb3⟩
         ·have q7 := zero_yes h7
          cases n2
          ·obtain ⟨e3, e4⟩ := nil_no HN2.out
           go_enter Tryz.func90, Tryz.ntmps90
           go_wp2_with (go_at_call 67; refine (l1In_b (by assumption) _).mono ?_; rintro e w' ⟨rfl, rfl⟩)
           refine (l4Text_any _ _).mono ?_
           rw [HT1.out]
           rintro e w2 ⟨rfl, hb2⟩
           obtain ⟨hc, hf⟩ := bcell hb2
           have hz : w.heap.size < w2.heap.size := by have := hb2.size; simp at this; omega
           replace hb2 : Below w.heap.size w w2 := ((Below.refl _ _).alloc (Nat.le_refl _) _).trans (hb2.mono (by simp))
           go_wp2_with fail
           go_ret
           exact ⟨by rw [HC.out]; simp [txtOr], hb2⟩
          ·have HX := nil_yes HN2.out
           rw [HX]
           clear HX
           go_enter Tryz.func90, Tryz.ntmps90
           go_wp2_with (go_at_call 67; refine (l1In_b (by assumption) _).mono ?_; rintro e w' ⟨rfl, rfl⟩)
           refine (l4Text_any _ _).mono ?_
           rw [HT1.out]
           rintro e w2 ⟨rfl, hb2⟩
           obtain ⟨hc, hf⟩ := bcell hb2
           have hz : w.heap.size < w2.heap.size := by have := hb2.size; simp at this; omega
           replace hb2 : Below w.heap.size w w2 := ((Below.refl _ _).alloc (Nat.le_refl _) _).trans (hb2.mono (by simp))
           go_wp2_with fail
           go_ret
           exact ⟨by rw [HC.out]; simp [txtOr], hb2⟩
       ·have q6 := zero_yes h6
        cases n1
        ·obtain ⟨e1, e2⟩ := nil_no HN1.out
         go_enter Tryz.func90, Tryz.ntmps90
         go_wp2_with (go_at_call 67; refine (l1In_b (by assumption) _).mono ?_; rintro e w' ⟨rfl, rfl⟩)
         go_ret
         exact ⟨by rw [HC.out]; simp [txtOr], (Below.refl _ _).alloc (Nat.le_refl _) _⟩
        ·have HX := nil_yes HN1.out
         rw [HX]
         clear HX
         have q6p : ¬ 0 < k.gen := by simp at h6; omega
         cases pz
         ·have q7 := zero_no h7
          have q7p := pos_of h1 h7
          cases pg
          ·have q8 : ¬ k.gen < k.pGen := of_decide_eq_false h8
           exact absurd q7p (by simp at h6; omega)
          ·have q8 : k.gen < k.pGen := of_decide_eq_true h8
           go_enter Tryz.func90, Tryz.ntmps90
           go_wp2_with (go_at_call 67; refine (l1In_b (by assumption) _).mono ?_; rintro e w' ⟨rfl, rfl⟩)
           refine (l4Text_any _ _).mono ?_
           rw [HT2.out]
           rintro e w2 ⟨rfl, hb2⟩
           obtain ⟨hc, hf⟩ := bcell hb2
           have hz : w.heap.size < w2.heap.size := by have := hb2.size; simp at this; omega
           replace hb2 : Below w.heap.size w w2 := ((Below.refl _ _).alloc (Nat.le_refl _) _).trans (hb2.mono (by simp))
           go_wp2_with fail
           go_ret
           exact ⟨by rw [HC.out]; simp [txtOr], hb2⟩
         ·have q7 := zero_yes h7
          cases n2
          ·obtain ⟨e3, e4⟩ := nil_no HN2.out
           go_enter Tryz.func90, Tryz.ntmps90
           go_wp2_with (go_at_call 67; refine (l1In_b (by assumption) _).mono ?_; rintro e w' ⟨rfl, rfl⟩)
           go_ret
           exact ⟨by rw [HC.out]; simp [txtOr], (Below.refl _ _).alloc (Nat.le_refl _) _⟩
          ·have HX := nil_yes HN2.out
           rw [HX]
           clear HX
           go_enter Tryz.func90, Tryz.ntmps90
           go_wp2_with (go_at_call 67; refine (l1In_b (by assumption) _).mono ?_; rintro e w' ⟨rfl, rfl⟩)
           go_ret
           exact ⟨by rw [HC.out]; simp [txtOr], (Below.refl _ _).alloc (Nat.le_refl _) _⟩
set_option maxHeartbeats 8000000 in
theorem knownOkI_any (k : Known) (w : World) (hg : Given w) (hs1 : k.text.size ≤ 1048576) (hs2 : k.pText.size ≤ 1048576) :
  Calls Tryz.prog 59 #[.agg (knownC k).toArray] w (RetBool w (knownB k)) := by
 have HG := Lib.hid hg
 clear hg
 obtain ⟨b0, h0⟩ : ∃ b, inI k.gen 0 60000 = b := ⟨_, rfl⟩
 obtain ⟨b1, h1⟩ : ∃ b, inI k.pGen 0 60000 = b := ⟨_, rfl⟩
 obtain ⟨b2, h2⟩ : ∃ b, inI k.epoch 0 60000 = b := ⟨_, rfl⟩
 obtain ⟨b3, h3⟩ : ∃ b, inI k.owner 0 1 = b := ⟨_, rfl⟩
 obtain ⟨ez, h4⟩ : ∃ b, (k.epoch == 0) = b := ⟨_, rfl⟩
 obtain ⟨oz, h5⟩ : ∃ b, (k.owner == 0) = b := ⟨_, rfl⟩
 obtain ⟨gz, h6⟩ : ∃ b, (k.gen == 0) = b := ⟨_, rfl⟩
 obtain ⟨pz, h7⟩ : ∃ b, (k.pGen == 0) = b := ⟨_, rfl⟩
 obtain ⟨pg, h8⟩ : ∃ b, decide (k.gen < k.pGen) = b := ⟨_, rfl⟩
 obtain ⟨n1, hn1⟩ : ∃ b, nilB k.text = b := ⟨_, rfl⟩
 obtain ⟨n2, hn2⟩ : ∃ b, nilB k.pText = b := ⟨_, rfl⟩
 obtain ⟨t1, ht1⟩ : ∃ b, txtB k.text = b := ⟨_, rfl⟩
 obtain ⟨t2, ht2⟩ : ∃ b, txtB k.pText = b := ⟨_, rfl⟩
 have HC := Lib.hid (show knownB k = (b0 && (b1 && (b2 && (b3 && (!(ez && !oz) && (txtOr gz n1 t1 && (txtOr pz n2 t2 && (pz || pg)))))))) by
  unfold knownB; rw [h0, h1, h2, h3, h4, h5, h6, h7, h8, hn1, hn2, ht1, ht2])
 have HN1 := Lib.hid hn1
 have HN2 := Lib.hid hn2
 have HT1 := Lib.hid ht1
 have HT2 := Lib.hid ht2
 clear hn1 hn2 ht1 ht2
 unfold knownC RetBool
 cases b0
 ·go_enter Tryz.func59, Tryz.ntmps59
  go_wp2_with (go_at_call 71; refine (within_b (by assumption) _).mono ?_; rintro e w' ⟨rfl, rfl⟩)
  go_ret
  exact ⟨by rw [HC.out]; simp [txtOr], (Below.refl _ _).alloc (Nat.le_refl _) _⟩
 ·cases b1
  ·go_enter Tryz.func59, Tryz.ntmps59
   go_wp2_with (go_at_call 71; refine (within_b (by assumption) _).mono ?_; rintro e w' ⟨rfl, rfl⟩)
   go_ret
   exact ⟨by rw [HC.out]; simp [txtOr], (Below.refl _ _).alloc (Nat.le_refl _) _⟩
  ·cases b2
   ·go_enter Tryz.func59, Tryz.ntmps59
    go_wp2_with (go_at_call 71; refine (within_b (by assumption) _).mono ?_; rintro e w' ⟨rfl, rfl⟩)
    go_ret
    exact ⟨by rw [HC.out]; simp [txtOr], (Below.refl _ _).alloc (Nat.le_refl _) _⟩
   ·cases b3
    ·go_enter Tryz.func59, Tryz.ntmps59
     go_wp2_with (go_at_call 71; refine (within_b (by assumption) _).mono ?_; rintro e w' ⟨rfl, rfl⟩)
     go_ret
     exact ⟨by rw [HC.out]; simp [txtOr], (Below.refl _ _).alloc (Nat.le_refl _) _⟩
    ·cases ez
     ·cases gz
      ·have q6 := zero_no h6
       have q6p := pos_of h0 h6
       cases t1
       ·go_enter Tryz.func59, Tryz.ntmps59
        go_wp2_with (go_at_call 71; refine (within_b (by assumption) _).mono ?_; rintro e w' ⟨rfl, rfl⟩)
        refine (txtI_any _ _ (Keeps.keeps (F := Given) (Later.alloc w _) HG.out) hs1 HT1.out).mono ?_
        rintro e w2 ⟨rfl, hb2⟩
        obtain ⟨hc, hf⟩ := bcell hb2
        have hz : w.heap.size < w2.heap.size := by have := hb2.size; simp at this; omega
        replace hb2 : Below w.heap.size w w2 := ((Below.refl _ _).alloc (Nat.le_refl _) _).trans (hb2.mono (by simp))
        have HG2 := Lib.hid (Keeps.keeps (F := Given) hb2 HG.out)
        go_wp2_with fail
        go_ret
        exact ⟨by rw [HC.out]; simp [txtOr], hb2⟩
       ·cases pz
        ·have q7 := zero_no h7
         have q7p := pos_of h1 h7
         cases t2
         ·go_enter Tryz.func59, Tryz.ntmps59
          go_wp2_with (go_at_call 71; refine (within_b (by assumption) _).mono ?_; rintro e w' ⟨rfl, rfl⟩)
          refine (txtI_any _ _ (Keeps.keeps (F := Given) (Later.alloc w _) HG.out) hs1 HT1.out).mono ?_
          rintro e w2 ⟨rfl, hb2⟩
          obtain ⟨hc, hf⟩ := bcell hb2
          have hz : w.heap.size < w2.heap.size := by have := hb2.size; simp at this; omega
          replace hb2 : Below w.heap.size w w2 := ((Below.refl _ _).alloc (Nat.le_refl _) _).trans (hb2.mono (by simp))
          have HG2 := Lib.hid (Keeps.keeps (F := Given) hb2 HG.out)
          go_wp2_with fail
          refine (txtI_any _ _ HG2.out hs2 HT2.out).mono ?_
          rintro e w3 ⟨rfl, hb3⟩
          obtain ⟨hc3, hf3⟩ := bcell hb3
          replace hb3 : Below w.heap.size w w3 := Later.trans hb2 hb3
          go_wp2_with fail
          go_ret
          exact ⟨by rw [HC.out]; simp [txtOr], hb3⟩
         ·cases pg
          ·have q8 : ¬ k.gen < k.pGen := of_decide_eq_false h8
           go_enter Tryz.func59, Tryz.ntmps59
           go_wp2_with (go_at_call 71; refine (within_b (by assumption) _).mono ?_; rintro e w' ⟨rfl, rfl⟩)
           refine (txtI_any _ _ (Keeps.keeps (F := Given) (Later.alloc w _) HG.out) hs1 HT1.out).mono ?_
           rintro e w2 ⟨rfl, hb2⟩
           obtain ⟨hc, hf⟩ := bcell hb2
           have hz : w.heap.size < w2.heap.size := by have := hb2.size; simp at this; omega
           replace hb2 : Below w.heap.size w w2 := ((Below.refl _ _).alloc (Nat.le_refl _) _).trans (hb2.mono (by simp))
           have HG2 := Lib.hid (Keeps.keeps (F := Given) hb2 HG.out)
           go_wp2_with fail
           refine (txtI_any _ _ HG2.out hs2 HT2.out).mono ?_
           rintro e w3 ⟨rfl, hb3⟩
           obtain ⟨hc3, hf3⟩ := bcell hb3
           replace hb3 : Below w.heap.size w w3 := Later.trans hb2 hb3
           go_wp2_with fail
           go_ret
           exact ⟨by rw [HC.out]; simp [txtOr], hb3⟩
          ·have q8 : k.gen < k.pGen := of_decide_eq_true h8
           go_enter Tryz.func59, Tryz.ntmps59
           go_wp2_with (go_at_call 71; refine (within_b (by assumption) _).mono ?_; rintro e w' ⟨rfl, rfl⟩)
           refine (txtI_any _ _ (Keeps.keeps (F := Given) (Later.alloc w _) HG.out) hs1 HT1.out).mono ?_
           rintro e w2 ⟨rfl, hb2⟩
           obtain ⟨hc, hf⟩ := bcell hb2
           have hz : w.heap.size < w2.heap.size := by have := hb2.size; simp at this; omega
           replace hb2 : Below w.heap.size w w2 := ((Below.refl _ _).alloc (Nat.le_refl _) _).trans (hb2.mono (by simp))
           have HG2 := Lib.hid (Keeps.keeps (F := Given) hb2 HG.out)
           go_wp2_with fail
           refine (txtI_any _ _ HG2.out hs2 HT2.out).mono ?_
           rintro e w3 ⟨rfl, hb3⟩
           obtain ⟨hc3, hf3⟩ := bcell hb3
           replace hb3 : Below w.heap.size w w3 := Later.trans hb2 hb3
           go_wp2_with fail
           go_ret
           exact ⟨by rw [HC.out]; simp [txtOr], hb3⟩
        ·have q7 := zero_yes h7
         cases n2
         ·go_enter Tryz.func59, Tryz.ntmps59
          go_wp2_with (go_at_call 71; refine (within_b (by assumption) _).mono ?_; rintro e w' ⟨rfl, rfl⟩)
          refine (txtI_any _ _ (Keeps.keeps (F := Given) (Later.alloc w _) HG.out) hs1 HT1.out).mono ?_
          rintro e w2 ⟨rfl, hb2⟩
          obtain ⟨hc, hf⟩ := bcell hb2
          have hz : w.heap.size < w2.heap.size := by have := hb2.size; simp at this; omega
          replace hb2 : Below w.heap.size w w2 := ((Below.refl _ _).alloc (Nat.le_refl _) _).trans (hb2.mono (by simp))
          have HG2 := Lib.hid (Keeps.keeps (F := Given) hb2 HG.out)
          go_wp2_with fail
          refine (noneI_any _ _ HN2.out).mono ?_
          rintro e w3 ⟨rfl, hb3⟩
          obtain ⟨hc3, hf3⟩ := bcell hb3
          replace hb3 : Below w.heap.size w w3 := Later.trans hb2 hb3
          go_wp2_with fail
          go_ret
          exact ⟨by rw [HC.out]; simp [txtOr], hb3⟩
         ·go_enter Tryz.func59, Tryz.ntmps59
          go_wp2_with (go_at_call 71; refine (within_b (by assumption) _).mono ?_; rintro e w' ⟨rfl, rfl⟩)
          refine (txtI_any _ _ (Keeps.keeps (F := Given) (Later.alloc w _) HG.out) hs1 HT1.out).mono ?_
          rintro e w2 ⟨rfl, hb2⟩
          obtain ⟨hc, hf⟩ := bcell hb2
          have hz : w.heap.size < w2.heap.size := by have := hb2.size; simp at this; omega
          replace hb2 : Below w.heap.size w w2 := ((Below.refl _ _).alloc (Nat.le_refl _) _).trans (hb2.mono (by simp))
          have HG2 := Lib.hid (Keeps.keeps (F := Given) hb2 HG.out)
          go_wp2_with fail
          refine (noneI_any _ _ HN2.out).mono ?_
          rintro e w3 ⟨rfl, hb3⟩
          obtain ⟨hc3, hf3⟩ := bcell hb3
          replace hb3 : Below w.heap.size w w3 := Later.trans hb2 hb3
          go_wp2_with fail
          go_ret
          exact ⟨by rw [HC.out]; simp [txtOr], hb3⟩
      ·have q6 := zero_yes h6
       cases n1
       ·obtain ⟨e1, e2⟩ := nil_no HN1.out
        go_enter Tryz.func59, Tryz.ntmps59
        go_wp2_with (go_at_call 71; refine (within_b (by assumption) _).mono ?_; rintro e w' ⟨rfl, rfl⟩)
        refine (noneI_any _ _ HN1.out).mono ?_
        rintro e w2 ⟨rfl, hb2⟩
        obtain ⟨hc, hf⟩ := bcell hb2
        have hz : w.heap.size < w2.heap.size := by have := hb2.size; simp at this; omega
        replace hb2 : Below w.heap.size w w2 := ((Below.refl _ _).alloc (Nat.le_refl _) _).trans (hb2.mono (by simp))
        have HG2 := Lib.hid (Keeps.keeps (F := Given) hb2 HG.out)
        go_wp2_with fail
        go_ret
        exact ⟨by rw [HC.out]; simp [txtOr], hb2⟩
       ·have HX := nil_yes HN1.out
        clear HX
        have q6p : ¬ 0 < k.gen := by simp at h6; omega
        cases pz
        ·have q7 := zero_no h7
         have q7p := pos_of h1 h7
         cases t2
         ·go_enter Tryz.func59, Tryz.ntmps59
          go_wp2_with (go_at_call 71; refine (within_b (by assumption) _).mono ?_; rintro e w' ⟨rfl, rfl⟩)
          refine (noneI_any _ _ HN1.out).mono ?_
          rintro e w2 ⟨rfl, hb2⟩
          obtain ⟨hc, hf⟩ := bcell hb2
          have hz : w.heap.size < w2.heap.size := by have := hb2.size; simp at this; omega
          replace hb2 : Below w.heap.size w w2 := ((Below.refl _ _).alloc (Nat.le_refl _) _).trans (hb2.mono (by simp))
          have HG2 := Lib.hid (Keeps.keeps (F := Given) hb2 HG.out)
          go_wp2_with fail
          refine (txtI_any _ _ HG2.out hs2 HT2.out).mono ?_
          rintro e w3 ⟨rfl, hb3⟩
          obtain ⟨hc3, hf3⟩ := bcell hb3
          replace hb3 : Below w.heap.size w w3 := Later.trans hb2 hb3
          go_wp2_with fail
          go_ret
          exact ⟨by rw [HC.out]; simp [txtOr], hb3⟩
         ·cases pg
          ·have q8 : ¬ k.gen < k.pGen := of_decide_eq_false h8
           exact absurd q7p (by simp at h6; omega)
          ·have q8 : k.gen < k.pGen := of_decide_eq_true h8
           go_enter Tryz.func59, Tryz.ntmps59
           go_wp2_with (go_at_call 71; refine (within_b (by assumption) _).mono ?_; rintro e w' ⟨rfl, rfl⟩)
           refine (noneI_any _ _ HN1.out).mono ?_
           rintro e w2 ⟨rfl, hb2⟩
           obtain ⟨hc, hf⟩ := bcell hb2
           have hz : w.heap.size < w2.heap.size := by have := hb2.size; simp at this; omega
           replace hb2 : Below w.heap.size w w2 := ((Below.refl _ _).alloc (Nat.le_refl _) _).trans (hb2.mono (by simp))
           have HG2 := Lib.hid (Keeps.keeps (F := Given) hb2 HG.out)
           go_wp2_with fail
           refine (txtI_any _ _ HG2.out hs2 HT2.out).mono ?_
           rintro e w3 ⟨rfl, hb3⟩
           obtain ⟨hc3, hf3⟩ := bcell hb3
           replace hb3 : Below w.heap.size w w3 := Later.trans hb2 hb3
           go_wp2_with fail
           go_ret
           exact ⟨by rw [HC.out]; simp [txtOr], hb3⟩
        ·have q7 := zero_yes h7
         cases n2
         ·go_enter Tryz.func59, Tryz.ntmps59
          go_wp2_with (go_at_call 71; refine (within_b (by assumption) _).mono ?_; rintro e w' ⟨rfl, rfl⟩)
          refine (noneI_any _ _ HN1.out).mono ?_
          rintro e w2 ⟨rfl, hb2⟩
          obtain ⟨hc, hf⟩ := bcell hb2
          have hz : w.heap.size < w2.heap.size := by have := hb2.size; simp at this; omega
          replace hb2 : Below w.heap.size w w2 := ((Below.refl _ _).alloc (Nat.le_refl _) _).trans (hb2.mono (by simp))
          have HG2 := Lib.hid (Keeps.keeps (F := Given) hb2 HG.out)
          go_wp2_with fail
          refine (noneI_any _ _ HN2.out).mono ?_
          rintro e w3 ⟨rfl, hb3⟩
          obtain ⟨hc3, hf3⟩ := bcell hb3
          replace hb3 : Below w.heap.size w w3 := Later.trans hb2 hb3
          go_wp2_with fail
          go_ret
          exact ⟨by rw [HC.out]; simp [txtOr], hb3⟩
         ·go_enter Tryz.func59, Tryz.ntmps59
          go_wp2_with (go_at_call 71; refine (within_b (by assumption) _).mono ?_; rintro e w' ⟨rfl, rfl⟩)
          refine (noneI_any _ _ HN1.out).mono ?_
          rintro e w2 ⟨rfl, hb2⟩
          obtain ⟨hc, hf⟩ := bcell hb2
          have hz : w.heap.size < w2.heap.size := by have := hb2.size; simp at this; omega
          replace hb2 : Below w.heap.size w w2 := ((Below.refl _ _).alloc (Nat.le_refl _) _).trans (hb2.mono (by simp))
          have HG2 := Lib.hid (Keeps.keeps (F := Given) hb2 HG.out)
          go_wp2_with fail
          refine (noneI_any _ _ HN2.out).mono ?_
          rintro e w3 ⟨rfl, hb3⟩
          obtain ⟨hc3, hf3⟩ := bcell hb3
          replace hb3 : Below w.heap.size w w3 := Later.trans hb2 hb3
          go_wp2_with fail
          go_ret
          exact ⟨by rw [HC.out]; simp [txtOr], hb3⟩
     ·cases oz
      ·have q5 := zero_no h5
       go_enter Tryz.func59, Tryz.ntmps59
       go_wp2_with (go_at_call 71; refine (within_b (by assumption) _).mono ?_; rintro e w' ⟨rfl, rfl⟩)
       go_ret
       exact ⟨by rw [HC.out]; simp [txtOr], (Below.refl _ _).alloc (Nat.le_refl _) _⟩
      ·have q5 := zero_yes h5
       cases gz
       ·have q6 := zero_no h6
        have q6p := pos_of h0 h6
        cases t1
        ·go_enter Tryz.func59, Tryz.ntmps59
         go_wp2_with (go_at_call 71; refine (within_b (by assumption) _).mono ?_; rintro e w' ⟨rfl, rfl⟩)
         refine (txtI_any _ _ (Keeps.keeps (F := Given) (Later.alloc w _) HG.out) hs1 HT1.out).mono ?_
         rintro e w2 ⟨rfl, hb2⟩
         obtain ⟨hc, hf⟩ := bcell hb2
         have hz : w.heap.size < w2.heap.size := by have := hb2.size; simp at this; omega
         replace hb2 : Below w.heap.size w w2 := ((Below.refl _ _).alloc (Nat.le_refl _) _).trans (hb2.mono (by simp))
         have HG2 := Lib.hid (Keeps.keeps (F := Given) hb2 HG.out)
         go_wp2_with fail
         go_ret
         exact ⟨by rw [HC.out]; simp [txtOr], hb2⟩
        ·cases pz
         ·have q7 := zero_no h7
          have q7p := pos_of h1 h7
          cases t2
          ·go_enter Tryz.func59, Tryz.ntmps59
           go_wp2_with (go_at_call 71; refine (within_b (by assumption) _).mono ?_; rintro e w' ⟨rfl, rfl⟩)
           refine (txtI_any _ _ (Keeps.keeps (F := Given) (Later.alloc w _) HG.out) hs1 HT1.out).mono ?_
           rintro e w2 ⟨rfl, hb2⟩
           obtain ⟨hc, hf⟩ := bcell hb2
           have hz : w.heap.size < w2.heap.size := by have := hb2.size; simp at this; omega
           replace hb2 : Below w.heap.size w w2 := ((Below.refl _ _).alloc (Nat.le_refl _) _).trans (hb2.mono (by simp))
           have HG2 := Lib.hid (Keeps.keeps (F := Given) hb2 HG.out)
           go_wp2_with fail
           refine (txtI_any _ _ HG2.out hs2 HT2.out).mono ?_
           rintro e w3 ⟨rfl, hb3⟩
           obtain ⟨hc3, hf3⟩ := bcell hb3
           replace hb3 : Below w.heap.size w w3 := Later.trans hb2 hb3
           go_wp2_with fail
           go_ret
           exact ⟨by rw [HC.out]; simp [txtOr], hb3⟩
          ·cases pg
           ·have q8 : ¬ k.gen < k.pGen := of_decide_eq_false h8
            go_enter Tryz.func59, Tryz.ntmps59
            go_wp2_with (go_at_call 71; refine (within_b (by assumption) _).mono ?_; rintro e w' ⟨rfl, rfl⟩)
            refine (txtI_any _ _ (Keeps.keeps (F := Given) (Later.alloc w _) HG.out) hs1 HT1.out).mono ?_
            rintro e w2 ⟨rfl, hb2⟩
            obtain ⟨hc, hf⟩ := bcell hb2
            have hz : w.heap.size < w2.heap.size := by have := hb2.size; simp at this; omega
            replace hb2 : Below w.heap.size w w2 := ((Below.refl _ _).alloc (Nat.le_refl _) _).trans (hb2.mono (by simp))
            have HG2 := Lib.hid (Keeps.keeps (F := Given) hb2 HG.out)
            go_wp2_with fail
            refine (txtI_any _ _ HG2.out hs2 HT2.out).mono ?_
            rintro e w3 ⟨rfl, hb3⟩
            obtain ⟨hc3, hf3⟩ := bcell hb3
            replace hb3 : Below w.heap.size w w3 := Later.trans hb2 hb3
            go_wp2_with fail
            go_ret
            exact ⟨by rw [HC.out]; simp [txtOr], hb3⟩
           ·have q8 : k.gen < k.pGen := of_decide_eq_true h8
            go_enter Tryz.func59, Tryz.ntmps59
            go_wp2_with (go_at_call 71; refine (within_b (by assumption) _).mono ?_; rintro e w' ⟨rfl, rfl⟩)
            refine (txtI_any _ _ (Keeps.keeps (F := Given) (Later.alloc w _) HG.out) hs1 HT1.out).mono ?_
            rintro e w2 ⟨rfl, hb2⟩
            obtain ⟨hc, hf⟩ := bcell hb2
            have hz : w.heap.size < w2.heap.size := by have := hb2.size; simp at this; omega
            replace hb2 : Below w.heap.size w w2 := ((Below.refl _ _).alloc (Nat.le_refl _) _).trans (hb2.mono (by simp))
            have HG2 := Lib.hid (Keeps.keeps (F := Given) hb2 HG.out)
            go_wp2_with fail
            refine (txtI_any _ _ HG2.out hs2 HT2.out).mono ?_
            rintro e w3 ⟨rfl, hb3⟩
            obtain ⟨hc3, hf3⟩ := bcell hb3
            replace hb3 : Below w.heap.size w w3 := Later.trans hb2 hb3
            go_wp2_with fail
            go_ret
            exact ⟨by rw [HC.out]; simp [txtOr], hb3⟩
         ·have q7 := zero_yes h7
          cases n2
          ·go_enter Tryz.func59, Tryz.ntmps59
           go_wp2_with (go_at_call 71; refine (within_b (by assumption) _).mono ?_; rintro e w' ⟨rfl, rfl⟩)
           refine (txtI_any _ _ (Keeps.keeps (F := Given) (Later.alloc w _) HG.out) hs1 HT1.out).mono ?_
           rintro e w2 ⟨rfl, hb2⟩
           obtain ⟨hc, hf⟩ := bcell hb2
           have hz : w.heap.size < w2.heap.size := by have := hb2.size; simp at this; omega
           replace hb2 : Below w.heap.size w w2 := ((Below.refl _ _).alloc (Nat.le_refl _) _).trans (hb2.mono (by simp))
           have HG2 := Lib.hid (Keeps.keeps (F := Given) hb2 HG.out)
           go_wp2_with fail
           refine (noneI_any _ _ HN2.out).mono ?_
           rintro e w3 ⟨rfl, hb3⟩
           obtain ⟨hc3, hf3⟩ := bcell hb3
           replace hb3 : Below w.heap.size w w3 := Later.trans hb2 hb3
           go_wp2_with fail
           go_ret
           exact ⟨by rw [HC.out]; simp [txtOr], hb3⟩
          ·go_enter Tryz.func59, Tryz.ntmps59
           go_wp2_with (go_at_call 71; refine (within_b (by assumption) _).mono ?_; rintro e w' ⟨rfl, rfl⟩)
           refine (txtI_any _ _ (Keeps.keeps (F := Given) (Later.alloc w _) HG.out) hs1 HT1.out).mono ?_
           rintro e w2 ⟨rfl, hb2⟩
           obtain ⟨hc, hf⟩ := bcell hb2
           have hz : w.heap.size < w2.heap.size := by have := hb2.size; simp at this; omega
           replace hb2 : Below w.heap.size w w2 := ((Below.refl _ _).alloc (Nat.le_refl _) _).trans (hb2.mono (by simp))
           have HG2 := Lib.hid (Keeps.keeps (F := Given) hb2 HG.out)
           go_wp2_with fail
           refine (noneI_any _ _ HN2.out).mono ?_
           rintro e w3 ⟨rfl, hb3⟩
           obtain ⟨hc3, hf3⟩ := bcell hb3
           replace hb3 : Below w.heap.size w w3 := Later.trans hb2 hb3
           go_wp2_with fail
           go_ret
           exact ⟨by rw [HC.out]; simp [txtOr], hb3⟩
       ·have q6 := zero_yes h6
        cases n1
        ·obtain ⟨e1, e2⟩ := nil_no HN1.out
         go_enter Tryz.func59, Tryz.ntmps59
         go_wp2_with (go_at_call 71; refine (within_b (by assumption) _).mono ?_; rintro e w' ⟨rfl, rfl⟩)
         refine (noneI_any _ _ HN1.out).mono ?_
         rintro e w2 ⟨rfl, hb2⟩
         obtain ⟨hc, hf⟩ := bcell hb2
         have hz : w.heap.size < w2.heap.size := by have := hb2.size; simp at this; omega
         replace hb2 : Below w.heap.size w w2 := ((Below.refl _ _).alloc (Nat.le_refl _) _).trans (hb2.mono (by simp))
         have HG2 := Lib.hid (Keeps.keeps (F := Given) hb2 HG.out)
         go_wp2_with fail
         go_ret
         exact ⟨by rw [HC.out]; simp [txtOr], hb2⟩
        ·have HX := nil_yes HN1.out
         clear HX
         have q6p : ¬ 0 < k.gen := by simp at h6; omega
         cases pz
         ·have q7 := zero_no h7
          have q7p := pos_of h1 h7
          cases t2
          ·go_enter Tryz.func59, Tryz.ntmps59
           go_wp2_with (go_at_call 71; refine (within_b (by assumption) _).mono ?_; rintro e w' ⟨rfl, rfl⟩)
           refine (noneI_any _ _ HN1.out).mono ?_
           rintro e w2 ⟨rfl, hb2⟩
           obtain ⟨hc, hf⟩ := bcell hb2
           have hz : w.heap.size < w2.heap.size := by have := hb2.size; simp at this; omega
           replace hb2 : Below w.heap.size w w2 := ((Below.refl _ _).alloc (Nat.le_refl _) _).trans (hb2.mono (by simp))
           have HG2 := Lib.hid (Keeps.keeps (F := Given) hb2 HG.out)
           go_wp2_with fail
           refine (txtI_any _ _ HG2.out hs2 HT2.out).mono ?_
           rintro e w3 ⟨rfl, hb3⟩
           obtain ⟨hc3, hf3⟩ := bcell hb3
           replace hb3 : Below w.heap.size w w3 := Later.trans hb2 hb3
           go_wp2_with fail
           go_ret
           exact ⟨by rw [HC.out]; simp [txtOr], hb3⟩
          ·cases pg
           ·have q8 : ¬ k.gen < k.pGen := of_decide_eq_false h8
            exact absurd q7p (by simp at h6; omega)
           ·have q8 : k.gen < k.pGen := of_decide_eq_true h8
            go_enter Tryz.func59, Tryz.ntmps59
            go_wp2_with (go_at_call 71; refine (within_b (by assumption) _).mono ?_; rintro e w' ⟨rfl, rfl⟩)
            refine (noneI_any _ _ HN1.out).mono ?_
            rintro e w2 ⟨rfl, hb2⟩
            obtain ⟨hc, hf⟩ := bcell hb2
            have hz : w.heap.size < w2.heap.size := by have := hb2.size; simp at this; omega
            replace hb2 : Below w.heap.size w w2 := ((Below.refl _ _).alloc (Nat.le_refl _) _).trans (hb2.mono (by simp))
            have HG2 := Lib.hid (Keeps.keeps (F := Given) hb2 HG.out)
            go_wp2_with fail
            refine (txtI_any _ _ HG2.out hs2 HT2.out).mono ?_
            rintro e w3 ⟨rfl, hb3⟩
            obtain ⟨hc3, hf3⟩ := bcell hb3
            replace hb3 : Below w.heap.size w w3 := Later.trans hb2 hb3
            go_wp2_with fail
            go_ret
            exact ⟨by rw [HC.out]; simp [txtOr], hb3⟩
         ·have q7 := zero_yes h7
          cases n2
          ·go_enter Tryz.func59, Tryz.ntmps59
           go_wp2_with (go_at_call 71; refine (within_b (by assumption) _).mono ?_; rintro e w' ⟨rfl, rfl⟩)
           refine (noneI_any _ _ HN1.out).mono ?_
           rintro e w2 ⟨rfl, hb2⟩
           obtain ⟨hc, hf⟩ := bcell hb2
           have hz : w.heap.size < w2.heap.size := by have := hb2.size; simp at this; omega
           replace hb2 : Below w.heap.size w w2 := ((Below.refl _ _).alloc (Nat.le_refl _) _).trans (hb2.mono (by simp))
           have HG2 := Lib.hid (Keeps.keeps (F := Given) hb2 HG.out)
           go_wp2_with fail
           refine (noneI_any _ _ HN2.out).mono ?_
           rintro e w3 ⟨rfl, hb3⟩
           obtain ⟨hc3, hf3⟩ := bcell hb3
           replace hb3 : Below w.heap.size w w3 := Later.trans hb2 hb3
           go_wp2_with fail
           go_ret
           exact ⟨by rw [HC.out]; simp [txtOr], hb3⟩
          ·go_enter Tryz.func59, Tryz.ntmps59
           go_wp2_with (go_at_call 71; refine (within_b (by assumption) _).mono ?_; rintro e w' ⟨rfl, rfl⟩)
           refine (noneI_any _ _ HN1.out).mono ?_
           rintro e w2 ⟨rfl, hb2⟩
           obtain ⟨hc, hf⟩ := bcell hb2
           have hz : w.heap.size < w2.heap.size := by have := hb2.size; simp at this; omega
           replace hb2 : Below w.heap.size w w2 := ((Below.refl _ _).alloc (Nat.le_refl _) _).trans (hb2.mono (by simp))
           have HG2 := Lib.hid (Keeps.keeps (F := Given) hb2 HG.out)
           go_wp2_with fail
           refine (noneI_any _ _ HN2.out).mono ?_
           rintro e w3 ⟨rfl, hb3⟩
           obtain ⟨hc3, hf3⟩ := bcell hb3
           replace hb3 : Below w.heap.size w w3 := Later.trans hb2 hb3
           go_wp2_with fail
           go_ret
           exact ⟨by rw [HC.out]; simp [txtOr], hb3⟩
end Go.Proofs.YtoaaogacaibedaaGreatDoor
