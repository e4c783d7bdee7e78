/- What the theorem needs, out of many texts. -/
import Derived.Test.YthpkdjflndiojaaGreatDoorShj8
set_option maxHeartbeats 20000000
namespace Go.Proofs.YthpkdjflndiojaaGreatDoor
open Go.RowKit
set_option maxRecDepth 100000
set_option linter.unusedVariables false
def K7 (z : Bool) (n t : Bool) : Bool:=if z then n else t
noncomputable def Ax9 (k : Known) : Bool:=
 inI k.gen 0 60000 && (inI k.pGen 0 60000 && (inI k.epoch 0 60000 && (inI k.owner 0 1 && (!((k.epoch == 0) && !(k.owner == 0)) && (K7 (k.gen == 0) (Ey9 k.text) (Fe9 k.text) && (K7 (k.pGen == 0) (Ey9 k.pText) (Fe9 k.pText) && ((k.pGen == 0) || decide (k.gen < k.pGen))))))))
theorem Co9 {x : Int} (h : (x == 0) = false) : (x != 0) = true:=by simp at h ⊢;exact h
theorem Bo9 {x : Int} (h : (x == 0) = true) : (x != 0) = false:=by simp at h ⊢;exact h
theorem Ff9 {x : Int} (h : inI x 0 60000 = true) (h2 : (x == 0) = false) : 0 < x:=by have:=of_decide_eq_true h;simp at h2;omega
theorem Bs9 (k : Known) (w : World) :
 Calls Tryz.prog 58 #[.agg (T9 k).toArray] w (Y8 w (Ax9 k)):=by
 obtain ⟨b0,h0⟩ : ∃ b,inI k.gen 0 60000 = b:=⟨_,rfl⟩;obtain ⟨b1,h1⟩ : ∃ b,inI k.pGen 0 60000 = b:=⟨_,rfl⟩;obtain ⟨b2,h2⟩ : ∃ b,inI k.epoch 0 60000 = b:=⟨_,rfl⟩;obtain ⟨b3,h3⟩ : ∃ b,inI k.owner 0 1 = b:=⟨_,rfl⟩;obtain ⟨ez,h4⟩ : ∃ b,(k.epoch == 0) = b:=⟨_,rfl⟩;obtain ⟨oz,h5⟩ : ∃ b,(k.owner == 0) = b:=⟨_,rfl⟩;obtain ⟨gz,h6⟩ : ∃ b,(k.gen == 0) = b:=⟨_,rfl⟩;obtain ⟨pz,h7⟩ : ∃ b,(k.pGen == 0) = b:=⟨_,rfl⟩;obtain ⟨pg,h8⟩ : ∃ b,decide (k.gen < k.pGen) = b:=⟨_,rfl⟩;obtain ⟨n1,hn1⟩ : ∃ b,Ey9 k.text = b:=⟨_,rfl⟩;obtain ⟨n2,hn2⟩ : ∃ b,Ey9 k.pText = b:=⟨_,rfl⟩;obtain ⟨t1,ht1⟩ : ∃ b,Fe9 k.text = b:=⟨_,rfl⟩;obtain ⟨t2,ht2⟩ : ∃ b,Fe9 k.pText = b:=⟨_,rfl⟩;have HC:=Lib.hid (show Ax9 k = (b0 && (b1 && (b2 && (b3 && (!(ez && !oz) && (K7 gz n1 t1 && (K7 pz n2 t2 && (pz || pg)))))))) by
  unfold Ax9;rw [h0,h1,h2,h3,h4,h5,h6,h7,h8,hn1,hn2,ht1,ht2])
 have HN1:=Lib.hid hn1;have HN2:=Lib.hid hn2;have HT1:=Lib.hid ht1;have HT2:=Lib.hid ht2;clear hn1 hn2 ht1 ht2;unfold T9 Y8;cases b0
 ·go_enter Tryz.func58,Tryz.ntmps58
  go_wp2_with (go_at_call 62;refine (M7 (by assumption) _).mono ?_;rintro e w' ⟨rfl,rfl⟩)
  go_ret
  exact ⟨by rw [HC.out];simp [K7],(Below.refl _ _).alloc (Nat.le_refl _) _⟩
 ·cases b1
  ·go_enter Tryz.func58,Tryz.ntmps58
   go_wp2_with (go_at_call 62;refine (M7 (by assumption) _).mono ?_;rintro e w' ⟨rfl,rfl⟩)
   go_ret
   exact ⟨by rw [HC.out];simp [K7],(Below.refl _ _).alloc (Nat.le_refl _) _⟩
  ·cases b2
   ·go_enter Tryz.func58,Tryz.ntmps58
    go_wp2_with (go_at_call 62;refine (M7 (by assumption) _).mono ?_;rintro e w' ⟨rfl,rfl⟩)
    go_ret
    exact ⟨by rw [HC.out];simp [K7],(Below.refl _ _).alloc (Nat.le_refl _) _⟩
   ·cases b3
    ·go_enter Tryz.func58,Tryz.ntmps58
     go_wp2_with (go_at_call 62;refine (M7 (by assumption) _).mono ?_;rintro e w' ⟨rfl,rfl⟩)
     go_ret
     exact ⟨by rw [HC.out];simp [K7],(Below.refl _ _).alloc (Nat.le_refl _) _⟩
    ·cases ez
     ·cases gz
      ·have q6:=Co9 h6
       have q6p:=Ff9 h0 h6;cases t1
       ·go_enter Tryz.func58,Tryz.ntmps58
        go_wp2_with (go_at_call 62;refine (M7 (by assumption) _).mono ?_;rintro e w' ⟨rfl,rfl⟩)
        refine (Ao9 _ _).mono ?_;rw [HT1.out];rintro e w2 ⟨rfl,hb2⟩;obtain ⟨hc,hf⟩:=F7 hb2;have hz : w.heap.size < w2.heap.size:=by have:=hb2.size;simp at this;omega
        replace hb2 : Below w.heap.size w w2:=((Below.refl _ _).alloc (Nat.le_refl _) _).trans (hb2.mono (by simp))
        go_wp2_with fail;go_ret
        exact ⟨by rw [HC.out];simp [K7],hb2⟩
       ·cases pz
        ·have q7:=Co9 h7
         have q7p:=Ff9 h1 h7;cases pg
         ·have q8 : ¬ k.gen < k.pGen:=of_decide_eq_false h8
          go_enter Tryz.func58,Tryz.ntmps58
          go_wp2_with (go_at_call 62;refine (M7 (by assumption) _).mono ?_;rintro e w' ⟨rfl,rfl⟩)
          refine (Ao9 _ _).mono ?_;rw [HT1.out];rintro e w2 ⟨rfl,hb2⟩;obtain ⟨hc,hf⟩:=F7 hb2;have hz : w.heap.size < w2.heap.size:=by have:=hb2.size;simp at this;omega
          replace hb2 : Below w.heap.size w w2:=((Below.refl _ _).alloc (Nat.le_refl _) _).trans (hb2.mono (by simp))
          go_wp2_with fail;go_ret
          exact ⟨by rw [HC.out];simp [K7],hb2⟩
         ·have q8 : k.gen < k.pGen:=of_decide_eq_true h8
          go_enter Tryz.func58,Tryz.ntmps58
          go_wp2_with (go_at_call 62;refine (M7 (by assumption) _).mono ?_;rintro e w' ⟨rfl,rfl⟩)
          refine (Ao9 _ _).mono ?_;rw [HT1.out];rintro e w2 ⟨rfl,hb2⟩;obtain ⟨hc,hf⟩:=F7 hb2;have hz : w.heap.size < w2.heap.size:=by have:=hb2.size;simp at this;omega
          replace hb2 : Below w.heap.size w w2:=((Below.refl _ _).alloc (Nat.le_refl _) _).trans (hb2.mono (by simp))
          go_wp2_with fail;refine (Ao9 _ _).mono ?_;rw [HT2.out];rintro e w3 ⟨rfl,hb3⟩;obtain ⟨hc3,hf3⟩:=F7 hb3;replace hb3 : Below w.heap.size w w3:=Later.trans hb2 hb3;go_wp2_with fail;go_ret
          exact ⟨by rw [HC.out];simp [K7],hb3⟩
        ·have q7:=Bo9 h7
         cases n2
         ·obtain ⟨e3,e4⟩:=Fo9 HN2.out
          go_enter Tryz.func58,Tryz.ntmps58
          go_wp2_with (go_at_call 62;refine (M7 (by assumption) _).mono ?_;rintro e w' ⟨rfl,rfl⟩)
          refine (Ao9 _ _).mono ?_;rw [HT1.out];rintro e w2 ⟨rfl,hb2⟩;obtain ⟨hc,hf⟩:=F7 hb2;have hz : w.heap.size < w2.heap.size:=by have:=hb2.size;simp at this;omega
          replace hb2 : Below w.heap.size w w2:=((Below.refl _ _).alloc (Nat.le_refl _) _).trans (hb2.mono (by simp))
          go_wp2_with fail;go_ret
          exact ⟨by rw [HC.out];simp [K7],hb2⟩
         ·have HX:=Ed9 HN2.out
          rw [HX];clear HX;go_enter Tryz.func58,Tryz.ntmps58
          go_wp2_with (go_at_call 62;refine (M7 (by assumption) _).mono ?_;rintro e w' ⟨rfl,rfl⟩)
          refine (Ao9 _ _).mono ?_;rw [HT1.out];rintro e w2 ⟨rfl,hb2⟩;obtain ⟨hc,hf⟩:=F7 hb2;have hz : w.heap.size < w2.heap.size:=by have:=hb2.size;simp at this;omega
          replace hb2 : Below w.heap.size w w2:=((Below.refl _ _).alloc (Nat.le_refl _) _).trans (hb2.mono (by simp))
          go_wp2_with fail;go_ret
          exact ⟨by rw [HC.out];simp [K7],hb2⟩
      ·have q6:=Bo9 h6
       cases n1
       ·obtain ⟨e1,e2⟩:=Fo9 HN1.out
        go_enter Tryz.func58,Tryz.ntmps58
        go_wp2_with (go_at_call 62;refine (M7 (by assumption) _).mono ?_;rintro e w' ⟨rfl,rfl⟩)
        go_ret
        exact ⟨by rw [HC.out];simp [K7],(Below.refl _ _).alloc (Nat.le_refl _) _⟩
       ·have HX:=Ed9 HN1.out
        rw [HX];clear HX;have q6p : ¬ 0 < k.gen:=by simp at h6;omega
        cases pz
        ·have q7:=Co9 h7
         have q7p:=Ff9 h1 h7;cases pg
         ·have q8 : ¬ k.gen < k.pGen:=of_decide_eq_false h8
          exact absurd q7p (by simp at h6;omega)
         ·have q8 : k.gen < k.pGen:=of_decide_eq_true h8
          go_enter Tryz.func58,Tryz.ntmps58
          go_wp2_with (go_at_call 62;refine (M7 (by assumption) _).mono ?_;rintro e w' ⟨rfl,rfl⟩)
          refine (Ao9 _ _).mono ?_;rw [HT2.out];rintro e w2 ⟨rfl,hb2⟩;obtain ⟨hc,hf⟩:=F7 hb2;have hz : w.heap.size < w2.heap.size:=by have:=hb2.size;simp at this;omega
          replace hb2 : Below w.heap.size w w2:=((Below.refl _ _).alloc (Nat.le_refl _) _).trans (hb2.mono (by simp))
          go_wp2_with fail;go_ret
          exact ⟨by rw [HC.out];simp [K7],hb2⟩
        ·have q7:=Bo9 h7
         cases n2
         ·obtain ⟨e3,e4⟩:=Fo9 HN2.out
          go_enter Tryz.func58,Tryz.ntmps58
          go_wp2_with (go_at_call 62;refine (M7 (by assumption) _).mono ?_;rintro e w' ⟨rfl,rfl⟩)
          go_ret
          exact ⟨by rw [HC.out];simp [K7],(Below.refl _ _).alloc (Nat.le_refl _) _⟩
         ·have HX:=Ed9 HN2.out
          rw [HX];clear HX;go_enter Tryz.func58,Tryz.ntmps58
          go_wp2_with (go_at_call 62;refine (M7 (by assumption) _).mono ?_;rintro e w' ⟨rfl,rfl⟩)
          go_ret
          exact ⟨by rw [HC.out];simp [K7],(Below.refl _ _).alloc (Nat.le_refl _) _⟩
     ·cases oz
      ·have q5:=Co9 h5
       go_enter Tryz.func58,Tryz.ntmps58
       go_wp2_with (go_at_call 62;refine (M7 (by assumption) _).mono ?_;rintro e w' ⟨rfl,rfl⟩)
       go_ret
       exact ⟨by rw [HC.out];simp [K7],(Below.refl _ _).alloc (Nat.le_refl _) _⟩
      ·have q5:=Bo9 h5
       cases gz
       ·have q6:=Co9 h6
        have q6p:=Ff9 h0 h6;cases t1
        ·go_enter Tryz.func58,Tryz.ntmps58
         go_wp2_with (go_at_call 62;refine (M7 (by assumption) _).mono ?_;rintro e w' ⟨rfl,rfl⟩)
         refine (Ao9 _ _).mono ?_;rw [HT1.out];rintro e w2 ⟨rfl,hb2⟩;obtain ⟨hc,hf⟩:=F7 hb2;have hz : w.heap.size < w2.heap.size:=by have:=hb2.size;simp at this;omega
         replace hb2 : Below w.heap.size w w2:=((Below.refl _ _).alloc (Nat.le_refl _) _).trans (hb2.mono (by simp))
         go_wp2_with fail;go_ret
         exact ⟨by rw [HC.out];simp [K7],hb2⟩
        ·cases pz
         ·have q7:=Co9 h7
          have q7p:=Ff9 h1 h7;cases pg
          ·have q8 : ¬ k.gen < k.pGen:=of_decide_eq_false h8
           go_enter Tryz.func58,Tryz.ntmps58
           go_wp2_with (go_at_call 62;refine (M7 (by assumption) _).mono ?_;rintro e w' ⟨rfl,rfl⟩)
           refine (Ao9 _ _).mono ?_;rw [HT1.out];rintro e w2 ⟨rfl,hb2⟩;obtain ⟨hc,hf⟩:=F7 hb2;have hz : w.heap.size < w2.heap.size:=by have:=hb2.size;simp at this;omega
           replace hb2 : Below w.heap.size w w2:=((Below.refl _ _).alloc (Nat.le_refl _) _).trans (hb2.mono (by simp))
           go_wp2_with fail;go_ret
           exact ⟨by rw [HC.out];simp [K7],hb2⟩
          ·have q8 : k.gen < k.pGen:=of_decide_eq_true h8
           go_enter Tryz.func58,Tryz.ntmps58
           go_wp2_with (go_at_call 62;refine (M7 (by assumption) _).mono ?_;rintro e w' ⟨rfl,rfl⟩)
           refine (Ao9 _ _).mono ?_;rw [HT1.out];rintro e w2 ⟨rfl,hb2⟩;obtain ⟨hc,hf⟩:=F7 hb2;have hz : w.heap.size < w2.heap.size:=by have:=hb2.size;simp at this;omega
           replace hb2 : Below w.heap.size w w2:=((Below.refl _ _).alloc (Nat.le_refl _) _).trans (hb2.mono (by simp))
           go_wp2_with fail;refine (Ao9 _ _).mono ?_;rw [HT2.out];rintro e w3 ⟨rfl,hb3⟩;obtain ⟨hc3,hf3⟩:=F7 hb3;replace hb3 : Below w.heap.size w w3:=Later.trans hb2 hb3;go_wp2_with fail;go_ret
           exact ⟨by rw [HC.out];simp [K7],hb3⟩
         ·have q7:=Bo9 h7
          cases n2
          ·obtain ⟨e3,e4⟩:=Fo9 HN2.out
           go_enter Tryz.func58,Tryz.ntmps58
           go_wp2_with (go_at_call 62;refine (M7 (by assumption) _).mono ?_;rintro e w' ⟨rfl,rfl⟩)
           refine (Ao9 _ _).mono ?_;rw [HT1.out];rintro e w2 ⟨rfl,hb2⟩;obtain ⟨hc,hf⟩:=F7 hb2;have hz : w.heap.size < w2.heap.size:=by have:=hb2.size;simp at this;omega
           replace hb2 : Below w.heap.size w w2:=((Below.refl _ _).alloc (Nat.le_refl _) _).trans (hb2.mono (by simp))
           go_wp2_with fail;go_ret
           exact ⟨by rw [HC.out];simp [K7],hb2⟩
          ·have HX:=Ed9 HN2.out
           rw [HX];clear HX;go_enter Tryz.func58,Tryz.ntmps58
           go_wp2_with (go_at_call 62;refine (M7 (by assumption) _).mono ?_;rintro e w' ⟨rfl,rfl⟩)
           refine (Ao9 _ _).mono ?_;rw [HT1.out];rintro e w2 ⟨rfl,hb2⟩;obtain ⟨hc,hf⟩:=F7 hb2;have hz : w.heap.size < w2.heap.size:=by have:=hb2.size;simp at this;omega
           replace hb2 : Below w.heap.size w w2:=((Below.refl _ _).alloc (Nat.le_refl _) _).trans (hb2.mono (by simp))
           go_wp2_with fail;go_ret
           exact ⟨by rw [HC.out];simp [K7],hb2⟩
       ·have q6:=Bo9 h6
        cases n1
        ·obtain ⟨e1,e2⟩:=Fo9 HN1.out
         go_enter Tryz.func58,Tryz.ntmps58
         go_wp2_with (go_at_call 62;refine (M7 (by assumption) _).mono ?_;rintro e w' ⟨rfl,rfl⟩)
         go_ret
         exact ⟨by rw [HC.out];simp [K7],(Below.refl _ _).alloc (Nat.le_refl _) _⟩
        ·have HX:=Ed9 HN1.out
         rw [HX];clear HX;have q6p : ¬ 0 < k.gen:=by simp at h6;omega
         cases pz
         ·have q7:=Co9 h7
          have q7p:=Ff9 h1 h7;cases pg
          ·have q8 : ¬ k.gen < k.pGen:=of_decide_eq_false h8
           exact absurd q7p (by simp at h6;omega)
          ·have q8 : k.gen < k.pGen:=of_decide_eq_true h8
           go_enter Tryz.func58,Tryz.ntmps58
           go_wp2_with (go_at_call 62;refine (M7 (by assumption) _).mono ?_;rintro e w' ⟨rfl,rfl⟩)
           refine (Ao9 _ _).mono ?_;rw [HT2.out];rintro e w2 ⟨rfl,hb2⟩;obtain ⟨hc,hf⟩:=F7 hb2;have hz : w.heap.size < w2.heap.size:=by have:=hb2.size;simp at this;omega
           replace hb2 : Below w.heap.size w w2:=((Below.refl _ _).alloc (Nat.le_refl _) _).trans (hb2.mono (by simp))
           go_wp2_with fail;go_ret
           exact ⟨by rw [HC.out];simp [K7],hb2⟩
         ·have q7:=Bo9 h7
          cases n2
          ·obtain ⟨e3,e4⟩:=Fo9 HN2.out
           go_enter Tryz.func58,Tryz.ntmps58
           go_wp2_with (go_at_call 62;refine (M7 (by assumption) _).mono ?_;rintro e w' ⟨rfl,rfl⟩)
           go_ret
           exact ⟨by rw [HC.out];simp [K7],(Below.refl _ _).alloc (Nat.le_refl _) _⟩
          ·have HX:=Ed9 HN2.out
           rw [HX];clear HX;go_enter Tryz.func58,Tryz.ntmps58
           go_wp2_with (go_at_call 62;refine (M7 (by assumption) _).mono ?_;rintro e w' ⟨rfl,rfl⟩)
           go_ret
           exact ⟨by rw [HC.out];simp [K7],(Below.refl _ _).alloc (Nat.le_refl _) _⟩
theorem Bt9 (k : Known) (w : World) (hg : Given w) (hs1 : k.text.size ≤ 1048576) (hs2 : k.pText.size ≤ 1048576) :
 Calls Tryz.prog 43 #[.agg (T9 k).toArray] w (Y8 w (Ax9 k)):=by
 have HG:=Lib.hid hg;clear hg;obtain ⟨b0,h0⟩ : ∃ b,inI k.gen 0 60000 = b:=⟨_,rfl⟩;obtain ⟨b1,h1⟩ : ∃ b,inI k.pGen 0 60000 = b:=⟨_,rfl⟩;obtain ⟨b2,h2⟩ : ∃ b,inI k.epoch 0 60000 = b:=⟨_,rfl⟩;obtain ⟨b3,h3⟩ : ∃ b,inI k.owner 0 1 = b:=⟨_,rfl⟩;obtain ⟨ez,h4⟩ : ∃ b,(k.epoch == 0) = b:=⟨_,rfl⟩;obtain ⟨oz,h5⟩ : ∃ b,(k.owner == 0) = b:=⟨_,rfl⟩;obtain ⟨gz,h6⟩ : ∃ b,(k.gen == 0) = b:=⟨_,rfl⟩;obtain ⟨pz,h7⟩ : ∃ b,(k.pGen == 0) = b:=⟨_,rfl⟩;obtain ⟨pg,h8⟩ : ∃ b,decide (k.gen < k.pGen) = b:=⟨_,rfl⟩;obtain ⟨n1,hn1⟩ : ∃ b,Ey9 k.text = b:=⟨_,rfl⟩;obtain ⟨n2,hn2⟩ : ∃ b,Ey9 k.pText = b:=⟨_,rfl⟩;obtain ⟨t1,ht1⟩ : ∃ b,Fe9 k.text = b:=⟨_,rfl⟩;obtain ⟨t2,ht2⟩ : ∃ b,Fe9 k.pText = b:=⟨_,rfl⟩;have HC:=Lib.hid (show Ax9 k = (b0 && (b1 && (b2 && (b3 && (!(ez && !oz) && (K7 gz n1 t1 && (K7 pz n2 t2 && (pz || pg)))))))) by
  unfold Ax9;rw [h0,h1,h2,h3,h4,h5,h6,h7,h8,hn1,hn2,ht1,ht2])
 have HN1:=Lib.hid hn1;have HN2:=Lib.hid hn2;have HT1:=Lib.hid ht1;have HT2:=Lib.hid ht2;clear hn1 hn2 ht1 ht2;unfold T9 Y8;cases b0
 ·go_enter Tryz.func43,Tryz.ntmps43
  go_wp2_with (go_at_call 77;refine (L8 (by assumption) _).mono ?_;rintro e w' ⟨rfl,rfl⟩)
  go_ret
  exact ⟨by rw [HC.out];simp [K7],(Below.refl _ _).alloc (Nat.le_refl _) _⟩
 ·cases b1
  ·go_enter Tryz.func43,Tryz.ntmps43
   go_wp2_with (go_at_call 77;refine (L8 (by assumption) _).mono ?_;rintro e w' ⟨rfl,rfl⟩)
   go_ret
   exact ⟨by rw [HC.out];simp [K7],(Below.refl _ _).alloc (Nat.le_refl _) _⟩
  ·cases b2
   ·go_enter Tryz.func43,Tryz.ntmps43
    go_wp2_with (go_at_call 77;refine (L8 (by assumption) _).mono ?_;rintro e w' ⟨rfl,rfl⟩)
    go_ret
    exact ⟨by rw [HC.out];simp [K7],(Below.refl _ _).alloc (Nat.le_refl _) _⟩
   ·cases b3
    ·go_enter Tryz.func43,Tryz.ntmps43
     go_wp2_with (go_at_call 77;refine (L8 (by assumption) _).mono ?_;rintro e w' ⟨rfl,rfl⟩)
     go_ret
     exact ⟨by rw [HC.out];simp [K7],(Below.refl _ _).alloc (Nat.le_refl _) _⟩
    ·cases ez
     ·cases gz
      ·have q6:=Co9 h6
       have q6p:=Ff9 h0 h6;cases t1
       ·go_enter Tryz.func43,Tryz.ntmps43
        go_wp2_with (go_at_call 77;refine (L8 (by assumption) _).mono ?_;rintro e w' ⟨rfl,rfl⟩)
        refine (Ae9 _ _ (Keeps.keeps (F:=Given) (Later.alloc w _) HG.out) hs1 HT1.out).mono ?_;rintro e w2 ⟨rfl,hb2⟩;obtain ⟨hc,hf⟩:=F7 hb2;have hz : w.heap.size < w2.heap.size:=by have:=hb2.size;simp at this;omega
        replace hb2 : Below w.heap.size w w2:=((Below.refl _ _).alloc (Nat.le_refl _) _).trans (hb2.mono (by simp))
        have HG2:=Lib.hid (Keeps.keeps (F:=Given) hb2 HG.out);go_wp2_with fail;go_ret
        exact ⟨by rw [HC.out];simp [K7],hb2⟩
       ·cases pz
        ·have q7:=Co9 h7
         have q7p:=Ff9 h1 h7;cases t2
         ·go_enter Tryz.func43,Tryz.ntmps43
          go_wp2_with (go_at_call 77;refine (L8 (by assumption) _).mono ?_;rintro e w' ⟨rfl,rfl⟩)
          refine (Ae9 _ _ (Keeps.keeps (F:=Given) (Later.alloc w _) HG.out) hs1 HT1.out).mono ?_;rintro e w2 ⟨rfl,hb2⟩;obtain ⟨hc,hf⟩:=F7 hb2;have hz : w.heap.size < w2.heap.size:=by have:=hb2.size;simp at this;omega
          replace hb2 : Below w.heap.size w w2:=((Below.refl _ _).alloc (Nat.le_refl _) _).trans (hb2.mono (by simp))
          have HG2:=Lib.hid (Keeps.keeps (F:=Given) hb2 HG.out);go_wp2_with fail;refine (Ae9 _ _ HG2.out hs2 HT2.out).mono ?_;rintro e w3 ⟨rfl,hb3⟩;obtain ⟨hc3,hf3⟩:=F7 hb3;replace hb3 : Below w.heap.size w w3:=Later.trans hb2 hb3;go_wp2_with fail;go_ret
          exact ⟨by rw [HC.out];simp [K7],hb3⟩
         ·cases pg
          ·have q8 : ¬ k.gen < k.pGen:=of_decide_eq_false h8
           go_enter Tryz.func43,Tryz.ntmps43
           go_wp2_with (go_at_call 77;refine (L8 (by assumption) _).mono ?_;rintro e w' ⟨rfl,rfl⟩)
           refine (Ae9 _ _ (Keeps.keeps (F:=Given) (Later.alloc w _) HG.out) hs1 HT1.out).mono ?_;rintro e w2 ⟨rfl,hb2⟩;obtain ⟨hc,hf⟩:=F7 hb2;have hz : w.heap.size < w2.heap.size:=by have:=hb2.size;simp at this;omega
           replace hb2 : Below w.heap.size w w2:=((Below.refl _ _).alloc (Nat.le_refl _) _).trans (hb2.mono (by simp))
           have HG2:=Lib.hid (Keeps.keeps (F:=Given) hb2 HG.out);go_wp2_with fail;refine (Ae9 _ _ HG2.out hs2 HT2.out).mono ?_;rintro e w3 ⟨rfl,hb3⟩;obtain ⟨hc3,hf3⟩:=F7 hb3;replace hb3 : Below w.heap.size w w3:=Later.trans hb2 hb3;go_wp2_with fail;go_ret
           exact ⟨by rw [HC.out];simp [K7],hb3⟩
          ·have q8 : k.gen < k.pGen:=of_decide_eq_true h8
           go_enter Tryz.func43,Tryz.ntmps43
           go_wp2_with (go_at_call 77;refine (L8 (by assumption) _).mono ?_;rintro e w' ⟨rfl,rfl⟩)
           refine (Ae9 _ _ (Keeps.keeps (F:=Given) (Later.alloc w _) HG.out) hs1 HT1.out).mono ?_;rintro e w2 ⟨rfl,hb2⟩;obtain ⟨hc,hf⟩:=F7 hb2;have hz : w.heap.size < w2.heap.size:=by have:=hb2.size;simp at this;omega
           replace hb2 : Below w.heap.size w w2:=((Below.refl _ _).alloc (Nat.le_refl _) _).trans (hb2.mono (by simp))
           have HG2:=Lib.hid (Keeps.keeps (F:=Given) hb2 HG.out);go_wp2_with fail;refine (Ae9 _ _ HG2.out hs2 HT2.out).mono ?_;rintro e w3 ⟨rfl,hb3⟩;obtain ⟨hc3,hf3⟩:=F7 hb3;replace hb3 : Below w.heap.size w w3:=Later.trans hb2 hb3;go_wp2_with fail;go_ret
           exact ⟨by rw [HC.out];simp [K7],hb3⟩
        ·have q7:=Bo9 h7
         cases n2
         ·go_enter Tryz.func43,Tryz.ntmps43
          go_wp2_with (go_at_call 77;refine (L8 (by assumption) _).mono ?_;rintro e w' ⟨rfl,rfl⟩)
          refine (Ae9 _ _ (Keeps.keeps (F:=Given) (Later.alloc w _) HG.out) hs1 HT1.out).mono ?_;rintro e w2 ⟨rfl,hb2⟩;obtain ⟨hc,hf⟩:=F7 hb2;have hz : w.heap.size < w2.heap.size:=by have:=hb2.size;simp at this;omega
          replace hb2 : Below w.heap.size w w2:=((Below.refl _ _).alloc (Nat.le_refl _) _).trans (hb2.mono (by simp))
          have HG2:=Lib.hid (Keeps.keeps (F:=Given) hb2 HG.out);go_wp2_with fail;refine (Ab9 _ _ HN2.out).mono ?_;rintro e w3 ⟨rfl,hb3⟩;obtain ⟨hc3,hf3⟩:=F7 hb3;replace hb3 : Below w.heap.size w w3:=Later.trans hb2 hb3;go_wp2_with fail;go_ret
          exact ⟨by rw [HC.out];simp [K7],hb3⟩
         ·go_enter Tryz.func43,Tryz.ntmps43
          go_wp2_with (go_at_call 77;refine (L8 (by assumption) _).mono ?_;rintro e w' ⟨rfl,rfl⟩)
          refine (Ae9 _ _ (Keeps.keeps (F:=Given) (Later.alloc w _) HG.out) hs1 HT1.out).mono ?_;rintro e w2 ⟨rfl,hb2⟩;obtain ⟨hc,hf⟩:=F7 hb2;have hz : w.heap.size < w2.heap.size:=by have:=hb2.size;simp at this;omega
          replace hb2 : Below w.heap.size w w2:=((Below.refl _ _).alloc (Nat.le_refl _) _).trans (hb2.mono (by simp))
          have HG2:=Lib.hid (Keeps.keeps (F:=Given) hb2 HG.out);go_wp2_with fail;refine (Ab9 _ _ HN2.out).mono ?_;rintro e w3 ⟨rfl,hb3⟩;obtain ⟨hc3,hf3⟩:=F7 hb3;replace hb3 : Below w.heap.size w w3:=Later.trans hb2 hb3;go_wp2_with fail;go_ret
          exact ⟨by rw [HC.out];simp [K7],hb3⟩
      ·have q6:=Bo9 h6
       cases n1
       ·obtain ⟨e1,e2⟩:=Fo9 HN1.out
        go_enter Tryz.func43,Tryz.ntmps43
        go_wp2_with (go_at_call 77;refine (L8 (by assumption) _).mono ?_;rintro e w' ⟨rfl,rfl⟩)
        refine (Ab9 _ _ HN1.out).mono ?_;rintro e w2 ⟨rfl,hb2⟩;obtain ⟨hc,hf⟩:=F7 hb2;have hz : w.heap.size < w2.heap.size:=by have:=hb2.size;simp at this;omega
        replace hb2 : Below w.heap.size w w2:=((Below.refl _ _).alloc (Nat.le_refl _) _).trans (hb2.mono (by simp))
        have HG2:=Lib.hid (Keeps.keeps (F:=Given) hb2 HG.out);go_wp2_with fail;go_ret
        exact ⟨by rw [HC.out];simp [K7],hb2⟩
       ·have HX:=Ed9 HN1.out
        clear HX;have q6p : ¬ 0 < k.gen:=by simp at h6;omega
        cases pz
        ·have q7:=Co9 h7
         have q7p:=Ff9 h1 h7;cases t2
         ·go_enter Tryz.func43,Tryz.ntmps43
          go_wp2_with (go_at_call 77;refine (L8 (by assumption) _).mono ?_;rintro e w' ⟨rfl,rfl⟩)
          refine (Ab9 _ _ HN1.out).mono ?_;rintro e w2 ⟨rfl,hb2⟩;obtain ⟨hc,hf⟩:=F7 hb2;have hz : w.heap.size < w2.heap.size:=by have:=hb2.size;simp at this;omega
          replace hb2 : Below w.heap.size w w2:=((Below.refl _ _).alloc (Nat.le_refl _) _).trans (hb2.mono (by simp))
          have HG2:=Lib.hid (Keeps.keeps (F:=Given) hb2 HG.out);go_wp2_with fail;refine (Ae9 _ _ HG2.out hs2 HT2.out).mono ?_;rintro e w3 ⟨rfl,hb3⟩;obtain ⟨hc3,hf3⟩:=F7 hb3;replace hb3 : Below w.heap.size w w3:=Later.trans hb2 hb3;go_wp2_with fail;go_ret
          exact ⟨by rw [HC.out];simp [K7],hb3⟩
         ·cases pg
          ·have q8 : ¬ k.gen < k.pGen:=of_decide_eq_false h8
           exact absurd q7p (by simp at h6;omega)
          ·have q8 : k.gen < k.pGen:=of_decide_eq_true h8
           go_enter Tryz.func43,Tryz.ntmps43
           go_wp2_with (go_at_call 77;refine (L8 (by assumption) _).mono ?_;rintro e w' ⟨rfl,rfl⟩)
           refine (Ab9 _ _ HN1.out).mono ?_;rintro e w2 ⟨rfl,hb2⟩;obtain ⟨hc,hf⟩:=F7 hb2;have hz : w.heap.size < w2.heap.size:=by have:=hb2.size;simp at this;omega
           replace hb2 : Below w.heap.size w w2:=((Below.refl _ _).alloc (Nat.le_refl _) _).trans (hb2.mono (by simp))
           have HG2:=Lib.hid (Keeps.keeps (F:=Given) hb2 HG.out);go_wp2_with fail;refine (Ae9 _ _ HG2.out hs2 HT2.out).mono ?_;rintro e w3 ⟨rfl,hb3⟩;obtain ⟨hc3,hf3⟩:=F7 hb3;replace hb3 : Below w.heap.size w w3:=Later.trans hb2 hb3;go_wp2_with fail;go_ret
           exact ⟨by rw [HC.out];simp [K7],hb3⟩
        ·have q7:=Bo9 h7
         cases n2
         ·go_enter Tryz.func43,Tryz.ntmps43
          go_wp2_with (go_at_call 77;refine (L8 (by assumption) _).mono ?_;rintro e w' ⟨rfl,rfl⟩)
          refine (Ab9 _ _ HN1.out).mono ?_;rintro e w2 ⟨rfl,hb2⟩;obtain ⟨hc,hf⟩:=F7 hb2;have hz : w.heap.size < w2.heap.size:=by have:=hb2.size;simp at this;omega
          replace hb2 : Below w.heap.size w w2:=((Below.refl _ _).alloc (Nat.le_refl _) _).trans (hb2.mono (by simp))
          have HG2:=Lib.hid (Keeps.keeps (F:=Given) hb2 HG.out);go_wp2_with fail;refine (Ab9 _ _ HN2.out).mono ?_;rintro e w3 ⟨rfl,hb3⟩;obtain ⟨hc3,hf3⟩:=F7 hb3;replace hb3 : Below w.heap.size w w3:=Later.trans hb2 hb3;go_wp2_with fail;go_ret
          exact ⟨by rw [HC.out];simp [K7],hb3⟩
         ·go_enter Tryz.func43,Tryz.ntmps43
          go_wp2_with (go_at_call 77;refine (L8 (by assumption) _).mono ?_;rintro e w' ⟨rfl,rfl⟩)
          refine (Ab9 _ _ HN1.out).mono ?_;rintro e w2 ⟨rfl,hb2⟩;obtain ⟨hc,hf⟩:=F7 hb2;have hz : w.heap.size < w2.heap.size:=by have:=hb2.size;simp at this;omega
          replace hb2 : Below w.heap.size w w2:=((Below.refl _ _).alloc (Nat.le_refl _) _).trans (hb2.mono (by simp))
          have HG2:=Lib.hid (Keeps.keeps (F:=Given) hb2 HG.out);go_wp2_with fail;refine (Ab9 _ _ HN2.out).mono ?_;rintro e w3 ⟨rfl,hb3⟩;obtain ⟨hc3,hf3⟩:=F7 hb3;replace hb3 : Below w.heap.size w w3:=Later.trans hb2 hb3;go_wp2_with fail;go_ret
          exact ⟨by rw [HC.out];simp [K7],hb3⟩
     ·cases oz
      ·have q5:=Co9 h5
       go_enter Tryz.func43,Tryz.ntmps43
       go_wp2_with (go_at_call 77;refine (L8 (by assumption) _).mono ?_;rintro e w' ⟨rfl,rfl⟩)
       go_ret
       exact ⟨by rw [HC.out];simp [K7],(Below.refl _ _).alloc (Nat.le_refl _) _⟩
      ·have q5:=Bo9 h5
       cases gz
       ·have q6:=Co9 h6
        have q6p:=Ff9 h0 h6;cases t1
        ·go_enter Tryz.func43,Tryz.ntmps43
         go_wp2_with (go_at_call 77;refine (L8 (by assumption) _).mono ?_;rintro e w' ⟨rfl,rfl⟩)
         refine (Ae9 _ _ (Keeps.keeps (F:=Given) (Later.alloc w _) HG.out) hs1 HT1.out).mono ?_;rintro e w2 ⟨rfl,hb2⟩;obtain ⟨hc,hf⟩:=F7 hb2;have hz : w.heap.size < w2.heap.size:=by have:=hb2.size;simp at this;omega
         replace hb2 : Below w.heap.size w w2:=((Below.refl _ _).alloc (Nat.le_refl _) _).trans (hb2.mono (by simp))
         have HG2:=Lib.hid (Keeps.keeps (F:=Given) hb2 HG.out);go_wp2_with fail;go_ret
         exact ⟨by rw [HC.out];simp [K7],hb2⟩
        ·cases pz
         ·have q7:=Co9 h7
          have q7p:=Ff9 h1 h7;cases t2
          ·go_enter Tryz.func43,Tryz.ntmps43
           go_wp2_with (go_at_call 77;refine (L8 (by assumption) _).mono ?_;rintro e w' ⟨rfl,rfl⟩)
           refine (Ae9 _ _ (Keeps.keeps (F:=Given) (Later.alloc w _) HG.out) hs1 HT1.out).mono ?_;rintro e w2 ⟨rfl,hb2⟩;obtain ⟨hc,hf⟩:=F7 hb2;have hz : w.heap.size < w2.heap.size:=by have:=hb2.size;simp at this;omega
           replace hb2 : Below w.heap.size w w2:=((Below.refl _ _).alloc (Nat.le_refl _) _).trans (hb2.mono (by simp))
           have HG2:=Lib.hid (Keeps.keeps (F:=Given) hb2 HG.out);go_wp2_with fail;refine (Ae9 _ _ HG2.out hs2 HT2.out).mono ?_;rintro e w3 ⟨rfl,hb3⟩;obtain ⟨hc3,hf3⟩:=F7 hb3;replace hb3 : Below w.heap.size w w3:=Later.trans hb2 hb3;go_wp2_with fail;go_ret
           exact ⟨by rw [HC.out];simp [K7],hb3⟩
          ·cases pg
           ·have q8 : ¬ k.gen < k.pGen:=of_decide_eq_false h8
            go_enter Tryz.func43,Tryz.ntmps43
            go_wp2_with (go_at_call 77;refine (L8 (by assumption) _).mono ?_;rintro e w' ⟨rfl,rfl⟩)
            refine (Ae9 _ _ (Keeps.keeps (F:=Given) (Later.alloc w _) HG.out) hs1 HT1.out).mono ?_;rintro e w2 ⟨rfl,hb2⟩;obtain ⟨hc,hf⟩:=F7 hb2;have hz : w.heap.size < w2.heap.size:=by have:=hb2.size;simp at this;omega
            replace hb2 : Below w.heap.size w w2:=((Below.refl _ _).alloc (Nat.le_refl _) _).trans (hb2.mono (by simp))
            have HG2:=Lib.hid (Keeps.keeps (F:=Given) hb2 HG.out);go_wp2_with fail;refine (Ae9 _ _ HG2.out hs2 HT2.out).mono ?_;rintro e w3 ⟨rfl,hb3⟩;obtain ⟨hc3,hf3⟩:=F7 hb3;replace hb3 : Below w.heap.size w w3:=Later.trans hb2 hb3;go_wp2_with fail;go_ret
            exact ⟨by rw [HC.out];simp [K7],hb3⟩
           ·have q8 : k.gen < k.pGen:=of_decide_eq_true h8
            go_enter Tryz.func43,Tryz.ntmps43
            go_wp2_with (go_at_call 77;refine (L8 (by assumption) _).mono ?_;rintro e w' ⟨rfl,rfl⟩)
            refine (Ae9 _ _ (Keeps.keeps (F:=Given) (Later.alloc w _) HG.out) hs1 HT1.out).mono ?_;rintro e w2 ⟨rfl,hb2⟩;obtain ⟨hc,hf⟩:=F7 hb2;have hz : w.heap.size < w2.heap.size:=by have:=hb2.size;simp at this;omega
            replace hb2 : Below w.heap.size w w2:=((Below.refl _ _).alloc (Nat.le_refl _) _).trans (hb2.mono (by simp))
            have HG2:=Lib.hid (Keeps.keeps (F:=Given) hb2 HG.out);go_wp2_with fail;refine (Ae9 _ _ HG2.out hs2 HT2.out).mono ?_;rintro e w3 ⟨rfl,hb3⟩;obtain ⟨hc3,hf3⟩:=F7 hb3;replace hb3 : Below w.heap.size w w3:=Later.trans hb2 hb3;go_wp2_with fail;go_ret
            exact ⟨by rw [HC.out];simp [K7],hb3⟩
         ·have q7:=Bo9 h7
          cases n2
          ·go_enter Tryz.func43,Tryz.ntmps43
           go_wp2_with (go_at_call 77;refine (L8 (by assumption) _).mono ?_;rintro e w' ⟨rfl,rfl⟩)
           refine (Ae9 _ _ (Keeps.keeps (F:=Given) (Later.alloc w _) HG.out) hs1 HT1.out).mono ?_;rintro e w2 ⟨rfl,hb2⟩;obtain ⟨hc,hf⟩:=F7 hb2;have hz : w.heap.size < w2.heap.size:=by have:=hb2.size;simp at this;omega
           replace hb2 : Below w.heap.size w w2:=((Below.refl _ _).alloc (Nat.le_refl _) _).trans (hb2.mono (by simp))
           have HG2:=Lib.hid (Keeps.keeps (F:=Given) hb2 HG.out);go_wp2_with fail;refine (Ab9 _ _ HN2.out).mono ?_;rintro e w3 ⟨rfl,hb3⟩;obtain ⟨hc3,hf3⟩:=F7 hb3;replace hb3 : Below w.heap.size w w3:=Later.trans hb2 hb3;go_wp2_with fail;go_ret
           exact ⟨by rw [HC.out];simp [K7],hb3⟩
          ·go_enter Tryz.func43,Tryz.ntmps43
           go_wp2_with (go_at_call 77;refine (L8 (by assumption) _).mono ?_;rintro e w' ⟨rfl,rfl⟩)
           refine (Ae9 _ _ (Keeps.keeps (F:=Given) (Later.alloc w _) HG.out) hs1 HT1.out).mono ?_;rintro e w2 ⟨rfl,hb2⟩;obtain ⟨hc,hf⟩:=F7 hb2;have hz : w.heap.size < w2.heap.size:=by have:=hb2.size;simp at this;omega
           replace hb2 : Below w.heap.size w w2:=((Below.refl _ _).alloc (Nat.le_refl _) _).trans (hb2.mono (by simp))
           have HG2:=Lib.hid (Keeps.keeps (F:=Given) hb2 HG.out);go_wp2_with fail;refine (Ab9 _ _ HN2.out).mono ?_;rintro e w3 ⟨rfl,hb3⟩;obtain ⟨hc3,hf3⟩:=F7 hb3;replace hb3 : Below w.heap.size w w3:=Later.trans hb2 hb3;go_wp2_with fail;go_ret
           exact ⟨by rw [HC.out];simp [K7],hb3⟩
       ·have q6:=Bo9 h6
        cases n1
        ·obtain ⟨e1,e2⟩:=Fo9 HN1.out
         go_enter Tryz.func43,Tryz.ntmps43
         go_wp2_with (go_at_call 77;refine (L8 (by assumption) _).mono ?_;rintro e w' ⟨rfl,rfl⟩)
         refine (Ab9 _ _ HN1.out).mono ?_;rintro e w2 ⟨rfl,hb2⟩;obtain ⟨hc,hf⟩:=F7 hb2;have hz : w.heap.size < w2.heap.size:=by have:=hb2.size;simp at this;omega
         replace hb2 : Below w.heap.size w w2:=((Below.refl _ _).alloc (Nat.le_refl _) _).trans (hb2.mono (by simp))
         have HG2:=Lib.hid (Keeps.keeps (F:=Given) hb2 HG.out);go_wp2_with fail;go_ret
         exact ⟨by rw [HC.out];simp [K7],hb2⟩
        ·have HX:=Ed9 HN1.out
         clear HX;have q6p : ¬ 0 < k.gen:=by simp at h6;omega
         cases pz
         ·have q7:=Co9 h7
          have q7p:=Ff9 h1 h7;cases t2
          ·go_enter Tryz.func43,Tryz.ntmps43
           go_wp2_with (go_at_call 77;refine (L8 (by assumption) _).mono ?_;rintro e w' ⟨rfl,rfl⟩)
           refine (Ab9 _ _ HN1.out).mono ?_;rintro e w2 ⟨rfl,hb2⟩;obtain ⟨hc,hf⟩:=F7 hb2;have hz : w.heap.size < w2.heap.size:=by have:=hb2.size;simp at this;omega
           replace hb2 : Below w.heap.size w w2:=((Below.refl _ _).alloc (Nat.le_refl _) _).trans (hb2.mono (by simp))
           have HG2:=Lib.hid (Keeps.keeps (F:=Given) hb2 HG.out);go_wp2_with fail;refine (Ae9 _ _ HG2.out hs2 HT2.out).mono ?_;rintro e w3 ⟨rfl,hb3⟩;obtain ⟨hc3,hf3⟩:=F7 hb3;replace hb3 : Below w.heap.size w w3:=Later.trans hb2 hb3;go_wp2_with fail;go_ret
           exact ⟨by rw [HC.out];simp [K7],hb3⟩
          ·cases pg
           ·have q8 : ¬ k.gen < k.pGen:=of_decide_eq_false h8
            exact absurd q7p (by simp at h6;omega)
           ·have q8 : k.gen < k.pGen:=of_decide_eq_true h8
            go_enter Tryz.func43,Tryz.ntmps43
            go_wp2_with (go_at_call 77;refine (L8 (by assumption) _).mono ?_;rintro e w' ⟨rfl,rfl⟩)
            refine (Ab9 _ _ HN1.out).mono ?_;rintro e w2 ⟨rfl,hb2⟩;obtain ⟨hc,hf⟩:=F7 hb2;have hz : w.heap.size < w2.heap.size:=by have:=hb2.size;simp at this;omega
            replace hb2 : Below w.heap.size w w2:=((Below.refl _ _).alloc (Nat.le_refl _) _).trans (hb2.mono (by simp))
            have HG2:=Lib.hid (Keeps.keeps (F:=Given) hb2 HG.out);go_wp2_with fail;refine (Ae9 _ _ HG2.out hs2 HT2.out).mono ?_;rintro e w3 ⟨rfl,hb3⟩;obtain ⟨hc3,hf3⟩:=F7 hb3;replace hb3 : Below w.heap.size w w3:=Later.trans hb2 hb3;go_wp2_with fail;go_ret
            exact ⟨by rw [HC.out];simp [K7],hb3⟩
         ·have q7:=Bo9 h7
          cases n2
          ·go_enter Tryz.func43,Tryz.ntmps43
           go_wp2_with (go_at_call 77;refine (L8 (by assumption) _).mono ?_;rintro e w' ⟨rfl,rfl⟩)
           refine (Ab9 _ _ HN1.out).mono ?_;rintro e w2 ⟨rfl,hb2⟩;obtain ⟨hc,hf⟩:=F7 hb2;have hz : w.heap.size < w2.heap.size:=by have:=hb2.size;simp at this;omega
           replace hb2 : Below w.heap.size w w2:=((Below.refl _ _).alloc (Nat.le_refl _) _).trans (hb2.mono (by simp))
           have HG2:=Lib.hid (Keeps.keeps (F:=Given) hb2 HG.out);go_wp2_with fail;refine (Ab9 _ _ HN2.out).mono ?_;rintro e w3 ⟨rfl,hb3⟩;obtain ⟨hc3,hf3⟩:=F7 hb3;replace hb3 : Below w.heap.size w w3:=Later.trans hb2 hb3;go_wp2_with fail;go_ret
           exact ⟨by rw [HC.out];simp [K7],hb3⟩
          ·go_enter Tryz.func43,Tryz.ntmps43
           go_wp2_with (go_at_call 77;refine (L8 (by assumption) _).mono ?_;rintro e w' ⟨rfl,rfl⟩)
           refine (Ab9 _ _ HN1.out).mono ?_;rintro e w2 ⟨rfl,hb2⟩;obtain ⟨hc,hf⟩:=F7 hb2;have hz : w.heap.size < w2.heap.size:=by have:=hb2.size;simp at this;omega
           replace hb2 : Below w.heap.size w w2:=((Below.refl _ _).alloc (Nat.le_refl _) _).trans (hb2.mono (by simp))
           have HG2:=Lib.hid (Keeps.keeps (F:=Given) hb2 HG.out);go_wp2_with fail;refine (Ab9 _ _ HN2.out).mono ?_;rintro e w3 ⟨rfl,hb3⟩;obtain ⟨hc3,hf3⟩:=F7 hb3;replace hb3 : Below w.heap.size w w3:=Later.trans hb2 hb3;go_wp2_with fail;go_ret
           exact ⟨by rw [HC.out];simp [K7],hb3⟩
end Go.Proofs.YthpkdjflndiojaaGreatDoor
