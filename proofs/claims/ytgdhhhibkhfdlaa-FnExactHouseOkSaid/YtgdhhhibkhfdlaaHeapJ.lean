/- The heap of waiting clients: push and pop; the next one; all of them. -/
import Derived.Test.YtgdhhhibkhfdlaaHeapI
namespace Go.Proofs.Ytgdhhhibkhfdlaa
open Go.RowKit HeapP
set_option linter.unusedVariables false
set_option maxRecDepth 100000

/-- The heap holds the places R, in their order. -/
def HpQ (w : World) (g : Nat) (A : Option Addr) (c : Nat) (xs : List Ak) (B : Option Addr) (R : List Nat) (m : Nat) : Prop := ∃ d P, Hq w g A c xs B d P ∧ Hs (ltA xs) P R ∧ P.length = m
def UpQ (w : World) (g : Nat) (A : Option Addr) (c : Nat) (xs : List Ak) (B : Option Addr) (d : Nat) (R : List Nat) (n j : Nat) : Prop := ∃ P, Hq w g A c xs B d P ∧ Us (ltA xs) P R j ∧ P.length = n ∧ j < n

set_option maxHeartbeats 4000000 in
theorem up_any {w : World} {g : Nat} {A : Option Addr} {c : Nat} {xs : List Ak} {B : Option Addr} {d : Nat} {P R : List Nat} (h : Hq w g A c xs B d P) (j : Nat) (hj : j < P.length) (hu : Us (ltA xs) P R j) :
    Calls Try.prog 195 #[.iface 151 (.pointer (some ⟨g, 0, none⟩)), .int .i64 j] w (fun e w' => e = .returned (.tuple #[]) ∧ HpQ w' g A c xs B R P.length ∧ Mv w w' g B B) := by
  have HL := Lib.hid h.plen
  have HU : Hid (UpQ w g A c xs B d R P.length j) := Lib.hid ⟨P, h, hu, rfl, hj⟩
  have HM := Lib.hid (Mv.refl w g B)
  clear h hu
  go_enter Try.func195, Try.ntmps195
  go_wp2_with fail
  go_loopw [1] (fun i wr => ∃ k : Nat, i = .int .i64 k ∧ Hid (UpQ wr g A c xs B d R P.length k) ∧ Hid (Mv w wr g B B)) (fun i _ => (intOf i).toNat)
  case atStart => exact ⟨j, rfl, HU, HM⟩
  case round =>
    obtain ⟨k, rfl, HQ, HO⟩ := hrel
    obtain ⟨Q, hq, hus, hl, hk⟩ := HQ.out
    have hpl := HL.out
    have hk2 : k ≤ 1048576 := by omega
    clear HQ HU HM hj hpl
    by_cases k0 : k = 0
    · subst k0
      have HE := Lib.hid (show HpQ wr g A c xs B R P.length from ⟨d, Q, hq, hus.done (.inl rfl), hl⟩)
      clear hq hus hl hk
      go_wp2_with fail
      go_end0
      exact ⟨rfl, HE.out, HO.out⟩
    · obtain ⟨m, rfl⟩ : ∃ m, k = m + 1 := ⟨k - 1, by omega⟩
      clear k0
      obtain ⟨p, hp⟩ : ∃ p, m / 2 = p := ⟨_, rfl⟩
      have hpm : p < m + 1 := by omega
      have e1 : (m + 1 - 1) / 2 = p := by omega
      have hne : ((m : Int) / 2 == (m : Int) + 1) = false := by simp; omega
      have hpi : (m : Int) / 2 = (p : Int) := by omega
      have HP := Lib.hid e1
      have HI := Lib.hid hpi
      clear hp e1 hpi
      have hus2 := Lib.hid hus
      have hl2 := Lib.hid hl
      clear hus hl
      have hL := less_any hq (m + 1) p (by have := hl2.out; omega) (by have := hl2.out; omega)
      rw [Int.natCast_add, Int.natCast_one] at hL
      go_wp2_with fail
      rw [HI.out]
      refine hL.mono ?_
      clear hL
      obtain ⟨y, hy⟩ : ∃ y, ltA xs (nth Q (m + 1)) (nth Q p) = y := ⟨_, rfl⟩
      rw [hy]
      have HY := Lib.hid hy
      clear hy
      rintro e w' ⟨rfl, n, rfl⟩
      replace hq := hq.drewN n
      replace HO := Lib.hid (HO.out.drewN n)
      generalize wr.drewN n = W2 at hq HO ⊢
      cases y
      · have HE := Lib.hid (show HpQ W2 g A c xs B R P.length from ⟨d, Q, hq, hus2.out.done (.inr (by rw [HP.out]; exact HY.out)), hl2.out⟩)
        clear hq
        go_wp2_with fail
        go_end0
        exact ⟨rfl, HE.out, HO.out⟩
      · have hS := swap_any hq p (m + 1) (by have := hl2.out; omega) (by have := hl2.out; omega)
        rw [Int.natCast_add, Int.natCast_one] at hS
        have HE := Lib.hid (hus2.out.step (ordA xs) (by have := hl2.out; omega) (by omega) (by rw [HP.out]; exact HY.out))
        rw [HP.out] at HE
        clear hq
        go_wp2_with fail
        refine hS.mono ?_
        clear hS
        rintro e w' ⟨rfl, hq, hmv⟩
        have HQ3 : Hid (UpQ w' g A c xs B d R P.length p) := Lib.hid ⟨_, hq, HE.out, by rw [swp_length]; exact hl2.out, by omega⟩
        have HO3 := Lib.hid (HO.out.trans hmv)
        clear hq hmv HO HE
        go_wp2_with fail
        go_roundw
        case rel => exact ⟨p, rfl, HQ3, HO3⟩
        case measure => simp [intOf]; omega

def DnQ (w : World) (g : Nat) (A : Option Addr) (c : Nat) (xs : List Ak) (B : Option Addr) (d : Nat) (R : List Nat) (x n i : Nat) : Prop := ∃ P, Hq w g A c xs B d P ∧ Ds (ltA xs) P R i n x
/-- What down leaves: the first n are a heap, x stands behind them. -/
def DnE (w : World) (g : Nat) (A : Option Addr) (c : Nat) (xs : List Ak) (B : Option Addr) (R : List Nat) (x n : Nat) : Prop := ∃ d P, Hq w g A c xs B d P ∧ P.length = n + 1 ∧ nth P n = x ∧ Hs (ltA xs) (P.take n) R

set_option maxHeartbeats 4000000 in
theorem down_any {w : World} {g : Nat} {A : Option Addr} {c : Nat} {xs : List Ak} {B : Option Addr} {d x n : Nat} {P R : List Nat} (h : Hq w g A c xs B d P) (hu : Ds (ltA xs) P R 0 n x) :
    Calls Try.prog 196 #[.iface 151 (.pointer (some ⟨g, 0, none⟩)), .int .i64 0, .int .i64 n] w (fun e w' => (∃ b : Bool, e = .returned (.bool b)) ∧ DnE w' g A c xs B R x n ∧ Mv w w' g B B) := by
  have hn : n + 1 ≤ 1048576 := by have := h.plen; have := hu.len; omega
  have HU : Hid (DnQ w g A c xs B d R x n 0) := Lib.hid ⟨P, h, hu⟩
  have HM := Lib.hid (Mv.refl w g B)
  clear h hu
  go_enter Try.func196, Try.ntmps196
  go_wp2_with fail
  go_loopw [7] (fun i wr => ∃ k : Nat, i = .int .i64 k ∧ (k = 0 ∨ k < n) ∧ Hid (DnQ wr g A c xs B d R x n k) ∧ Hid (Mv w wr g B B)) (fun i _ => n - (intOf i).toNat)
  case atStart => exact ⟨0, rfl, .inl rfl, HU, HM⟩
  case round =>
    obtain ⟨k, rfl, hkn, HQ, HO⟩ := hrel
    obtain ⟨Q, hq, hds⟩ := HQ.out
    clear HQ HU HM
    have hk2 : k ≤ 1048576 := by omega
    clear hkn
    by_cases h1 : n ≤ 2 * k + 1
    · have HE := Lib.hid (show DnE wr g A c xs B R x n from ⟨d, Q, hq, hds.len, hds.last, hds.done (fun y y0 yn hy => by omega)⟩)
      clear hq hds
      have t1 : decide ((n : Int) ≤ 2 * (k : Int) + 1) = true := by simp; omega
      go_wp2_with fail
      go_ret
      exact ⟨⟨_, rfl⟩, HE.out, HO.out⟩
    · have t1 : decide ((n : Int) ≤ 2 * (k : Int) + 1) = false := by simp; omega
      have t2 : decide (2 * (k : Int) + 1 < 0) = false := by simp; omega
      by_cases h2 : 2 * k + 2 < n
      · have t3 : decide (2 * (k : Int) + 1 + 1 < (n : Int)) = true := by simp; omega
        have hL := less_any hq (2 * k + 1 + 1) (2 * k + 1) (by have := hds.len; omega) (by have := hds.len; omega)
        rw [show ((2 * k + 1 + 1 : Nat) : Int) = 2 * (k : Int) + 1 + 1 from by omega, show ((2 * k + 1 : Nat) : Int) = 2 * (k : Int) + 1 from by omega] at hL
        go_wp2_with fail
        refine hL.mono ?_
        clear hL
        obtain ⟨y, hy⟩ : ∃ y, ltA xs (nth Q (2 * k + 1 + 1)) (nth Q (2 * k + 1)) = y := ⟨_, rfl⟩
        rw [hy]
        have HY := Lib.hid hy
        clear hy
        rintro e w' ⟨rfl, m, rfl⟩
        replace hq := hq.drewN m
        replace HO := Lib.hid (HO.out.drewN m)
        generalize wr.drewN m = W2 at hq HO ⊢
        cases y
        · skip
          have HJ := Lib.hid (show 0 < 2 * k + 1 ∧ 2 * k + 1 < n ∧ (2 * k + 1 - 1) / 2 = k ∧ ∀ y, 0 < y → y < n → (y - 1) / 2 = k → ltA xs (nth Q y) (nth Q (2 * k + 1)) = false from ⟨by omega, by omega, by omega, fun y y0 yn hy => by
            rcases (show y = 2 * k + 1 ∨ y = 2 * k + 1 + 1 by omega) with rfl | rfl
            · exact (ordA xs).irr _
            · exact HY.out⟩)
          have hL := less_any hq (2 * k + 1) k (by have := hds.len; omega) (by have := hds.len; omega)
          rw [show ((2 * k + 1 : Nat) : Int) = 2 * (k : Int) + 1 from by omega] at hL
          go_wp2_with fail
          refine hL.mono ?_
          clear hL
          obtain ⟨z, hz⟩ : ∃ z, ltA xs (nth Q (2 * k + 1)) (nth Q k) = z := ⟨_, rfl⟩
          rw [hz]
          have HZ := Lib.hid hz
          clear hz
          rintro e w' ⟨rfl, m, rfl⟩
          replace hq := hq.drewN m
          replace HO := Lib.hid (HO.out.drewN m)
          generalize World.drewN _ m = W3 at hq HO ⊢
          cases z
          · have HE := Lib.hid (show DnE W3 g A c xs B R x n from ⟨d, Q, hq, hds.len, hds.last, hds.done (fun y y0 yn hy => (ordA xs).nl HZ.out (HJ.out.2.2.2 y y0 yn hy))⟩)
            clear hq hds
            go_wp2_with fail
            go_ret
            exact ⟨⟨_, rfl⟩, HE.out, HO.out⟩
          · have hS := swap_any hq k (2 * k + 1) (by have := hds.len; omega) (by have := hds.len; omega)
            rw [show ((2 * k + 1 : Nat) : Int) = 2 * (k : Int) + 1 from by omega] at hS
            have HE := Lib.hid (hds.step (ordA xs) HJ.out.1 HJ.out.2.1 HJ.out.2.2.1 HJ.out.2.2.2 HZ.out)
            clear hq hds
            go_wp2_with fail
            refine hS.mono ?_
            clear hS
            rintro e w' ⟨rfl, hq, hmv⟩
            have HQ3 : Hid (DnQ w' g A c xs B d R x n (2 * k + 1)) := Lib.hid ⟨_, hq, HE.out⟩
            have HO3 := Lib.hid (HO.out.trans hmv)
            have hjn := HJ.out.2.1
            clear hq hmv HO HE HJ HZ
            go_wp2_with fail
            go_roundw
            case rel => exact ⟨2 * k + 1, by go_num, .inr hjn, HQ3, HO3⟩
            case measure => simp [intOf]; omega
        · skip
          have HJ := Lib.hid (show 0 < 2 * k + 1 + 1 ∧ 2 * k + 1 + 1 < n ∧ (2 * k + 1 + 1 - 1) / 2 = k ∧ ∀ y, 0 < y → y < n → (y - 1) / 2 = k → ltA xs (nth Q y) (nth Q (2 * k + 1 + 1)) = false from ⟨by omega, by omega, by omega, fun y y0 yn hy => by
            rcases (show y = 2 * k + 1 ∨ y = 2 * k + 1 + 1 by omega) with rfl | rfl
            · exact (ordA xs).asym HY.out
            · exact (ordA xs).irr _⟩)
          have hL := less_any hq (2 * k + 1 + 1) k (by have := hds.len; omega) (by have := hds.len; omega)
          rw [show ((2 * k + 1 + 1 : Nat) : Int) = 2 * (k : Int) + 1 + 1 from by omega] at hL
          go_wp2_with fail
          refine hL.mono ?_
          clear hL
          obtain ⟨z, hz⟩ : ∃ z, ltA xs (nth Q (2 * k + 1 + 1)) (nth Q k) = z := ⟨_, rfl⟩
          rw [hz]
          have HZ := Lib.hid hz
          clear hz
          rintro e w' ⟨rfl, m, rfl⟩
          replace hq := hq.drewN m
          replace HO := Lib.hid (HO.out.drewN m)
          generalize World.drewN _ m = W3 at hq HO ⊢
          cases z
          · have HE := Lib.hid (show DnE W3 g A c xs B R x n from ⟨d, Q, hq, hds.len, hds.last, hds.done (fun y y0 yn hy => (ordA xs).nl HZ.out (HJ.out.2.2.2 y y0 yn hy))⟩)
            clear hq hds
            go_wp2_with fail
            go_ret
            exact ⟨⟨_, rfl⟩, HE.out, HO.out⟩
          · have hS := swap_any hq k (2 * k + 1 + 1) (by have := hds.len; omega) (by have := hds.len; omega)
            rw [show ((2 * k + 1 + 1 : Nat) : Int) = 2 * (k : Int) + 1 + 1 from by omega] at hS
            have HE := Lib.hid (hds.step (ordA xs) HJ.out.1 HJ.out.2.1 HJ.out.2.2.1 HJ.out.2.2.2 HZ.out)
            clear hq hds
            go_wp2_with fail
            refine hS.mono ?_
            clear hS
            rintro e w' ⟨rfl, hq, hmv⟩
            have HQ3 : Hid (DnQ w' g A c xs B d R x n (2 * k + 1 + 1)) := Lib.hid ⟨_, hq, HE.out⟩
            have HO3 := Lib.hid (HO.out.trans hmv)
            have hjn := HJ.out.2.1
            clear hq hmv HO HE HJ HZ
            go_wp2_with fail
            go_roundw
            case rel => exact ⟨2 * k + 1 + 1, by go_num, .inr hjn, HQ3, HO3⟩
            case measure => simp [intOf]; omega
      · have t3 : decide (2 * (k : Int) + 1 + 1 < (n : Int)) = false := by simp; omega
        have HJ := Lib.hid (show 0 < 2 * k + 1 ∧ 2 * k + 1 < n ∧ (2 * k + 1 - 1) / 2 = k ∧ ∀ y, 0 < y → y < n → (y - 1) / 2 = k → ltA xs (nth Q y) (nth Q (2 * k + 1)) = false from ⟨by omega, by omega, by omega, fun y y0 yn hy => by
          obtain rfl : y = 2 * k + 1 := by omega
          exact (ordA xs).irr _⟩)
        have hL := less_any hq (2 * k + 1) k (by have := hds.len; omega) (by have := hds.len; omega)
        rw [show ((2 * k + 1 : Nat) : Int) = 2 * (k : Int) + 1 from by omega] at hL
        go_wp2_with fail
        refine hL.mono ?_
        clear hL
        obtain ⟨z, hz⟩ : ∃ z, ltA xs (nth Q (2 * k + 1)) (nth Q k) = z := ⟨_, rfl⟩
        rw [hz]
        have HZ := Lib.hid hz
        clear hz
        rintro e w' ⟨rfl, m, rfl⟩
        replace hq := hq.drewN m
        replace HO := Lib.hid (HO.out.drewN m)
        generalize World.drewN _ m = W3 at hq HO ⊢
        cases z
        · have HE := Lib.hid (show DnE W3 g A c xs B R x n from ⟨d, Q, hq, hds.len, hds.last, hds.done (fun y y0 yn hy => (ordA xs).nl HZ.out (HJ.out.2.2.2 y y0 yn hy))⟩)
          clear hq hds
          go_wp2_with fail
          go_ret
          exact ⟨⟨_, rfl⟩, HE.out, HO.out⟩
        · have hS := swap_any hq k (2 * k + 1) (by have := hds.len; omega) (by have := hds.len; omega)
          rw [show ((2 * k + 1 : Nat) : Int) = 2 * (k : Int) + 1 from by omega] at hS
          have HE := Lib.hid (hds.step (ordA xs) HJ.out.1 HJ.out.2.1 HJ.out.2.2.1 HJ.out.2.2.2 HZ.out)
          clear hq hds
          go_wp2_with fail
          refine hS.mono ?_
          clear hS
          rintro e w' ⟨rfl, hq, hmv⟩
          have HQ3 : Hid (DnQ w' g A c xs B d R x n (2 * k + 1)) := Lib.hid ⟨_, hq, HE.out⟩
          have HO3 := Lib.hid (HO.out.trans hmv)
          have hjn := HJ.out.2.1
          clear hq hmv HO HE HJ HZ
          go_wp2_with fail
          go_roundw
          case rel => exact ⟨2 * k + 1, by go_num, .inr hjn, HQ3, HO3⟩
          case measure => simp [intOf]; omega

end Go.Proofs.Ytgdhhhibkhfdlaa
