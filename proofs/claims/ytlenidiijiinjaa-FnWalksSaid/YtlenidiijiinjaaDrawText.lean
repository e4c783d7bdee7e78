/- A text that is drawn. -/
import Derived.Test.YtlenidiijiinjaaDrawMore
namespace Go.Proofs.Ytlenidiijiinjaa
open Go.RowKit
set_option maxRecDepth 100000

theorem size_snoc (s : ByteArray) (b : UInt8) : (s ++ (⟨#[b]⟩ : ByteArray)).size = s.size + 1 := by
  rw [ByteArray.size_append]; rfl

set_option maxHeartbeats 1000000 in
/-- A text, short or long. -/
theorem l1Text_any (lo g : Nat) (A : Option Addr) (n c : Nat) (code : List UInt8) (w : World) (h : Cur w lo g A n c code) (hn : n ≤ 140737488351232) :
    Calls Try.prog 35 #[.pointer (some ⟨g, 0, none⟩)] w fun e w' => ∃ s : ByteArray, s.size ≤ 101 ∧ e = .returned (.string s) ∧ Cur w' lo g A n c code ∧ w.grownBy w' (some g) := by
  go_enter Try.func35, Try.ntmps35
  go_wp2_with fail
  refine (l1Once_any lo g A n c code 8 w h hn (by omega) (by omega)).mono ?_
  rintro e w1 ⟨b, rfl, hc1, hg1⟩
  cases b
  · go_wp2_with fail
    refine (l1Str_any lo g w1.heap.size A n c code [⟨#[]⟩, ⟨#[97]⟩, ⟨#[104, 101, 108, 108, 111]⟩, ⟨#[98, 101, 103, 105, 110]⟩, ⟨#[97, 32, 98]⟩, ⟨#[127]⟩, ⟨#[31]⟩, ⟨#[126]⟩] _ (hc1.alloc _) hn (by decide) (by decide) (heap_alloc_new w1 _) (by have := hc1.lt; omega)).mono ?_
    rintro e w2 ⟨s, hs, rfl, hc2, hg2⟩
    have hsz : s.size ≤ 101 := by
      simp only [List.mem_cons, List.not_mem_nil, or_false] at hs
      rcases hs with rfl | rfl | rfl | rfl | rfl | rfl | rfl | rfl <;> decide
    have HS := Lib.hid hsz
    clear hs hsz
    go_wp2_with fail
    go_ret
    exact ⟨s, HS.out, rfl, hc2, hg1.trans ((World.grownBy_alloc w1 _ _).trans hg2)⟩
  · go_wp2_with fail
    go_loopw [3] (fun v wr => ∃ s : ByteArray, s.size ≤ 101 ∧ v = .string s ∧ Cur wr lo g A n c code ∧ w.grownBy wr (some g)) (fun v _ => match v with | .string s => 102 - s.size | _ => 0)
    case atStart => exact ⟨⟨#[]⟩, by decide, rfl, hc1, hg1⟩
    case round =>
      obtain ⟨s, hsz, rfl, hc, hg⟩ := hrel
      clear hc1 hg1
      go_wp2_with fail
      refine (l1Int_any lo g wr.heap.size A n c code [100, 101, 60] _ (hc.alloc _) hn (by decide) (by decide) (heap_alloc_new wr _) (by have := hc.lt; omega)).mono ?_
      rintro e w2 ⟨z, hz, rfl, hc2, hg2⟩
      have hz2 : z ≤ 101 := by
        simp only [List.mem_cons, List.not_mem_nil, or_false] at hz
        omega
      have hgg : w.grownBy w2 (some g) := hg.trans ((World.grownBy_alloc wr _ _).trans hg2)
      clear hz hg hg2 hc
      by_cases hlt : (s.size : Int) < z
      · have hss := size_snoc s 120
        have HSS := Lib.hid hss
        clear hss
        go_wp2
        refine ⟨⟨s ++ ⟨#[120]⟩, by rw [HSS.out]; omega, rfl, hc2, hgg⟩, ?_⟩
        show 102 - (s ++ (⟨#[120]⟩ : ByteArray)).size < 102 - s.size
        rw [HSS.out]
        omega
      · go_wp2
        go_ret
        exact ⟨s, hsz, rfl, hc2, hgg⟩

end Go.Proofs.Ytlenidiijiinjaa
