/- The walk of FnSums: whatever is drawn, the checksum is the model's, a word, and turns with a byte. -/
import Derived.Test.YtocnenkfefidnaaBent
import Derived.Test.YtocnenkfefidnaaTurn
namespace Go.Proofs.Ytocnenkfefidnaa
open Go.RowKit

set_option maxRecDepth 100000 in
set_option maxHeartbeats 1000000 in
theorem walk_FnSums (a0 : Option Addr) (len0 cap0 : Nat) (z0 : List Int) (w : World) (w0 : IsRow .u8 w a0 len0 cap0 z0) :
    Calls Try.prog 3 #[.slice a0 len0 cap0] w fun e w' => e = .returned (.bool true) ∧ Below w.heap.size w w' := by
  obtain ⟨code, rfl, _, hr⟩ := w0.reads
  clear w0
  by_cases hbig : (1048576 : Int) < code.length
  · go_enter Try.func3, Try.ntmps3
    go_wp2
    go_ret
    exact ⟨rfl, Below.refl _ _⟩
  · have hn : code.length ≤ 1048576 := by omega
    go_enter Try.func3, Try.ntmps3
    go_wp2_with (first | (go_at_call 10; go_in) | fail)
    refine (drawSum_any a0 cap0 code w hr hn).mono ?_
    rintro e w1 ⟨v1, l, rfl, hown1, hl40, hb1⟩
    obtain ⟨A1, c1, rfl, _, _, hr1, _⟩ := hown1.shape
    have hlt := crc_lt l
    obtain ⟨s, hs⟩ : ∃ s, crc l = s := ⟨_, rfl⟩
    have HS := Lib.hid hs
    rw [hs] at hlt
    clear hs hown1
    have ns : ((s : Int) != (s : Int)) = false := by simp
    go_wp2_with fail
    refine (sum_any A1 c1 l w1 hr1 (by omega)).mono ?_
    rw [HS.out]
    rintro e w2 ⟨rfl, rfl⟩
    go_wp2_with fail
    refine (sumS_any A1 c1 l w1 hr1 (by omega)).mono ?_
    rw [HS.out]
    rintro e w2 ⟨rfl, rfl⟩
    by_cases h0 : l.length = 0
    · have hl : l = [] := List.eq_nil_of_length_eq_zero h0
      have hs5 : s = 65535 := by rw [← HS.out, hl]; rfl
      have e0 : ((l.length : Int) == 0) = true := by rw [h0]; rfl
      have e1 : ((s : Int) == 65535) = true := by rw [hs5]; rfl
      clear h0 hl hs5
      go_wp2_with fail
      go_ret
      exact ⟨rfl, hb1⟩
    · have hpos : 0 < l.length := by omega
      have e0 : ((l.length : Int) == 0) = false := by rw [beq_eq_false_iff_ne]; omega
      have e1 : (0 : Int) < (l.length : Int) := by omega
      go_wp2_with fail
      refine (bent_any a0 A1 cap0 c1 code l w1 ((hr.below hb1).more hb1.size) hr1 hn (by omega) hpos).mono ?_
      rintro e w3 ⟨v3, l', rfl, hturn, hown3, hb3⟩
      have hW3 : Below w.heap.size w w3 := hb1.trans (hb3.mono hb1.size)
      obtain ⟨i, b, b', hb, hne, rfl⟩ := hturn
      have hcrc := crc_set hb hne
      have hll : (l.set i b').length ≤ 40 := by simp; omega
      obtain ⟨L, hL⟩ : ∃ L, l.set i b' = L := ⟨_, rfl⟩
      rw [hL] at hcrc hll hown3
      obtain ⟨A3, c3, rfl, _, _, hr3, _⟩ := hown3.shape
      obtain ⟨t, ht⟩ : ∃ t, crc L = t := ⟨_, rfl⟩
      have HT := Lib.hid ht
      have nt : ((t : Int) != (s : Int)) = true := by
        rw [bne_iff_ne]
        intro e
        exact hcrc (by rw [ht, HS.out]; omega)
      clear hcrc ht hL hb hne hown3 hb3 h0
      go_wp2_with fail
      refine (sum_any A3 c3 L w3 hr3 (by omega)).mono ?_
      rw [HT.out]
      rintro e w4 ⟨rfl, rfl⟩
      go_wp2_with fail
      go_ret
      exact ⟨rfl, hW3⟩

end Go.Proofs.Ytocnenkfefidnaa
