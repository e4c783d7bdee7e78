/- Lists of frames compared. (Out of gen_framesread.py.) -/
import Derived.Test.YtlenidiijiinjaaLFrame
import Derived.Test.YtlenidiijiinjaaLexG
namespace Go.Proofs.Ytlenidiijiinjaa
open Go.RowKit
set_option linter.unusedVariables false

set_option maxRecDepth 100000 in
set_option maxHeartbeats 4000000 in
theorem sameFrames_same (A B : Option Addr) (c d : Nat) (xs : List Fr) (w : World) (h : FrAt w A xs) (h' : FrAt w B xs) (hn : xs.length ≤ 1048576) :
    Calls Try.prog 16 #[.slice A xs.length c, .slice B xs.length d] w fun e w' => e = .returned (.bool true) ∧ Below w.heap.size w w' := by
  have hnn : ((xs.length : Int) != (xs.length : Int)) = false := by simp
  have S : All (fun w' => Below w.heap.size w w' ∧ FrAt w' A xs ∧ FrAt w' B xs) w := ⟨Below.refl _ _, h, h'⟩
  clear h h'
  go_enter Try.func16, Try.ntmps16
  go_wp2
  go_loopw [5] (fun i wr => ∃ k : Nat, k ≤ xs.length ∧ i = .int .i64 k ∧ All (fun w' => Below w.heap.size w w' ∧ FrAt w' A xs ∧ FrAt w' B xs) wr) (fun i _ => xs.length - (intOf i).toNat)
  case atStart => exact ⟨0, by omega, rfl, S⟩
  case round =>
    obtain ⟨k, hk, rfl, S2⟩ := hrel
    clear S
    by_cases hlt : k < xs.length
    · obtain ⟨b, off, x, rfl, hbl, hx, c0, c1, c2⟩ := frS_elem S2.out.2.1 hlt
      obtain ⟨b', off', x', rfl, hbl', hx', c0', c1', c2'⟩ := frS_elem S2.out.2.2 hlt
      obtain rfl : x = x' := by rw [hx] at hx'; injection hx'
      clear hx hx'
      have i1 : (0 : Int) ≤ (k : Int) := by omega
      have i2 : (k : Int) < (xs.length : Int) := by omega
      have G1 := fun a b w => fr_guard .neq a b x x w
      have G2 := fun w => fr_equal x x w
      rw [frEqB_self] at G2
      unfold frC at G1 G2
      have T : All (fun w' => (Below w.heap.size w w' ∧ FrAt w' (some ⟨b, off, none⟩) xs ∧ FrAt w' (some ⟨b', off', none⟩) xs) ∧ ((w'.cell? ⟨b, off + k * 3, none⟩ = some (.int .i64 x.k) ∧ w'.cell? ⟨b, off + k * 3 + 1, none⟩ = some (.string x.s) ∧ w'.cell? ⟨b, off + k * 3 + 2, none⟩ = some (.int .i64 x.st)) ∧ (w'.cell? ⟨b', off' + k * 3, none⟩ = some (.int .i64 x.k) ∧ w'.cell? ⟨b', off' + k * 3 + 1, none⟩ = some (.string x.s) ∧ w'.cell? ⟨b', off' + k * 3 + 2, none⟩ = some (.int .i64 x.st)))) wr := ⟨S2.out, ⟨c0, c1, c2⟩, c0', c1', c2'⟩
      clear S2 c0 c1 c2 c0' c1' c2'
      go_upto_region 6 with (fail)
      refine wp_region_open 100 (fun w' => (w'.cell? ⟨b, off + k * 3, none⟩ = some (.int .i64 x.k) ∧ w'.cell? ⟨b, off + k * 3 + 1, none⟩ = some (.string x.s) ∧ w'.cell? ⟨b, off + k * 3 + 2, none⟩ = some (.int .i64 x.st)) ∧ (w'.cell? ⟨b', off' + k * 3, none⟩ = some (.int .i64 x.k) ∧ w'.cell? ⟨b', off' + k * 3 + 1, none⟩ = some (.string x.s) ∧ w'.cell? ⟨b', off' + k * 3 + 2, none⟩ = some (.int .i64 x.st))) (by kernel_rfl) ?_
      replace T := T.drew
      refine wpAnyL_readsG [0, 1, 2, 3, 4, 5, 6, 7] (fuel := 1) (by kernel_rfl) T.out.2 ?_
      refine LexRG.yes rfl (by first | rfl | (simp [Region.wanted, yielded]; done)) ?_ (fun w' hw => ?_) ?_
      rotate_left
      focus (clear hw; go_simp; (try exact rfl))
      try go_frame
      refine LexRG.yes rfl (by first | rfl | (simp [Region.wanted, yielded]; done)) ?_ (fun w' hw => ?_) ?_
      rotate_left
      focus (clear hw; go_simp; (try exact rfl))
      try go_frame
      refine LexRG.yes rfl (by first | rfl | (simp [Region.wanted, yielded]; done)) ?_ (fun w' hw => ?_) ?_
      rotate_left
      focus (clear hw; go_simp; (try exact rfl))
      try go_frame
      refine LexRG.yes rfl (by first | rfl | (simp [Region.wanted, yielded]; done)) ?_ (fun w' hw => ?_) ?_
      rotate_left
      focus (have hw2 := hw; obtain ⟨⟨c0, c1, c2⟩, c0', c1', c2'⟩ := hw2; clear hw; go_simp; (try exact rfl))
      try go_frame
      refine LexRG.yes rfl (by first | rfl | (simp [Region.wanted, yielded]; done)) ?_ (fun w' hw => ?_) ?_
      rotate_left
      focus (clear hw; go_simp; (try exact rfl))
      try go_frame
      refine LexRG.yes rfl (by first | rfl | (simp [Region.wanted, yielded]; done)) ?_ (fun w' hw => ?_) ?_
      rotate_left
      focus (clear hw; go_simp; (try exact rfl))
      try go_frame
      refine LexRG.yes rfl (by first | rfl | (simp [Region.wanted, yielded]; done)) ?_ (fun w' hw => ?_) ?_
      rotate_left
      focus (clear hw; go_simp; (try exact rfl))
      try go_frame
      refine LexRG.yes rfl (by first | rfl | (simp [Region.wanted, yielded]; done)) ?_ (fun w' hw => ?_) ?_
      rotate_left
      focus (have hw2 := hw; obtain ⟨⟨c0, c1, c2⟩, c0', c1', c2'⟩ := hw2; clear hw; go_simp; (try exact rfl))
      try go_frame
      refine LexRG.nil ?_
      refine wpAnyL_writes [8] (by kernel_rfl) (LexW.cons rfl ?_)
      try go_frame
      go_wp2_with fail
      refine ⟨fun _ => T.out.2, LexW.nil ?_⟩
      have S3 := T.out.1
      clear T
      go_wp2_with fail
      go_roundw
      case rel => exact ⟨k + 1, by omega, by go_num, ⟨S3⟩⟩
      case measure => simp [intOf]; omega
    · have he : k = xs.length := by omega
      subst he
      go_wp2
      go_ret
      exact ⟨rfl, S2.out.1⟩

end Go.Proofs.Ytlenidiijiinjaa
