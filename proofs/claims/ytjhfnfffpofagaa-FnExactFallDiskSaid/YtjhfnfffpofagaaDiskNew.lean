/- DiskNew, of the program and of the model. -/
import Derived.Test.YtjhfnfffpofagaaDiskHeld
namespace Go.Proofs.Ytjhfnfffpofagaa
open Go.RowKit
set_option linter.unusedVariables false

def diskNone : Disk := ⟨[], [], 0, false⟩
def diskNew (n : Int) : Disk := if 1 ≤ n ∧ n ≤ 40 then ⟨List.replicate n.toNat [], [], -1, false⟩ else diskNone

/-- A disk of the call's own comes back. -/
def RetDisk (w : World) (d : Disk) (e : Ending) (w' : World) : Prop := ∃ cs fp, e = .returned (.agg cs.toArray) ∧ diskR.own w' w.heap.size cs d fp ∧ Below w.heap.size w w'

theorem cache_nil (w : World) (base : Nat) : Rep.OwnRows wrR 42 w base (.slice none 0 0) [] [] := ⟨[], [], ⟨by simp, .inl ⟨rfl, rfl⟩⟩, rfl, fun i x f hx => by simp at hx, rfl, by simp⟩
theorem secs_nil (w : World) (base : Nat) : Rep.OwnRows byR 22 w base (.slice none 0 0) [] [] := ⟨[], [], ⟨by simp, .inl ⟨rfl, rfl⟩⟩, rfl, fun i x f hx => by simp at hx, rfl, by simp⟩

theorem disk_zero (w : World) (base : Nat) : diskR.own w base [.slice none 0 0, .slice none 0 0, .int .i64 0, .bool false] diskNone [] :=
  disk_own (d := diskNone) (secs_nil w base) (cache_nil w base) (Nat.le_refl _) (by simp)

theorem own_shift {w : World} {base base' e size n g c : Nat} {cells : List Value} (h : w.ownsRow base e size (.slice (some ⟨g, 0, none⟩) n c) n cells) (hb : base' ≤ g) : w.ownsRow base' e size (.slice (some ⟨g, 0, none⟩) n c) n cells := by
  refine ⟨h.1, ?_⟩
  rcases h.2 with ⟨h2, _⟩ | ⟨g', cap, cur, hv, hg, r⟩
  · cases h2
  · have : g = g' := by injection hv with hv _ _; injection hv with hv; injection hv
    subst this
    exact .inr ⟨g, cap, cur, hv, hb, r⟩

set_option maxHeartbeats 1000000 in
theorem diskNew_any (n : Int) (w : World) :
    Calls Try.prog 27 #[.int .i64 n] w (RetDisk w (diskNew n)) := by
  by_cases h : 1 ≤ n ∧ n ≤ 40
  · obtain ⟨m, rfl⟩ := Int.eq_ofNat_of_zero_le (show 0 ≤ n by omega)
    have HD := Lib.hid (show diskNew (m : Int) = ⟨List.replicate m [], [], -1, false⟩ by unfold diskNew; rw [if_pos h]; rfl)
    obtain ⟨h1, h2⟩ := h
    have h1' : ¬ ((m : Int) < 1) := by omega
    have h2' : ¬ ((m : Int) > 40) := by omega
    obtain ⟨i0, hi0, hz0, hz1, hz2⟩ := info_parts Try.info22
    go_enter Try.func27, Try.ntmps27
    go_wp2_with (at_make; refine wpList_make_full _ rfl _ _ _ rfl w.heap.size 22 i0 _ 1 Try.underlying24 hi0 hz0 hz1 _ _ _ _ m rfl rfl rfl rfl (by rw [hz2]; omega) (by simp only [maxLen]; omega) (by simp) ?_; intro w1 hown1 hg1; obtain ⟨hc, hf⟩ := gcell hg1)
    have hz : w.heap.size < w1.heap.size := by have := hg1.size; simp at this; omega
    refine bodyPost_ret (v := .agg #[.slice (some ⟨w.heap.size + 1, 0, none⟩) m m, .slice none 0 0, .int .i64 (-1), .bool false]) (by simp [results, Try.results27, go_sem, hc]) rfl ⟨_, [w.heap.size + 1], rfl, ?_, ?_⟩
    · rw [HD.out]
      refine diskR.low (base := w.heap.size + 1) ?_ (by omega)
      repeat (refine Rep.setLow ?_ (by first | (simp; done) | (simp; omega)) _)
      refine disk_own (d := ⟨List.replicate m [], [], -1, false⟩) (f := [w.heap.size + 1]) (f' := []) (B := w.heap.size + 2) ?_ (cache_nil _ _) (by omega) (by simp)
      refine rows_zero byR _ w1 _ _ (.slice (some ⟨w.heap.size + 1, 0, none⟩) m m) [] [.slice none 0 0] (madeCells (Value.slice none 0 0).cells (m * 1)).toList ?_ (Rep.seg_made #[.slice none 0 0] _) (fun w => ⟨_, rfl, ⟨by simp [bys], .inl ⟨rfl, rfl⟩⟩, rfl⟩)
      rw [show (w.alloc (.cells #[.slice none 0 0, .slice none 0 0, .int .i64 0, .bool false] 27)).heap.size = w.heap.size + 1 by simp] at hown1
      exact own_shift hown1 (by simp)
    · repeat (refine Below.setCell ?_ (by first | (simp; done) | (simp; omega)) _)
      exact (((Below.refl w.heap.size w).alloc (Nat.le_refl _) _).grown hg1 (by simp) (fun _ hk => by cases hk))
  · have HD := Lib.hid (show diskNew n = diskNone by unfold diskNew; rw [if_neg h])
    by_cases h1 : n < 1
    all_goals
      have h2 : (n < 1 ∨ n > 40) := by omega
      go_enter Try.func27, Try.ntmps27
      go_wp2
      refine bodyPost_ret (v := .agg #[.slice none 0 0, .slice none 0 0, .int .i64 0, .bool false]) (by simp [results, Try.results27, go_sem]) rfl ⟨_, [], rfl, ?_, ?_⟩
      · rw [HD.out]
        exact disk_zero _ _
      · repeat (refine Below.setCell ?_ (by first | (simp; done) | (simp; omega)) _)
        exact (Below.refl w.heap.size w).alloc (Nat.le_refl _) _

end Go.Proofs.Ytjhfnfffpofagaa
