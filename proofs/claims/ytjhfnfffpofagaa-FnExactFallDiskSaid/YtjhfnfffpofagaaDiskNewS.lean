/- DiskNew of the model. -/
import Derived.Test.YtjhfnfffpofagaaDiskNew
import Derived.Deep.DeepMust
namespace Go.Proofs.Ytjhfnfffpofagaa
open Go.RowKit
set_option linter.unusedVariables false

/-- A disk comes back that reads so. -/
def RetDiskAt (w : World) (d : Disk) (e : Ending) (w' : World) : Prop := ∃ cs, e = .returned (.agg cs.toArray) ∧ diskR.at_ w' w'.heap.size cs d ∧ Below w.heap.size w w'

theorem RetDisk.at {w : World} {d : Disk} {e : Ending} {w' : World} (h : RetDisk w d e w') : RetDiskAt w d e w' := by
  obtain ⟨cs, fp, he, ho, hb⟩ := h
  exact ⟨cs, he, Rep.reads diskR ho, hb⟩

theorem var_cell {w : World} {g t : Nat} {cs : Array Value} (h : w.heap[g]? = some (.cells cs t (0, 0))) (i : Nat) : w.cell? ⟨g, i, none⟩ = cs[i]? := cell_of_row w g i cs t (0, 0) h
theorem var_frozen {w : World} {g t : Nat} {cs : Array Value} (h : w.heap[g]? = some (.cells cs t (0, 0))) (i : Nat) : w.frozen? ⟨g, i, none⟩ = false := by simp [World.frozen?, h]
theorem var_set {w : World} {g t : Nat} {cs : Array Value} (h : w.heap[g]? = some (.cells cs t (0, 0))) (i : Nat) (u : Value) : (w.setCell ⟨g, i, none⟩ u).heap[g]? = some (.cells (cs.setIfInBounds i u) t (0, 0)) := by
  simp [World.setCell, Array.getElem?_modify, h]

theorem heap_alloc_new' (w : World) (o : Obj) {n : Nat} (h : n = w.heap.size) : (w.alloc o).heap[n]? = some o := by subst h; exact heap_alloc_new w o

theorem l1In_yes {x lo hi : Int} (w : World) (h1 : lo ≤ x) (h2 : x ≤ hi) : Calls Try.prog 48 #[.int .i64 x, .int .i64 lo, .int .i64 hi] w fun e w' => e = .returned (.bool true) ∧ w = w' := by
  go_enter Try.func48, Try.ntmps48
  go_wp2
  go_ret
  exact ⟨rfl, rfl⟩
theorem l1In_no {x lo hi : Int} (w : World) (h : ¬ (lo ≤ x ∧ x ≤ hi)) : Calls Try.prog 48 #[.int .i64 x, .int .i64 lo, .int .i64 hi] w fun e w' => e = .returned (.bool false) ∧ w = w' := by
  by_cases h1 : lo ≤ x
  · have h2 : ¬ x ≤ hi := fun h2 => h ⟨h1, h2⟩
    clear h
    go_enter Try.func48, Try.ntmps48
    go_wp2
    go_ret
    exact ⟨rfl, rfl⟩
  · clear h
    go_enter Try.func48, Try.ntmps48
    go_wp2
    go_ret
    exact ⟨rfl, rfl⟩

set_option maxRecDepth 100000 in
set_option maxHeartbeats 1000000 in
theorem diskNewS_any (n : Int) (w : World) : Calls Try.prog 26 #[.int .i64 n] w (RetDiskAt w (diskNew n)) := by
  by_cases h : 1 ≤ n ∧ n ≤ 40
  · obtain ⟨m, rfl⟩ := Int.eq_ofNat_of_zero_le (show 0 ≤ n by omega)
    have HD := Lib.hid (show diskNew (m : Int) = ⟨List.replicate m [], [], -1, false⟩ by unfold diskNew; rw [if_pos h]; rfl)
    obtain ⟨h1, h2⟩ := h
    obtain ⟨i0, hi0, hz0, hz1, hz2⟩ := info_parts Try.info22
    go_enter Try.func26, Try.ntmps26
    go_wp2_with (go_at_call 48; refine (l1In_yes _ h1 h2).mono ?_; rintro e w' ⟨rfl, rfl⟩)
    go_loopw [4] (fun i wr => ∃ (k : Nat) (v : Value) (fp : List Nat), k ≤ m ∧ i = .int .i64 k ∧ wr.heap[w.heap.size]? = some (.cells #[.slice none 0 0, .slice none 0 0, .int .i64 0, .bool false] 27 (0, 0)) ∧ wr.heap[w.heap.size + 1]? = some (.cells #[v, .slice none 0 0, .int .i64 (-1), .bool false] 27 (0, 0)) ∧ Rep.OwnRows byR 22 wr (w.heap.size + 2) v (List.replicate k []) fp ∧ Below w.heap.size w wr) (fun i _ => m - (intOf i).toNat)
    case atStart => exact ⟨0, .slice none 0 0, [], by omega, rfl, (Below.heap_alloc _ _ _ (by simp)).trans (heap_alloc_new w _), heap_alloc_new' _ _ (by simp), secs_nil _ _, ((Below.refl w.heap.size w).alloc (Nat.le_refl _) _).alloc (by simp) _⟩
    case round =>
      obtain ⟨k, v, fp, hk, rfl, hR, hD, hown, hb⟩ := hrel
      have hc0 : wr.cell? ⟨w.heap.size + 1, 0, none⟩ = some v := var_cell hD 0
      have hc1 : wr.cell? ⟨w.heap.size + 1, 1, none⟩ = some (.slice none 0 0) := var_cell hD 1
      have hc2 : wr.cell? ⟨w.heap.size + 1, 2, none⟩ = some (.int .i64 (-1)) := var_cell hD 2
      have hc3 : wr.cell? ⟨w.heap.size + 1, 3, none⟩ = some (.bool false) := var_cell hD 3
      have hf0 := var_frozen hD 0
      have hz : w.heap.size + 1 < wr.heap.size := World.block_lt_of_cell? wr ⟨w.heap.size + 1, 0, none⟩ hc0
      have HR := Lib.hid hR
      have HV := Lib.hid hD
      clear hR hD
      by_cases hlt : k < m
      · have hlv : ∀ g, g ∈ fp → w.heap.size + 2 ≤ g ∧ g < wr.heap.size := fun g hg => hown.lt g hg
        go_wp2_with (at_builtin
                     have hnew := reads_lit (wr.alloc (.cells #[] 5)) #[.slice (some ⟨wr.heap.size, 0, none⟩) 0 0] 1 1 22 (g := wr.heap.size + 1) (by simp) rfl (by simp [maxLen])
                     clear hc1 hc2 hc3
                     go_must (refine Rep.wpList_push _ rfl (.tmp 16) (.tmp 18) _ rfl byR (w.heap.size + 2) 22 i0 _ 24 Try.underlying24 hi0 hz0 hz1 hz2 rfl (by decide) v (List.replicate k []) fp rfl ((hown.alloc _).alloc _) _ _ _ [] [wr.heap.size] rfl hnew (one_of1 rfl) ⟨_, rfl, (World.ownsRow_lit (base := w.heap.size + 2) (e := 5) (size := 1) wr #[] 0 (by omega) (by simp) rfl).alloc _, rfl⟩ (fun g hg hg' => by have h3 := (hlv g hg').2; simp at hg; omega) (by simp only [maxLen, List.length_replicate]; omega) (by rw [List.length_replicate]; omega) (by simp; omega) ?_)
                     intro A2 c2 w2 fp2 hown2 hg2 hf2 hv2
                     rw [List.length_replicate] at hown2
                     have hV2 : w2.heap[w.heap.size + 1]? = some (.cells #[v, .slice none 0 0, .int .i64 (-1), .bool false] 27 (0, 0)) := (hg2.block (w.heap.size + 1) (by simp; omega) (fun e => by have := (hv2 _ e.symm).1; omega)).trans ((Below.heap_alloc _ _ _ (by simp; omega)).trans ((Below.heap_alloc _ _ _ hz).trans HV.out))
                     have hR2 : w2.heap[w.heap.size]? = some (.cells #[.slice none 0 0, .slice none 0 0, .int .i64 0, .bool false] 27 (0, 0)) := (hg2.block (w.heap.size) (by simp; omega) (fun e => by have := (hv2 _ e.symm).1; omega)).trans ((Below.heap_alloc _ _ _ (by simp; omega)).trans ((Below.heap_alloc _ _ _ (by omega)).trans HR.out))
                     have hb2 : Below w.heap.size w w2 := ((hb.alloc hb.size _).alloc (by simp; have := hb.size; omega) _).grown hg2 (by simp; have := hb.size; omega) (fun j hj => by have := (hv2 j hj).1; omega)
                     have hc0' : w2.cell? ⟨w.heap.size + 1, 0, none⟩ = some v := var_cell hV2 0
                     have hf0' := var_frozen hV2 0
                     have HV2 := Lib.hid (var_set hV2 0 (.slice A2 (k + 1) c2))
                     have HR2 := Lib.hid ((heap_setCell_other w2 ⟨w.heap.size + 1, 0, none⟩ w.heap.size (.slice A2 (k + 1) c2) (by simp)).trans hR2)
                     have hown3 := hown2.setLow (p := ⟨w.heap.size + 1, 0, none⟩) (by simp) (.slice A2 (k + 1) c2)
                     have hb3 := hb2.setCell (p := ⟨w.heap.size + 1, 0, none⟩) (by simp) (.slice A2 (k + 1) c2)
                     clear hV2 hR2 hnew hg2)
        rw [← List.replicate_succ'] at hown3
        go_roundw
        case rel => exact ⟨k + 1, _, fp2, by omega, by go_num, HR2.out, HV2.out, hown3, hb3⟩
        case measure => simp [intOf]; omega
      · have he : k = m := by omega
        subst he
        obtain ⟨A, c, rfl, _, _, _⟩ := hown.reads
        have hr0 : wr.cell? ⟨w.heap.size, 0, none⟩ = some (.slice none 0 0) := var_cell HR.out 0
        have hr1 : wr.cell? ⟨w.heap.size, 1, none⟩ = some (.slice none 0 0) := var_cell HR.out 1
        have hr2 : wr.cell? ⟨w.heap.size, 2, none⟩ = some (.int .i64 0) := var_cell HR.out 2
        have hr3 : wr.cell? ⟨w.heap.size, 3, none⟩ = some (.bool false) := var_cell HR.out 3
        have hq0 := var_frozen HR.out 0
        have hq1 := var_frozen HR.out 1
        have hq2 := var_frozen HR.out 2
        have hq3 := var_frozen HR.out 3
        go_wp2
        refine bodyPost_ret (v := .agg #[.slice A (List.replicate k ([] : List UInt8)).length c, .slice none 0 0, .int .i64 (-1), .bool false]) (by simp [results, Try.results26, go_sem, hr0, hr1, hr2, hr3]) rfl ⟨_, rfl, ?_, ?_⟩
        · rw [HD.out]
          refine Rep.reads diskR (base := w.heap.size + 2) (fp := fp ++ []) ?_
          repeat (refine Rep.setLow ?_ (by first | (simp; done) | (simp; omega)) _)
          exact disk_own (d := ⟨List.replicate k [], [], -1, false⟩) hown (cache_nil wr wr.heap.size) (by omega) (fun g hg => (hown.lt g hg).2)
        · repeat (refine Below.setCell ?_ (by first | (simp; done) | (simp; omega)) _)
          exact hb
  · have HD := Lib.hid (show diskNew n = diskNone by unfold diskNew; rw [if_neg h])
    go_enter Try.func26, Try.ntmps26
    go_wp2_with (go_at_call 48; refine (l1In_no _ h).mono ?_; rintro e w' ⟨rfl, rfl⟩)
    refine bodyPost_ret (v := .agg #[.slice none 0 0, .slice none 0 0, .int .i64 0, .bool false]) (by simp [results, Try.results26, go_sem]) rfl ⟨_, rfl, ?_, ?_⟩
    · rw [HD.out]
      exact Rep.reads diskR (disk_zero _ 0)
    · repeat (refine Below.setCell ?_ (by first | (simp; done) | (simp; omega)) _)
      exact ((Below.refl w.heap.size w).alloc (Nat.le_refl _) _).alloc (by simp) _

end Go.Proofs.Ytjhfnfffpofagaa
