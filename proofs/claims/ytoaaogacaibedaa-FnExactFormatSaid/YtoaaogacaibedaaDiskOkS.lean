/- DiskNew, of the program and of the model. DiskNew of the model. DiskOk, of the program and of the model. DiskOk of the model. -/
import Derived.Test.YtoaaogacaibedaaDiskHeld
import Derived.Deep.DeepMust
import Derived.BigQuiet
import Derived.Deep.QuietTactic
namespace Go.Proofs.Ytoaaogacaibedaa
open Go.RowKit
set_option linter.unusedVariables false

def diskNone : Disk := ⟨[], [], 0, false⟩
def diskNew (n : Int) : Disk := if 1 ≤ n ∧ n ≤ 40 then ⟨List.replicate n.toNat [], [], -1, false⟩ else diskNone

/-- A disk of the call's own comes back. -/
def RetDisk (w : World) (d : Disk) (e : Ending) (w' : World) : Prop := ∃ cs fp, e = .returned (.agg cs.toArray) ∧ diskR.own w' w.heap.size cs d fp ∧ Below w.heap.size w w'

theorem cache_nil (w : World) (base : Nat) : Rep.OwnRows wrR 70 w base (.slice none 0 0) [] [] := ⟨[], [], ⟨by simp, .inl ⟨rfl, rfl⟩⟩, rfl, fun i x f hx => by simp at hx, rfl, by simp⟩
theorem secs_nil (w : World) (base : Nat) : Rep.OwnRows byR 22 w base (.slice none 0 0) [] [] := ⟨[], [], ⟨by simp, .inl ⟨rfl, rfl⟩⟩, rfl, fun i x f hx => by simp at hx, rfl, by simp⟩

theorem disk_zero (w : World) (base : Nat) : diskR.own w base [.slice none 0 0, .slice none 0 0, .int .i64 0, .bool false] diskNone [] :=
  disk_own (d := diskNone) (secs_nil w base) (cache_nil w base) (Nat.le_refl _) (by simp)

theorem own_shift {w : World} {base base' e size n g c : Nat} {cells : List Value} (h : w.ownsRow base e size (.slice (some ⟨g, 0, none⟩) n c) n cells) (hb : base' ≤ g) : w.ownsRow base' e size (.slice (some ⟨g, 0, none⟩) n c) n cells := by
  refine ⟨h.1, ?_⟩
  rcases h.2 with ⟨h2, _⟩ | ⟨g', cap, cur, hv, hg, r⟩
  · cases h2
  · have : g = g' := by injection hv with hv _ _; injection hv with hv; injection hv
    subst this
    exact .inr ⟨g, cap, cur, hv, hb, r⟩

set_option maxHeartbeats 1000000 in
theorem diskNew_any (n : Int) (w : World) :
    Calls Try.prog 46 #[.int .i64 n] w (RetDisk w (diskNew n)) := by
  by_cases h : 1 ≤ n ∧ n ≤ 40
  · obtain ⟨m, rfl⟩ := Int.eq_ofNat_of_zero_le (show 0 ≤ n by omega)
    have HD := Lib.hid (show diskNew (m : Int) = ⟨List.replicate m [], [], -1, false⟩ by unfold diskNew; rw [if_pos h]; rfl)
    obtain ⟨h1, h2⟩ := h
    have h1' : ¬ ((m : Int) < 1) := by omega
    have h2' : ¬ ((m : Int) > 40) := by omega
    obtain ⟨i0, hi0, hz0, hz1, hz2⟩ := info_parts Try.info22
    go_enter Try.func46, Try.ntmps46
    go_wp2_with (at_make; refine wpList_make_full _ rfl _ _ _ rfl w.heap.size 22 i0 _ 1 Try.underlying34 hi0 hz0 hz1 _ _ _ _ m rfl rfl rfl rfl (by rw [hz2]; omega) (by simp only [maxLen]; omega) (by simp) ?_; intro w1 hown1 hg1; obtain ⟨hc, hf⟩ := gcell hg1)
    have hz : w.heap.size < w1.heap.size := by have := hg1.size; simp at this; omega
    refine bodyPost_ret (v := .agg #[.slice (some ⟨w.heap.size + 1, 0, none⟩) m m, .slice none 0 0, .int .i64 (-1), .bool false]) (by simp [results, Try.results46, go_sem, hc]) rfl ⟨_, [w.heap.size + 1], rfl, ?_, ?_⟩
    · rw [HD.out]
      refine diskR.low (base := w.heap.size + 1) ?_ (by omega)
      repeat (refine Rep.setLow ?_ (by first | (simp; done) | (simp; omega)) _)
      refine disk_own (d := ⟨List.replicate m [], [], -1, false⟩) (f := [w.heap.size + 1]) (f' := []) (B := w.heap.size + 2) ?_ (cache_nil _ _) (by omega) (by simp)
      refine rows_zero byR _ w1 _ _ (.slice (some ⟨w.heap.size + 1, 0, none⟩) m m) [] [.slice none 0 0] (madeCells (Value.slice none 0 0).cells (m * 1)).toList ?_ (Rep.seg_made #[.slice none 0 0] _) (fun w => ⟨_, rfl, ⟨by simp [bys], .inl ⟨rfl, rfl⟩⟩, rfl⟩)
      rw [show (w.alloc (.cells #[.slice none 0 0, .slice none 0 0, .int .i64 0, .bool false] 37)).heap.size = w.heap.size + 1 by simp] at hown1
      exact own_shift hown1 (by simp)
    · repeat (refine Below.setCell ?_ (by first | (simp; done) | (simp; omega)) _)
      exact (((Below.refl w.heap.size w).alloc (Nat.le_refl _) _).grown hg1 (by simp) (fun _ hk => by cases hk))
  · have HD := Lib.hid (show diskNew n = diskNone by unfold diskNew; rw [if_neg h])
    by_cases h1 : n < 1
    all_goals
      have h2 : (n < 1 ∨ n > 40) := by omega
      go_enter Try.func46, Try.ntmps46
      go_wp2
      refine bodyPost_ret (v := .agg #[.slice none 0 0, .slice none 0 0, .int .i64 0, .bool false]) (by simp [results, Try.results46, go_sem]) rfl ⟨_, [], rfl, ?_, ?_⟩
      · rw [HD.out]
        exact disk_zero _ _
      · repeat (refine Below.setCell ?_ (by first | (simp; done) | (simp; omega)) _)
        exact (Below.refl w.heap.size w).alloc (Nat.le_refl _) _

end Go.Proofs.Ytoaaogacaibedaa

namespace Go.Proofs.Ytoaaogacaibedaa
open Go.RowKit
set_option linter.unusedVariables false

/-- A disk comes back that reads so. -/
def RetDiskAt (w : World) (d : Disk) (e : Ending) (w' : World) : Prop := ∃ cs, e = .returned (.agg cs.toArray) ∧ diskR.at_ w' w'.heap.size cs d ∧ Below w.heap.size w w'

theorem RetDisk.at {w : World} {d : Disk} {e : Ending} {w' : World} (h : RetDisk w d e w') : RetDiskAt w d e w' := by
  obtain ⟨cs, fp, he, ho, hb⟩ := h
  exact ⟨cs, he, Rep.reads diskR ho, hb⟩

set_option maxRecDepth 100000 in
set_option maxHeartbeats 1000000 in
theorem diskNewS_any (n : Int) (w : World) : Calls Try.prog 43 #[.int .i64 n] w (RetDisk w (diskNew n)) := by
  by_cases h : 1 ≤ n ∧ n ≤ 40
  · obtain ⟨m, rfl⟩ := Int.eq_ofNat_of_zero_le (show 0 ≤ n by omega)
    have HD := Lib.hid (show diskNew (m : Int) = ⟨List.replicate m [], [], -1, false⟩ by unfold diskNew; rw [if_pos h]; rfl)
    obtain ⟨h1, h2⟩ := h
    obtain ⟨i0, hi0, hz0, hz1, hz2⟩ := info_parts Try.info22
    go_enter Try.func43, Try.ntmps43
    go_wp2_with (go_at_call 40; refine (l1In_yes _ h1 h2).mono ?_; rintro e w' ⟨rfl, rfl⟩)
    go_loopw [4] (fun i wr => ∃ (k : Nat) (v : Value) (fp : List Nat), k ≤ m ∧ i = .int .i64 k ∧ wr.heap[w.heap.size]? = some (.cells #[.slice none 0 0, .slice none 0 0, .int .i64 0, .bool false] 37 (0, 0)) ∧ wr.heap[w.heap.size + 1]? = some (.cells #[v, .slice none 0 0, .int .i64 (-1), .bool false] 37 (0, 0)) ∧ Rep.OwnRows byR 22 wr (w.heap.size + 2) v (List.replicate k []) fp ∧ Below w.heap.size w wr) (fun i _ => m - (intOf i).toNat)
    case atStart => exact ⟨0, .slice none 0 0, [], by omega, rfl, (Below.heap_alloc _ _ _ (by simp)).trans (heap_alloc_new w _), heap_alloc_new' _ _ (by simp), secs_nil _ _, ((Below.refl w.heap.size w).alloc (Nat.le_refl _) _).alloc (by simp) _⟩
    case round =>
      obtain ⟨k, v, fp, hk, rfl, hR, hD, hown, hb⟩ := hrel
      have hc0 : wr.cell? ⟨w.heap.size + 1, 0, none⟩ = some v := var_cell hD 0
      have hc1 : wr.cell? ⟨w.heap.size + 1, 1, none⟩ = some (.slice none 0 0) := var_cell hD 1
      have hc2 : wr.cell? ⟨w.heap.size + 1, 2, none⟩ = some (.int .i64 (-1)) := var_cell hD 2
      have hc3 : wr.cell? ⟨w.heap.size + 1, 3, none⟩ = some (.bool false) := var_cell hD 3
      have hf0 := var_frozen hD 0
      have hz : w.heap.size + 1 < wr.heap.size := World.block_lt_of_cell? wr ⟨w.heap.size + 1, 0, none⟩ hc0
      have HR := Lib.hid hR
      have HV := Lib.hid hD
      clear hR hD
      by_cases hlt : k < m
      · have hlv : ∀ g, g ∈ fp → w.heap.size + 2 ≤ g ∧ g < wr.heap.size := fun g hg => hown.lt g hg
        go_wp2_with (at_builtin
                     have hnew := reads_lit (wr.alloc (.cells #[] 5)) #[.slice (some ⟨wr.heap.size, 0, none⟩) 0 0] 1 1 22 (g := wr.heap.size + 1) (by simp) rfl (by simp [maxLen])
                     clear hc1 hc2 hc3
                     go_must (refine Rep.wpList_push _ rfl (.tmp 16) (.tmp 18) _ rfl byR (w.heap.size + 2) 22 i0 _ 24 Try.underlying34 hi0 hz0 hz1 hz2 rfl (by decide) v (List.replicate k []) fp rfl ((hown.alloc _).alloc _) _ _ _ [] [wr.heap.size] rfl hnew (one_of1 rfl) ⟨_, rfl, (World.ownsRow_lit (base := w.heap.size + 2) (e := 5) (size := 1) wr #[] 0 (by omega) (by simp) rfl).alloc _, rfl⟩ (fun g hg hg' => by have h3 := (hlv g hg').2; simp at hg; omega) (by simp only [maxLen, List.length_replicate]; omega) (by rw [List.length_replicate]; omega) (by simp; omega) ?_)
                     intro A2 c2 w2 fp2 hown2 hg2 hf2 hv2
                     rw [List.length_replicate] at hown2
                     have hV2 : w2.heap[w.heap.size + 1]? = some (.cells #[v, .slice none 0 0, .int .i64 (-1), .bool false] 37 (0, 0)) := (hg2.block (w.heap.size + 1) (by simp; omega) (fun e => by have := (hv2 _ e.symm).1; omega)).trans ((Below.heap_alloc _ _ _ (by simp; omega)).trans ((Below.heap_alloc _ _ _ hz).trans HV.out))
                     have hR2 : w2.heap[w.heap.size]? = some (.cells #[.slice none 0 0, .slice none 0 0, .int .i64 0, .bool false] 37 (0, 0)) := (hg2.block (w.heap.size) (by simp; omega) (fun e => by have := (hv2 _ e.symm).1; omega)).trans ((Below.heap_alloc _ _ _ (by simp; omega)).trans ((Below.heap_alloc _ _ _ (by omega)).trans HR.out))
                     have hb2 : Below w.heap.size w w2 := ((hb.alloc hb.size _).alloc (by simp; have := hb.size; omega) _).grown hg2 (by simp; have := hb.size; omega) (fun j hj => by have := (hv2 j hj).1; omega)
                     have hc0' : w2.cell? ⟨w.heap.size + 1, 0, none⟩ = some v := var_cell hV2 0
                     have hf0' := var_frozen hV2 0
                     have HV2 := Lib.hid (var_set hV2 0 (.slice A2 (k + 1) c2))
                     have HR2 := Lib.hid ((heap_setCell_other w2 ⟨w.heap.size + 1, 0, none⟩ w.heap.size (.slice A2 (k + 1) c2) (by simp)).trans hR2)
                     have hown3 := hown2.setLow (p := ⟨w.heap.size + 1, 0, none⟩) (by simp) (.slice A2 (k + 1) c2)
                     have hb3 := hb2.setCell (p := ⟨w.heap.size + 1, 0, none⟩) (by simp) (.slice A2 (k + 1) c2)
                     clear hV2 hR2 hnew hg2)
        rw [← List.replicate_succ'] at hown3
        go_roundw
        case rel => exact ⟨k + 1, _, fp2, by omega, by go_num, HR2.out, HV2.out, hown3, hb3⟩
        case measure => simp [intOf]; omega
      · have he : k = m := by omega
        subst he
        obtain ⟨A, c, rfl, _, _, _⟩ := hown.reads
        have hr0 : wr.cell? ⟨w.heap.size, 0, none⟩ = some (.slice none 0 0) := var_cell HR.out 0
        have hr1 : wr.cell? ⟨w.heap.size, 1, none⟩ = some (.slice none 0 0) := var_cell HR.out 1
        have hr2 : wr.cell? ⟨w.heap.size, 2, none⟩ = some (.int .i64 0) := var_cell HR.out 2
        have hr3 : wr.cell? ⟨w.heap.size, 3, none⟩ = some (.bool false) := var_cell HR.out 3
        have hq0 := var_frozen HR.out 0
        have hq1 := var_frozen HR.out 1
        have hq2 := var_frozen HR.out 2
        have hq3 := var_frozen HR.out 3
        go_wp2
        refine bodyPost_ret (v := .agg #[.slice A (List.replicate k ([] : List UInt8)).length c, .slice none 0 0, .int .i64 (-1), .bool false]) (by simp [results, Try.results43, go_sem, hr0, hr1, hr2, hr3]) rfl ⟨_, fp ++ [], rfl, ?_, ?_⟩
        · rw [HD.out]
          refine diskR.low (base := w.heap.size + 2) ?_ (by omega)
          repeat (refine Rep.setLow ?_ (by first | (simp; done) | (simp; omega)) _)
          exact disk_own (d := ⟨List.replicate k [], [], -1, false⟩) hown (cache_nil wr wr.heap.size) (by omega) (fun g hg => (hown.lt g hg).2)
        · repeat (refine Below.setCell ?_ (by first | (simp; done) | (simp; omega)) _)
          exact hb
  · have HD := Lib.hid (show diskNew n = diskNone by unfold diskNew; rw [if_neg h])
    go_enter Try.func43, Try.ntmps43
    go_wp2_with (go_at_call 40; refine (l1In_no _ h).mono ?_; rintro e w' ⟨rfl, rfl⟩)
    refine bodyPost_ret (v := .agg #[.slice none 0 0, .slice none 0 0, .int .i64 0, .bool false]) (by simp [results, Try.results43, go_sem]) rfl ⟨_, [], rfl, ?_, ?_⟩
    · rw [HD.out]
      exact disk_zero _ _
    · repeat (refine Below.setCell ?_ (by first | (simp; done) | (simp; omega)) _)
      exact ((Below.refl w.heap.size w).alloc (Nat.le_refl _) _).alloc (by simp) _

end Go.Proofs.Ytoaaogacaibedaa

namespace Go.Proofs.Ytoaaogacaibedaa
open Go.RowKit
set_option linter.unusedVariables false

def WrOk (m : Nat) (x : Wr) : Prop := 0 ≤ x.n ∧ x.n < (m : Int) ∧ x.b.length ≤ 160
def DiskGood (d : Disk) : Prop :=
  (1 ≤ d.secs.length ∧ d.secs.length ≤ 40 ∧ d.cache.length ≤ 30) ∧ (∀ b, b ∈ d.secs → b.length ≤ 160) ∧ (∀ x, x ∈ d.cache → WrOk d.secs.length x) ∧ (-1 ≤ d.fuse ∧ d.fuse ≤ 1000)
noncomputable def diskOk (d : Disk) : Bool := @decide (DiskGood d) (Classical.propDecidable _)
theorem diskOk_yes {d : Disk} (h : DiskGood d) : diskOk d = true := by unfold diskOk; exact @decide_eq_true _ (Classical.propDecidable _) h
theorem diskOk_no {d : Disk} (h : ¬ DiskGood d) : diskOk d = false := by unfold diskOk; exact @decide_eq_false _ (Classical.propDecidable _) h
theorem diskOk_good {d : Disk} (h : diskOk d = true) : DiskGood d := by unfold diskOk at h; exact @of_decide_eq_true _ (Classical.propDecidable _) h
theorem diskOk_bad {d : Disk} (h : diskOk d = false) : ¬ DiskGood d := by unfold diskOk at h; exact @of_decide_eq_false _ (Classical.propDecidable _) h

set_option maxHeartbeats 1000000 in
theorem hasSec_yes (cs : List Value) (d : Disk) (n : Int) (w : World) (h : diskR.at_ w w.heap.size cs d) (h0 : 0 ≤ n) (h1 : n < (d.secs.length : Int)) : Calls Try.prog 63 #[.agg cs.toArray, .int .i64 n] w (RetBool w true) := by
  obtain ⟨A, c, A', c', rfl, _, _, _, _⟩ := disk_cells h
  clear h
  go_enter Try.func63, Try.ntmps63
  go_wp2
  go_ret
  exact ⟨rfl, (Below.refl _ _).alloc (Nat.le_refl _) _⟩

set_option maxHeartbeats 1000000 in
theorem hasSec_no (cs : List Value) (d : Disk) (n : Int) (w : World) (h : diskR.at_ w w.heap.size cs d) (h1 : ¬ (0 ≤ n ∧ n < (d.secs.length : Int))) : Calls Try.prog 63 #[.agg cs.toArray, .int .i64 n] w (RetBool w false) := by
  obtain ⟨A, c, A', c', rfl, _, _, _, _⟩ := disk_cells h
  clear h
  by_cases h0 : 0 ≤ n
  · have h2 : ¬ n < (d.secs.length : Int) := fun h2 => h1 ⟨h0, h2⟩
    clear h1
    go_enter Try.func63, Try.ntmps63
    go_wp2
    go_ret
    exact ⟨rfl, (Below.refl _ _).alloc (Nat.le_refl _) _⟩
  · clear h1
    go_enter Try.func63, Try.ntmps63
    go_wp2
    go_ret
    exact ⟨rfl, (Below.refl _ _).alloc (Nat.le_refl _) _⟩

set_option maxHeartbeats 2000000 in
theorem diskOk_any (cs : List Value) (d : Disk) (w : World) (h : diskR.at_ w w.heap.size cs d) (hs : Fits d) :
    Calls Try.prog 60 #[.agg cs.toArray] w (RetBool w (diskOk d)) := by
  obtain ⟨A, c, A', c', rfl, _, _, hr, hr'⟩ := disk_cells h
  have f1 := hs.1
  have f3 := hs.2.2.1
  by_cases hlen : 1 ≤ d.secs.length ∧ d.secs.length ≤ 40 ∧ d.cache.length ≤ 30
  · obtain ⟨l1, l2, l3⟩ := id hlen
    have n1 : ¬ ((d.secs.length : Int) < 1) := by omega
    have n2 : ¬ ((d.secs.length : Int) > 40) := by omega
    have n3 : ¬ ((d.cache.length : Int) > 30) := by omega
    go_enter Try.func60, Try.ntmps60
    go_wp2
    have hat0 : diskR.at_ (w.alloc (.cells #[.slice A d.secs.length c, .slice A' d.cache.length c', .int .i64 d.fuse, .bool d.down] 37)) w.heap.size [.slice A d.secs.length c, .slice A' d.cache.length c', .int .i64 d.fuse, .bool d.down] d := Rep.at_alloc h (Nat.le_refl _) _
    have hv := heap_alloc_new w (.cells #[.slice A d.secs.length c, .slice A' d.cache.length c', .int .i64 d.fuse, .bool d.down] 37)
    have hb0 : Below w.heap.size w (w.alloc (.cells #[.slice A d.secs.length c, .slice A' d.cache.length c', .int .i64 d.fuse, .bool d.down] 37)) := (Below.refl _ _).alloc (Nat.le_refl _) _
    have hs0 : w.heap.size < (w.alloc (.cells #[.slice A d.secs.length c, .slice A' d.cache.length c', .int .i64 d.fuse, .bool d.down] 37)).heap.size := by simp
    replace hr := hr.keep fun p hp => hb0.cell hp
    replace hr' := hr'.keep fun p hp => hb0.cell hp
    generalize w.alloc (.cells #[.slice A d.secs.length c, .slice A' d.cache.length c', .int .i64 d.fuse, .bool d.down] 37) = W1 at hat0 hv hb0 hs0 hr hr' ⊢
    have HV := Lib.hid hv
    have HA := Lib.hid h
    clear hv h
    go_loop [4, 26] (fun _ i => ∃ k : Nat, k ≤ d.secs.length ∧ i = .int .i64 k ∧ AllP (fun b : List UInt8 => b.length ≤ 160) d.secs k) (fun _ i => d.secs.length - (intOf i).toNat)
    case atStart => exact ⟨0, by omega, rfl, AllP.zero _ _⟩
    case round =>
      obtain ⟨k, hk, rfl, hall⟩ := hrel
      by_cases hlt : k < d.secs.length
      · obtain ⟨b, off, A2, c2, l, rfl, hbl, hx, hcell, hlc, _⟩ := secs_elem hr hlt
        have hl63 : l.length ≤ 9223372036854775807 := Nat.le_trans hlc.1 hlc.2
        have HX := Lib.hid hx
        clear hx hlc
        by_cases h160 : l.length ≤ 160
        · go_wp2
          go_round
          case rel => exact ⟨k + 1, by omega, by go_num, hall.succ HX.out h160⟩
          case measure => simp [intOf]; omega
        · go_wp2
          go_ret
          exact ⟨by rw [diskOk_no (fun hg => h160 (hg.2.1 l (List.mem_of_getElem? HX.out)))]; rfl, hb0⟩
      · have he : k = d.secs.length := by omega
        subst he
        have hsecs := Lib.hid hall.all
        have c0 : W1.cell? ⟨w.heap.size, 1, none⟩ = some (.slice A' d.cache.length c') := var_cell HV.out 1
        go_wp2
        clear c0
        go_loopw [37] (fun i wr => ∃ k : Nat, k ≤ d.cache.length ∧ i = .int .i64 k ∧ AllP (WrOk d.secs.length) d.cache k ∧ Below W1.heap.size W1 wr) (fun i _ => d.cache.length - (intOf i).toNat)
        case atStart => exact ⟨0, by omega, rfl, AllP.zero _ _, Below.refl _ _⟩
        case round =>
          obtain ⟨k, hk, rfl, hall2, hb⟩ := hrel
          have hbw : Below w.heap.size w wr := hb0.trans (hb.mono (by omega))
          have hvr := Lib.hid ((hb.block w.heap.size hs0).trans HV.out)
          have hzr : w.heap.size < wr.heap.size := by have := hb.size; omega
          by_cases hlt : k < d.cache.length
          · obtain ⟨b, off, A2, c2, x, rfl, hbl, hx, hcell1, hcell2, hlc, _⟩ := wr_elem (hr'.keep fun p hp => hb.cell (by omega)) hlt
            have hl63 : x.b.length ≤ 9223372036854775807 := Nat.le_trans hlc.1 hlc.2
            have HX := Lib.hid hx
            clear hx hlc
            have d0 : wr.cell? ⟨w.heap.size, 0, none⟩ = some (.slice A d.secs.length c) := var_cell hvr.out 0
            have d1 : wr.cell? ⟨w.heap.size, 1, none⟩ = some (.slice (some ⟨b, off, none⟩) d.cache.length c') := var_cell hvr.out 1
            have d2 : wr.cell? ⟨w.heap.size, 2, none⟩ = some (.int .i64 d.fuse) := var_cell hvr.out 2
            have d3 : wr.cell? ⟨w.heap.size, 3, none⟩ = some (.bool d.down) := var_cell hvr.out 3
            have hatr : diskR.at_ (wr.alloc (.cells #[.int .i64 x.n, .slice A2 x.b.length c2] 70)) (wr.alloc (.cells #[.int .i64 x.n, .slice A2 x.b.length c2] 70)).heap.size [.slice A d.secs.length c, .slice (some ⟨b, off, none⟩) d.cache.length c', .int .i64 d.fuse, .bool d.down] d := Rep.more diskR (Rep.at_alloc (Rep.at_below HA.out hbw) hbw.size _) (by simp; omega)
            by_cases hin : 0 ≤ x.n ∧ x.n < (d.secs.length : Int)
            · go_wp2_with fail
              refine (hasSec_yes _ d x.n _ hatr hin.1 hin.2).mono ?_
              rintro e w3 ⟨rfl, hb3⟩
              obtain ⟨hc, hf⟩ := bcell hb3
              have hbw3 : Below W1.heap.size W1 w3 := (hb.alloc hb.size _).trans (hb3.mono (by simp; have := hb.size; omega))
              have hb03 : Below w.heap.size w w3 := hb0.trans (hbw3.mono (by omega))
              by_cases h160 : x.b.length ≤ 160
              · go_wp2
                go_roundw
                case rel => exact ⟨k + 1, by omega, by go_num, hall2.succ HX.out ⟨hin.1, hin.2, h160⟩, hbw3⟩
                case measure => simp [intOf]; omega
              · go_wp2
                go_ret
                exact ⟨by rw [diskOk_no (fun hg => h160 (hg.2.2.1 x (List.mem_of_getElem? HX.out)).2.2)]; rfl, hb03⟩
            · go_wp2_with fail
              refine (hasSec_no _ d x.n _ hatr hin).mono ?_
              rintro e w3 ⟨rfl, hb3⟩
              have hb03 : Below w.heap.size w w3 := (hbw.alloc hbw.size _).trans (hb3.mono (by simp; omega))
              go_wp2
              go_ret
              exact ⟨by rw [diskOk_no (fun hg => hin ⟨(hg.2.2.1 x (List.mem_of_getElem? HX.out)).1, (hg.2.2.1 x (List.mem_of_getElem? HX.out)).2.1⟩)]; rfl, hb03⟩
          · have he : k = d.cache.length := by omega
            subst he
            have d2 : wr.cell? ⟨w.heap.size, 2, none⟩ = some (.int .i64 d.fuse) := var_cell hvr.out 2
            by_cases q1 : -1 ≤ d.fuse
            · by_cases q2 : d.fuse ≤ 1000
              · have HG := Lib.hid (diskOk_yes ⟨⟨l1, l2, l3⟩, hsecs.out, hall2.all, q1, q2⟩)
                go_wp2
                go_ret
                exact ⟨by rw [HG.out]; rfl, hbw⟩
              · have HG := Lib.hid (diskOk_no (d := d) (fun hg => q2 hg.2.2.2.2))
                go_wp2
                go_ret
                exact ⟨by rw [HG.out]; rfl, hbw⟩
            · have HG := Lib.hid (diskOk_no (d := d) (fun hg => q1 hg.2.2.2.1))
              go_wp2
              go_ret
              exact ⟨by rw [HG.out]; rfl, hbw⟩
  · have HB := Lib.hid (diskOk_no (d := d) (fun hg => hlen hg.1))
    by_cases l1 : 1 ≤ d.secs.length
    · by_cases l2 : d.secs.length ≤ 40
      · have l3 : ¬ d.cache.length ≤ 30 := fun l3 => hlen ⟨l1, l2, l3⟩
        clear h hlen hs
        go_enter Try.func60, Try.ntmps60
        go_wp2
        go_ret
        exact ⟨by rw [HB.out]; rfl, (Below.refl _ _).alloc (Nat.le_refl _) _⟩
      · clear h hlen hs
        go_enter Try.func60, Try.ntmps60
        go_wp2
        go_ret
        exact ⟨by rw [HB.out]; rfl, (Below.refl _ _).alloc (Nat.le_refl _) _⟩
    · clear h hlen hs
      go_enter Try.func60, Try.ntmps60
      go_wp2
      go_ret
      exact ⟨by rw [HB.out]; rfl, (Below.refl _ _).alloc (Nat.le_refl _) _⟩

end Go.Proofs.Ytoaaogacaibedaa

namespace Go.Proofs.Ytoaaogacaibedaa
open Go.RowKit
set_option linter.unusedVariables false

set_option maxHeartbeats 2000000 in
theorem diskOkS_any (cs : List Value) (d : Disk) (w : World) (h : diskR.at_ w w.heap.size cs d) (hs : Fits d) :
    Calls Try.prog 57 #[.agg cs.toArray] w (RetBool w (diskOk d)) := by
  obtain ⟨A, c, A', c', rfl, _, _, hr, hr'⟩ := disk_cells h
  have f1 := hs.1
  have f3 := hs.2.2.1
  go_enter Try.func57, Try.ntmps57
  go_wp2
  have hv := heap_alloc_new w (.cells #[.slice A d.secs.length c, .slice A' d.cache.length c', .int .i64 d.fuse, .bool d.down] 37)
  have hb0 : Below w.heap.size w (w.alloc (.cells #[.slice A d.secs.length c, .slice A' d.cache.length c', .int .i64 d.fuse, .bool d.down] 37)) := (Below.refl _ _).alloc (Nat.le_refl _) _
  have hs0 : w.heap.size < (w.alloc (.cells #[.slice A d.secs.length c, .slice A' d.cache.length c', .int .i64 d.fuse, .bool d.down] 37)).heap.size := by simp
  replace hr := hr.keep fun p hp => hb0.cell hp
  replace hr' := hr'.keep fun p hp => hb0.cell hp
  generalize w.alloc (.cells #[.slice A d.secs.length c, .slice A' d.cache.length c', .int .i64 d.fuse, .bool d.down] 37) = W1 at hv hb0 hs0 hr hr' ⊢
  have c0 : W1.cell? ⟨w.heap.size, 0, none⟩ = some (.slice A d.secs.length c) := var_cell hv 0
  have c1 : W1.cell? ⟨w.heap.size, 1, none⟩ = some (.slice A' d.cache.length c') := var_cell hv 1
  have c2 : W1.cell? ⟨w.heap.size, 2, none⟩ = some (.int .i64 d.fuse) := var_cell hv 2
  clear hv h
  go_loop [3] (fun i => ∃ k : Nat, k ≤ d.secs.length ∧ i = .int .i64 k ∧ AllP (fun b : List UInt8 => b.length ≤ 160) d.secs k) (fun i => d.secs.length - (intOf i).toNat)
  case atStart => exact ⟨0, by omega, rfl, AllP.zero _ _⟩
  case round =>
    obtain ⟨k, hk, rfl, hall⟩ := hrel
    by_cases hlt : k < d.secs.length
    · obtain ⟨b, off, A2, cc, l, rfl, hbl, hx, hcell, hlc, _⟩ := secs_elem hr hlt
      have hl63 : l.length ≤ 9223372036854775807 := Nat.le_trans hlc.1 hlc.2
      have HX := Lib.hid hx
      clear hx hlc
      by_cases h160 : l.length ≤ 160
      · go_wp2
        go_round
        case rel => exact ⟨k + 1, by omega, by go_num, hall.succ HX.out h160⟩
        case measure => simp [intOf]; omega
      · go_wp2
        go_ret
        exact ⟨by rw [diskOk_no (fun hg => h160 (hg.2.1 l (List.mem_of_getElem? HX.out)))]; rfl, hb0⟩
    · have he : k = d.secs.length := by omega
      subst he
      have hsecs := Lib.hid hall.all
      go_wp2
      go_loopw [4] (fun i wr => ∃ k : Nat, k ≤ d.cache.length ∧ i = .int .i64 k ∧ AllP (WrOk d.secs.length) d.cache k ∧ Hid (∃ n, wr = W1.drewN n)) (fun i _ => d.cache.length - (intOf i).toNat)
      case atStart => exact ⟨0, by omega, rfl, AllP.zero _ _, Lib.hid ⟨0, rfl⟩⟩
      case round =>
        obtain ⟨k, hk, rfl, hall2, hw⟩ := hrel
        have hbw : Below w.heap.size w wr := by obtain ⟨n, rfl⟩ := hw.out; exact belowD hb0 n
        have hkeep : ∀ p : Addr, wr.cell? p = W1.cell? p := by obtain ⟨n, rfl⟩ := hw.out; exact fun _ => rfl
        have e0 : wr.cell? ⟨w.heap.size, 0, none⟩ = some (.slice A d.secs.length c) := (hkeep _).trans c0
        have e1 : wr.cell? ⟨w.heap.size, 1, none⟩ = some (.slice A' d.cache.length c') := (hkeep _).trans c1
        have e2 : wr.cell? ⟨w.heap.size, 2, none⟩ = some (.int .i64 d.fuse) := (hkeep _).trans c2
        by_cases hlt : k < d.cache.length
        · obtain ⟨b, off, A2, c2', x, rfl, hbl, hx, hcell1, hcell2, hlc, _⟩ := wr_elem (hr'.keep fun p hp => hkeep p) hlt
          have hl63 : x.b.length ≤ 9223372036854775807 := Nat.le_trans hlc.1 hlc.2
          have HX := Lib.hid hx
          clear hx hlc c0 c1 c2 hkeep
          have i1 : (0 : Int) ≤ (k : Int) := by omega
          have i2 : (k : Int) < (d.cache.length : Int) := by omega
          by_cases hin : 0 ≤ x.n ∧ x.n ≤ (d.secs.length : Int) - 1
          · by_cases h160 : x.b.length ≤ 160
            · have g160 : decide ((x.b.length : Int) > 160) = false := by simp; omega
              go_wp2
              go_quiet ((go_at_call 40; exact quiet_left (l1In_yes _ hin.1 hin.2)))
              go_wp2
              go_roundw
              case rel => exact ⟨k + 1, by omega, by go_num, hall2.succ HX.out ⟨hin.1, by omega, h160⟩, Lib.hid (by obtain ⟨n, rfl⟩ := hw.out; exact ⟨n + nq, by rw [World.drewN_drewN]⟩)⟩
              case measure => simp [intOf]; omega
            · have g160 : decide ((x.b.length : Int) > 160) = true := by simp; omega
              go_wp2
              go_quiet ((go_at_call 40; exact quiet_left (l1In_yes _ hin.1 hin.2)))
              go_wp2
              go_ret
              exact ⟨by rw [diskOk_no (fun hg => h160 (hg.2.2.1 x (List.mem_of_getElem? HX.out)).2.2)]; rfl, belowD hbw _⟩
          · have hin' : Hid (¬ (0 ≤ x.n ∧ x.n ≤ (d.secs.length : Int) - 1)) := Lib.hid hin
            clear hin
            go_wp2
            go_quiet ((go_at_call 40; exact quiet_left (l1In_no _ hin'.out)))
            go_wp2
            go_ret
            exact ⟨by rw [diskOk_no (fun hg => hin'.out ⟨(hg.2.2.1 x (List.mem_of_getElem? HX.out)).1, by have := (hg.2.2.1 x (List.mem_of_getElem? HX.out)).2.1; omega⟩)]; rfl, belowD hbw _⟩
        · have he : k = d.cache.length := by omega
          subst he
          clear c0 c1 c2 hkeep
          by_cases q0 : (1 : Int) ≤ (d.secs.length : Int) ∧ (d.secs.length : Int) ≤ 40
          · by_cases q3 : d.cache.length ≤ 30
            · by_cases q1 : -1 ≤ d.fuse ∧ d.fuse ≤ 1000
              · have HG := Lib.hid (diskOk_yes ⟨⟨by omega, by omega, q3⟩, hsecs.out, hall2.all, q1.1, q1.2⟩)
                go_wp2_with fail
                refine (l1In_yes _ q0.1 q0.2).mono ?_
                rintro e w3 ⟨rfl, rfl⟩
                go_wp2_with fail
                refine (l1In_yes _ q1.1 q1.2).mono ?_
                rintro e w3 ⟨rfl, rfl⟩
                go_wp2_with fail
                go_ret
                exact ⟨by rw [HG.out]; rfl, hbw⟩
              · have HG := Lib.hid (diskOk_no (d := d) (fun hg => q1 hg.2.2.2))
                have Q1 := Lib.hid q1
                clear q1
                go_wp2_with fail
                refine (l1In_yes _ q0.1 q0.2).mono ?_
                rintro e w3 ⟨rfl, rfl⟩
                go_wp2_with fail
                refine (l1In_no _ Q1.out).mono ?_
                rintro e w3 ⟨rfl, rfl⟩
                go_wp2_with fail
                go_ret
                exact ⟨by rw [HG.out]; rfl, hbw⟩
            · have HG := Lib.hid (diskOk_no (d := d) (fun hg => q3 hg.1.2.2))
              go_wp2_with fail
              refine (l1In_yes _ q0.1 q0.2).mono ?_
              rintro e w3 ⟨rfl, rfl⟩
              go_wp2_with fail
              go_ret
              exact ⟨by rw [HG.out]; rfl, hbw⟩
          · have HG := Lib.hid (diskOk_no (d := d) (fun hg => q0 ⟨by have := hg.1.1; omega, by have := hg.1.2.1; omega⟩))
            have Q0 := Lib.hid q0
            clear q0
            go_wp2_with fail
            refine (l1In_no _ Q0.out).mono ?_
            rintro e w3 ⟨rfl, rfl⟩
            go_wp2_with fail
            go_ret
            exact ⟨by rw [HG.out]; rfl, hbw⟩

end Go.Proofs.Ytoaaogacaibedaa
