/- DiskOk, of the program and of the model. -/
import Derived.Test.YtjhfnfffpofagaaDiskNewS
import Derived.BigQuiet
import Derived.Deep.QuietTactic
namespace Go.Proofs.Ytjhfnfffpofagaa
open Go.RowKit
set_option linter.unusedVariables false

theorem quiet_left {P : Program} {f : FuncId} {args : Array Value} {w : World} {n : Nat} {v : Value}
    (h : Calls P f args (w.drewN n) fun e w' => e = .returned v ∧ w.drewN n = w') : Calls P f args (w.drewN n) fun e w'' => e = .returned v ∧ ∃ m, w'' = w.drewN m :=
  h.mono fun _ _ ⟨he, hm⟩ => ⟨he, n, hm.symm⟩

def WrOk (m : Nat) (x : Wr) : Prop := 0 ≤ x.n ∧ x.n < (m : Int) ∧ x.b.length ≤ 160
def DiskGood (d : Disk) : Prop :=
  (1 ≤ d.secs.length ∧ d.secs.length ≤ 40 ∧ d.cache.length ≤ 30) ∧ (∀ b, b ∈ d.secs → b.length ≤ 160) ∧ (∀ x, x ∈ d.cache → WrOk d.secs.length x) ∧ (-1 ≤ d.fuse ∧ d.fuse ≤ 1000)
noncomputable def diskOk (d : Disk) : Bool := @decide (DiskGood d) (Classical.propDecidable _)
theorem diskOk_yes {d : Disk} (h : DiskGood d) : diskOk d = true := by unfold diskOk; exact @decide_eq_true _ (Classical.propDecidable _) h
theorem diskOk_no {d : Disk} (h : ¬ DiskGood d) : diskOk d = false := by unfold diskOk; exact @decide_eq_false _ (Classical.propDecidable _) h
theorem diskOk_good {d : Disk} (h : diskOk d = true) : DiskGood d := by unfold diskOk at h; exact @of_decide_eq_true _ (Classical.propDecidable _) h
theorem diskOk_bad {d : Disk} (h : diskOk d = false) : ¬ DiskGood d := by unfold diskOk at h; exact @of_decide_eq_false _ (Classical.propDecidable _) h

/-- A bool comes back; what was there is as it was. -/
def RetBool (w : World) (b : Bool) (e : Ending) (w' : World) : Prop := e = .returned (.bool b) ∧ Below w.heap.size w w'

def AllP {α : Type} (P : α → Prop) (xs : List α) (k : Nat) : Prop := ∀ l, l ∈ xs.take k → P l
theorem AllP.zero {α : Type} (P : α → Prop) (xs : List α) : AllP P xs 0 := by intro l hl; simp at hl
theorem AllP.succ {α : Type} {P : α → Prop} {xs : List α} {k : Nat} {l : α} (h : AllP P xs k) (hx : xs[k]? = some l) (hl : P l) : AllP P xs (k + 1) := by
  intro m hm
  rw [Rep.take_get hx, List.mem_append] at hm
  rcases hm with hm | hm
  · exact h m hm
  · simp at hm; subst hm; exact hl
theorem AllP.all {α : Type} {P : α → Prop} {xs : List α} (h : AllP P xs xs.length) : ∀ l, l ∈ xs → P l := fun l hl => h l (by simpa using hl)

set_option maxHeartbeats 1000000 in
theorem hasSec_yes (cs : List Value) (d : Disk) (n : Int) (w : World) (h : diskR.at_ w w.heap.size cs d) (h0 : 0 ≤ n) (h1 : n < (d.secs.length : Int)) : Calls Try.prog 45 #[.agg cs.toArray, .int .i64 n] w (RetBool w true) := by
  obtain ⟨A, c, A', c', rfl, _, _, _, _⟩ := disk_cells h
  clear h
  go_enter Try.func45, Try.ntmps45
  go_wp2
  go_ret
  exact ⟨rfl, (Below.refl _ _).alloc (Nat.le_refl _) _⟩

set_option maxHeartbeats 1000000 in
theorem hasSec_no (cs : List Value) (d : Disk) (n : Int) (w : World) (h : diskR.at_ w w.heap.size cs d) (h1 : ¬ (0 ≤ n ∧ n < (d.secs.length : Int))) : Calls Try.prog 45 #[.agg cs.toArray, .int .i64 n] w (RetBool w false) := by
  obtain ⟨A, c, A', c', rfl, _, _, _, _⟩ := disk_cells h
  clear h
  by_cases h0 : 0 ≤ n
  · have h2 : ¬ n < (d.secs.length : Int) := fun h2 => h1 ⟨h0, h2⟩
    clear h1
    go_enter Try.func45, Try.ntmps45
    go_wp2
    go_ret
    exact ⟨rfl, (Below.refl _ _).alloc (Nat.le_refl _) _⟩
  · clear h1
    go_enter Try.func45, Try.ntmps45
    go_wp2
    go_ret
    exact ⟨rfl, (Below.refl _ _).alloc (Nat.le_refl _) _⟩

set_option maxHeartbeats 2000000 in
theorem diskOk_any (cs : List Value) (d : Disk) (w : World) (h : diskR.at_ w w.heap.size cs d) (hs : Fits d) :
    Calls Try.prog 14 #[.agg cs.toArray] w (RetBool w (diskOk d)) := by
  obtain ⟨A, c, A', c', rfl, _, _, hr, hr'⟩ := disk_cells h
  have f1 := hs.1
  have f3 := hs.2.2.1
  by_cases hlen : 1 ≤ d.secs.length ∧ d.secs.length ≤ 40 ∧ d.cache.length ≤ 30
  · obtain ⟨l1, l2, l3⟩ := id hlen
    have n1 : ¬ ((d.secs.length : Int) < 1) := by omega
    have n2 : ¬ ((d.secs.length : Int) > 40) := by omega
    have n3 : ¬ ((d.cache.length : Int) > 30) := by omega
    go_enter Try.func14, Try.ntmps14
    go_wp2
    have hat0 : diskR.at_ (w.alloc (.cells #[.slice A d.secs.length c, .slice A' d.cache.length c', .int .i64 d.fuse, .bool d.down] 27)) w.heap.size [.slice A d.secs.length c, .slice A' d.cache.length c', .int .i64 d.fuse, .bool d.down] d := Rep.at_alloc h (Nat.le_refl _) _
    have hv := heap_alloc_new w (.cells #[.slice A d.secs.length c, .slice A' d.cache.length c', .int .i64 d.fuse, .bool d.down] 27)
    have hb0 : Below w.heap.size w (w.alloc (.cells #[.slice A d.secs.length c, .slice A' d.cache.length c', .int .i64 d.fuse, .bool d.down] 27)) := (Below.refl _ _).alloc (Nat.le_refl _) _
    have hs0 : w.heap.size < (w.alloc (.cells #[.slice A d.secs.length c, .slice A' d.cache.length c', .int .i64 d.fuse, .bool d.down] 27)).heap.size := by simp
    replace hr := hr.keep fun p hp => hb0.cell hp
    replace hr' := hr'.keep fun p hp => hb0.cell hp
    generalize w.alloc (.cells #[.slice A d.secs.length c, .slice A' d.cache.length c', .int .i64 d.fuse, .bool d.down] 27) = W1 at hat0 hv hb0 hs0 hr hr' ⊢
    have HV := Lib.hid hv
    have HA := Lib.hid h
    clear hv h
    go_loop [4, 26] (fun _ i => ∃ k : Nat, k ≤ d.secs.length ∧ i = .int .i64 k ∧ AllP (fun b : List UInt8 => b.length ≤ 160) d.secs k) (fun _ i => d.secs.length - (intOf i).toNat)
    case atStart => exact ⟨0, by omega, rfl, AllP.zero _ _⟩
    case round =>
      obtain ⟨k, hk, rfl, hall⟩ := hrel
      by_cases hlt : k < d.secs.length
      · obtain ⟨b, off, A2, c2, l, rfl, hbl, hx, hcell, hlc, _⟩ := secs_elem hr hlt
        have hl63 : l.length ≤ 9223372036854775807 := Nat.le_trans hlc.1 hlc.2
        have HX := Lib.hid hx
        clear hx hlc
        by_cases h160 : l.length ≤ 160
        · go_wp2
          go_round
          case rel => exact ⟨k + 1, by omega, by go_num, hall.succ HX.out h160⟩
          case measure => simp [intOf]; omega
        · go_wp2
          go_ret
          exact ⟨by rw [diskOk_no (fun hg => h160 (hg.2.1 l (List.mem_of_getElem? HX.out)))]; rfl, hb0⟩
      · have he : k = d.secs.length := by omega
        subst he
        have hsecs := Lib.hid hall.all
        have c0 : W1.cell? ⟨w.heap.size, 1, none⟩ = some (.slice A' d.cache.length c') := var_cell HV.out 1
        go_wp2
        clear c0
        go_loopw [37] (fun i wr => ∃ k : Nat, k ≤ d.cache.length ∧ i = .int .i64 k ∧ AllP (WrOk d.secs.length) d.cache k ∧ Below W1.heap.size W1 wr) (fun i _ => d.cache.length - (intOf i).toNat)
        case atStart => exact ⟨0, by omega, rfl, AllP.zero _ _, Below.refl _ _⟩
        case round =>
          obtain ⟨k, hk, rfl, hall2, hb⟩ := hrel
          have hbw : Below w.heap.size w wr := hb0.trans (hb.mono (by omega))
          have hvr := Lib.hid ((hb.block w.heap.size hs0).trans HV.out)
          have hzr : w.heap.size < wr.heap.size := by have := hb.size; omega
          by_cases hlt : k < d.cache.length
          · obtain ⟨b, off, A2, c2, x, rfl, hbl, hx, hcell1, hcell2, hlc, _⟩ := wr_elem (hr'.keep fun p hp => hb.cell (by omega)) hlt
            have hl63 : x.b.length ≤ 9223372036854775807 := Nat.le_trans hlc.1 hlc.2
            have HX := Lib.hid hx
            clear hx hlc
            have d0 : wr.cell? ⟨w.heap.size, 0, none⟩ = some (.slice A d.secs.length c) := var_cell hvr.out 0
            have d1 : wr.cell? ⟨w.heap.size, 1, none⟩ = some (.slice (some ⟨b, off, none⟩) d.cache.length c') := var_cell hvr.out 1
            have d2 : wr.cell? ⟨w.heap.size, 2, none⟩ = some (.int .i64 d.fuse) := var_cell hvr.out 2
            have d3 : wr.cell? ⟨w.heap.size, 3, none⟩ = some (.bool d.down) := var_cell hvr.out 3
            have hatr : diskR.at_ (wr.alloc (.cells #[.int .i64 x.n, .slice A2 x.b.length c2] 42)) (wr.alloc (.cells #[.int .i64 x.n, .slice A2 x.b.length c2] 42)).heap.size [.slice A d.secs.length c, .slice (some ⟨b, off, none⟩) d.cache.length c', .int .i64 d.fuse, .bool d.down] d := Rep.more diskR (Rep.at_alloc (Rep.at_below HA.out hbw) hbw.size _) (by simp; omega)
            by_cases hin : 0 ≤ x.n ∧ x.n < (d.secs.length : Int)
            · go_wp2_with fail
              refine (hasSec_yes _ d x.n _ hatr hin.1 hin.2).mono ?_
              rintro e w3 ⟨rfl, hb3⟩
              obtain ⟨hc, hf⟩ := bcell hb3
              have hbw3 : Below W1.heap.size W1 w3 := (hb.alloc hb.size _).trans (hb3.mono (by simp; have := hb.size; omega))
              have hb03 : Below w.heap.size w w3 := hb0.trans (hbw3.mono (by omega))
              by_cases h160 : x.b.length ≤ 160
              · go_wp2
                go_roundw
                case rel => exact ⟨k + 1, by omega, by go_num, hall2.succ HX.out ⟨hin.1, hin.2, h160⟩, hbw3⟩
                case measure => simp [intOf]; omega
              · go_wp2
                go_ret
                exact ⟨by rw [diskOk_no (fun hg => h160 (hg.2.2.1 x (List.mem_of_getElem? HX.out)).2.2)]; rfl, hb03⟩
            · go_wp2_with fail
              refine (hasSec_no _ d x.n _ hatr hin).mono ?_
              rintro e w3 ⟨rfl, hb3⟩
              have hb03 : Below w.heap.size w w3 := (hbw.alloc hbw.size _).trans (hb3.mono (by simp; omega))
              go_wp2
              go_ret
              exact ⟨by rw [diskOk_no (fun hg => hin ⟨(hg.2.2.1 x (List.mem_of_getElem? HX.out)).1, (hg.2.2.1 x (List.mem_of_getElem? HX.out)).2.1⟩)]; rfl, hb03⟩
          · have he : k = d.cache.length := by omega
            subst he
            have d2 : wr.cell? ⟨w.heap.size, 2, none⟩ = some (.int .i64 d.fuse) := var_cell hvr.out 2
            by_cases q1 : -1 ≤ d.fuse
            · by_cases q2 : d.fuse ≤ 1000
              · have HG := Lib.hid (diskOk_yes ⟨⟨l1, l2, l3⟩, hsecs.out, hall2.all, q1, q2⟩)
                go_wp2
                go_ret
                exact ⟨by rw [HG.out]; rfl, hbw⟩
              · have HG := Lib.hid (diskOk_no (d := d) (fun hg => q2 hg.2.2.2.2))
                go_wp2
                go_ret
                exact ⟨by rw [HG.out]; rfl, hbw⟩
            · have HG := Lib.hid (diskOk_no (d := d) (fun hg => q1 hg.2.2.2.1))
              go_wp2
              go_ret
              exact ⟨by rw [HG.out]; rfl, hbw⟩
  · have HB := Lib.hid (diskOk_no (d := d) (fun hg => hlen hg.1))
    by_cases l1 : 1 ≤ d.secs.length
    · by_cases l2 : d.secs.length ≤ 40
      · have l3 : ¬ d.cache.length ≤ 30 := fun l3 => hlen ⟨l1, l2, l3⟩
        clear h hlen hs
        go_enter Try.func14, Try.ntmps14
        go_wp2
        go_ret
        exact ⟨by rw [HB.out]; rfl, (Below.refl _ _).alloc (Nat.le_refl _) _⟩
      · clear h hlen hs
        go_enter Try.func14, Try.ntmps14
        go_wp2
        go_ret
        exact ⟨by rw [HB.out]; rfl, (Below.refl _ _).alloc (Nat.le_refl _) _⟩
    · clear h hlen hs
      go_enter Try.func14, Try.ntmps14
      go_wp2
      go_ret
      exact ⟨by rw [HB.out]; rfl, (Below.refl _ _).alloc (Nat.le_refl _) _⟩

end Go.Proofs.Ytjhfnfffpofagaa
