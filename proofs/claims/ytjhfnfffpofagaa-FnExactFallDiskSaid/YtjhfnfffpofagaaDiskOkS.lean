/- DiskOk of the model. -/
import Derived.Test.YtjhfnfffpofagaaDiskOk
namespace Go.Proofs.Ytjhfnfffpofagaa
open Go.RowKit
set_option linter.unusedVariables false

set_option maxHeartbeats 2000000 in
theorem diskOkS_any (cs : List Value) (d : Disk) (w : World) (h : diskR.at_ w w.heap.size cs d) (hs : Fits d) :
    Calls Try.prog 15 #[.agg cs.toArray] w (RetBool w (diskOk d)) := by
  obtain ⟨A, c, A', c', rfl, _, _, hr, hr'⟩ := disk_cells h
  have f1 := hs.1
  have f3 := hs.2.2.1
  go_enter Try.func15, Try.ntmps15
  go_wp2
  have hv := heap_alloc_new w (.cells #[.slice A d.secs.length c, .slice A' d.cache.length c', .int .i64 d.fuse, .bool d.down] 27)
  have hb0 : Below w.heap.size w (w.alloc (.cells #[.slice A d.secs.length c, .slice A' d.cache.length c', .int .i64 d.fuse, .bool d.down] 27)) := (Below.refl _ _).alloc (Nat.le_refl _) _
  have hs0 : w.heap.size < (w.alloc (.cells #[.slice A d.secs.length c, .slice A' d.cache.length c', .int .i64 d.fuse, .bool d.down] 27)).heap.size := by simp
  replace hr := hr.keep fun p hp => hb0.cell hp
  replace hr' := hr'.keep fun p hp => hb0.cell hp
  generalize w.alloc (.cells #[.slice A d.secs.length c, .slice A' d.cache.length c', .int .i64 d.fuse, .bool d.down] 27) = W1 at hv hb0 hs0 hr hr' ⊢
  have c0 : W1.cell? ⟨w.heap.size, 0, none⟩ = some (.slice A d.secs.length c) := var_cell hv 0
  have c1 : W1.cell? ⟨w.heap.size, 1, none⟩ = some (.slice A' d.cache.length c') := var_cell hv 1
  have c2 : W1.cell? ⟨w.heap.size, 2, none⟩ = some (.int .i64 d.fuse) := var_cell hv 2
  clear hv h
  go_loop [3] (fun i => ∃ k : Nat, k ≤ d.secs.length ∧ i = .int .i64 k ∧ AllP (fun b : List UInt8 => b.length ≤ 160) d.secs k) (fun i => d.secs.length - (intOf i).toNat)
  case atStart => exact ⟨0, by omega, rfl, AllP.zero _ _⟩
  case round =>
    obtain ⟨k, hk, rfl, hall⟩ := hrel
    by_cases hlt : k < d.secs.length
    · obtain ⟨b, off, A2, cc, l, rfl, hbl, hx, hcell, hlc, _⟩ := secs_elem hr hlt
      have hl63 : l.length ≤ 9223372036854775807 := Nat.le_trans hlc.1 hlc.2
      have HX := Lib.hid hx
      clear hx hlc
      by_cases h160 : l.length ≤ 160
      · go_wp2
        go_round
        case rel => exact ⟨k + 1, by omega, by go_num, hall.succ HX.out h160⟩
        case measure => simp [intOf]; omega
      · go_wp2
        go_ret
        exact ⟨by rw [diskOk_no (fun hg => h160 (hg.2.1 l (List.mem_of_getElem? HX.out)))]; rfl, hb0⟩
    · have he : k = d.secs.length := by omega
      subst he
      have hsecs := Lib.hid hall.all
      go_wp2
      go_loopw [4] (fun i wr => ∃ k : Nat, k ≤ d.cache.length ∧ i = .int .i64 k ∧ AllP (WrOk d.secs.length) d.cache k ∧ Hid (∃ n, wr = W1.drewN n)) (fun i _ => d.cache.length - (intOf i).toNat)
      case atStart => exact ⟨0, by omega, rfl, AllP.zero _ _, Lib.hid ⟨0, rfl⟩⟩
      case round =>
        obtain ⟨k, hk, rfl, hall2, hw⟩ := hrel
        have hbw : Below w.heap.size w wr := by obtain ⟨n, rfl⟩ := hw.out; exact belowD hb0 n
        have hkeep : ∀ p : Addr, wr.cell? p = W1.cell? p := by obtain ⟨n, rfl⟩ := hw.out; exact fun _ => rfl
        have e0 : wr.cell? ⟨w.heap.size, 0, none⟩ = some (.slice A d.secs.length c) := (hkeep _).trans c0
        have e1 : wr.cell? ⟨w.heap.size, 1, none⟩ = some (.slice A' d.cache.length c') := (hkeep _).trans c1
        have e2 : wr.cell? ⟨w.heap.size, 2, none⟩ = some (.int .i64 d.fuse) := (hkeep _).trans c2
        by_cases hlt : k < d.cache.length
        · obtain ⟨b, off, A2, c2', x, rfl, hbl, hx, hcell1, hcell2, hlc, _⟩ := wr_elem (hr'.keep fun p hp => hkeep p) hlt
          have hl63 : x.b.length ≤ 9223372036854775807 := Nat.le_trans hlc.1 hlc.2
          have HX := Lib.hid hx
          clear hx hlc c0 c1 c2 hkeep
          have i1 : (0 : Int) ≤ (k : Int) := by omega
          have i2 : (k : Int) < (d.cache.length : Int) := by omega
          by_cases hin : 0 ≤ x.n ∧ x.n ≤ (d.secs.length : Int) - 1
          · by_cases h160 : x.b.length ≤ 160
            · have g160 : decide ((x.b.length : Int) > 160) = false := by simp; omega
              go_wp2
              go_quiet ((go_at_call 48; exact quiet_left (l1In_yes _ hin.1 hin.2)))
              go_wp2
              go_roundw
              case rel => exact ⟨k + 1, by omega, by go_num, hall2.succ HX.out ⟨hin.1, by omega, h160⟩, Lib.hid (by obtain ⟨n, rfl⟩ := hw.out; exact ⟨n + nq, by rw [World.drewN_drewN]⟩)⟩
              case measure => simp [intOf]; omega
            · have g160 : decide ((x.b.length : Int) > 160) = true := by simp; omega
              go_wp2
              go_quiet ((go_at_call 48; exact quiet_left (l1In_yes _ hin.1 hin.2)))
              go_wp2
              go_ret
              exact ⟨by rw [diskOk_no (fun hg => h160 (hg.2.2.1 x (List.mem_of_getElem? HX.out)).2.2)]; rfl, belowD hbw _⟩
          · have hin' : Hid (¬ (0 ≤ x.n ∧ x.n ≤ (d.secs.length : Int) - 1)) := Lib.hid hin
            clear hin
            go_wp2
            go_quiet ((go_at_call 48; exact quiet_left (l1In_no _ hin'.out)))
            go_wp2
            go_ret
            exact ⟨by rw [diskOk_no (fun hg => hin'.out ⟨(hg.2.2.1 x (List.mem_of_getElem? HX.out)).1, by have := (hg.2.2.1 x (List.mem_of_getElem? HX.out)).2.1; omega⟩)]; rfl, belowD hbw _⟩
        · have he : k = d.cache.length := by omega
          subst he
          clear c0 c1 c2 hkeep
          by_cases q0 : (1 : Int) ≤ (d.secs.length : Int) ∧ (d.secs.length : Int) ≤ 40
          · by_cases q3 : d.cache.length ≤ 30
            · by_cases q1 : -1 ≤ d.fuse ∧ d.fuse ≤ 1000
              · have HG := Lib.hid (diskOk_yes ⟨⟨by omega, by omega, q3⟩, hsecs.out, hall2.all, q1.1, q1.2⟩)
                go_wp2_with fail
                refine (l1In_yes _ q0.1 q0.2).mono ?_
                rintro e w3 ⟨rfl, rfl⟩
                go_wp2_with fail
                refine (l1In_yes _ q1.1 q1.2).mono ?_
                rintro e w3 ⟨rfl, rfl⟩
                go_wp2_with fail
                go_ret
                exact ⟨by rw [HG.out]; rfl, hbw⟩
              · have HG := Lib.hid (diskOk_no (d := d) (fun hg => q1 hg.2.2.2))
                have Q1 := Lib.hid q1
                clear q1
                go_wp2_with fail
                refine (l1In_yes _ q0.1 q0.2).mono ?_
                rintro e w3 ⟨rfl, rfl⟩
                go_wp2_with fail
                refine (l1In_no _ Q1.out).mono ?_
                rintro e w3 ⟨rfl, rfl⟩
                go_wp2_with fail
                go_ret
                exact ⟨by rw [HG.out]; rfl, hbw⟩
            · have HG := Lib.hid (diskOk_no (d := d) (fun hg => q3 hg.1.2.2))
              go_wp2_with fail
              refine (l1In_yes _ q0.1 q0.2).mono ?_
              rintro e w3 ⟨rfl, rfl⟩
              go_wp2_with fail
              go_ret
              exact ⟨by rw [HG.out]; rfl, hbw⟩
          · have HG := Lib.hid (diskOk_no (d := d) (fun hg => q0 ⟨by have := hg.1.1; omega, by have := hg.1.2.1; omega⟩))
            have Q0 := Lib.hid q0
            clear q0
            go_wp2_with fail
            refine (l1In_no _ Q0.out).mono ?_
            rintro e w3 ⟨rfl, rfl⟩
            go_wp2_with fail
            go_ret
            exact ⟨by rw [HG.out]; rfl, hbw⟩

end Go.Proofs.Ytjhfnfffpofagaa
