/- What the theorem needs, out of many texts. -/
import Derived.Test.YtoaaogacaibedaaGreatDoorShx17
import Derived.Deep.DeepMust
import Derived.BigQuiet
import Derived.Deep.QuietTactic
namespace Go.Proofs.YtoaaogacaibedaaGreatDoor
open Go.RowKit
set_option maxRecDepth 2000000
set_option linter.unusedVariables false
def RetDisk (w : World) (d : Disk) (e : Ending) (w' : World) : Prop := ∃ cs fp, e = .returned (.agg cs.toArray) ∧ diskR.own w' w.heap.size cs d fp ∧ Below w.heap.size w w'
theorem cache_nil (w : World) (base : Nat) : Rep.OwnRows wrR 100 w base (.slice none 0 0) [] [] := ⟨[], [], ⟨by simp, .inl ⟨rfl, rfl⟩⟩, rfl, fun i x f hx => by simp at hx, rfl, by simp⟩
theorem secs_nil (w : World) (base : Nat) : Rep.OwnRows byR 22 w base (.slice none 0 0) [] [] := ⟨[], [], ⟨by simp, .inl ⟨rfl, rfl⟩⟩, rfl, fun i x f hx => by simp at hx, rfl, by simp⟩
theorem own_shift {w : World} {base base' e size n g c : Nat} {cells : List Value} (h : w.ownsRow base e size (.slice (some ⟨g, 0, none⟩) n c) n cells) (hb : base' ≤ g) : w.ownsRow base' e size (.slice (some ⟨g, 0, none⟩) n c) n cells := by
 refine ⟨h.1, ?_⟩
 rcases h.2 with ⟨h2, _⟩ | ⟨g', cap, cur, hv, hg, r⟩
 ·cases h2
 ·have : g = g' := by injection hv with hv _ _; injection hv with hv; injection hv
  subst this
  exact .inr ⟨g, cap, cur, hv, hb, r⟩
def RetDiskAt (w : World) (d : Disk) (e : Ending) (w' : World) : Prop := ∃ cs, e = .returned (.agg cs.toArray) ∧ diskR.at_ w' w'.heap.size cs d ∧ Below w.heap.size w w'
theorem RetDisk.at {w : World} {d : Disk} {e : Ending} {w' : World} (h : RetDisk w d e w') : RetDiskAt w d e w' := by
 obtain ⟨cs, fp, he, ho, hb⟩ := h
 exact ⟨cs, he, Rep.reads diskR ho, hb⟩
def WrOk (m : Nat) (x : Wr) : Prop := 0 ≤ x.n ∧ x.n < (m : Int) ∧ x.b.length ≤ 160
def DiskGood (d : Disk) : Prop :=
 (1 ≤ d.secs.length ∧ d.secs.length ≤ 40 ∧ d.cache.length ≤ 30) ∧ (∀ b, b ∈ d.secs → b.length ≤ 160) ∧ (∀ x, x ∈ d.cache → WrOk d.secs.length x) ∧ (-1 ≤ d.fuse ∧ d.fuse ≤ 1000)
noncomputable def diskOk (d : Disk) : Bool := @decide (DiskGood d) (Classical.propDecidable _)
theorem diskOk_yes {d : Disk} (h : DiskGood d) : diskOk d = true := by unfold diskOk; exact @decide_eq_true _ (Classical.propDecidable _) h
theorem diskOk_no {d : Disk} (h : ¬ DiskGood d) : diskOk d = false := by unfold diskOk; exact @decide_eq_false _ (Classical.propDecidable _) h
theorem diskOk_good {d : Disk} (h : diskOk d = true) : DiskGood d := by unfold diskOk at h; exact @of_decide_eq_true _ (Classical.propDecidable _) h
theorem diskOk_bad {d : Disk} (h : diskOk d = false) : ¬ DiskGood d := by unfold diskOk at h; exact @of_decide_eq_false _ (Classical.propDecidable _) h
set_option maxHeartbeats 1000000 in
theorem hasSec_yes (cs : List Value) (d : Disk) (n : Int) (w : World) (h : diskR.at_ w w.heap.size cs d) (h0 : 0 ≤ n) (h1 : n < (d.secs.length : Int)) : Calls Tryz.prog 98 #[.agg cs.toArray, .int .i64 n] w (RetBool w true) := by
 obtain ⟨A, c, A', c', rfl, _, _, _, _⟩ := disk_cells h
 clear h
 go_enter Tryz.func98, Tryz.ntmps98
 go_wp2
 go_ret
 exact ⟨rfl, (Below.refl _ _).alloc (Nat.le_refl _) _⟩
set_option maxHeartbeats 1000000 in
theorem hasSec_no (cs : List Value) (d : Disk) (n : Int) (w : World) (h : diskR.at_ w w.heap.size cs d) (h1 : ¬ (0 ≤ n ∧ n < (d.secs.length : Int))) : Calls Tryz.prog 98 #[.agg cs.toArray, .int .i64 n] w (RetBool w false) := by
 obtain ⟨A, c, A', c', rfl, _, _, _, _⟩ := disk_cells h
 clear h
 by_cases h0 : 0 ≤ n
 ·have h2 : ¬ n < (d.secs.length : Int) := fun h2 => h1 ⟨h0, h2⟩
  clear h1
  go_enter Tryz.func98, Tryz.ntmps98
  go_wp2
  go_ret
  exact ⟨rfl, (Below.refl _ _).alloc (Nat.le_refl _) _⟩
 ·clear h1
  go_enter Tryz.func98, Tryz.ntmps98
  go_wp2
  go_ret
  exact ⟨rfl, (Below.refl _ _).alloc (Nat.le_refl _) _⟩
set_option maxHeartbeats 2000000 in
theorem diskOk_any (cs : List Value) (d : Disk) (w : World) (h : diskR.at_ w w.heap.size cs d) (hs : Fits d) :
  Calls Tryz.prog 45 #[.agg cs.toArray] w (RetBool w (diskOk d)) := by
 obtain ⟨A, c, A', c', rfl, _, _, hr, hr'⟩ := disk_cells h
 have f1 := hs.1
 have f3 := hs.2.2.1
 by_cases hlen : 1 ≤ d.secs.length ∧ d.secs.length ≤ 40 ∧ d.cache.length ≤ 30
 ·obtain ⟨l1, l2, l3⟩ := id hlen
  have n1 : ¬ ((d.secs.length : Int) < 1) := by omega
  have n2 : ¬ ((d.secs.length : Int) > 40) := by omega
  have n3 : ¬ ((d.cache.length : Int) > 30) := by omega
  go_enter Tryz.func45, Tryz.ntmps45
  go_wp2
  have hat0 : diskR.at_ (w.alloc (.cells #[.slice A d.secs.length c, .slice A' d.cache.length c', .int .i64 d.fuse, .bool d.down] 27)) w.heap.size [.slice A d.secs.length c, .slice A' d.cache.length c', .int .i64 d.fuse, .bool d.down] d := Rep.at_alloc h (Nat.le_refl _) _
  have hv := heap_alloc_new w (.cells #[.slice A d.secs.length c, .slice A' d.cache.length c', .int .i64 d.fuse, .bool d.down] 27)
  have hb0 : Below w.heap.size w (w.alloc (.cells #[.slice A d.secs.length c, .slice A' d.cache.length c', .int .i64 d.fuse, .bool d.down] 27)) := (Below.refl _ _).alloc (Nat.le_refl _) _
  have hs0 : w.heap.size < (w.alloc (.cells #[.slice A d.secs.length c, .slice A' d.cache.length c', .int .i64 d.fuse, .bool d.down] 27)).heap.size := by simp
  replace hr := hr.keep fun p hp => hb0.cell hp
  replace hr' := hr'.keep fun p hp => hb0.cell hp
  generalize w.alloc (.cells #[.slice A d.secs.length c, .slice A' d.cache.length c', .int .i64 d.fuse, .bool d.down] 27) = W1 at hat0 hv hb0 hs0 hr hr' ⊢
  have HV := Lib.hid hv
  have HA := Lib.hid h
  clear hv h
  go_loop [4, 26] (fun _ i => ∃ k : Nat, k ≤ d.secs.length ∧ i = .int .i64 k ∧ AllP (fun b : List UInt8 => b.length ≤ 160) d.secs k) (fun _ i => d.secs.length - (intOf i).toNat)
  case atStart => exact ⟨0, by omega, rfl, AllP.zero _ _⟩
  case round =>
   obtain ⟨k, hk, rfl, hall⟩ := hrel
   by_cases hlt : k < d.secs.length
   ·obtain ⟨b, off, A2, c2, l, rfl, hbl, hx, hcell, hlc, _⟩ := secs_elem hr hlt
    have hl63 : l.length ≤ 9223372036854775807 := Nat.le_trans hlc.1 hlc.2
    have HX := Lib.hid hx
    clear hx hlc
    by_cases h160 : l.length ≤ 160
    ·go_wp2
     go_round
     case rel => exact ⟨k + 1, by omega, by go_num, hall.succ HX.out h160⟩
     case measure => simp [intOf]; omega
    ·go_wp2
     go_ret
     exact ⟨by rw [diskOk_no (fun hg => h160 (hg.2.1 l (List.mem_of_getElem? HX.out)))]; rfl, hb0⟩
   ·have he : k = d.secs.length := by omega
    subst he
    have hsecs := Lib.hid hall.all
    have c0 : W1.cell? ⟨w.heap.size, 1, none⟩ = some (.slice A' d.cache.length c') := var_cell HV.out 1
    go_wp2
    clear c0
    go_loopw [37] (fun i wr => ∃ k : Nat, k ≤ d.cache.length ∧ i = .int .i64 k ∧ AllP (WrOk d.secs.length) d.cache k ∧ Below W1.heap.size W1 wr) (fun i _ => d.cache.length - (intOf i).toNat)
    case atStart => exact ⟨0, by omega, rfl, AllP.zero _ _, Below.refl _ _⟩
    case round =>
     obtain ⟨k, hk, rfl, hall2, hb⟩ := hrel
     have hbw : Below w.heap.size w wr := hb0.trans (hb.mono (by omega))
     have hvr := Lib.hid ((hb.block w.heap.size hs0).trans HV.out)
     have hzr : w.heap.size < wr.heap.size := by have := hb.size; omega
     by_cases hlt : k < d.cache.length
     ·obtain ⟨b, off, A2, c2, x, rfl, hbl, hx, hcell1, hcell2, hlc, _⟩ := wr_elem (hr'.keep fun p hp => hb.cell (by omega)) hlt
      have hl63 : x.b.length ≤ 9223372036854775807 := Nat.le_trans hlc.1 hlc.2
      have HX := Lib.hid hx
      clear hx hlc
      have d0 : wr.cell? ⟨w.heap.size, 0, none⟩ = some (.slice A d.secs.length c) := var_cell hvr.out 0
      have d1 : wr.cell? ⟨w.heap.size, 1, none⟩ = some (.slice (some ⟨b, off, none⟩) d.cache.length c') := var_cell hvr.out 1
      have d2 : wr.cell? ⟨w.heap.size, 2, none⟩ = some (.int .i64 d.fuse) := var_cell hvr.out 2
      have d3 : wr.cell? ⟨w.heap.size, 3, none⟩ = some (.bool d.down) := var_cell hvr.out 3
      have hatr : diskR.at_ (wr.alloc (.cells #[.int .i64 x.n, .slice A2 x.b.length c2] 100)) (wr.alloc (.cells #[.int .i64 x.n, .slice A2 x.b.length c2] 100)).heap.size [.slice A d.secs.length c, .slice (some ⟨b, off, none⟩) d.cache.length c', .int .i64 d.fuse, .bool d.down] d := Rep.more diskR (Rep.at_alloc (Rep.at_below HA.out hbw) hbw.size _) (by simp; omega)
      by_cases hin : 0 ≤ x.n ∧ x.n < (d.secs.length : Int)
      ·go_wp2_with fail
       refine (hasSec_yes _ d x.n _ hatr hin.1 hin.2).mono ?_
       rintro e w3 ⟨rfl, hb3⟩
       obtain ⟨hc, hf⟩ := bcell hb3
       have hbw3 : Below W1.heap.size W1 w3 := (hb.alloc hb.size _).trans (hb3.mono (by simp; have := hb.size; omega))
       have hb03 : Below w.heap.size w w3 := hb0.trans (hbw3.mono (by omega))
       by_cases h160 : x.b.length ≤ 160
       ·go_wp2
        go_roundw
        case rel => exact ⟨k + 1, by omega, by go_num, hall2.succ HX.out ⟨hin.1, hin.2, h160⟩, hbw3⟩
        case measure => simp [intOf]; omega
       ·go_wp2
        go_ret
        exact ⟨by rw [diskOk_no (fun hg => h160 (hg.2.2.1 x (List.mem_of_getElem? HX.out)).2.2)]; rfl, hb03⟩
      ·go_wp2_with fail
       refine (hasSec_no _ d x.n _ hatr hin).mono ?_
       rintro e w3 ⟨rfl, hb3⟩
       have hb03 : Below w.heap.size w w3 := (hbw.alloc hbw.size _).trans (hb3.mono (by simp; omega))
       go_wp2
       go_ret
       exact ⟨by rw [diskOk_no (fun hg => hin ⟨(hg.2.2.1 x (List.mem_of_getElem? HX.out)).1, (hg.2.2.1 x (List.mem_of_getElem? HX.out)).2.1⟩)]; rfl, hb03⟩
     ·have he : k = d.cache.length := by omega
      subst he
      have d2 : wr.cell? ⟨w.heap.size, 2, none⟩ = some (.int .i64 d.fuse) := var_cell hvr.out 2
      by_cases q1 : -1 ≤ d.fuse
      ·by_cases q2 : d.fuse ≤ 1000
       ·have HG := Lib.hid (diskOk_yes ⟨⟨l1, l2, l3⟩, hsecs.out, hall2.all, q1, q2⟩)
        go_wp2
        go_ret
        exact ⟨by rw [HG.out]; rfl, hbw⟩
       ·have HG := Lib.hid (diskOk_no (d := d) (fun hg => q2 hg.2.2.2.2))
        go_wp2
        go_ret
        exact ⟨by rw [HG.out]; rfl, hbw⟩
      ·have HG := Lib.hid (diskOk_no (d := d) (fun hg => q1 hg.2.2.2.1))
       go_wp2
       go_ret
       exact ⟨by rw [HG.out]; rfl, hbw⟩
 ·have HB := Lib.hid (diskOk_no (d := d) (fun hg => hlen hg.1))
  by_cases l1 : 1 ≤ d.secs.length
  ·by_cases l2 : d.secs.length ≤ 40
   ·have l3 : ¬ d.cache.length ≤ 30 := fun l3 => hlen ⟨l1, l2, l3⟩
    clear h hlen hs
    go_enter Tryz.func45, Tryz.ntmps45
    go_wp2
    go_ret
    exact ⟨by rw [HB.out]; rfl, (Below.refl _ _).alloc (Nat.le_refl _) _⟩
   ·clear h hlen hs
    go_enter Tryz.func45, Tryz.ntmps45
    go_wp2
    go_ret
    exact ⟨by rw [HB.out]; rfl, (Below.refl _ _).alloc (Nat.le_refl _) _⟩
  ·clear h hlen hs
   go_enter Tryz.func45, Tryz.ntmps45
   go_wp2
   go_ret
   exact ⟨by rw [HB.out]; rfl, (Below.refl _ _).alloc (Nat.le_refl _) _⟩
set_option maxHeartbeats 2000000 in
theorem diskOkS_any (cs : List Value) (d : Disk) (w : World) (h : diskR.at_ w w.heap.size cs d) (hs : Fits d) :
  Calls Tryz.prog 47 #[.agg cs.toArray] w (RetBool w (diskOk d)) := by
 obtain ⟨A, c, A', c', rfl, _, _, hr, hr'⟩ := disk_cells h
 have f1 := hs.1
 have f3 := hs.2.2.1
 go_enter Tryz.func47, Tryz.ntmps47
 go_wp2
 have hv := heap_alloc_new w (.cells #[.slice A d.secs.length c, .slice A' d.cache.length c', .int .i64 d.fuse, .bool d.down] 27)
 have hb0 : Below w.heap.size w (w.alloc (.cells #[.slice A d.secs.length c, .slice A' d.cache.length c', .int .i64 d.fuse, .bool d.down] 27)) := (Below.refl _ _).alloc (Nat.le_refl _) _
 have hs0 : w.heap.size < (w.alloc (.cells #[.slice A d.secs.length c, .slice A' d.cache.length c', .int .i64 d.fuse, .bool d.down] 27)).heap.size := by simp
 replace hr := hr.keep fun p hp => hb0.cell hp
 replace hr' := hr'.keep fun p hp => hb0.cell hp
 generalize w.alloc (.cells #[.slice A d.secs.length c, .slice A' d.cache.length c', .int .i64 d.fuse, .bool d.down] 27) = W1 at hv hb0 hs0 hr hr' ⊢
 have c0 : W1.cell? ⟨w.heap.size, 0, none⟩ = some (.slice A d.secs.length c) := var_cell hv 0
 have c1 : W1.cell? ⟨w.heap.size, 1, none⟩ = some (.slice A' d.cache.length c') := var_cell hv 1
 have c2 : W1.cell? ⟨w.heap.size, 2, none⟩ = some (.int .i64 d.fuse) := var_cell hv 2
 clear hv h
 go_loop [3] (fun i => ∃ k : Nat, k ≤ d.secs.length ∧ i = .int .i64 k ∧ AllP (fun b : List UInt8 => b.length ≤ 160) d.secs k) (fun i => d.secs.length - (intOf i).toNat)
 case atStart => exact ⟨0, by omega, rfl, AllP.zero _ _⟩
 case round =>
  obtain ⟨k, hk, rfl, hall⟩ := hrel
  by_cases hlt : k < d.secs.length
  ·obtain ⟨b, off, A2, cc, l, rfl, hbl, hx, hcell, hlc, _⟩ := secs_elem hr hlt
   have hl63 : l.length ≤ 9223372036854775807 := Nat.le_trans hlc.1 hlc.2
   have HX := Lib.hid hx
   clear hx hlc
   by_cases h160 : l.length ≤ 160
   ·go_wp2
    go_round
    case rel => exact ⟨k + 1, by omega, by go_num, hall.succ HX.out h160⟩
    case measure => simp [intOf]; omega
   ·go_wp2
    go_ret
    exact ⟨by rw [diskOk_no (fun hg => h160 (hg.2.1 l (List.mem_of_getElem? HX.out)))]; rfl, hb0⟩
  ·have he : k = d.secs.length := by omega
   subst he
   have hsecs := Lib.hid hall.all
   go_wp2
   go_loopw [4] (fun i wr => ∃ k : Nat, k ≤ d.cache.length ∧ i = .int .i64 k ∧ AllP (WrOk d.secs.length) d.cache k ∧ Hid (∃ n, wr = W1.drewN n)) (fun i _ => d.cache.length - (intOf i).toNat)
   case atStart => exact ⟨0, by omega, rfl, AllP.zero _ _, Lib.hid ⟨0, rfl⟩⟩
   case round =>
    obtain ⟨k, hk, rfl, hall2, hw⟩ := hrel
    have hbw : Below w.heap.size w wr := by obtain ⟨n, rfl⟩ := hw.out; exact belowD hb0 n
    have hkeep : ∀ p : Addr, wr.cell? p = W1.cell? p := by obtain ⟨n, rfl⟩ := hw.out; exact fun _ => rfl
    have e0 : wr.cell? ⟨w.heap.size, 0, none⟩ = some (.slice A d.secs.length c) := (hkeep _).trans c0
    have e1 : wr.cell? ⟨w.heap.size, 1, none⟩ = some (.slice A' d.cache.length c') := (hkeep _).trans c1
    have e2 : wr.cell? ⟨w.heap.size, 2, none⟩ = some (.int .i64 d.fuse) := (hkeep _).trans c2
    by_cases hlt : k < d.cache.length
    ·obtain ⟨b, off, A2, c2', x, rfl, hbl, hx, hcell1, hcell2, hlc, _⟩ := wr_elem (hr'.keep fun p hp => hkeep p) hlt
     have hl63 : x.b.length ≤ 9223372036854775807 := Nat.le_trans hlc.1 hlc.2
     have HX := Lib.hid hx
     clear hx hlc c0 c1 c2 hkeep
     have i1 : (0 : Int) ≤ (k : Int) := by omega
     have i2 : (k : Int) < (d.cache.length : Int) := by omega
     by_cases hin : 0 ≤ x.n ∧ x.n ≤ (d.secs.length : Int) - 1
     ·by_cases h160 : x.b.length ≤ 160
      ·have g160 : decide ((x.b.length : Int) > 160) = false := by simp; omega
       go_wp2
       go_quiet ((go_at_call 67; exact quiet_left (l1In_yes _ hin.1 hin.2)))
       go_wp2
       go_roundw
       case rel => exact ⟨k + 1, by omega, by go_num, hall2.succ HX.out ⟨hin.1, by omega, h160⟩, Lib.hid (by obtain ⟨n, rfl⟩ := hw.out; exact ⟨n + nq, by rw [World.drewN_drewN]⟩)⟩
       case measure => simp [intOf]; omega
      ·have g160 : decide ((x.b.length : Int) > 160) = true := by simp; omega
       go_wp2
       go_quiet ((go_at_call 67; exact quiet_left (l1In_yes _ hin.1 hin.2)))
       go_wp2
       go_ret
       exact ⟨by rw [diskOk_no (fun hg => h160 (hg.2.2.1 x (List.mem_of_getElem? HX.out)).2.2)]; rfl, belowD hbw _⟩
     ·have hin' : Hid (¬ (0 ≤ x.n ∧ x.n ≤ (d.secs.length : Int) - 1)) := Lib.hid hin
      clear hin
      go_wp2
      go_quiet ((go_at_call 67; exact quiet_left (l1In_no _ hin'.out)))
      go_wp2
      go_ret
      exact ⟨by rw [diskOk_no (fun hg => hin'.out ⟨(hg.2.2.1 x (List.mem_of_getElem? HX.out)).1, by have := (hg.2.2.1 x (List.mem_of_getElem? HX.out)).2.1; omega⟩)]; rfl, belowD hbw _⟩
    ·have he : k = d.cache.length := by omega
     subst he
     clear c0 c1 c2 hkeep
     by_cases q0 : (1 : Int) ≤ (d.secs.length : Int) ∧ (d.secs.length : Int) ≤ 40
     ·by_cases q3 : d.cache.length ≤ 30
      ·by_cases q1 : -1 ≤ d.fuse ∧ d.fuse ≤ 1000
       ·have HG := Lib.hid (diskOk_yes ⟨⟨by omega, by omega, q3⟩, hsecs.out, hall2.all, q1.1, q1.2⟩)
        go_wp2_with fail
        refine (l1In_yes _ q0.1 q0.2).mono ?_
        rintro e w3 ⟨rfl, rfl⟩
        go_wp2_with fail
        refine (l1In_yes _ q1.1 q1.2).mono ?_
        rintro e w3 ⟨rfl, rfl⟩
        go_wp2_with fail
        go_ret
        exact ⟨by rw [HG.out]; rfl, hbw⟩
       ·have HG := Lib.hid (diskOk_no (d := d) (fun hg => q1 hg.2.2.2))
        have Q1 := Lib.hid q1
        clear q1
        go_wp2_with fail
        refine (l1In_yes _ q0.1 q0.2).mono ?_
        rintro e w3 ⟨rfl, rfl⟩
        go_wp2_with fail
        refine (l1In_no _ Q1.out).mono ?_
        rintro e w3 ⟨rfl, rfl⟩
        go_wp2_with fail
        go_ret
        exact ⟨by rw [HG.out]; rfl, hbw⟩
      ·have HG := Lib.hid (diskOk_no (d := d) (fun hg => q3 hg.1.2.2))
       go_wp2_with fail
       refine (l1In_yes _ q0.1 q0.2).mono ?_
       rintro e w3 ⟨rfl, rfl⟩
       go_wp2_with fail
       go_ret
       exact ⟨by rw [HG.out]; rfl, hbw⟩
     ·have HG := Lib.hid (diskOk_no (d := d) (fun hg => q0 ⟨by have := hg.1.1; omega, by have := hg.1.2.1; omega⟩))
      have Q0 := Lib.hid q0
      clear q0
      go_wp2_with fail
      refine (l1In_no _ Q0.out).mono ?_
      rintro e w3 ⟨rfl, rfl⟩
      go_wp2_with fail
      go_ret
      exact ⟨by rw [HG.out]; rfl, hbw⟩
end Go.Proofs.YtoaaogacaibedaaGreatDoor
