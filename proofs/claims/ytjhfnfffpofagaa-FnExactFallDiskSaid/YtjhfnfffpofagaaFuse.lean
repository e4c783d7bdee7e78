/- One operation taken from the fuse, in the program and in the model. -/
import Derived.Test.YtjhfnfffpofagaaExact
namespace Go.Proofs.Ytjhfnfffpofagaa
open Go.RowKit
set_option linter.unusedVariables false

def fuseAfter (f : Int) : Int := if 0 < f then f - 1 else f

set_option maxHeartbeats 1000000 in
theorem l2Fuse_zero (g : Nat) (a b : Value) (dn : Bool) (w : World) (hv : w.heap[g]? = some (.cells #[a, b, .int .i64 0, .bool dn] 27 (0, 0))) :
    Calls Try.prog 50 #[.pointer (some ⟨g, 0, none⟩)] w fun e w' => e = .returned (.bool false) ∧ Hid (w'.heap[g]? = some (.cells #[a, b, .int .i64 (-1), .bool true] 27 (0, 0))) ∧ Rep.Only w w' [g] := by
  have c2 : w.cell? ⟨g, 2, none⟩ = some (.int .i64 0) := var_cell hv 2
  have c3 : w.cell? ⟨g, 3, none⟩ = some (.bool dn) := var_cell hv 3
  have q2 := var_frozen hv 2
  have q3 := var_frozen hv 3
  have HV := Lib.hid hv
  clear hv
  go_enter Try.func50, Try.ntmps50
  go_wp2
  go_ret
  exact ⟨rfl, Lib.hid (var_set (var_set HV.out 3 (.bool true)) 2 (.int .i64 (-1))), (Rep.Only.setCell w (by simp) _).trans (Rep.Only.setCell _ (by simp) _)⟩

set_option maxHeartbeats 1000000 in
theorem l2Fuse_go (g : Nat) (a b : Value) (f : Int) (dn : Bool) (w : World) (hv : w.heap[g]? = some (.cells #[a, b, .int .i64 f, .bool dn] 27 (0, 0))) (h0 : f ≠ 0) (h1 : -1 ≤ f) (h2 : f ≤ 1000) :
    Calls Try.prog 50 #[.pointer (some ⟨g, 0, none⟩)] w fun e w' => e = .returned (.bool true) ∧ Hid (w'.heap[g]? = some (.cells #[a, b, .int .i64 (fuseAfter f), .bool dn] 27 (0, 0))) ∧ Rep.Only w w' [g] := by
  have c2 : w.cell? ⟨g, 2, none⟩ = some (.int .i64 f) := var_cell hv 2
  have q2 := var_frozen hv 2
  have HV := Lib.hid hv
  have hne : (f == 0) = false := by simpa using h0
  clear hv h0
  by_cases hp : 0 < f
  · have hp' : f > 0 := hp
    have HF := Lib.hid (show fuseAfter f = f - 1 by unfold fuseAfter; rw [if_pos hp])
    go_enter Try.func50, Try.ntmps50
    go_wp2
    go_ret
    exact ⟨rfl, Lib.hid (by rw [HF.out]; exact var_set HV.out 2 (.int .i64 (f - 1))), Rep.Only.setCell w (by simp) _⟩
  · have HF := Lib.hid (show fuseAfter f = f by unfold fuseAfter; rw [if_neg hp])
    go_enter Try.func50, Try.ntmps50
    go_wp2
    go_ret
    exact ⟨rfl, Lib.hid (by rw [HF.out]; exact HV.out), Rep.Only.refl _ _⟩

set_option maxHeartbeats 1000000 in
theorem powered_zero (g : Nat) (a b m : Value) (dn : Bool) (w : World) (hv : w.heap[g]? = some (.cells #[a, b, .int .i64 0, .bool dn, m] 68 (0, 0))) :
    Calls Try.prog 69 #[.pointer (some ⟨g, 0, none⟩)] w fun e w' => e = .returned (.bool false) ∧ Hid (w'.heap[g]? = some (.cells #[a, b, .int .i64 (-1), .bool true, m] 68 (0, 0))) ∧ Rep.Only w w' [g] := by
  have c2 : w.cell? ⟨g, 2, none⟩ = some (.int .i64 0) := var_cell hv 2
  have c3 : w.cell? ⟨g, 3, none⟩ = some (.bool dn) := var_cell hv 3
  have q2 := var_frozen hv 2
  have q3 := var_frozen hv 3
  have HV := Lib.hid hv
  clear hv
  go_enter Try.func69, Try.ntmps69
  go_wp2
  go_ret
  exact ⟨rfl, Lib.hid (var_set (var_set HV.out 3 (.bool true)) 2 (.int .i64 (-1))), (Rep.Only.setCell w (by simp) _).trans (Rep.Only.setCell _ (by simp) _)⟩

set_option maxHeartbeats 1000000 in
theorem powered_go (g : Nat) (a b m : Value) (f : Int) (dn : Bool) (w : World) (hv : w.heap[g]? = some (.cells #[a, b, .int .i64 f, .bool dn, m] 68 (0, 0))) (h0 : f ≠ 0) (h1 : -1 ≤ f) (h2 : f ≤ 1000) :
    Calls Try.prog 69 #[.pointer (some ⟨g, 0, none⟩)] w fun e w' => e = .returned (.bool true) ∧ Hid (w'.heap[g]? = some (.cells #[a, b, .int .i64 (fuseAfter f), .bool dn, m] 68 (0, 0))) ∧ Rep.Only w w' [g] := by
  have c2 : w.cell? ⟨g, 2, none⟩ = some (.int .i64 f) := var_cell hv 2
  have q2 := var_frozen hv 2
  have HV := Lib.hid hv
  have hne : (f == 0) = false := by simpa using h0
  clear hv h0
  by_cases hp : 0 < f
  · have hp' : f > 0 := hp
    have HF := Lib.hid (show fuseAfter f = f - 1 by unfold fuseAfter; rw [if_pos hp])
    go_enter Try.func69, Try.ntmps69
    go_wp2
    go_ret
    exact ⟨rfl, Lib.hid (by rw [HF.out]; exact var_set HV.out 2 (.int .i64 (f - 1))), Rep.Only.setCell w (by simp) _⟩
  · have HF := Lib.hid (show fuseAfter f = f by unfold fuseAfter; rw [if_neg hp])
    go_enter Try.func69, Try.ntmps69
    go_wp2
    go_ret
    exact ⟨rfl, Lib.hid (by rw [HF.out]; exact HV.out), Rep.Only.refl _ _⟩

theorem disk_own2 {w : World} {base : Nat} {v v' : Value} {d : Disk} {f f' : List Nat} (h : Rep.OwnRows byR 22 w base v d.secs f) (h' : Rep.OwnRows wrR 42 w base v' d.cache f') (hn : (f ++ f').Nodup) :
    diskR.own w base [v, v', .int .i64 d.fuse, .bool d.down] d (f ++ f') :=
  ⟨f, f', ⟨v, rfl, h⟩, ⟨f', [], ⟨v', rfl, h'⟩, ⟨[], [], ⟨rfl, rfl⟩, ⟨rfl, rfl⟩, rfl, by simp⟩, by simp, by simpa using (List.nodup_append.1 hn).2.1⟩, by simp, hn⟩

def WriteGood (d : Disk) (n : Int) (b : List UInt8) : Prop := DiskGood d ∧ d.down = false ∧ InSec d n ∧ b.length ≤ 160 ∧ d.cache.length ≠ 30
noncomputable def writeSec (d : Disk) (n : Int) (b : List UInt8) : Disk :=
  @ite _ (WriteGood d n b) (Classical.propDecidable _) (if d.fuse = 0 then ⟨d.secs, d.cache, -1, true⟩ else ⟨d.secs, d.cache ++ [⟨n, b⟩], fuseAfter d.fuse, d.down⟩) d
theorem writeSec_no {d : Disk} {n : Int} {b : List UInt8} (h : ¬ WriteGood d n b) : writeSec d n b = d := by unfold writeSec; exact @if_neg _ (Classical.propDecidable _) h _ _ _
theorem writeSec_zero {d : Disk} {n : Int} {b : List UInt8} (h : WriteGood d n b) (h0 : d.fuse = 0) : writeSec d n b = ⟨d.secs, d.cache, -1, true⟩ := by
  unfold writeSec
  rw [@if_pos _ (Classical.propDecidable _) h, if_pos h0]
theorem writeSec_go {d : Disk} {n : Int} {b : List UInt8} (h : WriteGood d n b) (h0 : d.fuse ≠ 0) : writeSec d n b = ⟨d.secs, d.cache ++ [⟨n, b⟩], fuseAfter d.fuse, d.down⟩ := by
  unfold writeSec
  rw [@if_pos _ (Classical.propDecidable _) h, if_neg h0]
theorem fits_writeSec {d : Disk} (h : Fits d) (n : Int) {b : List UInt8} (hb : b.length ≤ 1048576) : Fits (writeSec d n b) := by
  by_cases hg : WriteGood d n b
  · by_cases h0 : d.fuse = 0
    · rw [writeSec_zero hg h0]; exact h
    · rw [writeSec_go hg h0]
      refine ⟨h.1, h.2.1, by have := hg.1.1.2.2; simp; omega, fun x hx => ?_⟩
      rw [List.mem_append] at hx
      rcases hx with hx | hx
      · exact h.2.2.2 x hx
      · simp at hx; subst hx; exact hb
  · rw [writeSec_no hg]; exact h

end Go.Proofs.Ytjhfnfffpofagaa
