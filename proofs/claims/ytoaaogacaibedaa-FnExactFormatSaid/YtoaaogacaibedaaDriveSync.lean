/- drive.sync. -/
import Derived.Test.YtoaaogacaibedaaDriveFlush
namespace Go.Proofs.Ytoaaogacaibedaa
open Go.RowKit Go.Maps
set_option linter.unusedVariables false

set_option maxHeartbeats 1000000 in
theorem driveSync_zero (g : Nat) (vs vc vm : Value) (dn : Bool) (w : World) (hv : w.heap[g]? = some (.cells #[vs, vc, .int .i64 0, .bool dn, vm] 75 (0, 0))) :
    Calls Try.prog 62 #[.pointer (some ⟨g, 0, none⟩)] w fun e w' => e = .returned (.tuple #[]) ∧ Hid (w'.heap[g]? = some (.cells #[vs, vc, .int .i64 (-1), .bool true, vm] 75 (0, 0))) ∧ Rep.Only w w' [g] := by
  have HV := Lib.hid hv
  clear hv
  go_enter Try.func62, Try.ntmps62
  go_wp2_with fail
  refine (powered_zero g vs vc vm dn w HV.out).mono ?_
  rintro e w1 ⟨rfl, vv, ho⟩
  go_wp2_with fail
  go_end0
  exact ⟨rfl, vv, ho⟩

set_option maxHeartbeats 1000000 in
theorem driveSync_go (g mb m base gs c : Nat) (B : Option Addr) (c' : Nat) (f : Int) (dn : Bool) (d : Disk) (sc cc : List Value) (fps fcs : List (List Nat)) (idx : Int → Option Nat) (w : World)
    (hv : w.heap[g]? = some (.cells #[.slice (some ⟨gs, 0, none⟩) d.secs.length c, .slice B d.cache.length c', .int .i64 f, .bool dn, .map (some mb)] 75 (0, 0)))
    (hm : MapIs w mb m cc idx) (hM : Mid w base (.slice (some ⟨gs, 0, none⟩) d.secs.length c) (.slice B d.cache.length c') d sc cc fps fcs (fun _ => none)) (hI : IdxOk d idx) (hk : KeysOk d) (hf : d.secs.length ≤ 1048576)
    (hg1 : ∀ a, a ∈ ((Value.slice (some ⟨gs, 0, none⟩) d.secs.length c).ownBlock.toList ++ fps.flatten) ++ ((Value.slice B d.cache.length c').ownBlock.toList ++ fcs.flatten) → a ≠ g ∧ a ≠ mb) (hgm : g ≠ mb)
    (h0 : f ≠ 0) (h1 : -1 ≤ f) (h2 : f ≤ 1000) :
    Calls Try.prog 62 #[.pointer (some ⟨g, 0, none⟩)] w fun e w' => e = .returned (.tuple #[]) ∧ Hid (w'.heap[g]? = some (.cells #[.slice (some ⟨gs, 0, none⟩) d.secs.length c, .slice none 0 0, .int .i64 (fuseAfter f), .bool dn, .map (some mb)] 75 (0, 0))) ∧
      Mid w' base (.slice (some ⟨gs, 0, none⟩) d.secs.length c) (.slice B d.cache.length c') d sc cc fps fcs idx ∧ Rep.Only w w' [g, mb, gs] := by
  have HV := Lib.hid hv
  have HG1 := Lib.hid hg1
  have HI := Lib.hid hI
  have HK := Lib.hid hk
  have hlm := Lib.hid hM.lts
  have hml := hm.lt
  clear hv hg1 hI hk
  go_enter Try.func62, Try.ntmps62
  go_wp2_with fail
  refine (powered_go g (.slice (some ⟨gs, 0, none⟩) d.secs.length c) (.slice B d.cache.length c') (.map (some mb)) f dn w HV.out h0 h1 h2).mono ?_
  rintro e w1 ⟨rfl, vv, ho⟩
  have hM1 := hM.kept (w' := w1) (fun a ha => ho.block a (hlm.out a ha).2 (by have := (HG1.out a ha).1; simpa using this))
  have hm1 := hm.of_block (w' := w1) (ho.block mb hml (by simp; omega))
  clear hM hm
  go_wp2_with fail
  refine (driveFlush_any g mb m base gs c B c' (.int .i64 (fuseAfter f)) (.bool dn) d sc cc fps fcs idx w1 vv.out hm1 hM1 HI.out HK.out hf HG1.out hgm).mono ?_
  rintro e w2 ⟨rfl, v2, hM2, ho2⟩
  go_wp2_with fail
  go_end0
  exact ⟨rfl, v2, hM2, (ho.mono (by simp)).trans ho2⟩

end Go.Proofs.Ytoaaogacaibedaa
