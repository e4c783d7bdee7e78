/- The walk of the exact law of AskerAt (written by gen.py). -/
import Derived.Test.YtaigdioimldknaaAtAsker
import Derived.Test.YtaigdioimldknaaExactB
namespace Go.Proofs.Ytaigdioimldknaa
open Go.RowKit
set_option linter.unusedVariables false

set_option maxRecDepth 100000 in
set_option maxHeartbeats 4000000 in
theorem walk_FnExactAskerAt (w : World) (cs0 : List Value) (x0 : List Ak) (w0 : akSR.at_ w w.heap.size cs0 x0) (k0 : OkAkS x0) (a1 : Int) (w1 : (Lit.int .i64 a1).wf = true) :
    Calls Try.prog 8 #[cs0.headD undef, .int .i64 a1] w fun e w' => e = .returned (.bool true) ∧ Below w.heap.size w w' := by
  obtain ⟨A1, c2, rfl⟩ := akS_at_shape w0
  have TaL := w0
  clear w0
  have HBw := Below.refl w.heap.size w
  go_enter Try.func8, Try.ntmps8
  go_wp2_with fail
  refine (szAkS_rep [.slice A1 x0.length c2] x0 1048576 w (Rep.more akSR TaL (by omega)) (by omega) k0).mono ?_
  rintro e W3 ⟨hz, hb⟩
  have ho := Rep.only_of_below hb
  clear hb
  have SW3 : w.heap.size ≤ W3.heap.size := ho.size
  have HBW3 := Rep.Only.below HBw ho (by omega) (fun a ha => by cases ha)
  replace TaL := Rep.at_only TaL ho (by omega) (fun a ha => by cases ha)
  clear HBw
  clear ho
  obtain ⟨z4, hz4, HfitaL, rfl⟩ | rfl := hz
  rotate_left
  · go_wp2_with fail
    go_ret
    exact ⟨rfl, HBW3⟩
  have FaL := Lib.hid HfitaL
  clear HfitaL
  obtain ⟨Y, hy⟩ : ∃ Y, akAtP x0 a1 = Y := ⟨_, rfl⟩
  have ny : (Y != Y) = false := by simp
  have HY := Lib.hid hy
  clear hy
  go_wp2_with fail
  refine (toAkS_rep [.slice A1 x0.length c2] x0 W3 (Rep.more akSR TaL (by omega)) FaL.out).mono ?_
  rintro e W6 ⟨A8, c9, fp7, rfl, Ot5, hb⟩
  have ho := Rep.only_of_below hb
  have L10 := Lib.hid (Rep.lt akSR Ot5)
  clear hb
  have SW6 : W3.heap.size ≤ W6.heap.size := ho.size
  have HBW6 := Rep.Only.below HBW3 ho (by omega) (fun a ha => by cases ha)
  replace TaL := Rep.at_only TaL ho (by omega) (fun a ha => by cases ha)
  clear HBW3
  clear ho
  go_wp2_with fail
  refine (akAtS_rep [.slice A8 x0.length c9] x0 a1 W6 (Rep.reads akSR Ot5) FaL.out w1).mono ?_
  rintro e W11 ⟨he, hb⟩
  rw [HY.out] at he
  subst he
  have ho := Rep.only_of_below hb
  clear hb
  have SW11 : W6.heap.size ≤ W11.heap.size := ho.size
  have HBW11 := Rep.Only.below HBW6 ho (by omega) (fun a ha => by cases ha)
  replace TaL := Rep.at_only TaL ho (by omega) (fun a ha => by cases ha)
  replace Ot5 := Rep.own_only Ot5 ho (fun a ha hb => by cases hb)
  clear HBW6
  clear ho
  clear Ot5 L10
  go_wp2_with fail
  refine (toAkS_rep [.slice A1 x0.length c2] x0 W11 (Rep.more akSR TaL (by omega)) FaL.out).mono ?_
  rintro e W12 ⟨A14, c15, fp13, rfl, Ox0, hb⟩
  have ho := Rep.only_of_below hb
  have L16 := Lib.hid (Rep.lt akSR Ox0)
  clear hb
  have SW12 : W11.heap.size ≤ W12.heap.size := ho.size
  have HBW12 := Rep.Only.below HBW11 ho (by omega) (fun a ha => by cases ha)
  replace TaL := Rep.at_only TaL ho (by omega) (fun a ha => by cases ha)
  clear HBW11
  clear ho
  go_wp2_with fail
  refine (akAt_rep [.slice A14 x0.length c15] x0 a1 W12 (Rep.reads akSR Ox0) FaL.out w1).mono ?_
  rintro e W17 ⟨he, hb⟩
  rw [HY.out] at he
  subst he
  have ho := Rep.only_of_below hb
  clear hb
  have SW17 : W12.heap.size ≤ W17.heap.size := ho.size
  have HBW17 := Rep.Only.below HBW12 ho (by omega) (fun a ha => by cases ha)
  replace TaL := Rep.at_only TaL ho (by omega) (fun a ha => by cases ha)
  replace Ox0 := Rep.own_only Ox0 ho (fun a ha hb => by cases hb)
  clear HBW12
  clear ho
  go_wp2_with fail
  refine (toAkS_rep [.slice A1 x0.length c2] x0 W17 (Rep.more akSR TaL (by omega)) FaL.out).mono ?_
  rintro e W19 ⟨A21, c22, fp20, rfl, Ot18, hb⟩
  have ho := Rep.only_of_below hb
  have L23 := Lib.hid (Rep.lt akSR Ot18)
  clear hb
  have SW19 : W17.heap.size ≤ W19.heap.size := ho.size
  have HBW19 := Rep.Only.below HBW17 ho (by omega) (fun a ha => by cases ha)
  replace TaL := Rep.at_only TaL ho (by omega) (fun a ha => by cases ha)
  replace Ox0 := Rep.own_only Ox0 ho (fun a ha hb => by cases hb)
  clear HBW17
  clear ho
  go_wp2_with fail
  refine (eqAkS_rep [.slice A14 x0.length c15] [.slice A21 x0.length c22] x0 W19 (Rep.reads akSR Ox0) (Rep.reads akSR Ot18) FaL.out).mono ?_
  rintro e W24 ⟨rfl, hb⟩
  have ho := Rep.only_of_below hb
  clear hb
  have SW24 : W19.heap.size ≤ W24.heap.size := ho.size
  have HBW24 := Rep.Only.below HBW19 ho (by omega) (fun a ha => by cases ha)
  replace TaL := Rep.at_only TaL ho (by omega) (fun a ha => by cases ha)
  replace Ox0 := Rep.own_only Ox0 ho (fun a ha hb => by cases hb)
  replace Ot18 := Rep.own_only Ot18 ho (fun a ha hb => by cases hb)
  clear HBW19
  clear ho
  clear Ot18 L23
  go_wp2_with fail
  go_ret
  exact ⟨rfl, HBW24⟩

end Go.Proofs.Ytaigdioimldknaa
