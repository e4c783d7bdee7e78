/- The walk of the exact law of Free (written by gen.py). -/
import Derived.Test.YtcelkmphdeaaeaaExactFree
import Derived.Test.YtcelkmphdeaaeaaExactB
namespace Go.Proofs.Ytcelkmphdeaaeaa
open Go.RowKit
set_option linter.unusedVariables false

set_option maxRecDepth 100000 in
set_option maxHeartbeats 4000000 in
theorem walk_FnExactFree (w : World) (cs0 : List Value) (x0 : List Sk) (w0 : skSR.at_ w w.heap.size cs0 x0) (k0 : OkSkS x0) (a1 : Int) (w1 : (Lit.int .i64 a1).wf = true) (a2 : Int) (w2 : (Lit.int .i64 a2).wf = true) :
    Calls Try.prog 12 #[cs0.headD undef, .int .i64 a1, .int .i64 a2] w fun e w' => e = .returned (.bool true) ∧ Below w.heap.size w w' := by
  obtain ⟨A1, c2, rfl⟩ := skS_at_shape w0
  have TaL := w0
  clear w0
  have HBw := Below.refl w.heap.size w
  go_enter Try.func12, Try.ntmps12
  go_wp2_with fail
  refine (szSkS_rep [.slice A1 x0.length c2] x0 1048576 w (Rep.more skSR TaL (by omega)) (by omega)).mono ?_
  rintro e W3 ⟨hz, hb⟩
  have ho := Rep.only_of_below hb
  clear hb
  have SW3 : w.heap.size ≤ W3.heap.size := ho.size
  have HBW3 := Rep.Only.below HBw ho (by omega) (fun a ha => by cases ha)
  replace TaL := Rep.at_only TaL ho (by omega) (fun a ha => by cases ha)
  clear HBw
  clear ho
  obtain ⟨z4, hz4, HfitaL, rfl⟩ | rfl := hz
  rotate_left
  · go_wp2_with fail
    go_ret
    exact ⟨rfl, HBW3⟩
  have RaL := Lib.hid HfitaL
  have FaL := Lib.hid HfitaL.fits
  clear HfitaL
  obtain ⟨Y, hy⟩ : ∃ Y, freeP x0 a1 a2 = Y := ⟨_, rfl⟩
  have FY : FitsSkS Y := by rw [← hy]; exact fits_free _ _ RaL.out
  have HY := Lib.hid hy
  clear hy
  go_wp2_with fail
  refine (toSkS_rep [.slice A1 x0.length c2] x0 W3 (Rep.more skSR TaL (by omega)) FaL.out).mono ?_
  rintro e W6 ⟨A8, c9, fp7, rfl, Ot5, hb⟩
  have ho := Rep.only_of_below hb
  have L10 := Lib.hid (Rep.lt skSR Ot5)
  clear hb
  have SW6 : W3.heap.size ≤ W6.heap.size := ho.size
  have HBW6 := Rep.Only.below HBW3 ho (by omega) (fun a ha => by cases ha)
  replace TaL := Rep.at_only TaL ho (by omega) (fun a ha => by cases ha)
  clear HBW3
  clear ho
  go_wp2_with fail
  refine (freeS_rep [.slice A8 x0.length c9] x0 a1 a2 W6 (Rep.reads skSR Ot5) RaL.out w1 w2).mono ?_
  rw [HY.out]
  rintro e W11 ⟨A13, c14, fp12, rfl, Ow0, hb⟩
  have Tw0 := Rep.reads skSR Ow0
  clear Ow0
  have ho := Rep.only_of_below hb
  clear hb
  have SW11 : W6.heap.size ≤ W11.heap.size := ho.size
  have HBW11 := Rep.Only.below HBW6 ho (by omega) (fun a ha => by cases ha)
  replace TaL := Rep.at_only TaL ho (by omega) (fun a ha => by cases ha)
  replace Ot5 := Rep.own_only Ot5 ho (fun a ha hb => by cases hb)
  clear HBW6
  clear ho
  clear Ot5 L10
  go_wp2_with fail
  refine (toSkS_rep [.slice A1 x0.length c2] x0 W11 (Rep.more skSR TaL (by omega)) FaL.out).mono ?_
  rintro e W15 ⟨A17, c18, fp16, rfl, Ox0, hb⟩
  have ho := Rep.only_of_below hb
  have L19 := Lib.hid (Rep.lt skSR Ox0)
  clear hb
  have SW15 : W11.heap.size ≤ W15.heap.size := ho.size
  have HBW15 := Rep.Only.below HBW11 ho (by omega) (fun a ha => by cases ha)
  replace TaL := Rep.at_only TaL ho (by omega) (fun a ha => by cases ha)
  replace Tw0 := Rep.at_only Tw0 ho (by omega) (fun a ha => by cases ha)
  clear HBW11
  clear ho
  go_wp2_with fail
  refine (free_rep [.slice A17 x0.length c18] x0 a1 a2 W15 (Rep.reads skSR Ox0) RaL.out w1 w2).mono ?_
  rw [HY.out]
  rintro e W20 ⟨A22, c23, fp21, rfl, Og0, hb⟩
  have ho := Rep.only_of_below hb
  have L24 := Lib.hid (Rep.lt skSR Og0)
  clear hb
  have SW20 : W15.heap.size ≤ W20.heap.size := ho.size
  have HBW20 := Rep.Only.below HBW15 ho (by omega) (fun a ha => by cases ha)
  replace TaL := Rep.at_only TaL ho (by omega) (fun a ha => by cases ha)
  replace Tw0 := Rep.at_only Tw0 ho (by omega) (fun a ha => by cases ha)
  replace Ox0 := Rep.own_only Ox0 ho (fun a ha hb => by cases hb)
  clear HBW15
  clear ho
  go_wp2_with fail
  refine (eqSkS_rep [.slice A22 Y.length c23] [.slice A13 Y.length c14] Y W20 (Rep.reads skSR Og0) (Rep.more skSR Tw0 (by omega)) FY).mono ?_
  rintro e W25 ⟨rfl, hb⟩
  have ho := Rep.only_of_below hb
  clear hb
  have SW25 : W20.heap.size ≤ W25.heap.size := ho.size
  have HBW25 := Rep.Only.below HBW20 ho (by omega) (fun a ha => by cases ha)
  replace TaL := Rep.at_only TaL ho (by omega) (fun a ha => by cases ha)
  replace Tw0 := Rep.at_only Tw0 ho (by omega) (fun a ha => by cases ha)
  replace Ox0 := Rep.own_only Ox0 ho (fun a ha hb => by cases hb)
  replace Og0 := Rep.own_only Og0 ho (fun a ha hb => by cases hb)
  clear HBW20
  clear ho
  go_wp2_with fail
  refine (toSkS_rep [.slice A1 x0.length c2] x0 W25 (Rep.more skSR TaL (by omega)) FaL.out).mono ?_
  rintro e W27 ⟨A29, c30, fp28, rfl, Ot26, hb⟩
  have ho := Rep.only_of_below hb
  have L31 := Lib.hid (Rep.lt skSR Ot26)
  clear hb
  have SW27 : W25.heap.size ≤ W27.heap.size := ho.size
  have HBW27 := Rep.Only.below HBW25 ho (by omega) (fun a ha => by cases ha)
  replace TaL := Rep.at_only TaL ho (by omega) (fun a ha => by cases ha)
  replace Tw0 := Rep.at_only Tw0 ho (by omega) (fun a ha => by cases ha)
  replace Ox0 := Rep.own_only Ox0 ho (fun a ha hb => by cases hb)
  replace Og0 := Rep.own_only Og0 ho (fun a ha hb => by cases hb)
  clear HBW25
  clear ho
  go_wp2_with fail
  refine (eqSkS_rep [.slice A17 x0.length c18] [.slice A29 x0.length c30] x0 W27 (Rep.reads skSR Ox0) (Rep.reads skSR Ot26) FaL.out).mono ?_
  rintro e W32 ⟨rfl, hb⟩
  have ho := Rep.only_of_below hb
  clear hb
  have SW32 : W27.heap.size ≤ W32.heap.size := ho.size
  have HBW32 := Rep.Only.below HBW27 ho (by omega) (fun a ha => by cases ha)
  replace TaL := Rep.at_only TaL ho (by omega) (fun a ha => by cases ha)
  replace Tw0 := Rep.at_only Tw0 ho (by omega) (fun a ha => by cases ha)
  replace Ox0 := Rep.own_only Ox0 ho (fun a ha hb => by cases hb)
  replace Og0 := Rep.own_only Og0 ho (fun a ha hb => by cases hb)
  replace Ot26 := Rep.own_only Ot26 ho (fun a ha hb => by cases hb)
  clear HBW27
  clear ho
  clear Ot26 L31
  go_wp2_with fail
  obtain ⟨N34, hN, hN2⟩ : ∃ N : Nat, 1 + (Rep.cntL skR) x0 = N ∧ N ≤ 1 + 8796093022208 := ⟨_, rfl, by have := cntSkS_le FaL.out; omega⟩
  have HN34 := Lib.hid hN
  have BN34 := hN2
  clear hN hN2
  refine (markSkS_rep [.slice A17 x0.length c18] 1 x0 fp16 W32 _ Ox0 FaL.out (by omega)).mono ?_
  rintro e W33 ⟨he, hown, ho⟩
  rw [HN34.out] at he
  subst he
  replace Ox0 := hown
  clear hown
  have SW33 : W32.heap.size ≤ W33.heap.size := ho.size
  have HBW33 := Rep.Only.below HBW32 ho (by omega) (fun a ha => by have := (L19.out a ha).1; omega)
  replace TaL := Rep.at_only TaL ho (by omega) (fun a ha => by have := (L19.out a ha).1; omega)
  replace Tw0 := Rep.at_only Tw0 ho (by omega) (fun a ha => by have := (L19.out a ha).1; omega)
  replace Og0 := Rep.own_only Og0 ho (fun a ha hb => by have := L24.out a ha; have := L19.out a hb; omega)
  clear HBW32
  clear ho
  go_wp2_with fail
  refine (eqSkS_rep [.slice A22 Y.length c23] [.slice A13 Y.length c14] Y W33 (Rep.reads skSR Og0) (Rep.more skSR Tw0 (by omega)) FY).mono ?_
  rintro e W35 ⟨rfl, hb⟩
  have ho := Rep.only_of_below hb
  clear hb
  have SW35 : W33.heap.size ≤ W35.heap.size := ho.size
  have HBW35 := Rep.Only.below HBW33 ho (by omega) (fun a ha => by cases ha)
  replace TaL := Rep.at_only TaL ho (by omega) (fun a ha => by cases ha)
  replace Tw0 := Rep.at_only Tw0 ho (by omega) (fun a ha => by cases ha)
  replace Ox0 := Rep.own_only Ox0 ho (fun a ha hb => by cases hb)
  replace Og0 := Rep.own_only Og0 ho (fun a ha hb => by cases hb)
  clear HBW33
  clear ho
  go_wp2_with fail
  obtain ⟨N37, hN, hN2⟩ : ∃ N : Nat, 1 + (Rep.cntL skR) Y = N ∧ N ≤ 1 + 8796093022208 := ⟨_, rfl, by have := cntSkS_le FY; omega⟩
  have HN37 := Lib.hid hN
  have BN37 := hN2
  clear hN hN2
  refine (markSkS_rep [.slice A22 Y.length c23] 1 Y fp21 W35 _ Og0 FY (by omega)).mono ?_
  rintro e W36 ⟨he, hown, ho⟩
  rw [HN37.out] at he
  subst he
  replace Og0 := hown
  clear hown
  have SW36 : W35.heap.size ≤ W36.heap.size := ho.size
  have HBW36 := Rep.Only.below HBW35 ho (by omega) (fun a ha => by have := (L24.out a ha).1; omega)
  replace TaL := Rep.at_only TaL ho (by omega) (fun a ha => by have := (L24.out a ha).1; omega)
  replace Tw0 := Rep.at_only Tw0 ho (by omega) (fun a ha => by have := (L24.out a ha).1; omega)
  replace Ox0 := Rep.own_only Ox0 ho (fun a ha hb => by have := L19.out a ha; have := L24.out a hb; omega)
  clear HBW35
  clear ho
  clear Ox0 L19
  go_wp2_with fail
  refine (heldSkS_rep [.slice A22 Y.length c23] 1 Y W36 (Rep.reads skSR Og0) FY (by omega)).mono ?_
  rintro e W38 ⟨he, hb⟩
  rw [HN37.out] at he
  subst he
  have ho := Rep.only_of_below hb
  clear hb
  have SW38 : W36.heap.size ≤ W38.heap.size := ho.size
  have HBW38 := Rep.Only.below HBW36 ho (by omega) (fun a ha => by cases ha)
  replace TaL := Rep.at_only TaL ho (by omega) (fun a ha => by cases ha)
  replace Tw0 := Rep.at_only Tw0 ho (by omega) (fun a ha => by cases ha)
  replace Og0 := Rep.own_only Og0 ho (fun a ha hb => by cases hb)
  clear HBW36
  clear ho
  have nn39 : ((N37 : Int) != (N37 : Int)) = false := by simp
  go_wp2_with fail
  refine (toSkS_rep [.slice A1 x0.length c2] x0 W38 (Rep.more skSR TaL (by omega)) FaL.out).mono ?_
  rintro e W41 ⟨A43, c44, fp42, rfl, Ot40, hb⟩
  have ho := Rep.only_of_below hb
  have L45 := Lib.hid (Rep.lt skSR Ot40)
  clear hb
  have SW41 : W38.heap.size ≤ W41.heap.size := ho.size
  have HBW41 := Rep.Only.below HBW38 ho (by omega) (fun a ha => by cases ha)
  replace TaL := Rep.at_only TaL ho (by omega) (fun a ha => by cases ha)
  replace Tw0 := Rep.at_only Tw0 ho (by omega) (fun a ha => by cases ha)
  replace Og0 := Rep.own_only Og0 ho (fun a ha hb => by cases hb)
  clear HBW38
  clear ho
  go_wp2_with fail
  refine (free_rep [.slice A43 x0.length c44] x0 a1 a2 W41 (Rep.reads skSR Ot40) RaL.out w1 w2).mono ?_
  rw [HY.out]
  rintro e W46 ⟨A48, c49, fp47, rfl, Oh0, hb⟩
  have ho := Rep.only_of_below hb
  have L50 := Lib.hid (Rep.lt skSR Oh0)
  clear hb
  have SW46 : W41.heap.size ≤ W46.heap.size := ho.size
  have HBW46 := Rep.Only.below HBW41 ho (by omega) (fun a ha => by cases ha)
  replace TaL := Rep.at_only TaL ho (by omega) (fun a ha => by cases ha)
  replace Tw0 := Rep.at_only Tw0 ho (by omega) (fun a ha => by cases ha)
  replace Og0 := Rep.own_only Og0 ho (fun a ha hb => by cases hb)
  replace Ot40 := Rep.own_only Ot40 ho (fun a ha hb => by cases hb)
  clear HBW41
  clear ho
  clear Ot40 L45
  go_wp2_with fail
  refine (eqSkS_rep [.slice A48 Y.length c49] [.slice A13 Y.length c14] Y W46 (Rep.reads skSR Oh0) (Rep.more skSR Tw0 (by omega)) FY).mono ?_
  rintro e W51 ⟨rfl, hb⟩
  have ho := Rep.only_of_below hb
  clear hb
  have SW51 : W46.heap.size ≤ W51.heap.size := ho.size
  have HBW51 := Rep.Only.below HBW46 ho (by omega) (fun a ha => by cases ha)
  replace TaL := Rep.at_only TaL ho (by omega) (fun a ha => by cases ha)
  replace Tw0 := Rep.at_only Tw0 ho (by omega) (fun a ha => by cases ha)
  replace Og0 := Rep.own_only Og0 ho (fun a ha hb => by cases hb)
  replace Oh0 := Rep.own_only Oh0 ho (fun a ha hb => by cases hb)
  clear HBW46
  clear ho
  clear Oh0 L50
  clear TaL
  clear Tw0
  go_wp2_with fail
  refine (heldSkS_rep [.slice A22 Y.length c23] 1 Y W51 (Rep.reads skSR Og0) FY (by omega)).mono ?_
  rintro e W52 ⟨he, hb⟩
  rw [HN37.out] at he
  subst he
  have ho := Rep.only_of_below hb
  clear hb
  have SW52 : W51.heap.size ≤ W52.heap.size := ho.size
  have HBW52 := Rep.Only.below HBW51 ho (by omega) (fun a ha => by cases ha)
  replace Og0 := Rep.own_only Og0 ho (fun a ha hb => by cases hb)
  clear HBW51
  clear ho
  have nn53 : ((N37 : Int) != (N37 : Int)) = false := by simp
  go_wp2_with fail
  go_ret
  exact ⟨rfl, HBW52⟩

end Go.Proofs.Ytcelkmphdeaaeaa
