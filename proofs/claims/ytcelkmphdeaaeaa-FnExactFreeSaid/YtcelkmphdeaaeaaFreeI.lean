/- Free of the program. (By gen_l8f.py.) -/
import Derived.Test.YtcelkmphdeaaeaaFreeS
import Derived.Test.YtcelkmphdeaaeaaSocketOf
import Derived.Test.YtcelkmphdeaaeaaHearI
namespace Go.Proofs.Ytcelkmphdeaaeaa
open Go.RowKit
set_option maxRecDepth 100000
set_option linter.unusedVariables false

set_option maxHeartbeats 16000000 in
theorem free_any (A : Option Addr) (c : Nat) (xs : List Sk) (id hold : Int) (w : World) (h : Rep.RowsAt skR w w.heap.size A xs.length xs) (hs : RoomSkS xs) :
    Calls Try.prog 23 #[.slice A xs.length c, .int .i64 id, .int .i64 hold] w (RetFree w (freeP xs id hold)) := by
  obtain ⟨m0, hm0, hm1, hm2, hm3⟩ := info_parts Try.infoSkB
  have HM := Lib.hid hs
  have hn := hs.1
  obtain ⟨ci, hci⟩ : ∃ b, inI hold 1 3 = b := ⟨_, rfl⟩
  have HCI := Lib.hid hci
  clear hs hci
  have S0 := SR.new w w (Below.refl _ _)
  go_enter Try.func23, Try.ntmps23
  go_wp2_with fail
  refine (within_b HCI.out w).mono ?_
  rintro e w' ⟨rfl, rfl⟩
  go_wp2
  go_loopw [8, 16] (fun q i wr => ∃ (k : Nat) (ys : List Sk) (v : Value), k ≤ xs.length ∧ i = .int .i64 k ∧ v = q ∧ Hid (ys = freeP (xs.take k) id hold) ∧ SR w v ys wr) (fun _ i _ => xs.length - (intOf i).toNat)
  case atStart => exact ⟨0, [], _, by omega, rfl, rfl, Lib.hid (by simp [freeP]), S0⟩
  case round =>
    obtain ⟨k, ys, v, hk, rfl, rfl, HQ, SRW⟩ := hrel
    clear S0
    have hyn : ys.length ≤ 1048576 := by rw [HQ.out]; have h1 := freeP_len (xs.take k) id hold; rw [List.length_take] at h1; omega
    by_cases hlt : k < xs.length
    · obtain ⟨b, off, x, B4, e4, B5, e5, rfl, hbl, hx, ⟨e0, e1, e2, e3, e4', e5', e6, e7⟩, hc4, hr4, hc5, hr5⟩ := sk_elem (h.keep fun p hp => SRW.below.cell hp) hlt
      have hat : ∀ (h' : Int) (W : World), Below wr.heap.size wr W → skR.at_ W W.heap.size [.int .i64 x.id, .int .i64 x.kind, .int .i64 h', .bool x.shut, .slice B4 x.inn.length e4, .slice B5 x.out.length e5, .int .i64 x.st, .int .i64 x.done] { x with hold := h' } := fun h' W hb => sk_at (x := { x with hold := h' }) hc4 (((hr4.more SRW.below.size).below hb).more hb.size) hc5 (((hr5.more SRW.below.size).below hb).more hb.size)
      have HAT := Lib.hid hat
      have HRX := Lib.hid (HM.out.2 x (List.mem_of_getElem? hx))
      have HX := Lib.hid hx
      clear hx hr4 hr5 hc4 hc5 hat
      go_upto_region 6 with (fail)
      clear e0 e1 e2 e3 e4' e5' e6 e7
      have hV := heap_alloc_new wr (.cells #[.int .i64 x.id, .int .i64 x.kind, .int .i64 x.hold, .bool x.shut, .slice B4 x.inn.length e4, .slice B5 x.out.length e5, .int .i64 x.st, .int .i64 x.done] 25)
      have hbV := Later.alloc wr (.cells #[.int .i64 x.id, .int .i64 x.kind, .int .i64 x.hold, .bool x.shut, .slice B4 x.inn.length e4, .slice B5 x.out.length e5, .int .i64 x.st, .int .i64 x.done] 25)
      have hG : wr.heap.size < (wr.alloc (.cells #[.int .i64 x.id, .int .i64 x.kind, .int .i64 x.hold, .bool x.shut, .slice B4 x.inn.length e4, .slice B5 x.out.length e5, .int .i64 x.st, .int .i64 x.done] 25)).heap.size := by simp
      generalize wr.alloc (.cells #[.int .i64 x.id, .int .i64 x.kind, .int .i64 x.hold, .bool x.shut, .slice B4 x.inn.length e4, .slice B5 x.out.length e5, .int .i64 x.st, .int .i64 x.done] 25) = W2 at hV hbV hG ⊢
      have hwz := SRW.below.size
      obtain ⟨ce, hce⟩ : ∃ b, (x.id == id) = b := ⟨_, rfl⟩
      have HCE := Lib.hid hce
      cases ci
      · have HF : Hid (freeX id hold x = some ({ x with hold := x.hold } : Sk)) := Lib.hid (by unfold freeX; rw [HCI.out]; simp)
        have b0 := var_cell hV 0
        have b1 := var_cell hV 1
        have b2 := var_cell hV 2
        have b3 := var_cell hV 3
        have b4 := var_cell hV 4
        have b5 := var_cell hV 5
        have b6 := var_cell hV 6
        have b7 := var_cell hV 7
        go_wp2_with fail
        refine (socketOf_any [.int .i64 x.id, .int .i64 x.kind, .int .i64 x.hold, .bool x.shut, .slice B4 x.inn.length e4, .slice B5 x.out.length e5, .int .i64 x.st, .int .i64 x.done] ({ x with hold := x.hold } : Sk) W2 (HAT.out x.hold W2 hbV) HRX.out).mono ?_
        rintro e1 W3 ⟨S, v4, v5, o5, d7, rfl, hK⟩
        obtain ⟨A4, c4, A5, c5, B9, m9, e9, rfl, rfl, rfl, _, _⟩ := hK.slices
        clear b0 b1 b2 b3 b4 b5 b6 b7
        go_wp2_with fail
        refine (sock_any S ({ x with hold := x.hold } : Sk) A4 A5 B9 _ c4 _ c5 m9 e9 d7 W3 hK.box).mono ?_
        rintro e1 W4 ⟨rfl, hb9⟩
        have hws : wr.heap.size ≤ W2.heap.size := hbV.size
        have hwz2 : w.heap.size ≤ W2.heap.size := Nat.le_trans hwz hws
        have hown : skR.own W4 W2.heap.size [.int .i64 x.id, .int .i64 x.kind, .int .i64 x.hold, .bool x.shut, .slice A4 x.inn.length c4, .slice A5 x.out.length c5, .int .i64 x.st, .int .i64 x.done] ({ x with hold := x.hold } : Sk) _ := Rep.own_below hK.own hb9
        have hbw : Below wr.heap.size wr W4 := Later.trans (Later.trans hbV hK.below) hb9
        clear hK hb9 hbV
        obtain ⟨fp, hrow⟩ := SRW.own
        have hfl := Lib.hid hrow.lt
        replace hrow := hrow.of_below hbw
        have hyo := Rep.own_below (Rep.low skR hown hwz2) (Later.alloc W4 (.cells #[.int .i64 x.id, .int .i64 x.kind, .int .i64 x.hold, .bool x.shut, .slice A4 x.inn.length c4, .slice A5 x.out.length c5, .int .i64 x.st, .int .i64 x.done] 25))
        have hyl := Lib.hid (Rep.lt skR hown)
        replace hrow := hrow.alloc (.cells #[.int .i64 x.id, .int .i64 x.kind, .int .i64 x.hold, .bool x.shut, .slice A4 x.inn.length c4, .slice A5 x.out.length c5, .int .i64 x.st, .int .i64 x.done] 25)
        have hnew := reads_lit W4 #[.int .i64 x.id, .int .i64 x.kind, .int .i64 x.hold, .bool x.shut, .slice A4 x.inn.length c4, .slice A5 x.out.length c5, .int .i64 x.st, .int .i64 x.done] 8 1 25 (g := W4.heap.size) rfl rfl (by simp [maxLen])
        have hwl : w.heap.size ≤ W4.heap.size := Nat.le_trans SRW.below.size hbw.size
        have hbA : Below w.heap.size w (W4.alloc (.cells #[.int .i64 x.id, .int .i64 x.kind, .int .i64 x.hold, .bool x.shut, .slice A4 x.inn.length c4, .slice A5 x.out.length c5, .int .i64 x.st, .int .i64 x.done] 25)) := Later.trans (Later.trans SRW.below hbw) (Later.alloc _ _)
        go_wp2_with (first
          | (at_builtin
             refine Rep.wpList_push _ rfl (.tmp 35) (.tmp 39) _ rfl skR w.heap.size 25 m0 _ 96 Try.underlying36 hm0 hm1 hm2 hm3 rfl (by decide) v ys fp rfl hrow _ 1 _ ({ x with hold := x.hold } : Sk) _ rfl hnew (one_of8 rfl rfl rfl rfl rfl rfl rfl rfl) hyo (fun g hg hg' => by have h1 := (hyl.out g hg).1; have h2 := (hfl.out g hg').2; omega) (by simp only [maxLen]; omega) (by omega) hbA.size ?_
             intro A9 c9 w9 fp9 hown9 hg9 hf9 hv9
             refine Halt.go ?_)
          | fail)
        have SR9 : SR w (.slice A9 (ys.length + 1) c9) (ys ++ [({ x with hold := x.hold } : Sk)]) w9 := ⟨hbA.grown hg9 hbA.size (fun k hk => (hv9 k hk).1), fp9, hown9⟩
        have HQ9 := Lib.hid (free_some HQ.out HX.out HF.out)
        clear hown9 hg9 hf9 hv9 hrow hyo hyl hfl hnew hbA
        refine Halt.mk ?_
        go_wp2_with fail
        go_roundw
        case rel => exact ⟨k + 1, _, _, by omega, by go_num, rfl, HQ9, SR9⟩
        case measure => simp [intOf]; omega
      · cases ce
        · have HF : Hid (freeX id hold x = some ({ x with hold := x.hold } : Sk)) := Lib.hid (by unfold freeX; rw [if_neg (fun h => by have := HCE.out; simp at this; exact this h.1)])
          have b0 := var_cell hV 0
          have b1 := var_cell hV 1
          have b2 := var_cell hV 2
          have b3 := var_cell hV 3
          have b4 := var_cell hV 4
          have b5 := var_cell hV 5
          have b6 := var_cell hV 6
          have b7 := var_cell hV 7
          go_wp2_with fail
          refine (socketOf_any [.int .i64 x.id, .int .i64 x.kind, .int .i64 x.hold, .bool x.shut, .slice B4 x.inn.length e4, .slice B5 x.out.length e5, .int .i64 x.st, .int .i64 x.done] ({ x with hold := x.hold } : Sk) W2 (HAT.out x.hold W2 hbV) HRX.out).mono ?_
          rintro e1 W3 ⟨S, v4, v5, o5, d7, rfl, hK⟩
          obtain ⟨A4, c4, A5, c5, B9, m9, e9, rfl, rfl, rfl, _, _⟩ := hK.slices
          clear b0 b1 b2 b3 b4 b5 b6 b7
          go_wp2_with fail
          refine (sock_any S ({ x with hold := x.hold } : Sk) A4 A5 B9 _ c4 _ c5 m9 e9 d7 W3 hK.box).mono ?_
          rintro e1 W4 ⟨rfl, hb9⟩
          have hws : wr.heap.size ≤ W2.heap.size := hbV.size
          have hwz2 : w.heap.size ≤ W2.heap.size := Nat.le_trans hwz hws
          have hown : skR.own W4 W2.heap.size [.int .i64 x.id, .int .i64 x.kind, .int .i64 x.hold, .bool x.shut, .slice A4 x.inn.length c4, .slice A5 x.out.length c5, .int .i64 x.st, .int .i64 x.done] ({ x with hold := x.hold } : Sk) _ := Rep.own_below hK.own hb9
          have hbw : Below wr.heap.size wr W4 := Later.trans (Later.trans hbV hK.below) hb9
          clear hK hb9 hbV
          obtain ⟨fp, hrow⟩ := SRW.own
          have hfl := Lib.hid hrow.lt
          replace hrow := hrow.of_below hbw
          have hyo := Rep.own_below (Rep.low skR hown hwz2) (Later.alloc W4 (.cells #[.int .i64 x.id, .int .i64 x.kind, .int .i64 x.hold, .bool x.shut, .slice A4 x.inn.length c4, .slice A5 x.out.length c5, .int .i64 x.st, .int .i64 x.done] 25))
          have hyl := Lib.hid (Rep.lt skR hown)
          replace hrow := hrow.alloc (.cells #[.int .i64 x.id, .int .i64 x.kind, .int .i64 x.hold, .bool x.shut, .slice A4 x.inn.length c4, .slice A5 x.out.length c5, .int .i64 x.st, .int .i64 x.done] 25)
          have hnew := reads_lit W4 #[.int .i64 x.id, .int .i64 x.kind, .int .i64 x.hold, .bool x.shut, .slice A4 x.inn.length c4, .slice A5 x.out.length c5, .int .i64 x.st, .int .i64 x.done] 8 1 25 (g := W4.heap.size) rfl rfl (by simp [maxLen])
          have hwl : w.heap.size ≤ W4.heap.size := Nat.le_trans SRW.below.size hbw.size
          have hbA : Below w.heap.size w (W4.alloc (.cells #[.int .i64 x.id, .int .i64 x.kind, .int .i64 x.hold, .bool x.shut, .slice A4 x.inn.length c4, .slice A5 x.out.length c5, .int .i64 x.st, .int .i64 x.done] 25)) := Later.trans (Later.trans SRW.below hbw) (Later.alloc _ _)
          go_wp2_with (first
            | (at_builtin
               refine Rep.wpList_push _ rfl (.tmp 35) (.tmp 39) _ rfl skR w.heap.size 25 m0 _ 96 Try.underlying36 hm0 hm1 hm2 hm3 rfl (by decide) v ys fp rfl hrow _ 1 _ ({ x with hold := x.hold } : Sk) _ rfl hnew (one_of8 rfl rfl rfl rfl rfl rfl rfl rfl) hyo (fun g hg hg' => by have h1 := (hyl.out g hg).1; have h2 := (hfl.out g hg').2; omega) (by simp only [maxLen]; omega) (by omega) hbA.size ?_
               intro A9 c9 w9 fp9 hown9 hg9 hf9 hv9
               refine Halt.go ?_)
            | fail)
          have SR9 : SR w (.slice A9 (ys.length + 1) c9) (ys ++ [({ x with hold := x.hold } : Sk)]) w9 := ⟨hbA.grown hg9 hbA.size (fun k hk => (hv9 k hk).1), fp9, hown9⟩
          have HQ9 := Lib.hid (free_some HQ.out HX.out HF.out)
          clear hown9 hg9 hf9 hv9 hrow hyo hyl hfl hnew hbA
          refine Halt.mk ?_
          go_wp2_with fail
          go_roundw
          case rel => exact ⟨k + 1, _, _, by omega, by go_num, rfl, HQ9, SR9⟩
          case measure => simp [intOf]; omega
        · have HID : Hid (x.id = id) := Lib.hid (by have := HCE.out; simpa using this)
          have tf := var_frozen hV 2
          have b0 := var_cell hV 0
          have b1 := var_cell hV 1
          have b2 := var_cell hV 2
          have b3 := var_cell hV 3
          have b4 := var_cell hV 4
          have b5 := var_cell hV 5
          have b6 := var_cell hV 6
          have b7 := var_cell hV 7
          go_upto_region 8 with (fail)
          clear tf b0 b1 b2 b3 b4 b5 b6 b7
          obtain ⟨H, hH⟩ : ∃ H, bits BinOp.andNot IntKind.i64 x.hold hold = H := ⟨_, rfl⟩
          have HH := Lib.hid (show clr x.hold hold = H from hH)
          rw [hH]
          replace hV : (W2.setCell ⟨wr.heap.size, 2, none⟩ (.int .i64 H)).heap[wr.heap.size]? = some (.cells #[.int .i64 x.id, .int .i64 x.kind, .int .i64 H, .bool x.shut, .slice B4 x.inn.length e4, .slice B5 x.out.length e5, .int .i64 x.st, .int .i64 x.done] 25 (0, 0)) := var_set hV 2 (.int .i64 H)
          replace hbV : Below wr.heap.size wr (W2.setCell ⟨wr.heap.size, 2, none⟩ (.int .i64 H)) := Below.setCell hbV (p := ⟨wr.heap.size, 2, none⟩) (Nat.le_refl _) _
          replace hG : wr.heap.size < (W2.setCell ⟨wr.heap.size, 2, none⟩ (.int .i64 H)).heap.size := (Array.getElem?_eq_some_iff.1 hV).1
          clear hH hce
          generalize (W2.setCell ⟨wr.heap.size, 2, none⟩ (.int .i64 H)) = W5 at hV hbV hG ⊢
          have HX1 : Hid (freeX id hold x = if H = 0 then none else some { x with hold := H }) := Lib.hid (by unfold freeX; rw [if_pos ⟨HID.out, HCI.out⟩, HH.out])
          have b2 := var_cell hV 2
          by_cases h0 : H = 0
          · have h00 : (H == 0) = true := by simp [h0]
            have HQ9 := Lib.hid (free_none HQ.out HX.out (by rw [HX1.out, if_pos h0]))
            have SR9 := SRW.later hbV
            clear HX1 hV
            subst h0
            go_wp2_with fail
            go_roundw
            case rel => exact ⟨k + 1, _, _, by omega, by go_num, rfl, HQ9, SR9⟩
            case measure => simp [intOf]; omega
          · have h00 : (H == 0) = false := by simp [h0]
            have HF : Hid (freeX id hold x = some { x with hold := H }) := Lib.hid (by rw [HX1.out, if_neg h0])
            clear HX1
            have b0 := var_cell hV 0
            have b1 := var_cell hV 1
            have b3 := var_cell hV 3
            have b4 := var_cell hV 4
            have b5 := var_cell hV 5
            have b6 := var_cell hV 6
            have b7 := var_cell hV 7
            go_wp2_with fail
            refine (socketOf_any [.int .i64 x.id, .int .i64 x.kind, .int .i64 H, .bool x.shut, .slice B4 x.inn.length e4, .slice B5 x.out.length e5, .int .i64 x.st, .int .i64 x.done] ({ x with hold := H } : Sk) W5 (HAT.out H W5 hbV) HRX.out).mono ?_
            rintro e1 W3 ⟨S, v4, v5, o5, d7, rfl, hK⟩
            obtain ⟨A4, c4, A5, c5, B9, m9, e9, rfl, rfl, rfl, _, _⟩ := hK.slices
            clear b0 b1 b2 b3 b4 b5 b6 b7
            go_wp2_with fail
            refine (sock_any S ({ x with hold := H } : Sk) A4 A5 B9 _ c4 _ c5 m9 e9 d7 W3 hK.box).mono ?_
            rintro e1 W4 ⟨rfl, hb9⟩
            have hws : wr.heap.size ≤ W5.heap.size := hbV.size
            have hwz2 : w.heap.size ≤ W5.heap.size := Nat.le_trans hwz hws
            have hown : skR.own W4 W5.heap.size [.int .i64 x.id, .int .i64 x.kind, .int .i64 H, .bool x.shut, .slice A4 x.inn.length c4, .slice A5 x.out.length c5, .int .i64 x.st, .int .i64 x.done] ({ x with hold := H } : Sk) _ := Rep.own_below hK.own hb9
            have hbw : Below wr.heap.size wr W4 := Later.trans (Later.trans hbV hK.below) hb9
            clear hK hb9 hbV
            obtain ⟨fp, hrow⟩ := SRW.own
            have hfl := Lib.hid hrow.lt
            replace hrow := hrow.of_below hbw
            have hyo := Rep.own_below (Rep.low skR hown hwz2) (Later.alloc W4 (.cells #[.int .i64 x.id, .int .i64 x.kind, .int .i64 H, .bool x.shut, .slice A4 x.inn.length c4, .slice A5 x.out.length c5, .int .i64 x.st, .int .i64 x.done] 25))
            have hyl := Lib.hid (Rep.lt skR hown)
            replace hrow := hrow.alloc (.cells #[.int .i64 x.id, .int .i64 x.kind, .int .i64 H, .bool x.shut, .slice A4 x.inn.length c4, .slice A5 x.out.length c5, .int .i64 x.st, .int .i64 x.done] 25)
            have hnew := reads_lit W4 #[.int .i64 x.id, .int .i64 x.kind, .int .i64 H, .bool x.shut, .slice A4 x.inn.length c4, .slice A5 x.out.length c5, .int .i64 x.st, .int .i64 x.done] 8 1 25 (g := W4.heap.size) rfl rfl (by simp [maxLen])
            have hwl : w.heap.size ≤ W4.heap.size := Nat.le_trans SRW.below.size hbw.size
            have hbA : Below w.heap.size w (W4.alloc (.cells #[.int .i64 x.id, .int .i64 x.kind, .int .i64 H, .bool x.shut, .slice A4 x.inn.length c4, .slice A5 x.out.length c5, .int .i64 x.st, .int .i64 x.done] 25)) := Later.trans (Later.trans SRW.below hbw) (Later.alloc _ _)
            go_wp2_with (first
              | (at_builtin
                 refine Rep.wpList_push _ rfl (.tmp 35) (.tmp 39) _ rfl skR w.heap.size 25 m0 _ 96 Try.underlying36 hm0 hm1 hm2 hm3 rfl (by decide) v ys fp rfl hrow _ 1 _ ({ x with hold := H } : Sk) _ rfl hnew (one_of8 rfl rfl rfl rfl rfl rfl rfl rfl) hyo (fun g hg hg' => by have h1 := (hyl.out g hg).1; have h2 := (hfl.out g hg').2; omega) (by simp only [maxLen]; omega) (by omega) hbA.size ?_
                 intro A9 c9 w9 fp9 hown9 hg9 hf9 hv9
                 refine Halt.go ?_)
              | fail)
            have SR9 : SR w (.slice A9 (ys.length + 1) c9) (ys ++ [({ x with hold := H } : Sk)]) w9 := ⟨hbA.grown hg9 hbA.size (fun k hk => (hv9 k hk).1), fp9, hown9⟩
            have HQ9 := Lib.hid (free_some HQ.out HX.out HF.out)
            clear hown9 hg9 hf9 hv9 hrow hyo hyl hfl hnew hbA
            refine Halt.mk ?_
            go_wp2_with fail
            go_roundw
            case rel => exact ⟨k + 1, _, _, by omega, by go_num, rfl, HQ9, SR9⟩
            case measure => simp [intOf]; omega
    · have he : k = xs.length := by omega
      subst he
      obtain ⟨fp, ho⟩ := SRW.own
      obtain ⟨A9, c9, rfl, _, _, _⟩ := ho.reads
      have hq : ys = freeP xs id hold := by have h9 := HQ.out; rw [List.take_length] at h9; exact h9
      have hlow := SRW.below
      clear HQ SRW hyn
      have HQ := Lib.hid hq
      clear hq
      go_wp2
      go_ret
      rw [← HQ.out]
      exact ⟨A9, c9, fp, rfl, ho, hlow⟩

end Go.Proofs.Ytcelkmphdeaaeaa
