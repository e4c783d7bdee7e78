/- drive.restart. -/
import Derived.Test.YtkpcjnamoejjjaaDriveSync
import Derived.Test.YtkpcjnamoejjjaaFall0
namespace Go.Proofs.Ytkpcjnamoejjjaa
open Go.RowKit Go.Maps
set_option linter.unusedVariables false

theorem MapIs.mono {w : World} {mb m : Nat} {cells : List Value} {idx : Int → Option Nat} (h : MapIs w mb m cells idx) {m' : Nat} (hm : m ≤ m') : MapIs w mb m' cells idx := by
  obtain ⟨D, ho, hD, hi⟩ := h
  exact ⟨D, ho.mono hm, hD, hi⟩

set_option maxRecDepth 100000 in
set_option maxHeartbeats 2000000 in
theorem driveRestart_any (g mb m base gs c : Nat) (B : Option Addr) (c' : Nat) (f : Int) (dn : Bool) (d : Disk) (keep : Int) (sc cc : List Value) (fps fcs : List (List Nat)) (idx : Int → Option Nat) (w : World)
    (hv : w.heap[g]? = some (.cells #[.slice (some ⟨gs, 0, none⟩) d.secs.length c, .slice B d.cache.length c', .int .i64 f, .bool dn, .map (some mb)] 70 (0, 0)))
    (hm : MapIs w mb m cc idx) (hM : Mid w base (.slice (some ⟨gs, 0, none⟩) d.secs.length c) (.slice B d.cache.length c') d sc cc fps fcs (fun _ => none)) (hk : KeysOk d) (hf : d.secs.length ≤ 1048576)
    (hg1 : ∀ a, a ∈ ((Value.slice (some ⟨gs, 0, none⟩) d.secs.length c).ownBlock.toList ++ fps.flatten) ++ ((Value.slice B d.cache.length c').ownBlock.toList ++ fcs.flatten) → a ≠ g ∧ a ≠ mb) (hgm : g ≠ mb)
    (h30 : d.cache.length ≤ 30) (hk0 : 0 ≤ keep) (hk1 : keep ≤ 1073741823) :
    Calls Try.prog 46 #[.pointer (some ⟨g, 0, none⟩), .int .i64 keep] w fun e w' => e = .returned (.tuple #[]) ∧ Hid (w'.heap[g]? = some (.cells #[.slice (some ⟨gs, 0, none⟩) d.secs.length c, .slice none 0 0, .int .i64 (-1), .bool false, .map (some mb)] 70 (0, 0))) ∧
      Mid w' base (.slice (some ⟨gs, 0, none⟩) d.secs.length c) (.slice B d.cache.length c') d sc cc fps fcs (idxC (keyB d.cache keep) d.cache.length) ∧ Rep.Only w w' [g, mb, gs] := by
  have c4 : w.cell? ⟨g, 4, none⟩ = some (.map (some mb)) := var_cell hv 4
  have hgl : g < w.heap.size := World.block_lt_of_cell? w ⟨g, 4, none⟩ c4
  have hml := hm.lt
  have hgsm := hg1 gs (by simp [Value.ownBlock])
  have LT := Lib.hid hM.lts
  have HG1 := Lib.hid hg1
  have HK := Lib.hid hk
  obtain ⟨w5, hrun, hm5, ht5⟩ := run_clear hm
  have hg5 := ht5.grown
  have V5 := Lib.hid ((hg5.block g hgl (by simp; omega)).trans hv)
  have hM5 := hM.kept (w' := w5) (fun a ha => hg5.block a (LT.out a ha).2 (by have := (HG1.out a ha).2; simp; omega))
  have hO5 : Rep.Only w w5 [g, mb, gs] := Rep.Only.of_grown hg5 (fun a ha => by injection ha with ha; simp [ha])
  have e51 : w5.cell? ⟨g, 1, none⟩ = some (.slice B d.cache.length c') := var_cell V5.out 1
  have hm5' := hm5.weak (idx' := idxC (keyB d.cache keep) 0) (fun _ => rfl)
  have hgs5 : gs < w.heap.size := (LT.out gs (by simp [Value.ownBlock])).2
  clear hg5 ht5 hM hm hg1 hk hv hm5
  go_enter Try.func46, Try.ntmps46
  go_wp2_with fail
  go_loopw [16] (fun i wr => ∃ k : Nat, k ≤ d.cache.length ∧ i = .int .i64 k ∧ Hid (wr.heap[g]? = some (.cells #[.slice (some ⟨gs, 0, none⟩) d.secs.length c, .slice B d.cache.length c', .int .i64 f, .bool dn, .map (some mb)] 70 (0, 0))) ∧
      MapIs wr mb k cc (idxC (keyB d.cache keep) k) ∧ Mid wr base (.slice (some ⟨gs, 0, none⟩) d.secs.length c) (.slice B d.cache.length c') d sc cc fps fcs (fun _ => none) ∧ Rep.Only w wr [g, mb, gs]) (fun i _ => d.cache.length - (intOf i).toNat)
  case atStart => exact ⟨0, by omega, rfl, V5, hm5', hM5, hO5⟩
  case round =>
    obtain ⟨k, hkl, rfl, vo, hmr, hM, hO⟩ := hrel
    clear hrun V5 hm5' hM5 hO5 e51 c4
    have hz := hO.size
    by_cases hlt : k < d.cache.length
    · obtain ⟨b, off, A2, c2, x, rfl, hbl, hx, e0, e1, hgd⟩ := hM.elem hlt
      obtain ⟨hx0, hx1⟩ := HK.out x (List.mem_of_getElem? hx)
      have hwx : (Lit.int .i64 x.n).wf = true := WalkArith.wf_i64 (by omega)
      have hkx := Lib.hid (key_eq hx)
      have HG := Lib.hid hgd
      clear hgd hx hx0 hx1
      have i1 : (0 : Int) ≤ (k : Int) := by omega
      have i2 : (k : Int) < (d.cache.length : Int) := by omega
      have HBITS := Lib.hid (bit_walk hk0 hk1 (show k < 30 by omega))
      have hvw := heap_alloc_new wr (.cells #[.int .i64 x.n, .slice A2 x.b.length c2] 42)
      have hkA : ∀ a, a < wr.heap.size → (wr.alloc (.cells #[.int .i64 x.n, .slice A2 x.b.length c2] 42)).heap[a]? = wr.heap[a]? := fun a ha => Below.heap_alloc wr _ a ha
      have hOA : Rep.Only w (wr.alloc (.cells #[.int .i64 x.n, .slice A2 x.b.length c2] 42)) [g, mb, gs] := hO.trans ((Rep.only_alloc wr _).mono (by simp))
      have hzA : (wr.alloc (.cells #[.int .i64 x.n, .slice A2 x.b.length c2] 42)).heap.size = wr.heap.size + 1 := by simp
      rcases hbit : bitOf keep k with _ | _
      · have hbw := HBITS.out.trans hbit
        have HB9 := Lib.hid hbit
        clear hbit
        go_wp2_with fail
        generalize hgw : wr.alloc (.cells #[.int .i64 x.n, .slice A2 x.b.length c2] 42) = wa at hkA hvw hOA hzA ⊢
        clear hgw e0 e1
        have vA := Lib.hid ((hkA g (by omega)).trans vo.out)
        have mA := ((hmr.of_block (w' := wa) (hkA mb (by omega))).mono (show k ≤ k + 1 by omega)).weak (idx' := idxC (keyB d.cache keep) (k + 1)) (fun i => by
          show _ = (if keyB d.cache keep k i = true then some k else idxC (keyB d.cache keep) k i)
          rw [show keyB d.cache keep k i = false from by unfold keyB; rw [HB9.out]; rfl]; rfl)
        have hMA := hM.kept (w' := wa) (fun a ha => hkA a (by have := (LT.out a ha).2; omega))
        clear hkA hvw
        go_roundw
        case rel => exact ⟨k + 1, by omega, by go_num, vA, mA, hMA, hOA⟩
        case measure => simp [intOf]; omega
      · have hbw := HBITS.out.trans hbit
        have HB9 := Lib.hid hbit
        clear hbit
        go_wp2_with fail
        generalize hgw : wr.alloc (.cells #[.int .i64 x.n, .slice A2 x.b.length c2] 42) = wa at hkA hvw hOA hzA ⊢
        clear hgw e0 e1
        have vA := Lib.hid ((hkA g (by omega)).trans vo.out)
        have mA := hmr.of_block (w' := wa) (hkA mb (by omega))
        have hMA := hM.kept (w' := wa) (fun a ha => hkA a (by have := (LT.out a ha).2; omega))
        have eM : wa.cell? ⟨g, 4, none⟩ = some (.map (some mb)) := var_cell vA.out 4
        have eN : wa.cell? ⟨wr.heap.size, 0, none⟩ = some (.int .i64 x.n) := var_cell hvw 0
        have eB : wa.cell? ⟨wr.heap.size, 1, none⟩ = some (.slice A2 x.b.length c2) := var_cell hvw 1
        obtain ⟨D, ho, hD, hi⟩ := mA
        have HI := Lib.hid hi
        clear hi hkA hvw
        refine wp_region_lex' 8 [0, 1, 2, 3, 4, 5, 6, 7] [8] (fun w' => w'.cell? ⟨g, 4, none⟩ = some (.map (some mb)) ∧ w'.cell? ⟨wr.heap.size, 0, none⟩ = some (.int .i64 x.n) ∧ w'.cell? ⟨wr.heap.size, 1, none⟩ = some (.slice A2 x.b.length c2)) (by kernel_rfl) (by kernel_rfl) ⟨eM, eN, eB⟩ ?_
        iterate 8 (refine LexR.cons rfl ?_ (fun w' hw => ?_) ?_; rotate_left; focus (obtain ⟨e1, e2, e3⟩ := hw; go_simp; (try exact rfl)); (try go_frame))
        refine LexR.nil (LexW.cons rfl ?_)
        go_frame
        have hkm : k < maxLen := by simp only [maxLen]; omega
        refine mapPut wa.drew rfl (.tmp 29) (.tmp 31) (.tmp 33) rfl mb k D rfl ho.drew hkm x.n (.slice A2 x.b.length c2) rfl rfl hwx ?_
        intro w3 hown3 hturn3
        refine ⟨fun h => absurd rfl h, LexW.nil ?_⟩
        have hg3 := hturn3.grown
        rw [← HG.out] at hown3
        have hM3 := (MapIs.put (k := k) hwx hD HI.out hown3).weak (idx' := idxC (keyB d.cache keep) (k + 1)) (fun i => by
          show (if x.n = i then some k else idxC (keyB d.cache keep) k i) = (if keyB d.cache keep k i = true then some k else idxC (keyB d.cache keep) k i)
          rw [show keyB d.cache keep k i = (x.n == i) from by unfold keyB; rw [HB9.out, hkx.out i]; rfl]
          by_cases he : x.n = i
          · rw [if_pos he, if_pos (by simpa using he)]
          · rw [if_neg he, if_neg (by simpa using he)])
        have hzd : wa.drew.heap.size = wa.heap.size := rfl
        have V3 := Lib.hid ((hg3.block g (by omega) (by simp; omega)).trans vA.out)
        have hMM3 := (hMA.kept (w' := wa.drew) (fun _ _ => rfl)).kept (w' := w3) (fun a ha => hg3.block a (by have := (LT.out a ha).2; omega) (by have := (HG1.out a ha).2; simp; omega))
        have hO3 : Rep.Only w w3 [g, mb, gs] := (hOA.trans ((Rep.only_drew wa).mono (by simp))).trans (Rep.Only.of_grown hg3 (fun a ha => by injection ha with ha; simp [ha]))
        clear hg3 hturn3 hown3 hMA hOA eM eN eB
        go_wp2_with fail
        go_roundw
        case rel => exact ⟨k + 1, by omega, by go_num, V3, hM3, hMM3, hO3⟩
        case measure => simp [intOf]; omega
    · have he : k = d.cache.length := by omega
      subst he
      go_wp2_with fail
      refine (driveFlush_any g mb d.cache.length base gs c B c' (.int .i64 f) (.bool dn) d sc cc fps fcs _ wr vo.out hmr hM (idx_okB d keep _ (Nat.le_refl _)) HK.out hf HG1.out hgm).mono ?_
      rintro e w2 ⟨rfl, v2, hM2, ho2⟩
      have e22 : w2.cell? ⟨g, 2, none⟩ = some (.int .i64 f) := var_cell v2.out 2
      have e23 : w2.cell? ⟨g, 3, none⟩ = some (.bool dn) := var_cell v2.out 3
      have q2 := var_frozen v2.out 2
      have q3 := var_frozen v2.out 3
      go_wp2_with fail
      go_end0
      exact ⟨rfl, Lib.hid (var_set (var_set v2.out 3 (.bool false)) 2 (.int .i64 (-1))), (hM2.kept (fun a ha => heap_setCell_other w2 ⟨g, 3, none⟩ a _ (by have := (HG1.out a ha).1; simp; omega))).kept (fun a ha => heap_setCell_other _ _ _ _ (by have := (HG1.out a ha).1; simp; omega)),
        ((hO.trans ho2).trans (Rep.Only.setCell w2 (by simp) _)).trans (Rep.Only.setCell _ (by simp) _)⟩

end Go.Proofs.Ytkpcjnamoejjjaa
