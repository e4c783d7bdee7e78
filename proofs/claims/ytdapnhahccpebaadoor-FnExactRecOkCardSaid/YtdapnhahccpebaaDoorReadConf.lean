/- readConf of the program. -/
import Derived.Test.YtdapnhahccpebaaDoorWidth
import Derived.Lib.OthersKept
namespace Go.Proofs.YtdapnhahccpebaaDoor
open Go.RowKit Go.Lib
set_option maxRecDepth 100000
set_option linter.unusedVariables false

/-- What is so of the reader's memory. -/
def RdAt (C I base : Nat) (T : ByteArray) (k f : Nat) (ps : List ByteArray) (xs : List Db) (w : World) : Prop :=
  ∃ vd Ap cp fp fp2, w.heap[C]? = some (.cells #[vd, .slice Ap ps.length cp] 127 (0, 0)) ∧ w.heap[I]? = some (.stringIter T k) ∧ Rep.OwnRows dbR 35 w base vd xs fp ∧ Rep.OwnRows stR 9 w base (.slice Ap ps.length cp) ps fp2 ∧ (∀ g, g ∈ fp → g ∉ fp2)
def RetRead (T : List UInt8) (w : World) (e : Ending) (w' : World) : Prop :=
  (runC T [] [] [] = none ∧ (∃ n : Int, e = .returned (.tuple #[.slice none 0 0, .iface 82 (.agg #[.int .i64 n])])) ∧ Below w.heap.size w w') ∨
  (∃ A c xs fp, runC T [] [] [] = some xs ∧ e = .returned (.tuple #[.slice A xs.length c, .nilIface]) ∧ Rep.OwnRows dbR 35 w' w.heap.size (.slice A xs.length c) xs fp ∧ Below w.heap.size w w')

theorem isMk_high {b : UInt8} (h : 128 ≤ b.toNat) : isMk b = false := by
  cases h2 : isMk b with
  | false => rfl
  | true =>
    unfold isMk at h2
    simp only [Bool.or_eq_true, beq_iff_eq] at h2
    rcases h2 with (h2 | h2) | h2 <;> (subst h2; simp at h)
set_option maxRecDepth 100000 in
set_option maxHeartbeats 4000000 in
theorem readConf_any (s : ByteArray) (w : World) (ht : Tab w) (hs : s.size ≤ 1048576) : Calls Tryd.prog 53 #[.string s] w (RetRead (s.data.toList ++ [59]) w) := by
  obtain ⟨i0, hi0, hz0, hz1, hz2⟩ := info_parts Tryd.infoStr
  obtain ⟨T, hT⟩ : ∃ T : ByteArray, T = s ++ ⟨#[59]⟩ := ⟨_, rfl⟩
  have hTs : T.size = s.size + 1 := by rw [hT, ByteArray.size_append]; rfl
  have hTl : T.data.toList = s.data.toList ++ [59] := by rw [hT]; simp
  have HTL := Lib.hid hTl
  rw [← hTl]
  have HT := Lib.hid ht
  have HTS := Lib.hid hTs
  have lT : ¬ (140737488355328 < s.size + 1) := by omega
  go_enter Tryd.func53, Tryd.ntmps53
  go_wp2_with fail
  rw [← hT]
  have hb0 : Below w.heap.size w ((w.alloc (.cells #[.slice none 0 0, .slice none 0 0] 127)).iter T 0) := ((Below.refl _ _).alloc (Nat.le_refl _) _).alloc (by simp) _
  have V0 : ((w.alloc (.cells #[.slice none 0 0, .slice none 0 0] 127)).iter T 0).heap[w.heap.size]? = some (.cells #[.slice none 0 0, .slice none 0 0] 127 (0, 0)) := (Below.heap_alloc _ _ _ (by simp)).trans (heap_alloc_new w _)
  have V1 : ((w.alloc (.cells #[.slice none 0 0, .slice none 0 0] 127)).iter T 0).heap[w.heap.size + 1]? = some (.stringIter T 0) := heap_alloc_new' _ _ (by simp)
  have hR0 := Lib.hid (show RdAt w.heap.size (w.heap.size + 1) (w.heap.size + 2) T 0 0 [] [] ((w.alloc (.cells #[.slice none 0 0, .slice none 0 0] 127)).iter T 0) from
    ⟨.slice none 0 0, none, 0, [], [], V0, V1, ⟨[], [], ⟨by simp, .inl ⟨rfl, rfl⟩⟩, rfl, fun i x f hx => by simp at hx, rfl, by simp⟩, ⟨[], [], ⟨by simp, .inl ⟨rfl, rfl⟩⟩, rfl, fun i x f hx => by simp at hx, rfl, by simp⟩, fun g hg => by simp at hg⟩)
  clear V0 V1 hT hTs hTl lT
  have hi0' : ((w.alloc (.cells #[.slice none 0 0, .slice none 0 0] 127)).heap.size) = w.heap.size + 1 := by simp
  go_loopw [5] (fun fr wr => ∃ (k f : Nat) (ps : List ByteArray) (xs : List Db), fr = .int .i64 f ∧ k ≤ T.size ∧ f ≤ k ∧ xs.length ≤ k ∧ ps.length ≤ 4 ∧ Hid (RdAt w.heap.size (w.heap.size + 1) (w.heap.size + 2) T k f ps xs wr) ∧ Hid (RunTo T.data.toList k f (ps.map bl) xs) ∧ Hid (∀ (i : Nat) (x : ByteArray), ps[i]? = some x → x.size ≤ T.size) ∧ Below w.heap.size w wr) (fun _ wr => T.size - wr.iterPos (w.heap.size + 1))
  case atStart => exact ⟨0, 0, [], [], rfl, by omega, by omega, by simp, by simp, hR0, Lib.hid (RunTo.zero _), Lib.hid (fun i x h => by simp at h), hb0⟩
  case round =>
    clear hb0 hR0
    obtain ⟨k, f, ps, xs, rfl, hk, hf, hx, hps, hrd, hrun, hsz, hb⟩ := hrel
    obtain ⟨vd, Ap, cp, fp, fp2, hC, hI, hO1, hO2, hdis⟩ := hrd.out
    have hpos : wr.iterPos (w.heap.size + 1) = k := by unfold World.iterPos; rw [hI]
    have HC := Lib.hid hC
    have HI := Lib.hid hI
    have HO1 := Lib.hid hO1
    have HO2 := Lib.hid hO2
    have HDis := Lib.hid hdis
    have HPOS := Lib.hid hpos
    clear hC hI hO1 hO2 hdis hrd hpos
    have hmv : ∀ k', RdAt w.heap.size (w.heap.size + 1) (w.heap.size + 2) T k' f ps xs (wr.iterAt (w.heap.size + 1) T k') := fun k' =>
      ⟨vd, Ap, cp, fp, fp2, (iterAt_other _ _ _ _ _ (by omega)).trans HC.out, iterAt_heap _ _ _ _ _ HI.out, HO1.out.kept (fun g hg => iterAt_other _ _ _ _ _ (by have := (HO1.out.lt g hg).1; omega)), HO2.out.kept (fun g hg => iterAt_other _ _ _ _ _ (by have := (HO2.out.lt g hg).1; omega)), HDis.out⟩
    by_cases hlt : k < T.size
    · by_cases ha : T[k].toNat < 128
      · have hnx := fun ty => run_next_ascii_at (P := Tryd.prog) wr (w.heap.size + 1) T k ty HI.out hlt ha
        have HG := Lib.hid (str_at T k hlt)
        obtain ⟨b, hbb⟩ : ∃ b, T[k] = b := ⟨_, rfl⟩
        rw [hbb] at HG ha hnx
        clear hbb
        by_cases hm : isMk b = true
        · have h3 : b = 58 ∨ b = 47 ∨ b = 59 := by
            have h9 := hm
            unfold isMk at h9
            simp only [Bool.or_eq_true, beq_iff_eq] at h9
            rcases h9 with (h9 | h9) | h9
            · exact .inl h9
            · exact .inr (.inl h9)
            · exact .inr (.inr h9)
          by_cases h58 : b = 58
          · have d58 : ((b.toNat : Int) != (58 : Int)) = false := by rw [h58]; rfl
            have HB := Lib.hid h58
            have h59 : b ≠ 59 := by rw [h58]; decide
            have e59 : ((b.toNat : Int) == (59 : Int)) = false := by rw [h58]; rfl
            clear h58
            have hC1 := (hmv (k + 1))
            obtain ⟨vd9, Ap9, cp9, fp9, fq9, gC, gI, gO1, gO2, gd⟩ := hC1
            have c1 : (wr.iterAt (w.heap.size + 1) T (k + 1)).cell? ⟨w.heap.size, 1, none⟩ = some (.slice Ap9 ps.length cp9) := var_cell gC 1
            have f1 := var_frozen gC 1
            have hbi : Below w.heap.size w (wr.iterAt (w.heap.size + 1) T (k + 1)) := below_iterAt hb (by omega) _ _
            have HgC := Lib.hid gC
            have HgI := Lib.hid gI
            have HgO1 := Lib.hid gO1
            have HgO2 := Lib.hid gO2
            have Hgd := Lib.hid gd
            clear gC gI gO1 gO2 gd hb hmv
            go_wp2_with fail
            generalize hW : wr.iterAt (w.heap.size + 1) T (k + 1) = W1 at c1 f1 hbi HgC HgI HgO1 HgO2 ⊢
            clear hW
            refine (mark_any w.heap.size Ap9 ps.length cp9 W1 c1).mono ?_
            rintro e W2 ⟨rfl, rfl⟩
            by_cases hmk : b = mkOf ps.length
            · have dm : ((b.toNat : Int) != ((mkOf ps.length).toNat : Int)) = false := by rw [hmk]; simp
              have HMK := Lib.hid hmk
              clear hmk
              have sk : k ≤ s.size := by have := HTS.out; omega
              have i3 : (f : Int) ≤ (k : Int) := by omega
              have i4 : (k : Int) ≤ (s.size : Int) := by omega
              have HX := Lib.hid (show bl (s.extract f k) = (T.data.toList.drop f).take (k - f) by
                unfold bl
                rw [extract_list, HTL.out, List.drop_append_of_le_length (by simp; omega), List.take_append_of_le_length (by simp; omega)])
              have hxz : (s.extract f k).size ≤ T.size := by
                have h9 := congrArg List.length (extract_list s f k)
                rw [List.length_take] at h9
                have := HTS.out
                simp at h9 ⊢
                omega
              have T0 : All (fun w' => Below w.heap.size w w' ∧ Rep.OwnRows stR 9 w' (w.heap.size + 2) (.slice Ap9 ps.length cp9) ps fq9 ∧ w'.cell? ⟨w.heap.size, 1, none⟩ = some (.slice Ap9 ps.length cp9)) W2 := ⟨hbi, HgO2.out, c1⟩
              go_wp2_with fail
              refine wp_region_lex' 9 [0, 1, 2, 3, 4, 5] [6, 7, 8, 9] (fun w' => w'.cell? ⟨w.heap.size, 1, none⟩ = some (.slice Ap9 ps.length cp9)) (by kernel_rfl) (by kernel_rfl) T0.drew.out.2.2 ?_
              replace T0 := T0.drew
              iterate 6 (refine LexR.cons rfl ?_ (fun w' hw => ?_) ?_; rotate_left; focus (go_simp; (try exact rfl)); (try go_frame))
              refine LexR.nil (LexW.cons rfl ?_)
              go_wp2_with fail
              have TA := T0.alloc (.cells #[.string (s.extract f k)] 9)
              have hnew := reads_lit W2.drew #[.string (s.extract f k)] 1 1 9 (g := W2.drew.heap.size) rfl rfl (by simp [maxLen])
              refine ⟨fun _ => TA.out.2.2, LexW.cons rfl ?_⟩
              try go_frame
              refine Rep.wpList_push _ rfl (.tmp 32) (.tmp 37) _ rfl stR (w.heap.size + 2) 9 i0 _ 16 Tryd.underlying74 hi0 hz0 hz1 hz2 rfl (by decide) _ ps fq9 rfl TA.out.2.1 _ 1 _ (s.extract f k) [] rfl hnew (one_of1 rfl) ⟨rfl, rfl⟩ (fun g hg hg' => by cases hg) (by simp only [maxLen]; omega) (by omega) (by have h8 := (Array.getElem?_eq_some_iff.1 HgI.out).1; simp; omega) ?_
              intro A2 c2 w2 fp2 hown2 hg2 hf2 hv2
              have hIl := (Array.getElem?_eq_some_iff.1 HgI.out).1
              have hbl : ∀ g, g < W2.heap.size → g ∉ fq9 → w2.heap[g]? = W2.heap[g]? := fun g hg hn => (hg2.block g (by simp; omega) (fun e => hn (hv2 g e.symm).2)).trans (Below.heap_alloc W2.drew _ g hg)
              have nC : w.heap.size ∉ fq9 := fun e => absurd ((HgO2.out.lt _ e).1) (by omega)
              have nI : w.heap.size + 1 ∉ fq9 := fun e => absurd ((HgO2.out.lt _ e).1) (by omega)
              have hC2 : w2.heap[w.heap.size]? = some (.cells #[vd9, .slice Ap9 ps.length cp9] 127 (0, 0)) := (hbl _ (by omega) nC).trans HgC.out
              have hI2 : w2.heap[w.heap.size + 1]? = some (.stringIter T (k + 1)) := (hbl _ (by omega) nI).trans HgI.out
              have cz := var_cell hC2 1
              have fz := var_frozen hC2 1
              have hb2 : Below w.heap.size w w2 := TA.out.1.grown hg2 TA.out.1.size (fun j hj => by have := (hv2 j hj).1; omega)
              have hb3 := Below.setCell hb2 (p := ⟨w.heap.size, 1, none⟩) (Nat.le_refl _) (.slice A2 (ps.length + 1) c2)
              have hC3 := Lib.hid (var_set hC2 1 (.slice A2 (ps.length + 1) c2))
              have hI3 := Lib.hid (show (w2.setCell ⟨w.heap.size, 1, none⟩ (.slice A2 (ps.length + 1) c2)).heap[w.heap.size + 1]? = some (.stringIter T (k + 1)) from (heap_setCell_other _ _ _ _ (by simp)).trans hI2)
              have hO3 := Lib.hid ((HgO1.out.kept fun g hg => hbl g (HgO1.out.lt g hg).2 (Hgd.out g hg)).setLow (show (⟨w.heap.size, 1, none⟩ : Addr).block < w.heap.size + 2 by simp) (.slice A2 (ps.length + 1) c2))
              have hP3 := Lib.hid (hown2.setLow (show (⟨w.heap.size, 1, none⟩ : Addr).block < w.heap.size + 2 by simp) (.slice A2 (ps.length + 1) c2))
              have hd3 := Lib.hid (show ∀ g, g ∈ fp9 → g ∉ fp2 from fun g hg hg' => by
                rcases hf2 g hg' with h | h | h
                · exact Hgd.out g hg h
                · cases h
                · have := (HgO1.out.lt g hg).2
                  simp at h
                  omega)
              have cz' : w2.cell? ⟨w.heap.size, 1, none⟩ = some (.slice Ap9 ps.length cp9) := cz
              clear hC2 hI2 hbl nC nI hg2 hf2 hv2 hown2 hnew TA T0 hb2 cz c1 f1 hbi HgC HgI HgO1 HgO2 Hgd
              refine ⟨fun _ => cz', LexW.cons rfl ?_⟩
              try go_frame
              go_wp2_with fail
              refine ⟨fun _ => cz', LexW.cons rfl ?_⟩
              try go_frame
              go_wp2_with fail
              refine ⟨fun h => absurd rfl h, LexW.nil ?_⟩
              have kz : (k : Int) < 2000000 := by have := HTS.out; omega
              have HN := Lib.hid (hrun.out.part HG.out hm (by rw [List.length_map]; exact HMK.out) h59)
              have hp4 : ps.length + 1 ≤ 4 := by
                have : ps.length ≠ 4 := fun e => h59 (by rw [HMK.out, e]; rfl)
                omega
              have hsz' := Lib.hid (show ∀ (i : Nat) (x : ByteArray), (ps ++ [s.extract f k])[i]? = some x → x.size ≤ T.size from fun i x hx => by
                rcases List.mem_append.1 (List.mem_of_getElem? hx) with h | h
                · obtain ⟨i', hi'⟩ := List.mem_iff_getElem?.1 h
                  exact hsz.out i' x hi'
                · rw [List.mem_singleton.1 h]; exact hxz)
              clear h59
              go_wp2_with fail
              go_roundw
              case rel => exact ⟨k + 1, k + 1, ps ++ [s.extract f k], xs, by go_num, by omega, by omega, by omega, by simp; omega, Lib.hid ⟨_, A2, c2, fp9, fp2, by rw [List.length_append]; exact hC3.out, hI3.out, hO3.out, by rw [List.length_append]; exact hP3.out, hd3.out⟩, Lib.hid (by rw [List.map_append, List.map_cons, List.map_nil, HX.out]; exact HN.out), hsz', hb3⟩
              case measure => rw [HPOS.out]; unfold World.iterPos; rw [hI3.out]; simp; omega
            · have dm : ((b.toNat : Int) != ((mkOf ps.length).toNat : Int)) = true := by simp; exact fun e => hmk (UInt8.toNat_inj.1 (by omega))
              have HN := Lib.hid (hrun.out.bad HG.out hm (by rw [List.length_map]; exact hmk))
              clear hmk
              go_wp2_with fail
              go_ret2
              exact .inl ⟨HN.out, ⟨_, rfl⟩, hbi⟩
          · by_cases h47 : b = 47
            · have d58 : ((b.toNat : Int) != (58 : Int)) = true := by simp; exact fun e => h58 (UInt8.toNat_inj.1 (by show b.toNat = 58; omega))
              have d47 : ((b.toNat : Int) != (47 : Int)) = false := by rw [h47]; rfl
              have HB := Lib.hid h47
              have h59 : b ≠ 59 := by rw [h47]; decide
              have e59 : ((b.toNat : Int) == (59 : Int)) = false := by rw [h47]; rfl
              clear h47
              have hC1 := (hmv (k + 1))
              obtain ⟨vd9, Ap9, cp9, fp9, fq9, gC, gI, gO1, gO2, gd⟩ := hC1
              have c1 : (wr.iterAt (w.heap.size + 1) T (k + 1)).cell? ⟨w.heap.size, 1, none⟩ = some (.slice Ap9 ps.length cp9) := var_cell gC 1
              have f1 := var_frozen gC 1
              have hbi : Below w.heap.size w (wr.iterAt (w.heap.size + 1) T (k + 1)) := below_iterAt hb (by omega) _ _
              have HgC := Lib.hid gC
              have HgI := Lib.hid gI
              have HgO1 := Lib.hid gO1
              have HgO2 := Lib.hid gO2
              have Hgd := Lib.hid gd
              clear gC gI gO1 gO2 gd hb hmv
              go_wp2_with fail
              generalize hW : wr.iterAt (w.heap.size + 1) T (k + 1) = W1 at c1 f1 hbi HgC HgI HgO1 HgO2 ⊢
              clear hW
              refine (mark_any w.heap.size Ap9 ps.length cp9 W1 c1).mono ?_
              rintro e W2 ⟨rfl, rfl⟩
              by_cases hmk : b = mkOf ps.length
              · have dm : ((b.toNat : Int) != ((mkOf ps.length).toNat : Int)) = false := by rw [hmk]; simp
                have HMK := Lib.hid hmk
                clear hmk
                have sk : k ≤ s.size := by have := HTS.out; omega
                have i3 : (f : Int) ≤ (k : Int) := by omega
                have i4 : (k : Int) ≤ (s.size : Int) := by omega
                have HX := Lib.hid (show bl (s.extract f k) = (T.data.toList.drop f).take (k - f) by
                  unfold bl
                  rw [extract_list, HTL.out, List.drop_append_of_le_length (by simp; omega), List.take_append_of_le_length (by simp; omega)])
                have hxz : (s.extract f k).size ≤ T.size := by
                  have h9 := congrArg List.length (extract_list s f k)
                  rw [List.length_take] at h9
                  have := HTS.out
                  simp at h9 ⊢
                  omega
                have T0 : All (fun w' => Below w.heap.size w w' ∧ Rep.OwnRows stR 9 w' (w.heap.size + 2) (.slice Ap9 ps.length cp9) ps fq9 ∧ w'.cell? ⟨w.heap.size, 1, none⟩ = some (.slice Ap9 ps.length cp9)) W2 := ⟨hbi, HgO2.out, c1⟩
                go_wp2_with fail
                refine wp_region_lex' 9 [0, 1, 2, 3, 4, 5] [6, 7, 8, 9] (fun w' => w'.cell? ⟨w.heap.size, 1, none⟩ = some (.slice Ap9 ps.length cp9)) (by kernel_rfl) (by kernel_rfl) T0.drew.out.2.2 ?_
                replace T0 := T0.drew
                iterate 6 (refine LexR.cons rfl ?_ (fun w' hw => ?_) ?_; rotate_left; focus (go_simp; (try exact rfl)); (try go_frame))
                refine LexR.nil (LexW.cons rfl ?_)
                go_wp2_with fail
                have TA := T0.alloc (.cells #[.string (s.extract f k)] 9)
                have hnew := reads_lit W2.drew #[.string (s.extract f k)] 1 1 9 (g := W2.drew.heap.size) rfl rfl (by simp [maxLen])
                refine ⟨fun _ => TA.out.2.2, LexW.cons rfl ?_⟩
                try go_frame
                refine Rep.wpList_push _ rfl (.tmp 32) (.tmp 37) _ rfl stR (w.heap.size + 2) 9 i0 _ 16 Tryd.underlying74 hi0 hz0 hz1 hz2 rfl (by decide) _ ps fq9 rfl TA.out.2.1 _ 1 _ (s.extract f k) [] rfl hnew (one_of1 rfl) ⟨rfl, rfl⟩ (fun g hg hg' => by cases hg) (by simp only [maxLen]; omega) (by omega) (by have h8 := (Array.getElem?_eq_some_iff.1 HgI.out).1; simp; omega) ?_
                intro A2 c2 w2 fp2 hown2 hg2 hf2 hv2
                have hIl := (Array.getElem?_eq_some_iff.1 HgI.out).1
                have hbl : ∀ g, g < W2.heap.size → g ∉ fq9 → w2.heap[g]? = W2.heap[g]? := fun g hg hn => (hg2.block g (by simp; omega) (fun e => hn (hv2 g e.symm).2)).trans (Below.heap_alloc W2.drew _ g hg)
                have nC : w.heap.size ∉ fq9 := fun e => absurd ((HgO2.out.lt _ e).1) (by omega)
                have nI : w.heap.size + 1 ∉ fq9 := fun e => absurd ((HgO2.out.lt _ e).1) (by omega)
                have hC2 : w2.heap[w.heap.size]? = some (.cells #[vd9, .slice Ap9 ps.length cp9] 127 (0, 0)) := (hbl _ (by omega) nC).trans HgC.out
                have hI2 : w2.heap[w.heap.size + 1]? = some (.stringIter T (k + 1)) := (hbl _ (by omega) nI).trans HgI.out
                have cz := var_cell hC2 1
                have fz := var_frozen hC2 1
                have hb2 : Below w.heap.size w w2 := TA.out.1.grown hg2 TA.out.1.size (fun j hj => by have := (hv2 j hj).1; omega)
                have hb3 := Below.setCell hb2 (p := ⟨w.heap.size, 1, none⟩) (Nat.le_refl _) (.slice A2 (ps.length + 1) c2)
                have hC3 := Lib.hid (var_set hC2 1 (.slice A2 (ps.length + 1) c2))
                have hI3 := Lib.hid (show (w2.setCell ⟨w.heap.size, 1, none⟩ (.slice A2 (ps.length + 1) c2)).heap[w.heap.size + 1]? = some (.stringIter T (k + 1)) from (heap_setCell_other _ _ _ _ (by simp)).trans hI2)
                have hO3 := Lib.hid ((HgO1.out.kept fun g hg => hbl g (HgO1.out.lt g hg).2 (Hgd.out g hg)).setLow (show (⟨w.heap.size, 1, none⟩ : Addr).block < w.heap.size + 2 by simp) (.slice A2 (ps.length + 1) c2))
                have hP3 := Lib.hid (hown2.setLow (show (⟨w.heap.size, 1, none⟩ : Addr).block < w.heap.size + 2 by simp) (.slice A2 (ps.length + 1) c2))
                have hd3 := Lib.hid (show ∀ g, g ∈ fp9 → g ∉ fp2 from fun g hg hg' => by
                  rcases hf2 g hg' with h | h | h
                  · exact Hgd.out g hg h
                  · cases h
                  · have := (HgO1.out.lt g hg).2
                    simp at h
                    omega)
                have cz' : w2.cell? ⟨w.heap.size, 1, none⟩ = some (.slice Ap9 ps.length cp9) := cz
                clear hC2 hI2 hbl nC nI hg2 hf2 hv2 hown2 hnew TA T0 hb2 cz c1 f1 hbi HgC HgI HgO1 HgO2 Hgd
                refine ⟨fun _ => cz', LexW.cons rfl ?_⟩
                try go_frame
                go_wp2_with fail
                refine ⟨fun _ => cz', LexW.cons rfl ?_⟩
                try go_frame
                go_wp2_with fail
                refine ⟨fun h => absurd rfl h, LexW.nil ?_⟩
                have kz : (k : Int) < 2000000 := by have := HTS.out; omega
                have HN := Lib.hid (hrun.out.part HG.out hm (by rw [List.length_map]; exact HMK.out) h59)
                have hp4 : ps.length + 1 ≤ 4 := by
                  have : ps.length ≠ 4 := fun e => h59 (by rw [HMK.out, e]; rfl)
                  omega
                have hsz' := Lib.hid (show ∀ (i : Nat) (x : ByteArray), (ps ++ [s.extract f k])[i]? = some x → x.size ≤ T.size from fun i x hx => by
                  rcases List.mem_append.1 (List.mem_of_getElem? hx) with h | h
                  · obtain ⟨i', hi'⟩ := List.mem_iff_getElem?.1 h
                    exact hsz.out i' x hi'
                  · rw [List.mem_singleton.1 h]; exact hxz)
                clear h59
                go_wp2_with fail
                go_roundw
                case rel => exact ⟨k + 1, k + 1, ps ++ [s.extract f k], xs, by go_num, by omega, by omega, by omega, by simp; omega, Lib.hid ⟨_, A2, c2, fp9, fp2, by rw [List.length_append]; exact hC3.out, hI3.out, hO3.out, by rw [List.length_append]; exact hP3.out, hd3.out⟩, Lib.hid (by rw [List.map_append, List.map_cons, List.map_nil, HX.out]; exact HN.out), hsz', hb3⟩
                case measure => rw [HPOS.out]; unfold World.iterPos; rw [hI3.out]; simp; omega
              · have dm : ((b.toNat : Int) != ((mkOf ps.length).toNat : Int)) = true := by simp; exact fun e => hmk (UInt8.toNat_inj.1 (by omega))
                have HN := Lib.hid (hrun.out.bad HG.out hm (by rw [List.length_map]; exact hmk))
                clear hmk
                go_wp2_with fail
                go_ret2
                exact .inl ⟨HN.out, ⟨_, rfl⟩, hbi⟩
            · have h59 : b = 59 := by rcases h3 with h | h | h <;> first | exact h | exact absurd h h58 | exact absurd h h47
              have d58 : ((b.toNat : Int) != (58 : Int)) = true := by simp; exact fun e => h58 (UInt8.toNat_inj.1 (by show b.toNat = 58; omega))
              have d47 : ((b.toNat : Int) != (47 : Int)) = true := by simp; exact fun e => h47 (UInt8.toNat_inj.1 (by show b.toNat = 47; omega))
              have d59 : ((b.toNat : Int) != (59 : Int)) = false := by rw [h59]; rfl
              have HB := Lib.hid h59
              have e59 : ((b.toNat : Int) == (59 : Int)) = true := by rw [h59]; rfl
              clear h59
              have hC1 := (hmv (k + 1))
              obtain ⟨vd9, Ap9, cp9, fp9, fq9, gC, gI, gO1, gO2, gd⟩ := hC1
              have c1 : (wr.iterAt (w.heap.size + 1) T (k + 1)).cell? ⟨w.heap.size, 1, none⟩ = some (.slice Ap9 ps.length cp9) := var_cell gC 1
              have f1 := var_frozen gC 1
              have hbi : Below w.heap.size w (wr.iterAt (w.heap.size + 1) T (k + 1)) := below_iterAt hb (by omega) _ _
              have HgC := Lib.hid gC
              have HgI := Lib.hid gI
              have HgO1 := Lib.hid gO1
              have HgO2 := Lib.hid gO2
              have Hgd := Lib.hid gd
              clear gC gI gO1 gO2 gd hb hmv
              go_wp2_with fail
              generalize hW : wr.iterAt (w.heap.size + 1) T (k + 1) = W1 at c1 f1 hbi HgC HgI HgO1 HgO2 ⊢
              clear hW
              refine (mark_any w.heap.size Ap9 ps.length cp9 W1 c1).mono ?_
              rintro e W2 ⟨rfl, rfl⟩
              by_cases hmk : b = mkOf ps.length
              · have dm : ((b.toNat : Int) != ((mkOf ps.length).toNat : Int)) = false := by rw [hmk]; simp
                have HMK := Lib.hid hmk
                clear hmk
                have sk : k ≤ s.size := by have := HTS.out; omega
                have i3 : (f : Int) ≤ (k : Int) := by omega
                have i4 : (k : Int) ≤ (s.size : Int) := by omega
                have HX := Lib.hid (show bl (s.extract f k) = (T.data.toList.drop f).take (k - f) by
                  unfold bl
                  rw [extract_list, HTL.out, List.drop_append_of_le_length (by simp; omega), List.take_append_of_le_length (by simp; omega)])
                have hxz : (s.extract f k).size ≤ T.size := by
                  have h9 := congrArg List.length (extract_list s f k)
                  rw [List.length_take] at h9
                  have := HTS.out
                  simp at h9 ⊢
                  omega
                have T0 : All (fun w' => Below w.heap.size w w' ∧ Rep.OwnRows stR 9 w' (w.heap.size + 2) (.slice Ap9 ps.length cp9) ps fq9 ∧ w'.cell? ⟨w.heap.size, 1, none⟩ = some (.slice Ap9 ps.length cp9)) W2 := ⟨hbi, HgO2.out, c1⟩
                go_wp2_with fail
                refine wp_region_lex' 9 [0, 1, 2, 3, 4, 5] [6, 7, 8, 9] (fun w' => w'.cell? ⟨w.heap.size, 1, none⟩ = some (.slice Ap9 ps.length cp9)) (by kernel_rfl) (by kernel_rfl) T0.drew.out.2.2 ?_
                replace T0 := T0.drew
                iterate 6 (refine LexR.cons rfl ?_ (fun w' hw => ?_) ?_; rotate_left; focus (go_simp; (try exact rfl)); (try go_frame))
                refine LexR.nil (LexW.cons rfl ?_)
                go_wp2_with fail
                have TA := T0.alloc (.cells #[.string (s.extract f k)] 9)
                have hnew := reads_lit W2.drew #[.string (s.extract f k)] 1 1 9 (g := W2.drew.heap.size) rfl rfl (by simp [maxLen])
                refine ⟨fun _ => TA.out.2.2, LexW.cons rfl ?_⟩
                try go_frame
                refine Rep.wpList_push _ rfl (.tmp 32) (.tmp 37) _ rfl stR (w.heap.size + 2) 9 i0 _ 16 Tryd.underlying74 hi0 hz0 hz1 hz2 rfl (by decide) _ ps fq9 rfl TA.out.2.1 _ 1 _ (s.extract f k) [] rfl hnew (one_of1 rfl) ⟨rfl, rfl⟩ (fun g hg hg' => by cases hg) (by simp only [maxLen]; omega) (by omega) (by have h8 := (Array.getElem?_eq_some_iff.1 HgI.out).1; simp; omega) ?_
                intro A2 c2 w2 fp2 hown2 hg2 hf2 hv2
                have hIl := (Array.getElem?_eq_some_iff.1 HgI.out).1
                have hbl : ∀ g, g < W2.heap.size → g ∉ fq9 → w2.heap[g]? = W2.heap[g]? := fun g hg hn => (hg2.block g (by simp; omega) (fun e => hn (hv2 g e.symm).2)).trans (Below.heap_alloc W2.drew _ g hg)
                have nC : w.heap.size ∉ fq9 := fun e => absurd ((HgO2.out.lt _ e).1) (by omega)
                have nI : w.heap.size + 1 ∉ fq9 := fun e => absurd ((HgO2.out.lt _ e).1) (by omega)
                have hC2 : w2.heap[w.heap.size]? = some (.cells #[vd9, .slice Ap9 ps.length cp9] 127 (0, 0)) := (hbl _ (by omega) nC).trans HgC.out
                have hI2 : w2.heap[w.heap.size + 1]? = some (.stringIter T (k + 1)) := (hbl _ (by omega) nI).trans HgI.out
                have cz := var_cell hC2 1
                have fz := var_frozen hC2 1
                have hb2 : Below w.heap.size w w2 := TA.out.1.grown hg2 TA.out.1.size (fun j hj => by have := (hv2 j hj).1; omega)
                have hb3 := Below.setCell hb2 (p := ⟨w.heap.size, 1, none⟩) (Nat.le_refl _) (.slice A2 (ps.length + 1) c2)
                have hC3 := Lib.hid (var_set hC2 1 (.slice A2 (ps.length + 1) c2))
                have hI3 := Lib.hid (show (w2.setCell ⟨w.heap.size, 1, none⟩ (.slice A2 (ps.length + 1) c2)).heap[w.heap.size + 1]? = some (.stringIter T (k + 1)) from (heap_setCell_other _ _ _ _ (by simp)).trans hI2)
                have hO3 := Lib.hid ((HgO1.out.kept fun g hg => hbl g (HgO1.out.lt g hg).2 (Hgd.out g hg)).setLow (show (⟨w.heap.size, 1, none⟩ : Addr).block < w.heap.size + 2 by simp) (.slice A2 (ps.length + 1) c2))
                have hP3 := Lib.hid (hown2.setLow (show (⟨w.heap.size, 1, none⟩ : Addr).block < w.heap.size + 2 by simp) (.slice A2 (ps.length + 1) c2))
                have hd3 := Lib.hid (show ∀ g, g ∈ fp9 → g ∉ fp2 from fun g hg hg' => by
                  rcases hf2 g hg' with h | h | h
                  · exact Hgd.out g hg h
                  · cases h
                  · have := (HgO1.out.lt g hg).2
                    simp at h
                    omega)
                have cz' : w2.cell? ⟨w.heap.size, 1, none⟩ = some (.slice Ap9 ps.length cp9) := cz
                clear hC2 hI2 hbl nC nI hg2 hf2 hv2 hown2 hnew TA T0 hb2 cz c1 f1 hbi HgC HgI HgO1 HgO2 Hgd
                refine ⟨fun _ => cz', LexW.cons rfl ?_⟩
                try go_frame
                go_wp2_with fail
                refine ⟨fun _ => cz', LexW.cons rfl ?_⟩
                try go_frame
                go_wp2_with fail
                refine ⟨fun h => absurd rfl h, LexW.nil ?_⟩
                have kz : (k : Int) < 2000000 := by have := HTS.out; omega
                go_wp2_with fail
                have h4 : ps.length = 4 := Classical.byContradiction fun h => (mk_semi _).2 h (by rw [← HB.out]; exact HMK.out)
                have hp5 : (ps ++ [s.extract f k]).length = 5 := by rw [List.length_append, h4]; rfl
                have hln : (ps ++ [s.extract f k]).length = ps.length + 1 := by rw [List.length_append]; rfl
                have hsz' := Lib.hid (show ∀ (i : Nat) (x : ByteArray), (ps ++ [s.extract f k])[i]? = some x → x.size ≤ 100000000 from fun i x hx => by
                  rcases List.mem_append.1 (List.mem_of_getElem? hx) with h | h
                  · obtain ⟨i', hi'⟩ := List.mem_iff_getElem?.1 h
                    have := hsz.out i' x hi'
                    have := HTS.out
                    omega
                  · rw [List.mem_singleton.1 h]
                    have := HTS.out
                    omega)
                have hrow5 := hP3.out.reads
                obtain ⟨A5, c5, e5, _, _, hrow5⟩ := hrow5
                injection e5 with e5 e5n e5c
                subst e5 e5c
                clear e5n
                have hI3l := (Array.getElem?_eq_some_iff.1 hI3.out).1
                have E := endDb_any w.heap.size A2 c2 vd9 (ps ++ [s.extract f k]) xs fp9 (w.heap.size + 2) _ (HT.out.below hb3) hp5 hsz'.out (by rw [hln]; exact hC3.out) hrow5 hO3.out (by omega) (by omega) hI3l
                have HNn := Lib.hid (fun (h : endDb ((ps ++ [s.extract f k]).map bl) = none) => hrun.out.none (HB.out ▸ HG.out) (by rw [List.length_map, h4]; rfl) (by rw [← HX.out]; simpa using h))
                have HNs := Lib.hid (fun (d : Db) (h : endDb ((ps ++ [s.extract f k]).map bl) = some d) => hrun.out.some (d := d) (HB.out ▸ HG.out) (by rw [List.length_map, h4]; rfl) (by rw [← HX.out]; simpa using h))
                have nI9 : w.heap.size + 1 ∉ fp9 := fun e => absurd ((hO3.out.lt _ e).1) (by omega)
                clear h4 hp5 hln hrow5 hm e59
                have e59 : ((b.toNat : Int) == (59 : Int)) = true := by rw [HB.out]; rfl
                have HE := Lib.hid E
                clear E
                refine HE.out.mono ?_
                rintro e W5 (⟨hn, rfl, hbb⟩ | ⟨vd', fp', hsome, rfl, hC6, hO6, hoth, hbb⟩)
                · have hbf := hb3.trans hbb
                  have HNN := Lib.hid (HNn.out hn)
                  clear HE hbb hn
                  go_wp2_with fail
                  go_ret2
                  exact .inl ⟨HNN.out, ⟨_, rfl⟩, hbf⟩
                · have hbf := hb3.trans hbb
                  have hI6 := Lib.hid ((hoth _ hI3l (by omega) nI9).trans hI3.out)
                  have HCC := Lib.hid hC6
                  have HOO := Lib.hid hO6
                  have HN := Lib.hid (HNs.out _ hsome)
                  clear HE hbb hoth hC6 hO6 hsome
                  go_wp2_with fail
                  go_roundw
                  case rel => exact ⟨k + 1, k + 1, [], xs ++ [dbI (ps ++ [s.extract f k])], by go_num, by omega, by omega, by simp; omega, by simp, Lib.hid ⟨vd', none, 0, fp', [], HCC.out, hI6.out, HOO.out, ⟨[], [], ⟨by simp, .inl ⟨rfl, rfl⟩⟩, rfl, fun i x f hx => by simp at hx, rfl, by simp⟩, fun g hg => by simp⟩, HN, Lib.hid (fun i x h => by simp at h), hbf⟩
                  case measure => rw [HPOS.out]; unfold World.iterPos; rw [hI6.out]; simp; omega
              · have dm : ((b.toNat : Int) != ((mkOf ps.length).toNat : Int)) = true := by simp; exact fun e => hmk (UInt8.toNat_inj.1 (by omega))
                have HN := Lib.hid (hrun.out.bad HG.out hm (by rw [List.length_map]; exact hmk))
                clear hmk
                go_wp2_with fail
                go_ret2
                exact .inl ⟨HN.out, ⟨_, rfl⟩, hbi⟩
        · have hm' : isMk b = false := by simpa using hm
          have hm2 := hm'
          unfold isMk at hm2
          simp only [Bool.or_eq_false_iff, beq_eq_false_iff_ne] at hm2
          obtain ⟨⟨q1, q2⟩, q3⟩ := hm2
          have d1 : ((b.toNat : Int) != (58 : Int)) = true := by simp; exact fun e => q1 (UInt8.toNat_inj.1 (by show b.toNat = 58; omega))
          have d2 : ((b.toNat : Int) != (47 : Int)) = true := by simp; exact fun e => q2 (UInt8.toNat_inj.1 (by show b.toNat = 47; omega))
          have d3 : ((b.toNat : Int) != (59 : Int)) = true := by simp; exact fun e => q3 (UInt8.toNat_inj.1 (by show b.toNat = 59; omega))
          have HN := Lib.hid (hrun.out.skip HG.out hm')
          clear q1 q2 q3 hm hm'
          go_wp2_with fail
          go_roundw
          case rel => exact ⟨k + 1, f, ps, xs, rfl, by omega, by omega, by omega, hps, Lib.hid (hmv _), HN, hsz, below_iterAt hb (by omega) _ _⟩
          case measure => rw [HPOS.out]; unfold World.iterPos; rw [iterAt_heap _ _ _ _ _ HI.out]; simp; omega
      · have ha' : 128 ≤ T[k].toNat := by omega
        have hnx := fun ty => run_next_any_at (P := Tryd.prog) wr (w.heap.size + 1) T k ty HI.out hlt
        obtain ⟨hhi, hw1⟩ := decode_high T k hlt ha'
        obtain ⟨hw2, hw3⟩ := width_high T k hlt ha'
        have hle := decode_le T k
        obtain ⟨r, hr⟩ : ∃ r, (Utf8.decode T k).1 = r := ⟨_, rfl⟩
        obtain ⟨d, hd⟩ : ∃ d, (Utf8.decode T k).2 = d := ⟨_, rfl⟩
        rw [hr] at hhi hle hnx
        rw [hd] at hw1 hw2 hw3 hnx
        have HN := Lib.hid (hrun.out.skips d k (fun i hi => ⟨T.get! (k + i), by rw [get_at (show k + i < T.size by omega)]; exact str_at T (k + i) (by omega), isMk_high (hw3 i hi)⟩))
        clear hr hd hw3 ha ha'
        have d1 : ((r : Int) != (58 : Int)) = true := by simp; omega
        have d2 : ((r : Int) != (47 : Int)) = true := by simp; omega
        have d3 : ((r : Int) != (59 : Int)) = true := by simp; omega
        go_wp2_with fail
        go_roundw
        case rel => exact ⟨k + d, f, ps, xs, rfl, by omega, by omega, by omega, hps, Lib.hid (hmv _), HN, hsz, below_iterAt hb (by omega) _ _⟩
        case measure => rw [HPOS.out]; unfold World.iterPos; rw [iterAt_heap _ _ _ _ _ HI.out]; simp; omega
    · have hnx := fun ty => run_next_end_at (P := Tryd.prog) wr (w.heap.size + 1) T k ty HI.out hlt
      have HA := Lib.hid (show runC T.data.toList [] [] [] = some xs by
        have he : k = T.data.toList.length := by simp; omega
        have h9 := hrun.out
        rw [he] at h9
        exact h9.all)
      obtain ⟨A9, c9, hvd, _, _, _⟩ := HO1.out.reads
      have hO9 := Lib.hid (show Rep.OwnRows dbR 35 wr w.heap.size (.slice A9 xs.length c9) xs fp by rw [← hvd]; exact HO1.out.low (by omega))
      have c0 : wr.cell? ⟨w.heap.size, 0, none⟩ = some (.slice A9 xs.length c9) := by rw [← hvd]; exact var_cell HC.out 0
      clear hvd
      go_wp2_with fail
      go_ret2
      exact .inr ⟨A9, c9, xs, fp, HA.out, rfl, hO9.out, hb⟩
end Go.Proofs.YtdapnhahccpebaaDoor
