/- RecsOf of the model and of the program. -/
import Derived.Test.YtlnmlfpkpplgoaaRecsOf
import Derived.Deep.Cut
namespace Go.Proofs.Ytlnmlfpkpplgoaa
open Go.RowKit
set_option linter.unusedVariables false

/-- The records of a state. -/
def recsG (k : Known) : List Rec := if k.gen = 0 then [] else [⟨1, k.gen, 0, k.text⟩, ⟨2, k.gen, 0, ⟨#[]⟩⟩]
def recsP (k : Known) : List Rec := if k.pGen = 0 then [] else [⟨1, k.pGen, 0, k.pText⟩]
def recsE (k : Known) : List Rec := if k.epoch = 0 then [] else [⟨3, k.epoch, k.owner, ⟨#[]⟩⟩]
def recsL (k : Known) : List Rec := recsG k ++ (recsP k ++ recsE k)
theorem recsL_len (k : Known) : (recsL k).length ≤ 4 := by
  unfold recsL recsG recsP recsE
  split <;> split <;> split <;> simp

/-- Behind the call's own copy of the state: a row of records of the call's own. -/
structure QB (w : World) (k : Known) (v : Value) (xs : List Rec) (W : World) : Prop where
  below : Below (w.heap.size + 1) (w.alloc (.cells (knownC k).toArray 27)) W
  own : W.ownsRow (w.heap.size + 1) 33 4 v xs.length (flatR xs)
  big : w.heap.size < W.heap.size
section
variable {w W W' : World} {k : Known} {v v' : Value} {xs ys : List Rec}
theorem QB.box (h : QB w k v xs W) : W.heap[w.heap.size]? = some (.cells (knownC k).toArray 27 (0, 0)) := (h.below.block _ (Nat.lt_succ_self _)).trans (heap_alloc_new w _)
theorem QB.nil (w : World) (k : Known) : QB w k (.slice none 0 0) [] (w.alloc (.cells (knownC k).toArray 27)) := ⟨Below.refl _ _, ⟨rfl, .inl ⟨rfl, rfl⟩⟩, by simp⟩
theorem QB.alloc (h : QB w k v xs W) (o : Obj) : QB w k v xs (W.alloc o) := ⟨h.below.alloc h.big o, ownsRow_below h.own (Later.alloc W o) (Nat.le_refl _), by have := h.big; simp; omega⟩
theorem QB.new (h : QB w k v xs W) : QB w k (.slice (some ⟨W.heap.size, 0, none⟩) 0 0) [] (W.alloc (.cells #[] 33)) := ⟨h.below.alloc h.big _, World.ownsRow_lit W #[] 0 h.big (by simp [maxLen]) rfl, by have := h.big; simp; omega⟩
theorem QB.push (h : QB w k v xs W) (ho : W'.ownsRow (w.heap.size + 1) 33 4 v' (xs.length + ys.length) (flatR xs ++ flatR ys)) (hg : W.grownBy W' v.ownBlock) : QB w k v' (xs ++ ys) W' :=
  ⟨h.below.grown hg h.big (fun j hj => (h.own.lt j hj).1), by rw [flatR_append, List.length_append]; exact ho, Nat.lt_of_lt_of_le h.big hg.size⟩
theorem QB.ret (h : QB w k v xs W) (he : xs = recsL k) : RetRecs w (recsL k) (.returned v) W := by
  subst he
  have ho := ownsRow_mono h.own (Nat.le_succ w.heap.size)
  have hb2 : Below w.heap.size w W := (Later.alloc w _).trans (h.below.mono (by simp))
  rcases h.own.2 with ⟨rfl, h0⟩ | ⟨g, cap, cur, rfl, _⟩
  · exact ⟨none, 0, by rw [h0], by rw [h0] at ho ⊢; exact ho, hb2⟩
  · exact ⟨_, _, rfl, ho, hb2⟩
end

set_option maxRecDepth 100000 in
set_option maxHeartbeats 4000000 in
theorem recsOfS_any (k : Known) (w : World) : Calls Try.prog 5 #[.agg (knownC k).toArray] w (RetRecs w (recsL k)) := by
  obtain ⟨j0, hj0, hz0, hz1, hz2⟩ := info_parts Try.infoRecB
  show Calls Try.prog 5 #[.agg #[.int .i64 k.gen, .string k.text, .int .i64 k.pGen, .string k.pText, .int .i64 k.epoch, .int .i64 k.owner]] w _
  go_enter Try.func5, Try.ntmps5
  have L0 := QB.nil w k
  replace L0 := L0.new
  go_upto_if 7 with (fail)
  have hs : (w.alloc (.cells (knownC k).toArray 27)).heap.size = w.heap.size + 1 := by simp
  rw [hs] at L0
  clear hs
  replace L0 : QB w k (.slice (some ⟨w.heap.size + 1, 0, none⟩) 0 0) [] ((w.alloc (.cells #[.int .i64 k.gen, .string k.text, .int .i64 k.pGen, .string k.pText, .int .i64 k.epoch, .int .i64 k.owner] 27)).alloc (.cells #[] 33)) := L0
  generalize (w.alloc (.cells #[.int .i64 k.gen, .string k.text, .int .i64 k.pGen, .string k.pText, .int .i64 k.epoch, .int .i64 k.owner] 27)).alloc (.cells #[] 33) = W at L0 ⊢
  go_cut [3] from 4 (fun v W' => QB w k v (recsG k) W')
  case first =>
    by_cases h0 : k.gen = 0
    · have b0 : (k.gen != 0) = false := by simp [h0]
      have HE := Lib.hid (show recsG k = [] from if_pos h0)
      clear h0
      go_wp2_with fail
      go_meet
      case rel => exact by rw [HE.out]; exact L0
    · have b0 : (k.gen != 0) = true := by simp [h0]
      have HE := Lib.hid (show recsG k = [⟨1, k.gen, 0, k.text⟩, ⟨2, k.gen, 0, ⟨#[]⟩⟩] from if_neg h0)
      clear h0
      obtain ⟨c0, c1, c2, c3, c4, c5⟩ := known_box L0.box
      have hbig := L0.big
      have hxl : ([] : List Rec).length ≤ 4 := by first | (simp; done) | (unfold recsG; split <;> simp; done) | (unfold recsG recsP; split <;> split <;> simp; done)
      go_wp2_with (at_builtin
                   have hnew := reads_lit W (flatR [⟨1, k.gen, 0, k.text⟩, ⟨2, k.gen, 0, ⟨#[]⟩⟩]).toArray 4 2 33 (g := W.heap.size) rfl rfl (by simp [maxLen])
                   have L := L0.alloc (.cells (flatR [⟨1, k.gen, 0, k.text⟩, ⟨2, k.gen, 0, ⟨#[]⟩⟩]).toArray 33)
                   go_must (refine wpList_append_any _ rfl (.tmp 8) (.tmp 17) _ rfl (w.heap.size + 1) 33 j0 _ 4 40 Try.underlying25 hj0 hz0 hz1 hz2 rfl (by omega) (.slice (some ⟨w.heap.size + 1, 0, none⟩) 0 0) ([] : List Rec).length (flatR ([] : List Rec)) rfl L.own _ _ 2 _ (flatR [⟨1, k.gen, 0, k.text⟩, ⟨2, k.gen, 0, ⟨#[]⟩⟩]) rfl hnew (one_flatR _) (by simp only [maxLen]; omega) (by omega) (by simp; omega) ?_)
                   intro v2 w2 hown2 hg2 hat2
                   have L2 := L.push (ys := [⟨1, k.gen, 0, k.text⟩, ⟨2, k.gen, 0, ⟨#[]⟩⟩]) hown2 hg2
                   clear hnew L L0 hown2 hg2 hat2 c0 c1 c2 c3 c4 c5 hbig)
      go_meet
      case rel => exact by rw [HE.out]; exact L2
  clear L0
  obtain ⟨c0, c1, c2, c3, c4, c5⟩ := known_box hcut.box
  have hbig := hcut.big
  go_upto_if 21 with (fail)
  clear c0 c1 c2 c3 c4 c5 hbig
  have L0 := hcut
  clear hcut
  generalize wc = W at L0 ⊢
  go_cut [3] from 4 (fun v W' => QB w k v (recsG k ++ recsP k) W')
  case first =>
    by_cases h0 : k.pGen = 0
    · have b0 : (k.pGen != 0) = false := by simp [h0]
      have HE := Lib.hid (show recsP k = [] from if_pos h0)
      clear h0
      go_wp2_with fail
      go_meet
      case rel => exact by rw [HE.out]; rw [List.append_nil]; exact L0
    · have b0 : (k.pGen != 0) = true := by simp [h0]
      have HE := Lib.hid (show recsP k = [⟨1, k.pGen, 0, k.pText⟩] from if_neg h0)
      clear h0
      obtain ⟨c0, c1, c2, c3, c4, c5⟩ := known_box L0.box
      have hbig := L0.big
      have hxl : (recsG k).length ≤ 4 := by first | (simp; done) | (unfold recsG; split <;> simp; done) | (unfold recsG recsP; split <;> split <;> simp; done)
      go_wp2_with (at_builtin
                   have hnew := reads_lit W (flatR [⟨1, k.pGen, 0, k.pText⟩]).toArray 4 1 33 (g := W.heap.size) rfl rfl (by simp [maxLen])
                   have L := L0.alloc (.cells (flatR [⟨1, k.pGen, 0, k.pText⟩]).toArray 33)
                   go_must (refine wpList_append_any _ rfl (.tmp 22) (.tmp 28) _ rfl (w.heap.size + 1) 33 j0 _ 4 40 Try.underlying25 hj0 hz0 hz1 hz2 rfl (by omega) u3 (recsG k).length (flatR (recsG k)) rfl L.own _ _ 1 _ (flatR [⟨1, k.pGen, 0, k.pText⟩]) rfl hnew (one_flatR _) (by simp only [maxLen]; omega) (by omega) (by simp; omega) ?_)
                   intro v2 w2 hown2 hg2 hat2
                   have L2 := L.push (ys := [⟨1, k.pGen, 0, k.pText⟩]) hown2 hg2
                   clear hnew L L0 hown2 hg2 hat2 c0 c1 c2 c3 c4 c5 hbig)
      go_meet
      case rel => exact by rw [HE.out]; exact L2
  clear L0
  obtain ⟨c0, c1, c2, c3, c4, c5⟩ := known_box hcut.box
  have hbig := hcut.big
  go_upto_if 32 with (fail)
  clear c0 c1 c2 c3 c4 c5 hbig
  have L0 := hcut
  clear hcut
  generalize wc = W at L0 ⊢
  go_cut [3] from 4 (fun v W' => QB w k v ((recsG k ++ recsP k) ++ recsE k) W')
  case first =>
    by_cases h0 : k.epoch = 0
    · have b0 : (k.epoch != 0) = false := by simp [h0]
      have HE := Lib.hid (show recsE k = [] from if_pos h0)
      clear h0
      go_wp2_with fail
      go_meet
      case rel => exact by rw [HE.out]; rw [List.append_nil]; exact L0
    · have b0 : (k.epoch != 0) = true := by simp [h0]
      have HE := Lib.hid (show recsE k = [⟨3, k.epoch, k.owner, ⟨#[]⟩⟩] from if_neg h0)
      clear h0
      obtain ⟨c0, c1, c2, c3, c4, c5⟩ := known_box L0.box
      have hbig := L0.big
      have hxl : (recsG k ++ recsP k).length ≤ 4 := by first | (simp; done) | (unfold recsG; split <;> simp; done) | (unfold recsG recsP; split <;> split <;> simp; done)
      go_wp2_with (at_builtin
                   have hnew := reads_lit W (flatR [⟨3, k.epoch, k.owner, ⟨#[]⟩⟩]).toArray 4 1 33 (g := W.heap.size) rfl rfl (by simp [maxLen])
                   have L := L0.alloc (.cells (flatR [⟨3, k.epoch, k.owner, ⟨#[]⟩⟩]).toArray 33)
                   go_must (refine wpList_append_any _ rfl (.tmp 33) (.tmp 39) _ rfl (w.heap.size + 1) 33 j0 _ 4 40 Try.underlying25 hj0 hz0 hz1 hz2 rfl (by omega) u3 (recsG k ++ recsP k).length (flatR (recsG k ++ recsP k)) rfl L.own _ _ 1 _ (flatR [⟨3, k.epoch, k.owner, ⟨#[]⟩⟩]) rfl hnew (one_flatR _) (by simp only [maxLen]; omega) (by omega) (by simp; omega) ?_)
                   intro v2 w2 hown2 hg2 hat2
                   have L2 := L.push (ys := [⟨3, k.epoch, k.owner, ⟨#[]⟩⟩]) hown2 hg2
                   clear hnew L L0 hown2 hg2 hat2 c0 c1 c2 c3 c4 c5 hbig)
      go_meet
      case rel => exact by rw [HE.out]; exact L2
  clear L0
  go_wp2_with fail
  go_ret
  exact hcut.ret (by unfold recsL; rw [List.append_assoc])

set_option maxRecDepth 100000 in
set_option maxHeartbeats 4000000 in
theorem recsOfI_any (k : Known) (w : World) : Calls Try.prog 7 #[.agg (knownC k).toArray] w (RetRecs w (recsL k)) := by
  obtain ⟨j0, hj0, hz0, hz1, hz2⟩ := info_parts Try.infoRecB
  show Calls Try.prog 7 #[.agg #[.int .i64 k.gen, .string k.text, .int .i64 k.pGen, .string k.pText, .int .i64 k.epoch, .int .i64 k.owner]] w _
  go_enter Try.func7, Try.ntmps7
  have L0 := QB.nil w k
  go_upto_if 6 with (fail)
  replace L0 : QB w k (.slice none 0 0) [] (w.alloc (.cells #[.int .i64 k.gen, .string k.text, .int .i64 k.pGen, .string k.pText, .int .i64 k.epoch, .int .i64 k.owner] 27)) := L0
  generalize w.alloc (.cells #[.int .i64 k.gen, .string k.text, .int .i64 k.pGen, .string k.pText, .int .i64 k.epoch, .int .i64 k.owner] 27) = W at L0 ⊢
  go_cut [3] from 4 (fun v W' => QB w k v (recsG k) W')
  case first =>
    by_cases h0 : k.gen = 0
    · have b0 : (k.gen != 0) = false := by simp [h0]
      have HE := Lib.hid (show recsG k = [] from if_pos h0)
      clear h0
      go_wp2_with fail
      go_meet
      case rel => exact by rw [HE.out]; exact L0
    · have b0 : (k.gen != 0) = true := by simp [h0]
      have HE := Lib.hid (show recsG k = [⟨1, k.gen, 0, k.text⟩, ⟨2, k.gen, 0, ⟨#[]⟩⟩] from if_neg h0)
      clear h0
      obtain ⟨c0, c1, c2, c3, c4, c5⟩ := known_box L0.box
      have hbig := L0.big
      have hxl : ([] : List Rec).length ≤ 4 := by first | (simp; done) | (unfold recsG; split <;> simp; done) | (unfold recsG recsP; split <;> split <;> simp; done)
      go_wp2_with (at_builtin
                   have hnew := reads_lit W (flatR [⟨1, k.gen, 0, k.text⟩, ⟨2, k.gen, 0, ⟨#[]⟩⟩]).toArray 4 2 33 (g := W.heap.size) rfl rfl (by simp [maxLen])
                   have L := L0.alloc (.cells (flatR [⟨1, k.gen, 0, k.text⟩, ⟨2, k.gen, 0, ⟨#[]⟩⟩]).toArray 33)
                   go_must (refine wpList_append_any _ rfl (.tmp 7) (.tmp 16) _ rfl (w.heap.size + 1) 33 j0 _ 4 40 Try.underlying25 hj0 hz0 hz1 hz2 rfl (by omega) (.slice none 0 0) ([] : List Rec).length (flatR ([] : List Rec)) rfl L.own _ _ 2 _ (flatR [⟨1, k.gen, 0, k.text⟩, ⟨2, k.gen, 0, ⟨#[]⟩⟩]) rfl hnew (one_flatR _) (by simp only [maxLen]; omega) (by omega) (by simp; omega) ?_)
                   intro v2 w2 hown2 hg2 hat2
                   have L2 := L.push (ys := [⟨1, k.gen, 0, k.text⟩, ⟨2, k.gen, 0, ⟨#[]⟩⟩]) hown2 hg2
                   clear hnew L L0 hown2 hg2 hat2 c0 c1 c2 c3 c4 c5 hbig)
      go_meet
      case rel => exact by rw [HE.out]; exact L2
  clear L0
  obtain ⟨c0, c1, c2, c3, c4, c5⟩ := known_box hcut.box
  have hbig := hcut.big
  go_upto_if 20 with (fail)
  clear c0 c1 c2 c3 c4 c5 hbig
  have L0 := hcut
  clear hcut
  generalize wc = W at L0 ⊢
  go_cut [3] from 4 (fun v W' => QB w k v (recsG k ++ recsP k) W')
  case first =>
    by_cases h0 : k.pGen = 0
    · have b0 : (k.pGen != 0) = false := by simp [h0]
      have HE := Lib.hid (show recsP k = [] from if_pos h0)
      clear h0
      go_wp2_with fail
      go_meet
      case rel => exact by rw [HE.out]; rw [List.append_nil]; exact L0
    · have b0 : (k.pGen != 0) = true := by simp [h0]
      have HE := Lib.hid (show recsP k = [⟨1, k.pGen, 0, k.pText⟩] from if_neg h0)
      clear h0
      obtain ⟨c0, c1, c2, c3, c4, c5⟩ := known_box L0.box
      have hbig := L0.big
      have hxl : (recsG k).length ≤ 4 := by first | (simp; done) | (unfold recsG; split <;> simp; done) | (unfold recsG recsP; split <;> split <;> simp; done)
      go_wp2_with (at_builtin
                   have hnew := reads_lit W (flatR [⟨1, k.pGen, 0, k.pText⟩]).toArray 4 1 33 (g := W.heap.size) rfl rfl (by simp [maxLen])
                   have L := L0.alloc (.cells (flatR [⟨1, k.pGen, 0, k.pText⟩]).toArray 33)
                   go_must (refine wpList_append_any _ rfl (.tmp 21) (.tmp 27) _ rfl (w.heap.size + 1) 33 j0 _ 4 40 Try.underlying25 hj0 hz0 hz1 hz2 rfl (by omega) u3 (recsG k).length (flatR (recsG k)) rfl L.own _ _ 1 _ (flatR [⟨1, k.pGen, 0, k.pText⟩]) rfl hnew (one_flatR _) (by simp only [maxLen]; omega) (by omega) (by simp; omega) ?_)
                   intro v2 w2 hown2 hg2 hat2
                   have L2 := L.push (ys := [⟨1, k.pGen, 0, k.pText⟩]) hown2 hg2
                   clear hnew L L0 hown2 hg2 hat2 c0 c1 c2 c3 c4 c5 hbig)
      go_meet
      case rel => exact by rw [HE.out]; exact L2
  clear L0
  obtain ⟨c0, c1, c2, c3, c4, c5⟩ := known_box hcut.box
  have hbig := hcut.big
  go_upto_if 31 with (fail)
  clear c0 c1 c2 c3 c4 c5 hbig
  have L0 := hcut
  clear hcut
  generalize wc = W at L0 ⊢
  go_cut [3] from 4 (fun v W' => QB w k v ((recsG k ++ recsP k) ++ recsE k) W')
  case first =>
    by_cases h0 : k.epoch = 0
    · have b0 : (k.epoch != 0) = false := by simp [h0]
      have HE := Lib.hid (show recsE k = [] from if_pos h0)
      clear h0
      go_wp2_with fail
      go_meet
      case rel => exact by rw [HE.out]; rw [List.append_nil]; exact L0
    · have b0 : (k.epoch != 0) = true := by simp [h0]
      have HE := Lib.hid (show recsE k = [⟨3, k.epoch, k.owner, ⟨#[]⟩⟩] from if_neg h0)
      clear h0
      obtain ⟨c0, c1, c2, c3, c4, c5⟩ := known_box L0.box
      have hbig := L0.big
      have hxl : (recsG k ++ recsP k).length ≤ 4 := by first | (simp; done) | (unfold recsG; split <;> simp; done) | (unfold recsG recsP; split <;> split <;> simp; done)
      go_wp2_with (at_builtin
                   have hnew := reads_lit W (flatR [⟨3, k.epoch, k.owner, ⟨#[]⟩⟩]).toArray 4 1 33 (g := W.heap.size) rfl rfl (by simp [maxLen])
                   have L := L0.alloc (.cells (flatR [⟨3, k.epoch, k.owner, ⟨#[]⟩⟩]).toArray 33)
                   go_must (refine wpList_append_any _ rfl (.tmp 32) (.tmp 38) _ rfl (w.heap.size + 1) 33 j0 _ 4 40 Try.underlying25 hj0 hz0 hz1 hz2 rfl (by omega) u3 (recsG k ++ recsP k).length (flatR (recsG k ++ recsP k)) rfl L.own _ _ 1 _ (flatR [⟨3, k.epoch, k.owner, ⟨#[]⟩⟩]) rfl hnew (one_flatR _) (by simp only [maxLen]; omega) (by omega) (by simp; omega) ?_)
                   intro v2 w2 hown2 hg2 hat2
                   have L2 := L.push (ys := [⟨3, k.epoch, k.owner, ⟨#[]⟩⟩]) hown2 hg2
                   clear hnew L L0 hown2 hg2 hat2 c0 c1 c2 c3 c4 c5 hbig)
      go_meet
      case rel => exact by rw [HE.out]; exact L2
  clear L0
  go_wp2_with fail
  go_ret
  exact hcut.ret (by unfold recsL; rw [List.append_assoc])

end Go.Proofs.Ytlnmlfpkpplgoaa
