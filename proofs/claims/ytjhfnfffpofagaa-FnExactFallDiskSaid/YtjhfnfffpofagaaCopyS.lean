/- The model's copy of a disk. -/
import Derived.Test.YtjhfnfffpofagaaDiskOkS
import Derived.Test.YtjhfnfffpofagaaLex
import Derived.Deep.DeepMust
import Derived.Maps.RangeWalk
namespace Go.Proofs.Ytjhfnfffpofagaa
open Go.RowKit
set_option linter.unusedVariables false

set_option maxRecDepth 100000 in
set_option maxHeartbeats 2000000 in
theorem l2Copy_any (cs : List Value) (d : Disk) (w : World) (h : diskR.at_ w w.heap.size cs d) (hs : Fits d) :
    Calls Try.prog 49 #[.agg cs.toArray] w (RetDisk w d) := by
  obtain ⟨A, c, A', c', rfl, _, _, hr, hr'⟩ := disk_cells h
  have f1 := hs.1
  have f3 := hs.2.2.1
  obtain ⟨i0, hi0, hz0, hz1, hzb⟩ := info_parts Try.info22
  obtain ⟨j0, hj0, hj1, hj2, hj3⟩ := info_parts Try.info8
  go_enter Try.func49, Try.ntmps49
  go_wp2
  -- the three variables: the argument, the answer, the copy
  have hW0 : Below w.heap.size w (((w.alloc (.cells #[.slice A d.secs.length c, .slice A' d.cache.length c', .int .i64 d.fuse, .bool d.down] 27)).alloc (.cells #[.slice none 0 0, .slice none 0 0, .int .i64 0, .bool false] 27)).alloc (.cells #[.slice none 0 0, .slice none 0 0, .int .i64 d.fuse, .bool d.down] 27)) :=
    (((Below.refl w.heap.size w).alloc (Nat.le_refl _) _).alloc (by simp) _).alloc (by simp; omega) _
  have v0 : (((w.alloc (.cells #[.slice A d.secs.length c, .slice A' d.cache.length c', .int .i64 d.fuse, .bool d.down] 27)).alloc (.cells #[.slice none 0 0, .slice none 0 0, .int .i64 0, .bool false] 27)).alloc (.cells #[.slice none 0 0, .slice none 0 0, .int .i64 d.fuse, .bool d.down] 27)).heap[w.heap.size]? = some (.cells #[.slice A d.secs.length c, .slice A' d.cache.length c', .int .i64 d.fuse, .bool d.down] 27 (0, 0)) :=
    (Below.heap_alloc _ _ _ (by simp; omega)).trans ((Below.heap_alloc _ _ _ (by simp)).trans (heap_alloc_new w _))
  have v1 : (((w.alloc (.cells #[.slice A d.secs.length c, .slice A' d.cache.length c', .int .i64 d.fuse, .bool d.down] 27)).alloc (.cells #[.slice none 0 0, .slice none 0 0, .int .i64 0, .bool false] 27)).alloc (.cells #[.slice none 0 0, .slice none 0 0, .int .i64 d.fuse, .bool d.down] 27)).heap[w.heap.size + 1]? = some (.cells #[.slice none 0 0, .slice none 0 0, .int .i64 0, .bool false] 27 (0, 0)) :=
    (Below.heap_alloc _ _ _ (by simp)).trans (heap_alloc_new' _ _ (by simp))
  have v2 : (((w.alloc (.cells #[.slice A d.secs.length c, .slice A' d.cache.length c', .int .i64 d.fuse, .bool d.down] 27)).alloc (.cells #[.slice none 0 0, .slice none 0 0, .int .i64 0, .bool false] 27)).alloc (.cells #[.slice none 0 0, .slice none 0 0, .int .i64 d.fuse, .bool d.down] 27)).heap[w.heap.size + 1 + 1]? = some (.cells #[.slice none 0 0, .slice none 0 0, .int .i64 d.fuse, .bool d.down] 27 (0, 0)) :=
    heap_alloc_new' _ _ (by simp)
  have hz : w.heap.size + 1 + 1 < (((w.alloc (.cells #[.slice A d.secs.length c, .slice A' d.cache.length c', .int .i64 d.fuse, .bool d.down] 27)).alloc (.cells #[.slice none 0 0, .slice none 0 0, .int .i64 0, .bool false] 27)).alloc (.cells #[.slice none 0 0, .slice none 0 0, .int .i64 d.fuse, .bool d.down] 27)).heap.size := by simp
  replace hr := hr.keep fun p hp => hW0.cell hp
  replace hr' := hr'.keep fun p hp => hW0.cell hp
  generalize ((w.alloc (.cells #[.slice A d.secs.length c, .slice A' d.cache.length c', .int .i64 d.fuse, .bool d.down] 27)).alloc (.cells #[.slice none 0 0, .slice none 0 0, .int .i64 0, .bool false] 27)).alloc (.cells #[.slice none 0 0, .slice none 0 0, .int .i64 d.fuse, .bool d.down] 27) = W1 at hW0 v0 v1 v2 hr hr' hz ⊢
  have V0 := Lib.hid v0
  have V1 := Lib.hid v1
  have V2 := Lib.hid v2
  clear v0 v1 v2 h
  go_loopw [4] (fun i wr => ∃ (k : Nat) (v : Value) (fp : List Nat), k ≤ d.secs.length ∧ i = .int .i64 k ∧ Hid (wr.heap[w.heap.size]? = some (.cells #[.slice A d.secs.length c, .slice A' d.cache.length c', .int .i64 d.fuse, .bool d.down] 27 (0, 0))) ∧ Hid (wr.heap[w.heap.size + 1]? = some (.cells #[.slice none 0 0, .slice none 0 0, .int .i64 0, .bool false] 27 (0, 0))) ∧
      Hid (wr.heap[w.heap.size + 1 + 1]? = some (.cells #[v, .slice none 0 0, .int .i64 d.fuse, .bool d.down] 27 (0, 0))) ∧ Rep.OwnRows byR 22 wr (w.heap.size + 1 + 1 + 1) v (d.secs.take k) fp ∧ Below w.heap.size w wr) (fun i _ => d.secs.length - (intOf i).toNat)
  case atStart => exact ⟨0, .slice none 0 0, [], by omega, rfl, V0, V1, V2, by simpa using secs_nil _ _, hW0⟩
  case round =>
    obtain ⟨k, v, fp, hk, rfl, v0, v1, v2, hown, hb⟩ := hrel
    have hz2 : w.heap.size + 1 + 1 < wr.heap.size := World.block_lt_of_cell? wr ⟨w.heap.size + 1 + 1, 0, none⟩ (var_cell v2.out 0)
    have c0 : wr.cell? ⟨w.heap.size, 0, none⟩ = some (.slice A d.secs.length c) := var_cell v0.out 0
    have c2 : wr.cell? ⟨w.heap.size + 1 + 1, 0, none⟩ = some v := var_cell v2.out 0
    by_cases hlt : k < d.secs.length
    · obtain ⟨b, off, A2, c2', l, rfl, hbl, hx, hcell, hlc, hrl⟩ := secs_elem ((hr.keep fun p hp => (hb.cell hp).trans (hW0.cell hp).symm)) hlt
      have HX := Lib.hid hx
      clear hx
      have i1 : (0 : Int) ≤ (k : Int) := by omega
      have i2 : (k : Int) < (d.secs.length : Int) := by omega
      go_wp2
      refine wp_region_lex' 12 [0, 1, 3, 4, 5, 6, 7] [2, 8, 9, 10, 11, 12] (fun w' => w'.cell? ⟨w.heap.size, 0, none⟩ = some (.slice (some ⟨b, off, none⟩) d.secs.length c) ∧ w'.cell? ⟨w.heap.size + 1 + 1, 0, none⟩ = some v ∧ w'.cell? ⟨b, off + k, none⟩ = some (.slice A2 l.length c2')) (by kernel_rfl) (by kernel_rfl) ⟨c0, c2, hcell⟩ ?_
      iterate 7 (refine LexR.cons rfl ?_ (fun w' hw => ?_) ?_; rotate_left; focus (obtain ⟨e1, e2, e3⟩ := hw; go_simp; (try exact rfl)); (try go_frame))
      refine LexR.nil (LexW.cons rfl ?_)
      go_wp2_with fail
      have hB0 : Below w.heap.size w (wr.alloc (.cells #[] 5)).drew := belowD (hb.alloc hb.size _) 1
      have s1 : w.heap.size < wr.heap.size := by omega
      have s2 : b < wr.heap.size := by omega
      refine ⟨fun _ => ⟨(World.cell?_alloc_lt _ _ _ (by simpa using s1)).trans c0, (World.cell?_alloc_lt _ _ _ (by simpa using hz2)).trans c2, (World.cell?_alloc_lt _ _ _ (by simpa using s2)).trans hcell⟩, LexW.cons rfl ?_⟩
      refine Rep.wpList_bytes _ wr rfl (.tmp 20) (.tmp 25) _ rfl 5 j0 Try.underlying22 hj0 hj1 hj2 hj3 _ rfl wr.heap.size (Rep.lit_empty wr _ _ rfl) (by simp) w.heap.size A2 c2' l rfl ((hrl.alloc (by omega) _).drew) (hs.2.1 l (List.mem_of_getElem? HX.out)) ?_
      intro A3 c3 w3 hown3 hg3 hv3
      have hB3 : Below w.heap.size w w3 := hB0.grown hg3 (by simp; omega) (fun k hk => by have := hv3 k hk; omega)
      have hk3 : ∀ g, g < wr.heap.size → w3.heap[g]? = wr.heap[g]? := fun g hg => (hg3.block g (by simp; omega) (fun e => by have := hv3 g e.symm; omega)).trans (Below.heap_alloc wr _ g hg)
      have hz3 : wr.heap.size ≤ w3.heap.size := by have := hg3.size; simp at this; omega
      refine ⟨fun _ => ⟨(World.cell?_of_block (hk3 _ s1)).trans c0, (World.cell?_of_block (hk3 _ hz2)).trans c2, (World.cell?_of_block (hk3 _ s2)).trans hcell⟩, LexW.cons rfl ?_⟩
      go_frame
      go_wp2_with fail
      have hk4 : ∀ g, g < wr.heap.size → (w3.alloc (.cells #[.slice A3 l.length c3] 22)).heap[g]? = wr.heap[g]? := fun g hg => (Below.heap_alloc _ _ _ (by omega)).trans (hk3 g hg)
      have hown4 := hown.kept (w' := w3.alloc (.cells #[.slice A3 l.length c3] 22)) (fun g hg => hk4 g (hown.lt g hg).2)
      have hfl : ∀ g, g ∈ fp → g < wr.heap.size := fun g hg => (hown.lt g hg).2
      have hel : byR.own (w3.alloc (.cells #[.slice A3 l.length c3] 22)) (w.heap.size + 1 + 1 + 1) [.slice A3 l.length c3] l ((Value.slice A3 l.length c3).ownBlock.toList) := ⟨_, rfl, (ownsRow_mono hown3 (by omega)).alloc _, rfl⟩
      have hnew := reads_lit w3 #[.slice A3 l.length c3] 1 1 22 (g := w3.heap.size) rfl rfl (by simp [maxLen])
      refine ⟨fun _ => ⟨(World.cell?_of_block (hk4 _ s1)).trans c0, (World.cell?_of_block (hk4 _ hz2)).trans c2, (World.cell?_of_block (hk4 _ s2)).trans hcell⟩, LexW.cons rfl ?_⟩
      refine Rep.wpList_push _ rfl (.tmp 19) (.tmp 27) _ rfl byR (w.heap.size + 1 + 1 + 1) 22 i0 _ 24 Try.underlying24 hi0 hz0 hz1 hzb rfl (by decide) v (d.secs.take k) fp rfl hown4 _ 1 _ l _ rfl hnew (one_of1 rfl) hel (fun g hg hg' => by have h1 := (hown3.lt g (by simpa using hg)).1; have h2 := hfl g hg'; omega)
        (by simp only [maxLen, List.length_take]; omega) (by rw [List.length_take]; omega) (by simp; omega) ?_
      intro A4 c4 w4 fp4 hown5 hg4 hf4 hv4
      have hl4 : (d.secs.take k).length + 1 = k + 1 := by rw [List.length_take]; omega
      rw [hl4] at hown5 ⊢
      have hk5 : ∀ g, g < w.heap.size + 1 + 1 + 1 → w4.heap[g]? = wr.heap[g]? := fun g hg => (hg4.block g (by simp; omega) (fun e => by have := (hv4 g e.symm).1; omega)).trans (hk4 g (by omega))
      have hz4 : w3.heap.size ≤ w4.heap.size := by have := hg4.size; simp at this; omega
      have hB4 : Below w.heap.size w w4 := (hB3.alloc hB3.size _).grown hg4 (by simp; have := hB3.size; omega) (fun k hk => by have := (hv4 k hk).1; omega)
      have hS5 : Hid (w4.cell? ⟨w.heap.size, 0, none⟩ = some (.slice (some ⟨b, off, none⟩) d.secs.length c) ∧ w4.cell? ⟨w.heap.size + 1 + 1, 0, none⟩ = some v ∧ w4.cell? ⟨b, off + k, none⟩ = some (.slice A2 l.length c2')) :=
        Lib.hid ⟨(World.cell?_of_block (hk5 w.heap.size (by omega))).trans c0, (World.cell?_of_block (hk5 (w.heap.size + 1 + 1) (by omega))).trans c2, (World.cell?_of_block (hk5 b (by omega))).trans hcell⟩
      refine ⟨fun _ => hS5.out, LexW.cons rfl ?_⟩
      go_frame
      go_wp2_with fail
      refine ⟨hS5.out, LexW.cons rfl ?_⟩
      have c2' := hS5.out.2.1
      have q2 : w4.frozen? ⟨w.heap.size + 1 + 1, 0, none⟩ = false := var_frozen ((hk5 (w.heap.size + 1 + 1) (by omega)).trans v2.out) 0
      try go_frame
      go_wp2_with fail
      refine ⟨fun h => absurd rfl h, LexW.nil ?_⟩
      have V0 := Lib.hid ((heap_setCell_other w4 ⟨w.heap.size + 1 + 1, 0, none⟩ w.heap.size (.slice A4 (k + 1) c4) (by simp; omega)).trans ((hk5 w.heap.size (by omega)).trans v0.out))
      have V1 := Lib.hid ((heap_setCell_other w4 ⟨w.heap.size + 1 + 1, 0, none⟩ (w.heap.size + 1) (.slice A4 (k + 1) c4) (by simp)).trans ((hk5 (w.heap.size + 1) (by omega)).trans v1.out))
      have V2 := Lib.hid (var_set ((hk5 (w.heap.size + 1 + 1) (by omega)).trans v2.out) 0 (.slice A4 (k + 1) c4))
      have hB5 := hB4.setCell (p := ⟨w.heap.size + 1 + 1, 0, none⟩) (by simp; omega) (.slice A4 (k + 1) c4)
      have hown6 := hown5.setLow (p := ⟨w.heap.size + 1 + 1, 0, none⟩) (by simp) (.slice A4 (k + 1) c4)
      rw [← Rep.take_get HX.out] at hown6
      clear hg3 hg4 hS5 c2' q2 hk3 hk4 hk5
      go_wp2_with fail
      go_roundw
      case rel => exact ⟨k + 1, _, fp4, by omega, by go_num, V0, V1, V2, hown6, hB5⟩
      case measure => simp [intOf]; omega
    · have he : k = d.secs.length := by omega
      subst he
      have HT := Lib.hid (show d.secs.take d.secs.length = d.secs from List.take_length)
      rw [HT.out] at hown
      replace hr' := hr'.keep fun p hp => (hb.cell hp).trans (hW0.cell hp).symm
      have hfs : ∀ g, g ∈ fp → w.heap.size + 1 + 1 + 1 ≤ g ∧ g < wr.heap.size := fun g hg => hown.lt g hg
      have HFS := Lib.hid hfs
      clear hfs
      go_wp2_with fail
      clear c0 c2
      obtain ⟨wo, rfl⟩ : ∃ wo : World, wo = wr := ⟨_, rfl⟩
      obtain ⟨m0, hm0, hm1, hm2, hm3⟩ := info_parts Try.info42
      have HB0 := Lib.hid hb
      clear hb
      go_loopw [5] (fun i wr => ∃ (k : Nat) (v' : Value) (fp' : List Nat), k ≤ d.cache.length ∧ i = .int .i64 k ∧ Hid (wr.heap[w.heap.size]? = some (.cells #[.slice A d.secs.length c, .slice A' d.cache.length c', .int .i64 d.fuse, .bool d.down] 27 (0, 0))) ∧ Hid (wr.heap[w.heap.size + 1]? = some (.cells #[.slice none 0 0, .slice none 0 0, .int .i64 0, .bool false] 27 (0, 0))) ∧
          Hid (wr.heap[w.heap.size + 1 + 1]? = some (.cells #[v, v', .int .i64 d.fuse, .bool d.down] 27 (0, 0))) ∧ Rep.OwnRows wrR 42 wr wo.heap.size v' (d.cache.take k) fp' ∧ Rep.OwnRows byR 22 wr (w.heap.size + 1 + 1 + 1) v d.secs fp ∧ Below w.heap.size w wr ∧ wo.heap.size ≤ wr.heap.size) (fun i _ => d.cache.length - (intOf i).toNat)
      case atStart => exact ⟨0, .slice none 0 0, [], by omega, rfl, v0, v1, v2, by simpa using cache_nil _ _, hown, HB0.out, Nat.le_refl _⟩
      case round =>
        obtain ⟨k, v', fp', hk, rfl, v0, v1, v2, hown', hown, hb, hzq⟩ := hrel
        have hW := HB0.out.size
        have c0 : wr.cell? ⟨w.heap.size, 1, none⟩ = some (.slice A' d.cache.length c') := var_cell v0.out 1
        have c2 : wr.cell? ⟨w.heap.size + 1 + 1, 1, none⟩ = some v' := var_cell v2.out 1
        by_cases hlt : k < d.cache.length
        · obtain ⟨b, off, A2, c2', x, rfl, hbl, hx, hcell, hcell', hlc, hrl⟩ := wr_elem (hr'.keep fun p hp => (hb.cell hp).trans (HB0.out.cell hp).symm) hlt
          have HX := Lib.hid hx
          have hl : x.b.length ≤ 1048576 := hs.2.2.2 x (List.mem_of_getElem? hx)
          clear hx
          have i1 : (0 : Int) ≤ (k : Int) := by omega
          have i2 : (k : Int) < (d.cache.length : Int) := by omega
          go_wp2
          refine wp_region_lex' 20 [0, 1, 2, 3, 4, 5, 6, 7, 9, 10, 11, 12, 13, 14] [8, 15, 16, 17, 18, 19, 20] (fun w' => w'.cell? ⟨w.heap.size, 1, none⟩ = some (.slice (some ⟨b, off, none⟩) d.cache.length c') ∧ w'.cell? ⟨w.heap.size + 1 + 1, 1, none⟩ = some v' ∧ w'.cell? ⟨b, off + k * 2, none⟩ = some (.int .i64 x.n) ∧ w'.cell? ⟨b, off + k * 2 + 1, none⟩ = some (.slice A2 x.b.length c2')) (by kernel_rfl) (by kernel_rfl) ⟨c0, c2, hcell, hcell'⟩ ?_
          iterate 14 (refine LexR.cons rfl ?_ (fun w' hw => ?_) ?_; rotate_left; focus (obtain ⟨e1, e2, e3, e4⟩ := hw; go_simp; (try exact rfl)); (try go_frame))
          refine LexR.nil (LexW.cons rfl ?_)
          go_wp2_with fail
          have hz2 : w.heap.size + 1 + 1 < wo.heap.size := by omega
          have s1 : w.heap.size < wr.heap.size := by omega
          have s2 : b < wr.heap.size := by omega
          have s3 : w.heap.size + 1 + 1 < wr.heap.size := by omega
          have hB0 : Below w.heap.size w (wr.alloc (.cells #[] 5)).drew := belowD (hb.alloc hb.size _) 1
          refine ⟨fun _ => ⟨(World.cell?_alloc_lt _ _ _ (by simpa using s1)).trans c0, (World.cell?_alloc_lt _ _ _ (by simpa using s3)).trans c2, (World.cell?_alloc_lt _ _ _ (by simpa using s2)).trans hcell, (World.cell?_alloc_lt _ _ _ (by simpa using s2)).trans hcell'⟩, LexW.cons rfl ?_⟩
          refine Rep.wpList_bytes _ wr rfl (.tmp 45) (.tmp 51) _ rfl 5 j0 Try.underlying22 hj0 hj1 hj2 hj3 _ rfl wr.heap.size (Rep.lit_empty wr _ _ rfl) (by simp) w.heap.size A2 c2' x.b rfl ((hrl.alloc (by omega) _).drew) hl ?_
          intro A3 c3 w3 hown3 hg3 hv3
          have hB3 : Below w.heap.size w w3 := hB0.grown hg3 (by simp; omega) (fun k hk => by have := hv3 k hk; omega)
          have hk3 : ∀ g, g < wr.heap.size → w3.heap[g]? = wr.heap[g]? := fun g hg => (hg3.block g (by simp; omega) (fun e => by have := hv3 g e.symm; omega)).trans (Below.heap_alloc wr _ g hg)
          have hz3 : wr.heap.size ≤ w3.heap.size := by have := hg3.size; simp at this; omega
          have hS3 := Lib.hid (show w3.cell? ⟨w.heap.size, 1, none⟩ = some (.slice (some ⟨b, off, none⟩) d.cache.length c') ∧ w3.cell? ⟨w.heap.size + 1 + 1, 1, none⟩ = some v' ∧ w3.cell? ⟨b, off + k * 2, none⟩ = some (.int .i64 x.n) ∧ w3.cell? ⟨b, off + k * 2 + 1, none⟩ = some (.slice A2 x.b.length c2') from
            ⟨(World.cell?_of_block (hk3 w.heap.size s1)).trans c0, (World.cell?_of_block (hk3 (w.heap.size + 1 + 1) s3)).trans c2, (World.cell?_of_block (hk3 b s2)).trans hcell, (World.cell?_of_block (hk3 b s2)).trans hcell'⟩)
          refine ⟨fun _ => hS3.out, LexW.cons rfl ?_⟩
          try go_frame
          go_wp2_with fail
          refine ⟨(by first | exact hS3.out | exact fun _ => hS3.out), LexW.cons rfl ?_⟩
          try go_frame
          go_wp2_with fail
          have hk4 : ∀ g, g < wr.heap.size → (w3.alloc (.cells #[.int .i64 x.n, .slice A3 x.b.length c3] 42)).heap[g]? = wr.heap[g]? := fun g hg => (Below.heap_alloc _ _ _ (by omega)).trans (hk3 g hg)
          have hown4 := hown'.kept (w' := w3.alloc (.cells #[.int .i64 x.n, .slice A3 x.b.length c3] 42)) (fun g hg => hk4 g (hown'.lt g hg).2)
          have hfl : ∀ g, g ∈ fp' → g < wr.heap.size := fun g hg => (hown'.lt g hg).2
          have hel : wrR.own (w3.alloc (.cells #[.int .i64 x.n, .slice A3 x.b.length c3] 42)) wo.heap.size [.int .i64 x.n, .slice A3 x.b.length c3] x ((Value.slice A3 x.b.length c3).ownBlock.toList) := wr_own ((ownsRow_mono hown3 (by omega)).alloc _)
          have hnew := reads_lit w3 #[.int .i64 x.n, .slice A3 x.b.length c3] 2 1 42 (g := w3.heap.size) rfl rfl (by simp [maxLen])
          refine ⟨fun _ => ⟨(World.cell?_of_block (hk4 w.heap.size s1)).trans c0, (World.cell?_of_block (hk4 (w.heap.size + 1 + 1) s3)).trans c2, (World.cell?_of_block (hk4 b s2)).trans hcell, (World.cell?_of_block (hk4 b s2)).trans hcell'⟩, LexW.cons rfl ?_⟩
          refine Rep.wpList_push _ rfl (.tmp 38) (.tmp 54) _ rfl wrR wo.heap.size 42 m0 _ 32 Try.underlying25 hm0 hm1 hm2 hm3 rfl (by decide) v' (d.cache.take k) fp' rfl hown4 _ 1 _ x _ rfl hnew (one_of2 rfl rfl) hel (fun g hg hg' => by have h1 := (hown3.lt g (by simpa using hg)).1; have h2 := hfl g hg'; omega)
            (by simp only [maxLen, List.length_take]; omega) (by rw [List.length_take]; omega) (by simp; omega) ?_
          intro A4 c4 w4 fp4 hown5 hg4 hf4 hv4
          have hl4 : (d.cache.take k).length + 1 = k + 1 := by rw [List.length_take]; omega
          rw [hl4] at hown5 ⊢
          have hk5 : ∀ g, g < wo.heap.size → w4.heap[g]? = wr.heap[g]? := fun g hg => (hg4.block g (by simp; omega) (fun e => by have := (hv4 g e.symm).1; omega)).trans (hk4 g (by omega))
          have hz4 : w3.heap.size ≤ w4.heap.size := by have := hg4.size; simp at this; omega
          have hB4 : Below w.heap.size w w4 := (hB3.alloc hB3.size _).grown hg4 (by simp; have := hB3.size; omega) (fun k hk => by have := (hv4 k hk).1; omega)
          have hS5 := Lib.hid (show w4.cell? ⟨w.heap.size, 1, none⟩ = some (.slice (some ⟨b, off, none⟩) d.cache.length c') ∧ w4.cell? ⟨w.heap.size + 1 + 1, 1, none⟩ = some v' ∧ w4.cell? ⟨b, off + k * 2, none⟩ = some (.int .i64 x.n) ∧ w4.cell? ⟨b, off + k * 2 + 1, none⟩ = some (.slice A2 x.b.length c2') from
            ⟨(World.cell?_of_block (hk5 w.heap.size (by omega))).trans c0, (World.cell?_of_block (hk5 (w.heap.size + 1 + 1) (by omega))).trans c2, (World.cell?_of_block (hk5 b (by omega))).trans hcell, (World.cell?_of_block (hk5 b (by omega))).trans hcell'⟩)
          refine ⟨fun _ => hS5.out, LexW.cons rfl ?_⟩
          try go_frame
          go_wp2_with fail
          refine ⟨(by first | exact hS5.out | exact fun _ => hS5.out), LexW.cons rfl ?_⟩
          have c2' := hS5.out.2.1
          have q2 : w4.frozen? ⟨w.heap.size + 1 + 1, 1, none⟩ = false := var_frozen ((hk5 (w.heap.size + 1 + 1) (by omega)).trans v2.out) 1
          try go_frame
          go_wp2_with fail
          refine ⟨fun h => absurd rfl h, LexW.nil ?_⟩
          have V0 := Lib.hid ((heap_setCell_other w4 ⟨w.heap.size + 1 + 1, 1, none⟩ w.heap.size (.slice A4 (k + 1) c4) (by simp; omega)).trans ((hk5 w.heap.size (by omega)).trans v0.out))
          have V1 := Lib.hid ((heap_setCell_other w4 ⟨w.heap.size + 1 + 1, 1, none⟩ (w.heap.size + 1) (.slice A4 (k + 1) c4) (by simp)).trans ((hk5 (w.heap.size + 1) (by omega)).trans v1.out))
          have V2 := Lib.hid (var_set ((hk5 (w.heap.size + 1 + 1) (by omega)).trans v2.out) 1 (.slice A4 (k + 1) c4))
          have hB5 := hB4.setCell (p := ⟨w.heap.size + 1 + 1, 1, none⟩) (by simp; omega) (.slice A4 (k + 1) c4)
          have hown6 := hown5.setLow (p := ⟨w.heap.size + 1 + 1, 1, none⟩) (by simp; omega) (.slice A4 (k + 1) c4)
          rw [← Rep.take_get HX.out] at hown6
          have hownS := (hown.kept (fun g hg => hk5 g (HFS.out g hg).2)).setLow (p := ⟨w.heap.size + 1 + 1, 1, none⟩) (by simp) (.slice A4 (k + 1) c4)
          have hzz : wo.heap.size ≤ (w4.setCell ⟨w.heap.size + 1 + 1, 1, none⟩ (.slice A4 (k + 1) c4)).heap.size := by simp; omega
          clear hg3 hg4 hS5 hS3 c2' q2 hk3 hk4 hk5
          go_wp2_with fail
          go_roundw
          case rel => exact ⟨k + 1, _, fp4, by omega, by go_num, V0, V1, V2, hown6, hownS, hB5, hzz⟩
          case measure => simp [intOf]; omega
        · have he : k = d.cache.length := by omega
          subst he
          have HT2 := Lib.hid (show d.cache.take d.cache.length = d.cache from List.take_length)
          rw [HT2.out] at hown'
          obtain ⟨B, e, rfl, _, _, _⟩ := hown.reads
          obtain ⟨B', e', rfl, _, _, _⟩ := hown'.reads
          have d0 : wr.cell? ⟨w.heap.size + 1 + 1, 0, none⟩ = some (.slice B d.secs.length e) := var_cell v2.out 0
          have d2 : wr.cell? ⟨w.heap.size + 1 + 1, 2, none⟩ = some (.int .i64 d.fuse) := var_cell v2.out 2
          have d3 : wr.cell? ⟨w.heap.size + 1 + 1, 3, none⟩ = some (.bool d.down) := var_cell v2.out 3
          have e0 : wr.cell? ⟨w.heap.size + 1, 0, none⟩ = some (.slice none 0 0) := var_cell v1.out 0
          have e1 : wr.cell? ⟨w.heap.size + 1, 1, none⟩ = some (.slice none 0 0) := var_cell v1.out 1
          have e2 : wr.cell? ⟨w.heap.size + 1, 2, none⟩ = some (.int .i64 0) := var_cell v1.out 2
          have e3 : wr.cell? ⟨w.heap.size + 1, 3, none⟩ = some (.bool false) := var_cell v1.out 3
          have q0 := var_frozen v1.out 0
          have q1 := var_frozen v1.out 1
          have q2 := var_frozen v1.out 2
          have q3 := var_frozen v1.out 3
          go_wp2_with fail
          refine bodyPost_ret (v := .agg #[.slice B d.secs.length e, .slice B' d.cache.length e', .int .i64 d.fuse, .bool d.down]) (by simp [results, Try.results49, go_sem, e0, e1, e2, e3]) rfl ⟨_, fp ++ fp', rfl, ?_, ?_⟩
          · refine diskR.low (base := w.heap.size + 1 + 1 + 1) ?_ (by omega)
            repeat (refine Rep.setLow ?_ (by first | (simp; done) | (simp; omega)) _)
            exact disk_own hown hown' (by omega) (fun g hg => (HFS.out g hg).2)
          · repeat (refine Below.setCell ?_ (by first | (simp; done) | (simp; omega)) _)
            exact hb

end Go.Proofs.Ytjhfnfffpofagaa
