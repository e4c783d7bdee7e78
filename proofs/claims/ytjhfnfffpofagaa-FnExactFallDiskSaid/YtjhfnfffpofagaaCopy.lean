/- The program's copy of a disk. -/
import Derived.Test.YtjhfnfffpofagaaClone
import Derived.Test.YtjhfnfffpofagaaRaw
namespace Go.Proofs.Ytjhfnfffpofagaa
open Go.RowKit
set_option linter.unusedVariables false

theorem byR_one {w : World} {B : Nat} (cs : List Value) (x : List UInt8) (h : byR.at_ w B cs x) : ∀ u, u ∈ cs → u.oneCell' = true := by
  obtain ⟨A, c, rfl, _⟩ := h
  intro u hu
  simp at hu
  subst hu
  rfl
theorem wrR_one {w : World} {B : Nat} (cs : List Value) (x : Wr) (h : wrR.at_ w B cs x) : ∀ u, u ∈ cs → u.oneCell' = true := by
  have hl : cs.length = 2 := Rep.len wrR h
  obtain ⟨h3, A', c', h4, hc, hr⟩ := h
  match cs, hl with
  | [u, v], _ =>
    replace h3 : [u] = [.int .i64 x.n] := h3
    replace h4 : [v] = [.slice A' x.b.length c'] := h4
    injection h3 with h3
    injection h4 with h4
    subst h3 h4
    intro a ha
    simp at ha
    rcases ha with rfl | rfl <;> rfl

set_option maxRecDepth 100000 in
set_option maxHeartbeats 2000000 in
theorem copyDisk_any (cs : List Value) (d : Disk) (w : World) (h : diskR.at_ w w.heap.size cs d) (hs : Fits d) :
    Calls Try.prog 44 #[.agg cs.toArray] w (RetDisk w d) := by
  obtain ⟨A, c, A', c', rfl, _, _, hr, hr'⟩ := disk_cells h
  have f1 := hs.1
  have f3 := hs.2.2.1
  obtain ⟨_, cells, hrd, hel⟩ := hr
  obtain ⟨_, cells', hrd', hel'⟩ := hr'
  have hone := row_cells_one (R := byR) rfl hrd hel (by decide) byR_one
  have hone' := row_cells_one (R := wrR) rfl hrd' hel' (by decide) wrR_one
  have HO := Lib.hid hone
  have HO' := Lib.hid hone'
  have HE := Lib.hid hel
  have HE' := Lib.hid hel'
  clear hone hone' hel hel' h
  go_enter Try.func44, Try.ntmps44
  go_wp2_with fail
  have hW0 : Below w.heap.size w ((w.alloc (.cells #[.slice A d.secs.length c, .slice A' d.cache.length c', .int .i64 d.fuse, .bool d.down] 27)).alloc (.cells #[.slice none 0 0, .slice none 0 0, .int .i64 0, .bool false] 27)) :=
    ((Below.refl w.heap.size w).alloc (Nat.le_refl _) _).alloc (by simp) _
  have v0 : ((w.alloc (.cells #[.slice A d.secs.length c, .slice A' d.cache.length c', .int .i64 d.fuse, .bool d.down] 27)).alloc (.cells #[.slice none 0 0, .slice none 0 0, .int .i64 0, .bool false] 27)).heap[w.heap.size]? = some (.cells #[.slice A d.secs.length c, .slice A' d.cache.length c', .int .i64 d.fuse, .bool d.down] 27 (0, 0)) :=
    (Below.heap_alloc _ _ _ (by simp)).trans (heap_alloc_new w _)
  have v1 : ((w.alloc (.cells #[.slice A d.secs.length c, .slice A' d.cache.length c', .int .i64 d.fuse, .bool d.down] 27)).alloc (.cells #[.slice none 0 0, .slice none 0 0, .int .i64 0, .bool false] 27)).heap[w.heap.size + 1]? = some (.cells #[.slice none 0 0, .slice none 0 0, .int .i64 0, .bool false] 27 (0, 0)) :=
    heap_alloc_new' _ _ (by simp)
  have hz : w.heap.size + 1 < ((w.alloc (.cells #[.slice A d.secs.length c, .slice A' d.cache.length c', .int .i64 d.fuse, .bool d.down] 27)).alloc (.cells #[.slice none 0 0, .slice none 0 0, .int .i64 0, .bool false] 27)).heap.size := by simp
  replace hrd := hrd.keep fun p hp => hW0.cell hp
  replace hrd' := hrd'.keep fun p hp => hW0.cell hp
  generalize hgW : (w.alloc (.cells #[.slice A d.secs.length c, .slice A' d.cache.length c', .int .i64 d.fuse, .bool d.down] 27)).alloc (.cells #[.slice none 0 0, .slice none 0 0, .int .i64 0, .bool false] 27) = W1 at hW0 v0 v1 hrd hrd' hz ⊢
  clear hgW
  refine (sclone_secs A c d.secs.length cells W1 (hrd.more (by omega)) HO.out f1).mono ?_
  rintro e w2 ⟨v, rfl, hrow, hb2⟩
  have hB2 := hW0.trans (hb2.mono (by omega))
  have hz2 : W1.heap.size ≤ w2.heap.size := hb2.size
  have V0 := Lib.hid ((hb2.block w.heap.size (by omega)).trans v0)
  have V1 := Lib.hid ((hb2.block (w.heap.size + 1) (by omega)).trans v1)
  clear v0 v1 hb2
  have hraw0 := Rep.OwnRows.of_raw (R := byR) hrow d.secs rfl
  clear hrow
  obtain ⟨B, e, rfl, _, _, _⟩ := hraw0.reads
  rw [Rep.upTo_length _ _ _ _ (Nat.zero_le _)] at hraw0 ⊢
  have c0 : w2.cell? ⟨w.heap.size, 0, none⟩ = some (.slice A d.secs.length c) := var_cell V0.out 0
  have q0 := var_frozen V0.out 0
  go_wp2_with fail
  clear c0 q0
  have V0' := Lib.hid (var_set V0.out 0 (.slice B d.secs.length e))
  have V1' := Lib.hid ((heap_setCell_other w2 ⟨w.heap.size, 0, none⟩ (w.heap.size + 1) (.slice B d.secs.length e) (by simp)).trans V1.out)
  have hB3 := hB2.setCell (p := ⟨w.heap.size, 0, none⟩) (Nat.le_refl _) (.slice B d.secs.length e)
  have hraw1 := hraw0.setLow (p := ⟨w.heap.size, 0, none⟩) (by show w.heap.size < W1.heap.size; omega) (.slice B d.secs.length e)
  have hz3 : W1.heap.size ≤ (w2.setCell ⟨w.heap.size, 0, none⟩ (.slice B d.secs.length e)).heap.size := by simpa using hz2
  clear V0 V1 hraw0 hB2 hz2
  go_loopw [14] (fun i wr => ∃ (k : Nat) (fp : List Nat), k ≤ d.secs.length ∧ i = .int .i64 k ∧ Hid (wr.heap[w.heap.size]? = some (.cells #[.slice B d.secs.length e, .slice A' d.cache.length c', .int .i64 d.fuse, .bool d.down] 27 (0, 0))) ∧ Hid (wr.heap[w.heap.size + 1]? = some (.cells #[.slice none 0 0, .slice none 0 0, .int .i64 0, .bool false] 27 (0, 0))) ∧
      Rep.OwnRows (Rep.orR byR) 22 wr W1.heap.size (.slice B d.secs.length e) (Rep.upTo d.secs 1 cells k) fp ∧ Below w.heap.size w wr ∧ W1.heap.size ≤ wr.heap.size) (fun i _ => d.secs.length - (intOf i).toNat)
  case atStart => exact ⟨0, _, by omega, rfl, V0', V1', hraw1, hB3, hz3⟩
  case round =>
    obtain ⟨k, fp, hk, rfl, v0, v1, hown, hb, hzr⟩ := hrel
    clear hraw1 hB3 hz3 V0' V1'
    by_cases hlt : k < d.secs.length
    · obtain ⟨l, hx⟩ := Rep.getElem?_of_lt (xs := d.secs) rfl hlt
      have hll : l.length ≤ 1048576 := hs.2.1 l (List.mem_of_getElem? hx)
      have HX := Lib.hid hx
      clear hx
      obtain ⟨A2, c2, hseg, hlc, hrl⟩ := Rep.keep byR (HE.out k l HX.out) (fun p hp => hb.cell hp)
      obtain ⟨g, rfl⟩ : ∃ g, B = some ⟨g, 0, none⟩ := by
        obtain ⟨cells2, fps2, ho2, _⟩ := hown
        rcases ho2.2 with ⟨hv, _⟩ | ⟨g, _, _, hv, _⟩
        · injection hv with h1 h2 h3; omega
        · injection hv with h1; exact ⟨g, h1⟩
      have hget := Rep.upTo_get d.secs 1 cells hlt
      obtain ⟨cs1, f1', hraw, hcell, hfr, _, hg1, _, hg2, hg3, _, _⟩ := hown.open_ hget
      obtain ⟨hcs, _, _⟩ := hraw
      have hseg' : Rep.seg 1 k cells = [.slice A2 l.length c2] := hseg
      rw [hseg'] at hcs
      subst hcs
      have hc0 : wr.cell? ⟨g, k, none⟩ = some (.slice A2 l.length c2) := by have := hcell 0 _ rfl; rwa [show k * (Rep.orR byR).size + 0 = k from Nat.mul_one k] at this
      have HG := Lib.hid hget
      have hseg0 := Lib.hid hseg'
      clear hcell hfr hget hseg hseg'
      have e0 : wr.cell? ⟨w.heap.size, 0, none⟩ = some (.slice (some ⟨g, 0, none⟩) d.secs.length e) := var_cell v0.out 0
      have i1 : (0 : Int) ≤ (k : Int) := by omega
      have i2 : (k : Int) < (d.secs.length : Int) := by omega
      have hfl : ∀ a, a ∈ fp → a < wr.heap.size := fun a ha => (hown.lt a ha).2
      have HF := Lib.hid hfl
      clear hfl
      go_wp2
      refine wp_region_lex' 6 [0, 1, 2, 3] [4, 5, 6] (fun w' => w'.cell? ⟨w.heap.size, 0, none⟩ = some (.slice (some ⟨g, 0, none⟩) d.secs.length e)) (by kernel_rfl) (by kernel_rfl) e0 ?_
      iterate 4 (refine LexR.cons rfl ?_ (fun w' hw => ?_) ?_; rotate_left; focus (go_simp; (try exact rfl)); (try go_frame))
      refine LexR.nil (LexW.cons rfl ?_)
      go_wp2_with fail
      refine (bclone_any A2 c2 l wr.drew ((hrl.more hb.size).drew) hll).mono ?_
      rintro e3 w3 ⟨A3, c3, rfl, hown3, hb3⟩
      have hk3 : ∀ a, a < wr.heap.size → w3.heap[a]? = wr.heap[a]? := fun a ha => hb3.block a ha
      have hz3 : wr.heap.size ≤ w3.heap.size := hb3.size
      have hB3 : Below w.heap.size w w3 := hb.trans ((belowD (Below.refl wr.heap.size wr) 1).trans hb3 |>.mono hb.size)
      have hown4 := hown.kept (w' := w3) (fun a ha => hk3 a (HF.out a ha))
      obtain ⟨⟨u0, hcl⟩, hfr, _, _⟩ := hown4.there k (by rw [Rep.upTo_length _ _ _ _ hk]; show k < d.secs.length * 1; omega)
      have hS3 := Lib.hid (show w3.cell? ⟨w.heap.size, 0, none⟩ = some (.slice (some ⟨g, 0, none⟩) d.secs.length e) from (World.cell?_of_block (hk3 w.heap.size (by omega))).trans e0)
      go_wp2_with fail
      refine ⟨(by first | exact hS3.out | exact fun _ => hS3.out), LexW.cons rfl ?_⟩
      try go_frame
      go_wp2_with fail
      refine ⟨(by first | exact hS3.out | exact fun _ => hS3.out), LexW.cons rfl ?_⟩
      try go_frame
      go_wp2_with fail
      refine ⟨fun h => absurd rfl h, LexW.nil ?_⟩
      obtain ⟨fp2, hput⟩ := hown4.poke (k := k) (B := wr.heap.size) (j := 0) (x := l) (l := [.slice A2 l.length c2]) (f := (Value.slice A3 l.length c3).ownBlock.toList) (by rw [HG.out]; exact congrArg (fun z => some (Sum.inr z)) hseg0.out) (.slice A3 l.length c3) (by decide) ⟨_, rfl, hown3, rfl⟩ hzr HF.out
      rw [Rep.upTo_succ d.secs 1 cells HX.out, show k * byR.size + 0 = k from Nat.mul_one k] at hput
      have V0 := Lib.hid ((heap_setCell_other w3 ⟨g, k, none⟩ w.heap.size (.slice A3 l.length c3) (by simp; omega)).trans ((hk3 w.heap.size (by omega)).trans v0.out))
      have V1 := Lib.hid ((heap_setCell_other w3 ⟨g, k, none⟩ (w.heap.size + 1) (.slice A3 l.length c3) (by simp; omega)).trans ((hk3 (w.heap.size + 1) (by omega)).trans v1.out))
      have hB5 := hB3.setCell (p := ⟨g, k, none⟩) (by simp; omega) (.slice A3 l.length c3)
      have hzz : W1.heap.size ≤ (w3.setCell ⟨g, k, none⟩ (.slice A3 l.length c3)).heap.size := by simp; omega
      clear hk3 hb3 hS3
      go_wp2_with fail
      go_roundw
      case rel => exact ⟨k + 1, fp2, by omega, by go_num, V0, V1, hput, hB5, hzz⟩
      case measure => simp [intOf]; omega
    · have he : k = d.secs.length := by omega
      subst he
      rw [Rep.upTo_all] at hown
      replace hown := hown.of_all
      have c1 : wr.cell? ⟨w.heap.size, 1, none⟩ = some (.slice A' d.cache.length c') := var_cell v0.out 1
      go_wp2_with fail
      clear c1
      obtain ⟨wo, rfl⟩ : ∃ wo : World, wo = wr := ⟨_, rfl⟩
      have HBo := Lib.hid hb
      refine (sclone_cache A' c' d.cache.length cells' wo ((hrd'.keep fun p hp => (hb.cell hp).trans (hW0.cell hp).symm).more hb.size) HO'.out f3).mono ?_
      rintro e4 w4 ⟨v4, rfl, hrow, hb4⟩
      have hB4 := hb.trans (hb4.mono hb.size)
      have hz4 : wo.heap.size ≤ w4.heap.size := hb4.size
      have V0 := Lib.hid ((hb4.block w.heap.size (by omega)).trans v0.out)
      have V1 := Lib.hid ((hb4.block (w.heap.size + 1) (by omega)).trans v1.out)
      have hown4 := hown.of_below hb4
      have hfl : ∀ a, a ∈ fp → a < wo.heap.size := fun a ha => (hown.lt a ha).2
      have HFS := Lib.hid hfl
      clear hb4 v0 v1 hb hown hfl
      have hraw0 := Rep.OwnRows.of_raw (R := wrR) hrow d.cache rfl
      clear hrow
      obtain ⟨B', e', rfl, _, _, _⟩ := hraw0.reads
      rw [Rep.upTo_length _ _ _ _ (Nat.zero_le _)] at hraw0 ⊢
      have c1 : w4.cell? ⟨w.heap.size, 1, none⟩ = some (.slice A' d.cache.length c') := var_cell V0.out 1
      have q1 := var_frozen V0.out 1
      go_wp2_with fail
      clear c1 q1
      have V0' := Lib.hid (var_set V0.out 1 (.slice B' d.cache.length e'))
      have V1' := Lib.hid ((heap_setCell_other w4 ⟨w.heap.size, 1, none⟩ (w.heap.size + 1) (.slice B' d.cache.length e') (by simp)).trans V1.out)
      have hB3 := hB4.setCell (p := ⟨w.heap.size, 1, none⟩) (Nat.le_refl _) (.slice B' d.cache.length e')
      have hraw1 := hraw0.setLow (p := ⟨w.heap.size, 1, none⟩) (by show w.heap.size < wo.heap.size; omega) (.slice B' d.cache.length e')
      have hownS0 := hown4.setLow (p := ⟨w.heap.size, 1, none⟩) (by show w.heap.size < W1.heap.size; omega) (.slice B' d.cache.length e')
      have hz3 : wo.heap.size ≤ (w4.setCell ⟨w.heap.size, 1, none⟩ (.slice B' d.cache.length e')).heap.size := by simpa using hz4
      clear V0 V1 hraw0 hB4 hz4 hown4
      go_loopw [33] (fun i wq => ∃ (k : Nat) (fp' : List Nat), k ≤ d.cache.length ∧ i = .int .i64 k ∧ Hid (wq.heap[w.heap.size]? = some (.cells #[.slice B d.secs.length e, .slice B' d.cache.length e', .int .i64 d.fuse, .bool d.down] 27 (0, 0))) ∧ Hid (wq.heap[w.heap.size + 1]? = some (.cells #[.slice none 0 0, .slice none 0 0, .int .i64 0, .bool false] 27 (0, 0))) ∧
          Rep.OwnRows (Rep.orR wrR) 42 wq wo.heap.size (.slice B' d.cache.length e') (Rep.upTo d.cache 2 cells' k) fp' ∧ Rep.OwnRows byR 22 wq W1.heap.size (.slice B d.secs.length e) d.secs fp ∧ Below w.heap.size w wq ∧ wo.heap.size ≤ wq.heap.size) (fun i _ => d.cache.length - (intOf i).toNat)
      case atStart => exact ⟨0, _, by omega, rfl, V0', V1', hraw1, hownS0, hB3, hz3⟩
      case round =>
        obtain ⟨k, fp', hk, rfl, v0, v1, hown, hownS, hb, hzr⟩ := hrel
        clear hraw1 hB3 hz3 V0' V1' hownS0
        by_cases hlt : k < d.cache.length
        · obtain ⟨x, hx⟩ := Rep.getElem?_of_lt (xs := d.cache) rfl hlt
          have hll : x.b.length ≤ 1048576 := hs.2.2.2 x (List.mem_of_getElem? hx)
          have HX := Lib.hid hx
          clear hx
          have hatx := Rep.keep wrR (HE'.out k x HX.out) (fun p hp => hb.cell hp)
          have hlx : (Rep.seg wrR.size k cells').length = 2 := Rep.len wrR hatx
          obtain ⟨hn1, A2, c2, hn2, hlc, hrl⟩ := hatx
          obtain ⟨g, rfl⟩ : ∃ g, B' = some ⟨g, 0, none⟩ := by
            obtain ⟨cells2, fps2, ho2, _⟩ := hown
            rcases ho2.2 with ⟨hv, _⟩ | ⟨g, _, _, hv, _⟩
            · injection hv with h1 h2 h3; omega
            · injection hv with h1; exact ⟨g, h1⟩
          have hseg : Rep.seg 2 k cells' = [.int .i64 x.n, .slice A2 x.b.length c2] := by
            replace hlx : (Rep.seg 2 k cells').length = 2 := hlx
            replace hn1 : (Rep.seg 2 k cells').take 1 = [.int .i64 x.n] := hn1
            replace hn2 : (Rep.seg 2 k cells').drop 1 = [.slice A2 x.b.length c2] := hn2
            rw [← List.take_append_drop 1 (Rep.seg 2 k cells'), hn1, hn2]
            rfl
          replace hrl : Reads wr w.heap.size 1 A2 x.b.length (bys x.b) := hrl
          have hget := Rep.upTo_get d.cache 2 cells' hlt
          obtain ⟨cs1, f1', hraw, hcell, hfr, _, hg1, _, hg2, hg3, _, _⟩ := hown.open_ hget
          obtain ⟨hcs, _, _⟩ := hraw
          rw [hseg] at hcs
          subst hcs
          have hc0 : wr.cell? ⟨g, k * 2, none⟩ = some (.int .i64 x.n) := by have := hcell 0 _ rfl; rwa [show k * (Rep.orR wrR).size + 0 = k * 2 from rfl] at this
          have hc1 : wr.cell? ⟨g, k * 2 + 1, none⟩ = some (.slice A2 x.b.length c2) := by have := hcell 1 _ rfl; rwa [show k * (Rep.orR wrR).size + 1 = k * 2 + 1 from rfl] at this
          have HG := Lib.hid hget
          have hseg0 := Lib.hid hseg
          clear hcell hfr hget hseg hn1 hn2 hlx
          have e0 : wr.cell? ⟨w.heap.size, 1, none⟩ = some (.slice (some ⟨g, 0, none⟩) d.cache.length e') := var_cell v0.out 1
          have i1 : (0 : Int) ≤ (k : Int) := by omega
          have i2 : (k : Int) < (d.cache.length : Int) := by omega
          have hfl : ∀ a, a ∈ fp' → a < wr.heap.size := fun a ha => (hown.lt a ha).2
          have HF := Lib.hid hfl
          clear hfl
          go_wp2
          have s1 : w.heap.size < wr.heap.size := by omega
          have hkA : ∀ a, a < wr.heap.size → (wr.alloc (.cells #[.int .i64 x.n, .slice A2 x.b.length c2] 42)).heap[a]? = wr.heap[a]? := fun a ha => Below.heap_alloc wr _ a ha
          have hvw := heap_alloc_new wr (.cells #[.int .i64 x.n, .slice A2 x.b.length c2] 42)
          have hBA : Below w.heap.size w (wr.alloc (.cells #[.int .i64 x.n, .slice A2 x.b.length c2] 42)) := hb.alloc hb.size _
          have hrA : Reads (wr.alloc (.cells #[.int .i64 x.n, .slice A2 x.b.length c2] 42)) w.heap.size 1 A2 x.b.length (bys x.b) := hrl.alloc hb.size _
          have hzA : (wr.alloc (.cells #[.int .i64 x.n, .slice A2 x.b.length c2] 42)).heap.size = wr.heap.size + 1 := by simp
          generalize hgw : wr.alloc (.cells #[.int .i64 x.n, .slice A2 x.b.length c2] 42) = wa at hkA hvw hBA hrA hzA ⊢
          clear hgw
          have eA : wa.cell? ⟨w.heap.size, 1, none⟩ = some (.slice (some ⟨g, 0, none⟩) d.cache.length e') := (World.cell?_of_block (hkA w.heap.size s1)).trans e0
          have eW : wa.cell? ⟨wr.heap.size, 1, none⟩ = some (.slice A2 x.b.length c2) := var_cell hvw 1
          clear e0 hc0 hc1
          refine wp_region_lex' 8 [0, 1, 2, 3, 4] [5, 6, 7, 8] (fun w' => w'.cell? ⟨w.heap.size, 1, none⟩ = some (.slice (some ⟨g, 0, none⟩) d.cache.length e') ∧ w'.cell? ⟨wr.heap.size, 1, none⟩ = some (.slice A2 x.b.length c2)) (by kernel_rfl) (by kernel_rfl) ⟨eA, eW⟩ ?_
          iterate 5 (refine LexR.cons rfl ?_ (fun w' hw => ?_) ?_; rotate_left; focus (obtain ⟨e1, e2⟩ := hw; go_simp; (try exact rfl)); (try go_frame))
          refine LexR.nil (LexW.cons rfl ?_)
          go_wp2_with fail
          refine (bclone_any A2 c2 x.b wa.drew ((hrA.more hBA.size).drew) hll).mono ?_
          rintro e3 w3 ⟨A3, c3, rfl, hown3, hb3⟩
          have hk3 : ∀ a, a < wr.heap.size → w3.heap[a]? = wr.heap[a]? := fun a ha => (hb3.block a (by show a < wa.heap.size; omega)).trans (hkA a ha)
          have hz3 : wa.heap.size ≤ w3.heap.size := hb3.size
          have hB3 : Below w.heap.size w w3 := hBA.trans ((belowD (Below.refl wa.heap.size wa) 1).trans hb3 |>.mono hBA.size)
          have hown4 := hown.kept (w' := w3) (fun a ha => hk3 a (HF.out a ha))
          have hownS4 := hownS.kept (w' := w3) (fun a ha => hk3 a (by have := HFS.out a ha; omega))
          obtain ⟨⟨u0, hcl⟩, hfr, _, _⟩ := hown4.there (k * 2 + 1) (by rw [Rep.upTo_length _ _ _ _ hk]; show k * 2 + 1 < d.cache.length * 2; omega)
          have hS3 := Lib.hid (show w3.cell? ⟨w.heap.size, 1, none⟩ = some (.slice (some ⟨g, 0, none⟩) d.cache.length e') ∧ w3.cell? ⟨wr.heap.size, 1, none⟩ = some (.slice A2 x.b.length c2) from ⟨(World.cell?_of_block (hk3 w.heap.size s1)).trans ((World.cell?_of_block (hkA w.heap.size s1)).symm.trans eA), (World.cell?_of_block (hb3.block wr.heap.size (by show wr.heap.size < wa.heap.size; omega))).trans eW⟩)
          go_wp2_with fail
          refine ⟨(by first | exact hS3.out | exact fun _ => hS3.out), LexW.cons rfl ?_⟩
          try go_frame
          go_wp2_with fail
          refine ⟨(by first | exact hS3.out | exact fun _ => hS3.out), LexW.cons rfl ?_⟩
          try go_frame
          go_wp2_with fail
          refine ⟨(by first | exact hS3.out | exact fun _ => hS3.out), LexW.cons rfl ?_⟩
          try go_frame
          go_wp2_with fail
          refine ⟨fun h => absurd rfl h, LexW.nil ?_⟩
          obtain ⟨fp2, hput⟩ := hown4.poke (k := k) (B := wa.heap.size) (j := 1) (x := x) (l := [.int .i64 x.n, .slice A2 x.b.length c2]) (f := (Value.slice A3 x.b.length c3).ownBlock.toList) (by rw [HG.out]; exact congrArg (fun z => some (Sum.inr z)) hseg0.out) (.slice A3 x.b.length c3) (by decide) (wr_own hown3) (by omega) (fun a ha => by have := HF.out a ha; omega)
          rw [Rep.upTo_succ d.cache 2 cells' HX.out, show k * wrR.size + 1 = k * 2 + 1 from rfl] at hput
          have hgS : ∀ a, a ∈ fp → a ≠ g := fun a ha e => by have h1 := HFS.out a ha; have h2 := hg2; omega
          have hownS5 := hownS4.kept (w' := w3.setCell ⟨g, k * 2 + 1, none⟩ (.slice A3 x.b.length c3)) (fun a ha => heap_setCell_other _ _ _ _ (hgS a ha))
          have V0 := Lib.hid ((heap_setCell_other w3 ⟨g, k * 2 + 1, none⟩ w.heap.size (.slice A3 x.b.length c3) (by simp; omega)).trans ((hk3 w.heap.size s1).trans v0.out))
          have V1 := Lib.hid ((heap_setCell_other w3 ⟨g, k * 2 + 1, none⟩ (w.heap.size + 1) (.slice A3 x.b.length c3) (by simp; omega)).trans ((hk3 (w.heap.size + 1) (by omega)).trans v1.out))
          have hB5 := hB3.setCell (p := ⟨g, k * 2 + 1, none⟩) (by simp; omega) (.slice A3 x.b.length c3)
          have hzz : wo.heap.size ≤ (w3.setCell ⟨g, k * 2 + 1, none⟩ (.slice A3 x.b.length c3)).heap.size := by simp; omega
          clear hk3 hb3 hS3 hkA hgS
          go_wp2_with fail
          go_roundw
          case rel => exact ⟨k + 1, fp2, by omega, by go_num, V0, V1, hput, hownS5, hB5, hzz⟩
          case measure => simp [intOf]; omega
        · have he : k = d.cache.length := by omega
          subst he
          rw [Rep.upTo_all] at hown
          replace hown := hown.of_all
          have d0 : wr.cell? ⟨w.heap.size, 0, none⟩ = some (.slice B d.secs.length e) := var_cell v0.out 0
          have d1 : wr.cell? ⟨w.heap.size, 1, none⟩ = some (.slice B' d.cache.length e') := var_cell v0.out 1
          have d2 : wr.cell? ⟨w.heap.size, 2, none⟩ = some (.int .i64 d.fuse) := var_cell v0.out 2
          have d3 : wr.cell? ⟨w.heap.size, 3, none⟩ = some (.bool d.down) := var_cell v0.out 3
          have e0 : wr.cell? ⟨w.heap.size + 1, 0, none⟩ = some (.slice none 0 0) := var_cell v1.out 0
          have e1 : wr.cell? ⟨w.heap.size + 1, 1, none⟩ = some (.slice none 0 0) := var_cell v1.out 1
          have e2 : wr.cell? ⟨w.heap.size + 1, 2, none⟩ = some (.int .i64 0) := var_cell v1.out 2
          have e3 : wr.cell? ⟨w.heap.size + 1, 3, none⟩ = some (.bool false) := var_cell v1.out 3
          have q0 := var_frozen v1.out 0
          have q1 := var_frozen v1.out 1
          have q2 := var_frozen v1.out 2
          have q3 := var_frozen v1.out 3
          go_wp2_with fail
          refine bodyPost_ret (v := .agg #[.slice B d.secs.length e, .slice B' d.cache.length e', .int .i64 d.fuse, .bool d.down]) (by simp [results, Try.results44, go_sem, e0, e1, e2, e3]) rfl ⟨_, fp ++ fp', rfl, ?_, ?_⟩
          · refine diskR.low (base := W1.heap.size) ?_ (by omega)
            repeat (refine Rep.setLow ?_ (by first | (simp; done) | (simp; omega)) _)
            exact disk_own hownS hown (by omega) (fun g hg => HFS.out g hg)
          · repeat (refine Below.setCell ?_ (by first | (simp; done) | (simp; omega)) _)
            exact hb

end Go.Proofs.Ytjhfnfffpofagaa
