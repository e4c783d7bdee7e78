/- What the theorem needs, out of many texts. -/
import Derived.Test.YthpkdjflndiojaaGreatDoorShj13
set_option maxHeartbeats 20000000
namespace Go.Proofs.YthpkdjflndiojaaGreatDoor
open Go.RowKit
set_option maxRecDepth 2000000
set_option linter.unusedVariables false
set_option maxRecDepth 100000 in
theorem Kh9 (cs : List Value) (d : Disk) (w : World) (h : diskR.at_ w w.heap.size cs d) (hs : Ag9 d) :
    Calls Tryz.prog 21 #[.agg cs.toArray] w (RetDisk w d):=by
  obtain ⟨A,c,A',c',rfl,_,_,hr,hr'⟩:=Bl9 h
  have f1:=hs.1
  have f3:=hs.2.2.1
  obtain ⟨i0,hi0,hz0,hz1,hzb⟩:=info_parts Tryz.info22
  obtain ⟨j0,hj0,hj1,hj2,hj3⟩:=info_parts Tryz.info8
  go_enter Tryz.func21,Tryz.ntmps21
  go_wp2
  -- the three variables: the argument,the answer,the copy
  have hW0 : Below w.heap.size w (((w.alloc (.cells #[.slice A d.secs.length c, .slice A' d.cache.length c', .int .i64 d.fuse, .bool d.down] 27)).alloc (.cells #[.slice none 0 0, .slice none 0 0, .int .i64 0, .bool false] 27)).alloc (.cells #[.slice none 0 0, .slice none 0 0, .int .i64 d.fuse, .bool d.down] 27)) :=
    (((Below.refl w.heap.size w).alloc (Nat.le_refl _) _).alloc (by simp) _).alloc (by simp;omega) _
  have v0 : (((w.alloc (.cells #[.slice A d.secs.length c, .slice A' d.cache.length c', .int .i64 d.fuse, .bool d.down] 27)).alloc (.cells #[.slice none 0 0, .slice none 0 0, .int .i64 0, .bool false] 27)).alloc (.cells #[.slice none 0 0, .slice none 0 0, .int .i64 d.fuse, .bool d.down] 27)).heap[w.heap.size]? = some (.cells #[.slice A d.secs.length c, .slice A' d.cache.length c', .int .i64 d.fuse, .bool d.down] 27 (0, 0)) :=
    (Below.heap_alloc _ _ _ (by simp;omega)).trans ((Below.heap_alloc _ _ _ (by simp)).trans (heap_alloc_new w _))
  have v1 : (((w.alloc (.cells #[.slice A d.secs.length c, .slice A' d.cache.length c', .int .i64 d.fuse, .bool d.down] 27)).alloc (.cells #[.slice none 0 0, .slice none 0 0, .int .i64 0, .bool false] 27)).alloc (.cells #[.slice none 0 0, .slice none 0 0, .int .i64 d.fuse, .bool d.down] 27)).heap[w.heap.size + 1]? = some (.cells #[.slice none 0 0, .slice none 0 0, .int .i64 0, .bool false] 27 (0, 0)) :=
    (Below.heap_alloc _ _ _ (by simp)).trans (G9 _ _ (by simp))
  have v2 : (((w.alloc (.cells #[.slice A d.secs.length c, .slice A' d.cache.length c', .int .i64 d.fuse, .bool d.down] 27)).alloc (.cells #[.slice none 0 0, .slice none 0 0, .int .i64 0, .bool false] 27)).alloc (.cells #[.slice none 0 0, .slice none 0 0, .int .i64 d.fuse, .bool d.down] 27)).heap[w.heap.size + 1 + 1]? = some (.cells #[.slice none 0 0, .slice none 0 0, .int .i64 d.fuse, .bool d.down] 27 (0, 0)) :=
    G9 _ _ (by simp)
  have hz : w.heap.size + 1 + 1 < (((w.alloc (.cells #[.slice A d.secs.length c,.slice A' d.cache.length c',.int .i64 d.fuse,.bool d.down] 27)).alloc (.cells #[.slice none 0 0,.slice none 0 0,.int .i64 0,.bool false] 27)).alloc (.cells #[.slice none 0 0,.slice none 0 0,.int .i64 d.fuse,.bool d.down] 27)).heap.size:=by simp
  replace hr:=hr.keep fun p hp => hW0.cell hp
  replace hr':=hr'.keep fun p hp => hW0.cell hp
  generalize ((w.alloc (.cells #[.slice A d.secs.length c,.slice A' d.cache.length c',.int .i64 d.fuse,.bool d.down] 27)).alloc (.cells #[.slice none 0 0,.slice none 0 0,.int .i64 0,.bool false] 27)).alloc (.cells #[.slice none 0 0,.slice none 0 0,.int .i64 d.fuse,.bool d.down] 27) = W1 at hW0 v0 v1 v2 hr hr' hz ⊢
  have V0:=Lib.hid v0
  have V1:=Lib.hid v1
  have V2:=Lib.hid v2
  clear v0 v1 v2 h
  go_loopw [4] (fun i wr => ∃ (k : Nat) (v : Value) (fp : List Nat), k ≤ d.secs.length ∧ i = .int .i64 k ∧ Hid (wr.heap[w.heap.size]? = some (.cells #[.slice A d.secs.length c, .slice A' d.cache.length c', .int .i64 d.fuse, .bool d.down] 27 (0, 0))) ∧ Hid (wr.heap[w.heap.size + 1]? = some (.cells #[.slice none 0 0, .slice none 0 0, .int .i64 0, .bool false] 27 (0, 0))) ∧
      Hid (wr.heap[w.heap.size + 1 + 1]? = some (.cells #[v,.slice none 0 0,.int .i64 d.fuse,.bool d.down] 27 (0,0)))∧Rep.OwnRows byR 22 wr (w.heap.size + 1 + 1 + 1) v (d.secs.take k) fp∧Below w.heap.size w wr) (fun i _ => d.secs.length - (intOf i).toNat)
  case atStart => exact ⟨0,.slice none 0 0,[],by omega,rfl,V0,V1,V2,by simpa using Ol9 _ _,hW0⟩
  case round =>
    obtain ⟨k,v,fp,hk,rfl,v0,v1,v2,hown,hb⟩:=hrel
    have hz2 : w.heap.size + 1 + 1 < wr.heap.size:=World.block_lt_of_cell? wr ⟨w.heap.size + 1 + 1,0,none⟩ (E9 v2.out 0)
    have c0 : wr.cell? ⟨w.heap.size,0,none⟩ = some (.slice A d.secs.length c):=E9 v0.out 0
    have c2 : wr.cell? ⟨w.heap.size + 1 + 1,0,none⟩ = some v:=E9 v2.out 0
    by_cases hlt : k < d.secs.length
    · obtain ⟨b, off, A2, c2', l, rfl, hbl, hx, hcell, hlc, hrl⟩ := Ek9 ((hr.keep fun p hp => (hb.cell hp).trans (hW0.cell hp).symm)) hlt
      have HX:=Lib.hid hx
      clear hx
      have i1 : (0 : Int) ≤ (k : Int):=by omega
      have i2 : (k : Int) < (d.secs.length : Int):=by omega
      go_wp2
      refine M9 12 [0,1,3,4,5,6,7] [2,8,9,10,11,12] (fun w' => w'.cell? ⟨w.heap.size,0,none⟩ = some (.slice (some ⟨b,off,none⟩) d.secs.length c)∧w'.cell? ⟨w.heap.size + 1 + 1,0,none⟩ = some v∧w'.cell? ⟨b,off + k,none⟩ = some (.slice A2 l.length c2')) (by kernel_rfl) (by kernel_rfl) ⟨c0,c2,hcell⟩ ?_
      iterate 7 (refine LexR.cons rfl ?_ (fun w' hw => ?_) ?_;rotate_left;focus (obtain ⟨e1,e2,e3⟩:=hw;go_simp;(try exact rfl));(try go_frame))
      refine LexR.nil (LexW.cons rfl ?_)
      go_wp2_with fail
      have hB0 : Below w.heap.size w (wr.alloc (.cells #[] 5)).drew:=belowD (hb.alloc hb.size _) 1
      have s1 : w.heap.size < wr.heap.size:=by omega
      have s2 : b < wr.heap.size:=by omega
      refine ⟨fun _ => ⟨(World.cell?_alloc_lt _ _ _ (by simpa using s1)).trans c0,(World.cell?_alloc_lt _ _ _ (by simpa using hz2)).trans c2,(World.cell?_alloc_lt _ _ _ (by simpa using s2)).trans hcell⟩,LexW.cons rfl ?_⟩
      refine Rep.wpList_bytes _ wr rfl (.tmp 20) (.tmp 25) _ rfl 5 j0 Tryz.underlying22 hj0 hj1 hj2 hj3 _ rfl wr.heap.size (Rep.lit_empty wr _ _ rfl) (by simp) w.heap.size A2 c2' l rfl ((hrl.alloc (by omega) _).drew) (hs.2.1 l (List.mem_of_getElem? HX.out)) ?_
      intro A3 c3 w3 hown3 hg3 hv3
      have hB3 : Below w.heap.size w w3:=hB0.grown hg3 (by simp;omega) (fun k hk => by have:=hv3 k hk;omega)
      have hk3 : ∀ g,g < wr.heap.size→w3.heap[g]? = wr.heap[g]?:=fun g hg => (hg3.block g (by simp;omega) (fun e => by have:=hv3 g e.symm;omega)).trans (Below.heap_alloc wr _ g hg)
      have hz3 : wr.heap.size ≤ w3.heap.size:=by have:=hg3.size;simp at this;omega
      refine ⟨fun _ => ⟨(World.cell?_of_block (hk3 _ s1)).trans c0,(World.cell?_of_block (hk3 _ hz2)).trans c2,(World.cell?_of_block (hk3 _ s2)).trans hcell⟩,LexW.cons rfl ?_⟩
      go_frame
      go_wp2_with fail
      have hk4 : ∀ g,g < wr.heap.size→(w3.alloc (.cells #[.slice A3 l.length c3] 22)).heap[g]? = wr.heap[g]?:=fun g hg => (Below.heap_alloc _ _ _ (by omega)).trans (hk3 g hg)
      have hown4:=hown.kept (w':=w3.alloc (.cells #[.slice A3 l.length c3] 22)) (fun g hg => hk4 g (hown.lt g hg).2)
      have hfl : ∀ g,g ∈ fp→g < wr.heap.size:=fun g hg => (hown.lt g hg).2
      have hel : byR.own (w3.alloc (.cells #[.slice A3 l.length c3] 22)) (w.heap.size + 1 + 1 + 1) [.slice A3 l.length c3] l ((Value.slice A3 l.length c3).ownBlock.toList):=⟨_,rfl,(ownsRow_mono hown3 (by omega)).alloc _,rfl⟩
      have hnew:=T7 w3 #[.slice A3 l.length c3] 1 1 22 (g:=w3.heap.size) rfl rfl (by simp [maxLen])
      refine ⟨fun _ => ⟨(World.cell?_of_block (hk4 _ s1)).trans c0,(World.cell?_of_block (hk4 _ hz2)).trans c2,(World.cell?_of_block (hk4 _ s2)).trans hcell⟩,LexW.cons rfl ?_⟩
      refine Rep.wpList_push _ rfl (.tmp 19) (.tmp 27) _ rfl byR (w.heap.size + 1 + 1 + 1) 22 i0 _ 24 Tryz.underlying24 hi0 hz0 hz1 hzb rfl (by decide) v (d.secs.take k) fp rfl hown4 _ 1 _ l _ rfl hnew (Hr9 rfl) hel (fun g hg hg' => by have h1 := (hown3.lt g (by simpa using hg)).1; have h2 := hfl g hg'; omega)
        (by simp only [maxLen,List.length_take];omega) (by rw [List.length_take];omega) (by simp;omega) ?_
      intro A4 c4 w4 fp4 hown5 hg4 hf4 hv4
      have hl4 : (d.secs.take k).length + 1 = k + 1:=by rw [List.length_take];omega
      rw [hl4] at hown5 ⊢
      have hk5 : ∀ g,g < w.heap.size + 1 + 1 + 1→w4.heap[g]? = wr.heap[g]?:=fun g hg => (hg4.block g (by simp;omega) (fun e => by have:=(hv4 g e.symm).1;omega)).trans (hk4 g (by omega))
      have hz4 : w3.heap.size ≤ w4.heap.size:=by have:=hg4.size;simp at this;omega
      have hB4 : Below w.heap.size w w4:=(hB3.alloc hB3.size _).grown hg4 (by simp;have:=hB3.size;omega) (fun k hk => by have:=(hv4 k hk).1;omega)
      have hS5 : Hid (w4.cell? ⟨w.heap.size, 0, none⟩ = some (.slice (some ⟨b, off, none⟩) d.secs.length c) ∧ w4.cell? ⟨w.heap.size + 1 + 1, 0, none⟩ = some v ∧ w4.cell? ⟨b, off + k, none⟩ = some (.slice A2 l.length c2')) :=
        Lib.hid ⟨(World.cell?_of_block (hk5 w.heap.size (by omega))).trans c0,(World.cell?_of_block (hk5 (w.heap.size + 1 + 1) (by omega))).trans c2,(World.cell?_of_block (hk5 b (by omega))).trans hcell⟩
      refine ⟨fun _ => hS5.out,LexW.cons rfl ?_⟩
      go_frame
      go_wp2_with fail
      refine ⟨hS5.out,LexW.cons rfl ?_⟩
      have c2':=hS5.out.2.1
      have q2 : w4.frozen? ⟨w.heap.size + 1 + 1,0,none⟩ = false:=C9 ((hk5 (w.heap.size + 1 + 1) (by omega)).trans v2.out) 0
      try go_frame
      go_wp2_with fail
      refine ⟨fun h => absurd rfl h,LexW.nil ?_⟩
      have V0:=Lib.hid ((heap_setCell_other w4 ⟨w.heap.size + 1 + 1,0,none⟩ w.heap.size (.slice A4 (k + 1) c4) (by simp;omega)).trans ((hk5 w.heap.size (by omega)).trans v0.out))
      have V1:=Lib.hid ((heap_setCell_other w4 ⟨w.heap.size + 1 + 1,0,none⟩ (w.heap.size + 1) (.slice A4 (k + 1) c4) (by simp)).trans ((hk5 (w.heap.size + 1) (by omega)).trans v1.out))
      have V2:=Lib.hid (N9 ((hk5 (w.heap.size + 1 + 1) (by omega)).trans v2.out) 0 (.slice A4 (k + 1) c4))
      have hB5:=hB4.setCell (p:=⟨w.heap.size + 1 + 1,0,none⟩) (by simp;omega) (.slice A4 (k + 1) c4)
      have hown6:=hown5.setLow (p:=⟨w.heap.size + 1 + 1,0,none⟩) (by simp) (.slice A4 (k + 1) c4)
      rw [← Rep.take_get HX.out] at hown6
      clear hg3 hg4 hS5 c2' q2 hk3 hk4 hk5
      go_wp2_with fail
      go_roundw
      case rel => exact ⟨k + 1,_,fp4,by omega,by go_num,V0,V1,V2,hown6,hB5⟩
      case measure => simp [intOf];omega
    · have he : k = d.secs.length := by omega
      subst he
      have HT:=Lib.hid (show d.secs.take d.secs.length = d.secs from List.take_length)
      rw [HT.out] at hown
      replace hr':=hr'.keep fun p hp => (hb.cell hp).trans (hW0.cell hp).symm
      have hfs : ∀ g,g ∈ fp→w.heap.size + 1 + 1 + 1 ≤ g∧g < wr.heap.size:=fun g hg => hown.lt g hg
      have HFS:=Lib.hid hfs
      clear hfs
      go_wp2_with fail
      clear c0 c2
      obtain ⟨wo,rfl⟩ : ∃ wo : World,wo = wr:=⟨_,rfl⟩
      obtain ⟨m0,hm0,hm1,hm2,hm3⟩:=info_parts Tryz.info42
      have HB0:=Lib.hid hb
      clear hb
      go_loopw [5] (fun i wr => ∃ (k : Nat) (v' : Value) (fp' : List Nat), k ≤ d.cache.length ∧ i = .int .i64 k ∧ Hid (wr.heap[w.heap.size]? = some (.cells #[.slice A d.secs.length c, .slice A' d.cache.length c', .int .i64 d.fuse, .bool d.down] 27 (0, 0))) ∧ Hid (wr.heap[w.heap.size + 1]? = some (.cells #[.slice none 0 0, .slice none 0 0, .int .i64 0, .bool false] 27 (0, 0))) ∧
          Hid (wr.heap[w.heap.size + 1 + 1]? = some (.cells #[v,v',.int .i64 d.fuse,.bool d.down] 27 (0,0)))∧Rep.OwnRows wrR 84 wr wo.heap.size v' (d.cache.take k) fp'∧Rep.OwnRows byR 22 wr (w.heap.size + 1 + 1 + 1) v d.secs fp∧Below w.heap.size w wr∧wo.heap.size ≤ wr.heap.size) (fun i _ => d.cache.length - (intOf i).toNat)
      case atStart => exact ⟨0,.slice none 0 0,[],by omega,rfl,v0,v1,v2,by simpa using Jp9 _ _,hown,HB0.out,Nat.le_refl _⟩
      case round =>
        obtain ⟨k,v',fp',hk,rfl,v0,v1,v2,hown',hown,hb,hzq⟩:=hrel
        have hW:=HB0.out.size
        have c0 : wr.cell? ⟨w.heap.size,1,none⟩ = some (.slice A' d.cache.length c'):=E9 v0.out 1
        have c2 : wr.cell? ⟨w.heap.size + 1 + 1,1,none⟩ = some v':=E9 v2.out 1
        by_cases hlt : k < d.cache.length
        · obtain ⟨b, off, A2, c2', x, rfl, hbl, hx, hcell, hcell', hlc, hrl⟩ := Lb9 (hr'.keep fun p hp => (hb.cell hp).trans (HB0.out.cell hp).symm) hlt
          have HX:=Lib.hid hx
          have hl : x.b.length ≤ 1048576:=hs.2.2.2 x (List.mem_of_getElem? hx)
          clear hx
          have i1 : (0 : Int) ≤ (k : Int):=by omega
          have i2 : (k : Int) < (d.cache.length : Int):=by omega
          go_wp2
          refine M9 20 [0,1,2,3,4,5,6,7,9,10,11,12,13,14] [8,15,16,17,18,19,20] (fun w' => w'.cell? ⟨w.heap.size,1,none⟩ = some (.slice (some ⟨b,off,none⟩) d.cache.length c')∧w'.cell? ⟨w.heap.size + 1 + 1,1,none⟩ = some v'∧w'.cell? ⟨b,off + k * 2,none⟩ = some (.int .i64 x.n)∧w'.cell? ⟨b,off + k * 2 + 1,none⟩ = some (.slice A2 x.b.length c2')) (by kernel_rfl) (by kernel_rfl) ⟨c0,c2,hcell,hcell'⟩ ?_
          iterate 14 (refine LexR.cons rfl ?_ (fun w' hw => ?_) ?_;rotate_left;focus (obtain ⟨e1,e2,e3,e4⟩:=hw;go_simp;(try exact rfl));(try go_frame))
          refine LexR.nil (LexW.cons rfl ?_)
          go_wp2_with fail
          have hz2 : w.heap.size + 1 + 1 < wo.heap.size:=by omega
          have s1 : w.heap.size < wr.heap.size:=by omega
          have s2 : b < wr.heap.size:=by omega
          have s3 : w.heap.size + 1 + 1 < wr.heap.size:=by omega
          have hB0 : Below w.heap.size w (wr.alloc (.cells #[] 5)).drew:=belowD (hb.alloc hb.size _) 1
          refine ⟨fun _ => ⟨(World.cell?_alloc_lt _ _ _ (by simpa using s1)).trans c0,(World.cell?_alloc_lt _ _ _ (by simpa using s3)).trans c2,(World.cell?_alloc_lt _ _ _ (by simpa using s2)).trans hcell,(World.cell?_alloc_lt _ _ _ (by simpa using s2)).trans hcell'⟩,LexW.cons rfl ?_⟩
          refine Rep.wpList_bytes _ wr rfl (.tmp 45) (.tmp 51) _ rfl 5 j0 Tryz.underlying22 hj0 hj1 hj2 hj3 _ rfl wr.heap.size (Rep.lit_empty wr _ _ rfl) (by simp) w.heap.size A2 c2' x.b rfl ((hrl.alloc (by omega) _).drew) hl ?_
          intro A3 c3 w3 hown3 hg3 hv3
          have hB3 : Below w.heap.size w w3:=hB0.grown hg3 (by simp;omega) (fun k hk => by have:=hv3 k hk;omega)
          have hk3 : ∀ g,g < wr.heap.size→w3.heap[g]? = wr.heap[g]?:=fun g hg => (hg3.block g (by simp;omega) (fun e => by have:=hv3 g e.symm;omega)).trans (Below.heap_alloc wr _ g hg)
          have hz3 : wr.heap.size ≤ w3.heap.size:=by have:=hg3.size;simp at this;omega
          have hS3 := Lib.hid (show w3.cell? ⟨w.heap.size, 1, none⟩ = some (.slice (some ⟨b, off, none⟩) d.cache.length c') ∧ w3.cell? ⟨w.heap.size + 1 + 1, 1, none⟩ = some v' ∧ w3.cell? ⟨b, off + k * 2, none⟩ = some (.int .i64 x.n) ∧ w3.cell? ⟨b, off + k * 2 + 1, none⟩ = some (.slice A2 x.b.length c2') from
            ⟨(World.cell?_of_block (hk3 w.heap.size s1)).trans c0,(World.cell?_of_block (hk3 (w.heap.size + 1 + 1) s3)).trans c2,(World.cell?_of_block (hk3 b s2)).trans hcell,(World.cell?_of_block (hk3 b s2)).trans hcell'⟩)
          refine ⟨fun _ => hS3.out,LexW.cons rfl ?_⟩
          try go_frame
          go_wp2_with fail
          refine ⟨(by first | exact hS3.out | exact fun _ => hS3.out),LexW.cons rfl ?_⟩
          try go_frame
          go_wp2_with fail
          have hk4 : ∀ g,g < wr.heap.size→(w3.alloc (.cells #[.int .i64 x.n,.slice A3 x.b.length c3] 84)).heap[g]? = wr.heap[g]?:=fun g hg => (Below.heap_alloc _ _ _ (by omega)).trans (hk3 g hg)
          have hown4:=hown'.kept (w':=w3.alloc (.cells #[.int .i64 x.n,.slice A3 x.b.length c3] 84)) (fun g hg => hk4 g (hown'.lt g hg).2)
          have hfl : ∀ g,g ∈ fp'→g < wr.heap.size:=fun g hg => (hown'.lt g hg).2
          have hel : wrR.own (w3.alloc (.cells #[.int .i64 x.n,.slice A3 x.b.length c3] 84)) wo.heap.size [.int .i64 x.n,.slice A3 x.b.length c3] x ((Value.slice A3 x.b.length c3).ownBlock.toList):=Mg9 ((ownsRow_mono hown3 (by omega)).alloc _)
          have hnew:=T7 w3 #[.int .i64 x.n,.slice A3 x.b.length c3] 2 1 84 (g:=w3.heap.size) rfl rfl (by simp [maxLen])
          refine ⟨fun _ => ⟨(World.cell?_of_block (hk4 w.heap.size s1)).trans c0,(World.cell?_of_block (hk4 (w.heap.size + 1 + 1) s3)).trans c2,(World.cell?_of_block (hk4 b s2)).trans hcell,(World.cell?_of_block (hk4 b s2)).trans hcell'⟩,LexW.cons rfl ?_⟩
          refine Rep.wpList_push _ rfl (.tmp 38) (.tmp 54) _ rfl wrR wo.heap.size 84 m0 _ 32 Tryz.underlying25 hm0 hm1 hm2 hm3 rfl (by decide) v' (d.cache.take k) fp' rfl hown4 _ 1 _ x _ rfl hnew (Ln9 rfl rfl) hel (fun g hg hg' => by have h1 := (hown3.lt g (by simpa using hg)).1; have h2 := hfl g hg'; omega)
            (by simp only [maxLen,List.length_take];omega) (by rw [List.length_take];omega) (by simp;omega) ?_
          intro A4 c4 w4 fp4 hown5 hg4 hf4 hv4
          have hl4 : (d.cache.take k).length + 1 = k + 1:=by rw [List.length_take];omega
          rw [hl4] at hown5 ⊢
          have hk5 : ∀ g,g < wo.heap.size→w4.heap[g]? = wr.heap[g]?:=fun g hg => (hg4.block g (by simp;omega) (fun e => by have:=(hv4 g e.symm).1;omega)).trans (hk4 g (by omega))
          have hz4 : w3.heap.size ≤ w4.heap.size:=by have:=hg4.size;simp at this;omega
          have hB4 : Below w.heap.size w w4:=(hB3.alloc hB3.size _).grown hg4 (by simp;have:=hB3.size;omega) (fun k hk => by have:=(hv4 k hk).1;omega)
          have hS5 := Lib.hid (show w4.cell? ⟨w.heap.size, 1, none⟩ = some (.slice (some ⟨b, off, none⟩) d.cache.length c') ∧ w4.cell? ⟨w.heap.size + 1 + 1, 1, none⟩ = some v' ∧ w4.cell? ⟨b, off + k * 2, none⟩ = some (.int .i64 x.n) ∧ w4.cell? ⟨b, off + k * 2 + 1, none⟩ = some (.slice A2 x.b.length c2') from
            ⟨(World.cell?_of_block (hk5 w.heap.size (by omega))).trans c0,(World.cell?_of_block (hk5 (w.heap.size + 1 + 1) (by omega))).trans c2,(World.cell?_of_block (hk5 b (by omega))).trans hcell,(World.cell?_of_block (hk5 b (by omega))).trans hcell'⟩)
          refine ⟨fun _ => hS5.out,LexW.cons rfl ?_⟩
          try go_frame
          go_wp2_with fail
          refine ⟨(by first | exact hS5.out | exact fun _ => hS5.out),LexW.cons rfl ?_⟩
          have c2':=hS5.out.2.1
          have q2 : w4.frozen? ⟨w.heap.size + 1 + 1,1,none⟩ = false:=C9 ((hk5 (w.heap.size + 1 + 1) (by omega)).trans v2.out) 1
          try go_frame
          go_wp2_with fail
          refine ⟨fun h => absurd rfl h,LexW.nil ?_⟩
          have V0:=Lib.hid ((heap_setCell_other w4 ⟨w.heap.size + 1 + 1,1,none⟩ w.heap.size (.slice A4 (k + 1) c4) (by simp;omega)).trans ((hk5 w.heap.size (by omega)).trans v0.out))
          have V1:=Lib.hid ((heap_setCell_other w4 ⟨w.heap.size + 1 + 1,1,none⟩ (w.heap.size + 1) (.slice A4 (k + 1) c4) (by simp)).trans ((hk5 (w.heap.size + 1) (by omega)).trans v1.out))
          have V2:=Lib.hid (N9 ((hk5 (w.heap.size + 1 + 1) (by omega)).trans v2.out) 1 (.slice A4 (k + 1) c4))
          have hB5:=hB4.setCell (p:=⟨w.heap.size + 1 + 1,1,none⟩) (by simp;omega) (.slice A4 (k + 1) c4)
          have hown6:=hown5.setLow (p:=⟨w.heap.size + 1 + 1,1,none⟩) (by simp;omega) (.slice A4 (k + 1) c4)
          rw [← Rep.take_get HX.out] at hown6
          have hownS:=(hown.kept (fun g hg => hk5 g (HFS.out g hg).2)).setLow (p:=⟨w.heap.size + 1 + 1,1,none⟩) (by simp) (.slice A4 (k + 1) c4)
          have hzz : wo.heap.size ≤ (w4.setCell ⟨w.heap.size + 1 + 1,1,none⟩ (.slice A4 (k + 1) c4)).heap.size:=by simp;omega
          clear hg3 hg4 hS5 hS3 c2' q2 hk3 hk4 hk5
          go_wp2_with fail
          go_roundw
          case rel => exact ⟨k + 1,_,fp4,by omega,by go_num,V0,V1,V2,hown6,hownS,hB5,hzz⟩
          case measure => simp [intOf];omega
        · have he : k = d.cache.length := by omega
          subst he
          have HT2:=Lib.hid (show d.cache.take d.cache.length = d.cache from List.take_length)
          rw [HT2.out] at hown'
          obtain ⟨B,e,rfl,_,_,_⟩:=hown.reads
          obtain ⟨B',e',rfl,_,_,_⟩:=hown'.reads
          have d0 : wr.cell? ⟨w.heap.size + 1 + 1,0,none⟩ = some (.slice B d.secs.length e):=E9 v2.out 0
          have d2 : wr.cell? ⟨w.heap.size + 1 + 1,2,none⟩ = some (.int .i64 d.fuse):=E9 v2.out 2
          have d3 : wr.cell? ⟨w.heap.size + 1 + 1,3,none⟩ = some (.bool d.down):=E9 v2.out 3
          have e0 : wr.cell? ⟨w.heap.size + 1,0,none⟩ = some (.slice none 0 0):=E9 v1.out 0
          have e1 : wr.cell? ⟨w.heap.size + 1,1,none⟩ = some (.slice none 0 0):=E9 v1.out 1
          have e2 : wr.cell? ⟨w.heap.size + 1,2,none⟩ = some (.int .i64 0):=E9 v1.out 2
          have e3 : wr.cell? ⟨w.heap.size + 1,3,none⟩ = some (.bool false):=E9 v1.out 3
          have q0:=C9 v1.out 0
          have q1:=C9 v1.out 1
          have q2:=C9 v1.out 2
          have q3:=C9 v1.out 3
          go_wp2_with fail
          refine bodyPost_ret (v:=.agg #[.slice B d.secs.length e,.slice B' d.cache.length e',.int .i64 d.fuse,.bool d.down]) (by simp [results,Tryz.results21,go_sem,e0,e1,e2,e3]) rfl ⟨_,fp ++ fp',rfl,?_,?_⟩
          · refine diskR.low (base := w.heap.size + 1 + 1 + 1) ?_ (by omega)
            repeat (refine Rep.setLow ?_ (by first | (simp;done) | (simp;omega)) _)
            exact Iy9 hown hown' (by omega) (fun g hg => (HFS.out g hg).2)
          · repeat (refine Below.setCell ?_ (by first | (simp; done) | (simp; omega)) _)
            exact hb
def RetBytes (w : World) (l : List UInt8) (e : Ending) (w' : World) : Prop:=∃ A c,e = .returned (.slice A l.length c)∧Owns w' w.heap.size 5 (.slice A l.length c) l∧Below w.heap.size w w'
theorem Fy9 (A : Option Addr) (c : Nat) (l : List UInt8) (w : World) (h : Reads w w.heap.size 1 A l.length (bys l)) (hl : l.length ≤ 1048576) :
 Calls Tryz.prog 52 #[.slice A l.length c] w (RetBytes w l):=by
 obtain ⟨j0,hj0,hj1,hj2,hj3⟩:=info_parts Tryz.info8;rcases A with _ | ad
 ·have h0 : l = [] := by
   rcases Nat.eq_zero_or_pos l.length with h0 | h0
   ·exact List.eq_nil_of_length_eq_zero h0
   ·obtain ⟨ad,hh,_⟩:=h.2 h0
    cases hh
  subst h0;have hnil:=Lib.run_eql_slice_nil (P:=Tryz.prog) w 22 5 none 0 c 0 0 Tryz.underlying22;go_enter Tryz.func52,Tryz.ntmps52
  go_wp2
  go_ret
  exact ⟨none,0,rfl,⟨by simp [bys],.inl ⟨rfl,rfl⟩⟩,Below.refl _ _⟩
 ·have hnil:=Lib.run_eql_slice_nil (P:=Tryz.prog) w 22 5 (some ad) l.length c 0 0 Tryz.underlying22
  go_enter Tryz.func52,Tryz.ntmps52
  go_wp2_with (at_builtin
               go_must (refine Rep.wpList_bytes _ w rfl (.tmp 5) (.tmp 6) _ rfl 5 j0 Tryz.underlying22 hj0 hj1 hj2 hj3 _ rfl w.heap.size (Rep.lit_empty w _ _ rfl) (by simp) w.heap.size (some ad) c l rfl (h.alloc (Nat.le_refl _) _) hl ?_)
               intro A3 c3 w3 hown3 hg3 hv3)
  go_ret
  exact ⟨A3,c3,rfl,hown3,((Below.refl _ _).alloc (Nat.le_refl _) _).grown hg3 (by simp) hv3⟩
theorem Ju9 {α : Type} {R : Rep α} {w : World} {B n : Nat} {A : Option Addr} {xs : List α} {cells : List Value} (hx : xs.length = n) (hr : Reads w B R.size A n cells) (he : ∀ i x,xs[i]? = some x→R.at_ w B (Rep.seg R.size i cells) x) (hs : 0 < R.size)
 (h1 : ∀ cs x,R.at_ w B cs x→∀ u,u ∈ cs→u.oneCell' = true) : ∀ u ∈ cells,u.oneCell' = true:=by
 intro u hu;obtain ⟨j,hj,rfl⟩:=List.mem_iff_getElem.1 hu;have hl:=hr.1;have hd : j / R.size < n:=(Nat.div_lt_iff_lt_mul hs).2 (by omega)
 obtain ⟨x,hx'⟩:=Rep.getElem?_of_lt hx hd;have hm:=Nat.mod_lt j hs;have hg:=Rep.seg_get (size:=R.size) (i:=j / R.size) (j:=j % R.size) (cells:=cells) hm;rw [Nat.mul_comm,Nat.div_add_mod,List.getElem?_eq_getElem hj] at hg;exact h1 _ _ (he _ x hx') _ (List.mem_of_getElem? hg)
theorem Up9 (A : Option Addr) (c n : Nat) (cells : List Value) (w : World) (h : Reads w w.heap.size 1 A n cells) (h1 : ∀ u ∈ cells,u.oneCell' = true) (hl : n ≤ 1048576) :
 Calls Tryz.prog 51 #[.slice A n c] w fun e w' => ∃ v,e = .returned v∧w'.ownsRow w.heap.size 22 1 v n cells∧Below w.heap.size w w':=by
 obtain ⟨i0,hi0,hz0,hz1,hz2⟩:=info_parts Tryz.info22;rcases A with _ | ad
 ·have hn : n = 0 := by
   rcases Nat.eq_zero_or_pos n with h0 | h0
   ·exact h0
   ·obtain ⟨ad,hh,_⟩:=h.2 h0
    cases hh
  subst hn;have hc : cells = []:=List.eq_nil_of_length_eq_zero (by have:=h.1;omega)
  subst hc;have hnil:=Lib.run_eql_slice_nil (P:=Tryz.prog) w 24 22 none 0 c 0 0 Tryz.underlying24;go_enter Tryz.func51,Tryz.ntmps51
  go_wp2
  go_ret
  exact ⟨_,rfl,⟨by simp,.inl ⟨rfl,rfl⟩⟩,Below.refl _ _⟩
 ·have hnil:=Lib.run_eql_slice_nil (P:=Tryz.prog) w 24 22 (some ad) n c 0 0 Tryz.underlying24
  go_enter Tryz.func51,Tryz.ntmps51
  go_wp2_with (at_builtin
               go_must (refine wpList_append_any _ rfl (.tmp 5) (.tmp 6) _ rfl w.heap.size 22 i0 _ 1 24 Tryz.underlying24 hi0 hz0 hz1 hz2 rfl (by omega) _ 0 [] rfl (Rep.lit_empty w _ _ rfl) w.heap.size (some ad) n c cells rfl (h.alloc (Nat.le_refl _) _) h1 (by simp only [maxLen];omega) (by omega) (by simp) ?_)
               intro v3 w3 hown3 hg3 hat3)
  go_ret
  exact ⟨v3,rfl,by simpa using hown3,((Below.refl _ _).alloc (Nat.le_refl _) _).grown hg3 (by simp) (fun k hk => ((Rep.lit_empty w 22 1 rfl).lt k hk).1)⟩
theorem Sq9 (A : Option Addr) (c n : Nat) (cells : List Value) (w : World) (h : Reads w w.heap.size 2 A n cells) (h1 : ∀ u ∈ cells,u.oneCell' = true) (hl : n ≤ 1048576) :
 Calls Tryz.prog 53 #[.slice A n c] w fun e w' => ∃ v,e = .returned v∧w'.ownsRow w.heap.size 84 2 v n cells∧Below w.heap.size w w':=by
 obtain ⟨i0,hi0,hz0,hz1,hz2⟩:=info_parts Tryz.info42;rcases A with _ | ad
 ·have hn : n = 0 := by
   rcases Nat.eq_zero_or_pos n with h0 | h0
   ·exact h0
   ·obtain ⟨ad,hh,_⟩:=h.2 h0
    cases hh
  subst hn;have hc : cells = []:=List.eq_nil_of_length_eq_zero (by have:=h.1;omega)
  subst hc;have hnil:=Lib.run_eql_slice_nil (P:=Tryz.prog) w 25 84 none 0 c 0 0 Tryz.underlying25;go_enter Tryz.func53,Tryz.ntmps53
  go_wp2
  go_ret
  exact ⟨_,rfl,⟨by simp,.inl ⟨rfl,rfl⟩⟩,Below.refl _ _⟩
 ·have hnil:=Lib.run_eql_slice_nil (P:=Tryz.prog) w 25 84 (some ad) n c 0 0 Tryz.underlying25
  go_enter Tryz.func53,Tryz.ntmps53
  go_wp2_with (at_builtin
               go_must (refine wpList_append_any _ rfl (.tmp 5) (.tmp 6) _ rfl w.heap.size 84 i0 _ 2 32 Tryz.underlying25 hi0 hz0 hz1 hz2 rfl (by omega) _ 0 [] rfl (Rep.lit_empty w _ _ rfl) w.heap.size (some ad) n c cells rfl (h.alloc (Nat.le_refl _) _) h1 (by simp only [maxLen];omega) (by omega) (by simp) ?_)
               intro v3 w3 hown3 hg3 hat3)
  go_ret
  exact ⟨v3,rfl,by simpa using hown3,((Below.refl _ _).alloc (Nat.le_refl _) _).grown hg3 (by simp) (fun k hk => ((Rep.lit_empty w 84 2 rfl).lt k hk).1)⟩
namespace Rep
variable {α : Type}
def orR (R : Rep α) : Rep (α ⊕ List Value) where
 size:=R.size
 at_:=fun w B cs x => match x with | .inl a => R.at_ w B cs a | .inr l => cs = l∧l.length = R.size
 own:=fun w base cs x fp => match x with | .inl a => R.own w base cs a fp | .inr l => cs = l∧l.length = R.size∧fp = []
 mark:=fun _ x => x
 cnt:=fun _ => 0
 len := fun {w B cs x} h => by
    cases x with
    | inl a => exact R.len h
    | inr l => obtain ⟨h1,h2⟩:=h;rw [h1];exact h2
 keep := fun {w w' B cs x} h hk => by
    cases x with
    | inl a => exact R.keep h hk
    | inr l => exact h
 more := fun {w B B' cs x} h hk => by
    cases x with
    | inl a => exact R.more h hk
    | inr l => exact h
 reads := fun {w base cs x fp} h => by
    cases x with
    | inl a => exact R.reads h
    | inr l => exact ⟨h.1,h.2.1⟩
 kept := fun {w w' base cs x fp} h hk => by
    cases x with
    | inl a => exact R.kept h hk
    | inr l => exact h
 low := fun {w base base' cs x fp} h hk => by
    cases x with
    | inl a => exact R.low h hk
    | inr l => exact h
 lt := fun {w base cs x fp} h g hg => by
    cases x with
    | inl a => exact R.lt h g hg
    | inr l => rw [h.2.2] at hg;cases hg
 nodup := fun {w base cs x fp} h => by
    cases x with
    | inl a => exact R.nodup h
    | inr l => rw [h.2.2];exact List.nodup_nil
def Sy9 (α : Type) (size n : Nat) (cells : List Value) : List (α ⊕ List Value):=(List.range n).map fun i => .inr (seg size i cells)
theorem Dr9 (size n : Nat) (cells : List Value) : (Sy9 α size n cells).length = n:=by simp [Sy9]
theorem Uz9 {size n i : Nat} (cells : List Value) (h : i < n) : (Sy9 α size n cells)[i]? = some (.inr (seg size i cells)):=by simp [Sy9,h]
def upTo (xs : List α) (size : Nat) (cells : List Value) (k : Nat) : List (α ⊕ List Value):=(xs.take k).map .inl ++ (Sy9 α size xs.length cells).drop k
theorem upTo_length (xs : List α) (size : Nat) (cells : List Value) (k : Nat) (h : k ≤ xs.length) : (upTo xs size cells k).length = xs.length:=by simp [upTo,Dr9];omega
theorem Af8 (xs : List α) (size : Nat) (cells : List Value) : upTo xs size cells 0 = Sy9 α size xs.length cells:=by simp [upTo]
theorem upTo_all (xs : List α) (size : Nat) (cells : List Value) : upTo xs size cells xs.length = xs.map .inl:=by simp [upTo,List.drop_eq_nil_of_le,Dr9]
theorem upTo_get (xs : List α) (size : Nat) (cells : List Value) {k : Nat} (h : k < xs.length) : (upTo xs size cells k)[k]? = some (.inr (seg size k cells)):=by
 unfold upTo;rw [List.getElem?_append_right (by simp;omega),List.getElem?_drop]
 simp only [List.length_map,List.length_take];rw [show k + (k - min k xs.length) = k by omega]
 exact Uz9 cells h
theorem upTo_succ (xs : List α) (size : Nat) (cells : List Value) {k : Nat} {x : α} (h : xs[k]? = some x) : (upTo xs size cells k).set k (.inl x) = upTo xs size cells (k + 1):=by
 have hk : k < xs.length:=(List.getElem?_eq_some_iff.1 h).1;unfold upTo;have hd : (Sy9 α size xs.length cells).drop k = (Sy9 α size xs.length cells)[k]'(by rw [Dr9];exact hk) :: (Sy9 α size xs.length cells).drop (k + 1):=List.drop_eq_getElem_cons _
 rw [take_get h,hd,List.set_append_right _ _ (by simp;omega)]
 have e0 : k - ((xs.take k).map (Sum.inl : α→α ⊕ List Value)).length = 0:=by simp;omega
 rw [e0,List.set_cons_zero];simp
theorem OwnRows.of_raw {R : Rep α} {e : TypeId} {w : World} {base n : Nat} {v : Value} {cells : List Value} (h : w.ownsRow base e R.size v n cells) (xs : List α) (hn : xs.length = n) : OwnRows (orR R) e w base v (upTo xs R.size cells 0) v.ownBlock.toList:=by
 subst hn;rw [Af8];refine ⟨cells,List.replicate xs.length [],by rw [Dr9];exact h,by simp [Dr9],?_,by simp,nodup_toList _⟩
 intro i x f hx hf;have hi : i < xs.length:=by have:=(List.getElem?_eq_some_iff.1 hx).1;rwa [Dr9] at this
 rw [Uz9 cells hi] at hx;injection hx with hx;subst hx;rw [List.getElem?_replicate,if_pos hi] at hf;injection hf with hf;subst hf;exact ⟨rfl,seg_length h.1 hi,rfl⟩
theorem OwnRows.of_all {R : Rep α} {e : TypeId} {w : World} {base : Nat} {v : Value} {xs : List α} {fp : List Nat} (h : OwnRows (orR R) e w base v (xs.map .inl) fp) : OwnRows R e w base v xs fp:=by
 obtain ⟨cells,fps,ho,hl,he,hfp,hn⟩:=h;refine ⟨cells,fps,by rw [List.length_map] at ho;exact ho,by simpa using hl,fun i x f hx hf => ?_,hfp,hn⟩
 exact he i (.inl x) f (by simp [hx]) hf
theorem OwnRows.poke {R : Rep α} {e : TypeId} {w : World} {base g k n c B j : Nat} {xs : List (α ⊕ List Value)} {fp : List Nat} {l : List Value} (h : OwnRows (orR R) e w base (.slice (some ⟨g,0,none⟩) n c) xs fp) (hraw : xs[k]? = some (.inr l)) {x : α} (u : Value) {f : List Nat}
 (hj : j < R.size) (hx : R.own w B (l.set j u) x f) (hB : base ≤ B) (hf : ∀ g',g' ∈ fp→g' < B) :
 ∃ fp',OwnRows (orR R) e (w.setCell ⟨g,k * R.size + j,none⟩ u) base (.slice (some ⟨g,0,none⟩) n c) (xs.set k (.inl x)) fp':=by
 have hk : k < xs.length:=(List.getElem?_eq_some_iff.1 hraw).1;obtain ⟨c0,f0,hc0,ho0,_,_⟩:=h.renew hraw;obtain ⟨rfl,hl,_⟩:=ho0;have hg : g ∈ fp:=by
  obtain ⟨_,_,_,_,_,hfp,_⟩:=h;rw [hfp];simp [Value.ownBlock]
 have hv : n = xs.length:=by
  obtain ⟨cells,fps,ho,_⟩:=h;rcases ho.2 with ⟨hv,_⟩ | ⟨_,_,_,hv,_⟩
  ·cases hv
  ·injection hv
 subst hv;obtain ⟨fp',h1,_⟩:=h.put (k:=k) (x:=.inl x) (c:=c0.set j u) (f:=f) (w':=w.setCell ⟨g,k * R.size + j,none⟩ u) hk
  (fun cells ho => ⟨_,(ho.stored _ u).1,(by have h1:=Zi9 (size:=(orR R).size) (j:=j) (u:=u) ho.1 hk;rw [if_pos (show j < (orR R).size from hj),hc0 cells ho] at h1;exact h1),fun i hi => Jt9 hj hi⟩)
  (R.low (R.kept hx fun a ha => heap_setCell_other _ _ _ _ (fun e => by have:=(R.lt hx a ha).1;have:=hf g hg;subst e;omega)) hB)
  (fun a ha ha' => by have:=(R.lt hx a ha).1;have:=hf a ha';omega)
  (fun a ha hne => heap_setCell_other _ _ _ _ (fun e => hne (by rw [e];rfl)))
 exact ⟨fp',h1⟩
end Rep
theorem byR_one {w : World} {B : Nat} (cs : List Value) (x : List UInt8) (h : byR.at_ w B cs x) : ∀ u,u ∈ cs→u.oneCell' = true:=by
 obtain ⟨A,c,rfl,_⟩:=h;intro u hu;simp at hu;subst hu;rfl
theorem wrR_one {w : World} {B : Nat} (cs : List Value) (x : Wr) (h : wrR.at_ w B cs x) : ∀ u,u ∈ cs→u.oneCell' = true:=by
 have hl : cs.length = 2:=Rep.len wrR h;obtain ⟨h3,A',c',h4,hc,hr⟩:=h;match cs,hl with
 | [u, v], _ =>
   replace h3 : [u] = [.int .i64 x.n]:=h3;replace h4 : [v] = [.slice A' x.b.length c']:=h4;injection h3 with h3;injection h4 with h4;subst h3 h4;intro a ha;simp at ha;rcases ha with rfl | rfl <;> rfl
set_option maxRecDepth 100000 in
theorem Ia9 (cs : List Value) (d : Disk) (w : World) (h : diskR.at_ w w.heap.size cs d) (hs : Ag9 d) :
 Calls Tryz.prog 18 #[.agg cs.toArray] w (RetDisk w d):=by
 obtain ⟨A,c,A',c',rfl,_,_,hr,hr'⟩:=Bl9 h;have f1:=hs.1;have f3:=hs.2.2.1;obtain ⟨_,cells,hrd,hel⟩:=hr;obtain ⟨_,cells',hrd',hel'⟩:=hr';have hone:=Ju9 (R:=byR) rfl hrd hel (by decide) byR_one
 have hone':=Ju9 (R:=wrR) rfl hrd' hel' (by decide) wrR_one
 have HO:=Lib.hid hone;have HO':=Lib.hid hone';have HE:=Lib.hid hel;have HE':=Lib.hid hel';clear hone hone' hel hel' h;go_enter Tryz.func18,Tryz.ntmps18
 go_wp2_with fail;have hW0 : Below w.heap.size w ((w.alloc (.cells #[.slice A d.secs.length c,.slice A' d.cache.length c',.int .i64 d.fuse,.bool d.down] 27)).alloc (.cells #[.slice none 0 0,.slice none 0 0,.int .i64 0,.bool false] 27)):=
  ((Below.refl w.heap.size w).alloc (Nat.le_refl _) _).alloc (by simp) _
 have v0 : ((w.alloc (.cells #[.slice A d.secs.length c,.slice A' d.cache.length c',.int .i64 d.fuse,.bool d.down] 27)).alloc (.cells #[.slice none 0 0,.slice none 0 0,.int .i64 0,.bool false] 27)).heap[w.heap.size]? = some (.cells #[.slice A d.secs.length c,.slice A' d.cache.length c',.int .i64 d.fuse,.bool d.down] 27 (0,0)):=
  (Below.heap_alloc _ _ _ (by simp)).trans (heap_alloc_new w _)
 have v1 : ((w.alloc (.cells #[.slice A d.secs.length c,.slice A' d.cache.length c',.int .i64 d.fuse,.bool d.down] 27)).alloc (.cells #[.slice none 0 0,.slice none 0 0,.int .i64 0,.bool false] 27)).heap[w.heap.size + 1]? = some (.cells #[.slice none 0 0,.slice none 0 0,.int .i64 0,.bool false] 27 (0,0)):=
  G9 _ _ (by simp)
 have hz : w.heap.size + 1 < ((w.alloc (.cells #[.slice A d.secs.length c,.slice A' d.cache.length c',.int .i64 d.fuse,.bool d.down] 27)).alloc (.cells #[.slice none 0 0,.slice none 0 0,.int .i64 0,.bool false] 27)).heap.size:=by simp
 replace hrd:=hrd.keep fun p hp => hW0.cell hp
 replace hrd':=hrd'.keep fun p hp => hW0.cell hp
 generalize hgW : (w.alloc (.cells #[.slice A d.secs.length c,.slice A' d.cache.length c',.int .i64 d.fuse,.bool d.down] 27)).alloc (.cells #[.slice none 0 0,.slice none 0 0,.int .i64 0,.bool false] 27) = W1 at hW0 v0 v1 hrd hrd' hz ⊢;clear hgW;refine (Up9 A c d.secs.length cells W1 (hrd.more (by omega)) HO.out f1).mono ?_
 rintro e w2 ⟨v,rfl,hrow,hb2⟩;have hB2:=hW0.trans (hb2.mono (by omega))
 have hz2 : W1.heap.size ≤ w2.heap.size:=hb2.size;have V0:=Lib.hid ((hb2.block w.heap.size (by omega)).trans v0)
 have V1:=Lib.hid ((hb2.block (w.heap.size + 1) (by omega)).trans v1)
 clear v0 v1 hb2;have hraw0:=Rep.OwnRows.of_raw (R:=byR) hrow d.secs rfl;clear hrow;obtain ⟨B,e,rfl,_,_,_⟩:=hraw0.reads;rw [Rep.upTo_length _ _ _ _ (Nat.zero_le _)] at hraw0 ⊢;have c0 : w2.cell? ⟨w.heap.size,0,none⟩ = some (.slice A d.secs.length c):=E9 V0.out 0;have q0:=C9 V0.out 0;go_wp2_with fail;clear c0 q0;have V0':=Lib.hid (N9 V0.out 0 (.slice B d.secs.length e));have V1':=Lib.hid ((heap_setCell_other w2 ⟨w.heap.size,0,none⟩ (w.heap.size + 1) (.slice B d.secs.length e) (by simp)).trans V1.out)
 have hB3:=hB2.setCell (p:=⟨w.heap.size,0,none⟩) (Nat.le_refl _) (.slice B d.secs.length e);have hraw1:=hraw0.setLow (p:=⟨w.heap.size,0,none⟩) (by show w.heap.size < W1.heap.size;omega) (.slice B d.secs.length e)
 have hz3 : W1.heap.size ≤ (w2.setCell ⟨w.heap.size,0,none⟩ (.slice B d.secs.length e)).heap.size:=by simpa using hz2
 clear V0 V1 hraw0 hB2 hz2
 go_loopw [14] (fun i wr => ∃ (k : Nat) (fp : List Nat), k ≤ d.secs.length ∧ i = .int .i64 k ∧ Hid (wr.heap[w.heap.size]? = some (.cells #[.slice B d.secs.length e, .slice A' d.cache.length c', .int .i64 d.fuse, .bool d.down] 27 (0, 0))) ∧ Hid (wr.heap[w.heap.size + 1]? = some (.cells #[.slice none 0 0, .slice none 0 0, .int .i64 0, .bool false] 27 (0, 0))) ∧
     Rep.OwnRows (Rep.orR byR) 22 wr W1.heap.size (.slice B d.secs.length e) (Rep.upTo d.secs 1 cells k) fp∧Below w.heap.size w wr∧W1.heap.size ≤ wr.heap.size) (fun i _ => d.secs.length - (intOf i).toNat)
 case atStart => exact ⟨0,_,by omega,rfl,V0',V1',hraw1,hB3,hz3⟩
 case round =>
  obtain ⟨k,fp,hk,rfl,v0,v1,hown,hb,hzr⟩:=hrel;clear hraw1 hB3 hz3 V0' V1';by_cases hlt : k < d.secs.length
  ·obtain ⟨l,hx⟩:=Rep.getElem?_of_lt (xs:=d.secs) rfl hlt
   have hll : l.length ≤ 1048576:=hs.2.1 l (List.mem_of_getElem? hx);have HX:=Lib.hid hx;clear hx;obtain ⟨A2,c2,hseg,hlc,hrl⟩:=Rep.keep byR (HE.out k l HX.out) (fun p hp => hb.cell hp)
   obtain ⟨g, rfl⟩ : ∃ g, B = some ⟨g, 0, none⟩ := by
       obtain ⟨cells2,fps2,ho2,_⟩:=hown;rcases ho2.2 with ⟨hv,_⟩ | ⟨g,_,_,hv,_⟩
       ·injection hv with h1 h2 h3;omega
       ·injection hv with h1;exact ⟨g,h1⟩
   have hget:=Rep.upTo_get d.secs 1 cells hlt;obtain ⟨cs1,f1',hraw,hcell,hfr,_,hg1,_,hg2,hg3,_,_⟩:=hown.open_ hget;obtain ⟨hcs,_,_⟩:=hraw;have hseg' : Rep.seg 1 k cells = [.slice A2 l.length c2]:=hseg;rw [hseg'] at hcs;subst hcs;have hc0 : wr.cell? ⟨g,k,none⟩ = some (.slice A2 l.length c2):=by have:=hcell 0 _ rfl;rwa [show k * (Rep.orR byR).size + 0 = k from Nat.mul_one k] at this
   have HG:=Lib.hid hget;have hseg0:=Lib.hid hseg';clear hcell hfr hget hseg hseg';have e0 : wr.cell? ⟨w.heap.size,0,none⟩ = some (.slice (some ⟨g,0,none⟩) d.secs.length e):=E9 v0.out 0;have i1 : (0 : Int) ≤ (k : Int):=by omega
   have i2 : (k : Int) < (d.secs.length : Int):=by omega
   have hfl : ∀ a,a ∈ fp→a < wr.heap.size:=fun a ha => (hown.lt a ha).2
   have HF:=Lib.hid hfl;clear hfl;go_wp2
   refine M9 6 [0,1,2,3] [4,5,6] (fun w' => w'.cell? ⟨w.heap.size,0,none⟩ = some (.slice (some ⟨g,0,none⟩) d.secs.length e)) (by kernel_rfl) (by kernel_rfl) e0 ?_
   iterate 4 (refine LexR.cons rfl ?_ (fun w' hw => ?_) ?_;rotate_left;focus (go_simp;(try exact rfl));(try go_frame))
   refine LexR.nil (LexW.cons rfl ?_);go_wp2_with fail;refine (Fy9 A2 c2 l wr.drew ((hrl.more hb.size).drew) hll).mono ?_;rintro e3 w3 ⟨A3,c3,rfl,hown3,hb3⟩;have hk3 : ∀ a,a < wr.heap.size→w3.heap[a]? = wr.heap[a]?:=fun a ha => hb3.block a ha
   have hz3 : wr.heap.size ≤ w3.heap.size:=hb3.size;have hB3 : Below w.heap.size w w3:=hb.trans ((belowD (Below.refl wr.heap.size wr) 1).trans hb3 |>.mono hb.size)
   have hown4:=hown.kept (w':=w3) (fun a ha => hk3 a (HF.out a ha))
   obtain ⟨⟨u0,hcl⟩,hfr,_,_⟩:=hown4.there k (by rw [Rep.upTo_length _ _ _ _ hk];show k < d.secs.length * 1;omega)
   have hS3:=Lib.hid (show w3.cell? ⟨w.heap.size,0,none⟩ = some (.slice (some ⟨g,0,none⟩) d.secs.length e) from (World.cell?_of_block (hk3 w.heap.size (by omega))).trans e0)
   go_wp2_with fail;refine ⟨(by first | exact hS3.out | exact fun _ => hS3.out),LexW.cons rfl ?_⟩
   try go_frame
   go_wp2_with fail;refine ⟨(by first | exact hS3.out | exact fun _ => hS3.out),LexW.cons rfl ?_⟩
   try go_frame
   go_wp2_with fail;refine ⟨fun h => absurd rfl h,LexW.nil ?_⟩
   obtain ⟨fp2,hput⟩:=hown4.poke (k:=k) (B:=wr.heap.size) (j:=0) (x:=l) (l:=[.slice A2 l.length c2]) (f:=(Value.slice A3 l.length c3).ownBlock.toList) (by rw [HG.out];exact congrArg (fun z => some (Sum.inr z)) hseg0.out) (.slice A3 l.length c3) (by decide) ⟨_,rfl,hown3,rfl⟩ hzr HF.out
   rw [Rep.upTo_succ d.secs 1 cells HX.out,show k * byR.size + 0 = k from Nat.mul_one k] at hput
   have V0:=Lib.hid ((heap_setCell_other w3 ⟨g,k,none⟩ w.heap.size (.slice A3 l.length c3) (by simp;omega)).trans ((hk3 w.heap.size (by omega)).trans v0.out))
   have V1:=Lib.hid ((heap_setCell_other w3 ⟨g,k,none⟩ (w.heap.size + 1) (.slice A3 l.length c3) (by simp;omega)).trans ((hk3 (w.heap.size + 1) (by omega)).trans v1.out))
   have hB5:=hB3.setCell (p:=⟨g,k,none⟩) (by simp;omega) (.slice A3 l.length c3)
   have hzz : W1.heap.size ≤ (w3.setCell ⟨g,k,none⟩ (.slice A3 l.length c3)).heap.size:=by simp;omega
   clear hk3 hb3 hS3;go_wp2_with fail;go_roundw
   case rel => exact ⟨k + 1,fp2,by omega,by go_num,V0,V1,hput,hB5,hzz⟩
   case measure => simp [intOf];omega
  ·have he : k = d.secs.length:=by omega
   subst he;rw [Rep.upTo_all] at hown;replace hown:=hown.of_all;have c1 : wr.cell? ⟨w.heap.size,1,none⟩ = some (.slice A' d.cache.length c'):=E9 v0.out 1;go_wp2_with fail;clear c1;obtain ⟨wo,rfl⟩ : ∃ wo : World,wo = wr:=⟨_,rfl⟩;have HBo:=Lib.hid hb;refine (Sq9 A' c' d.cache.length cells' wo ((hrd'.keep fun p hp => (hb.cell hp).trans (hW0.cell hp).symm).more hb.size) HO'.out f3).mono ?_
   rintro e4 w4 ⟨v4,rfl,hrow,hb4⟩;have hB4:=hb.trans (hb4.mono hb.size);have hz4 : wo.heap.size ≤ w4.heap.size:=hb4.size;have V0:=Lib.hid ((hb4.block w.heap.size (by omega)).trans v0.out)
   have V1:=Lib.hid ((hb4.block (w.heap.size + 1) (by omega)).trans v1.out)
   have hown4:=hown.of_below hb4;have hfl : ∀ a,a ∈ fp→a < wo.heap.size:=fun a ha => (hown.lt a ha).2
   have HFS:=Lib.hid hfl;clear hb4 v0 v1 hb hown hfl;have hraw0:=Rep.OwnRows.of_raw (R:=wrR) hrow d.cache rfl;clear hrow;obtain ⟨B',e',rfl,_,_,_⟩:=hraw0.reads;rw [Rep.upTo_length _ _ _ _ (Nat.zero_le _)] at hraw0 ⊢;have c1 : w4.cell? ⟨w.heap.size,1,none⟩ = some (.slice A' d.cache.length c'):=E9 V0.out 1;have q1:=C9 V0.out 1;go_wp2_with fail;clear c1 q1;have V0':=Lib.hid (N9 V0.out 1 (.slice B' d.cache.length e'));have V1':=Lib.hid ((heap_setCell_other w4 ⟨w.heap.size,1,none⟩ (w.heap.size + 1) (.slice B' d.cache.length e') (by simp)).trans V1.out)
   have hB3:=hB4.setCell (p:=⟨w.heap.size,1,none⟩) (Nat.le_refl _) (.slice B' d.cache.length e');have hraw1:=hraw0.setLow (p:=⟨w.heap.size,1,none⟩) (by show w.heap.size < wo.heap.size;omega) (.slice B' d.cache.length e')
   have hownS0:=hown4.setLow (p:=⟨w.heap.size,1,none⟩) (by show w.heap.size < W1.heap.size;omega) (.slice B' d.cache.length e')
   have hz3 : wo.heap.size ≤ (w4.setCell ⟨w.heap.size,1,none⟩ (.slice B' d.cache.length e')).heap.size:=by simpa using hz4
   clear V0 V1 hraw0 hB4 hz4 hown4
   go_loopw [33] (fun i wq => ∃ (k : Nat) (fp' : List Nat), k ≤ d.cache.length ∧ i = .int .i64 k ∧ Hid (wq.heap[w.heap.size]? = some (.cells #[.slice B d.secs.length e, .slice B' d.cache.length e', .int .i64 d.fuse, .bool d.down] 27 (0, 0))) ∧ Hid (wq.heap[w.heap.size + 1]? = some (.cells #[.slice none 0 0, .slice none 0 0, .int .i64 0, .bool false] 27 (0, 0))) ∧
       Rep.OwnRows (Rep.orR wrR) 84 wq wo.heap.size (.slice B' d.cache.length e') (Rep.upTo d.cache 2 cells' k) fp'∧Rep.OwnRows byR 22 wq W1.heap.size (.slice B d.secs.length e) d.secs fp∧Below w.heap.size w wq∧wo.heap.size ≤ wq.heap.size) (fun i _ => d.cache.length - (intOf i).toNat)
   case atStart => exact ⟨0,_,by omega,rfl,V0',V1',hraw1,hownS0,hB3,hz3⟩
   case round =>
       obtain ⟨k,fp',hk,rfl,v0,v1,hown,hownS,hb,hzr⟩:=hrel;clear hraw1 hB3 hz3 V0' V1' hownS0;by_cases hlt : k < d.cache.length
       ·obtain ⟨x,hx⟩:=Rep.getElem?_of_lt (xs:=d.cache) rfl hlt
        have hll : x.b.length ≤ 1048576:=hs.2.2.2 x (List.mem_of_getElem? hx);have HX:=Lib.hid hx;clear hx;have hatx:=Rep.keep wrR (HE'.out k x HX.out) (fun p hp => hb.cell hp)
        have hlx : (Rep.seg wrR.size k cells').length = 2:=Rep.len wrR hatx;obtain ⟨hn1,A2,c2,hn2,hlc,hrl⟩:=hatx;obtain ⟨g,rfl⟩ : ∃ g,B' = some ⟨g,0,none⟩:=by
         obtain ⟨cells2,fps2,ho2,_⟩:=hown;rcases ho2.2 with ⟨hv,_⟩ | ⟨g,_,_,hv,_⟩
         ·injection hv with h1 h2 h3;omega
         ·injection hv with h1;exact ⟨g,h1⟩
        have hseg : Rep.seg 2 k cells' = [.int .i64 x.n,.slice A2 x.b.length c2]:=by
         replace hlx : (Rep.seg 2 k cells').length = 2:=hlx;replace hn1 : (Rep.seg 2 k cells').take 1 = [.int .i64 x.n]:=hn1;replace hn2 : (Rep.seg 2 k cells').drop 1 = [.slice A2 x.b.length c2]:=hn2;rw [← List.take_append_drop 1 (Rep.seg 2 k cells'),hn1,hn2];rfl
        replace hrl : Reads wr w.heap.size 1 A2 x.b.length (bys x.b):=hrl;have hget:=Rep.upTo_get d.cache 2 cells' hlt;obtain ⟨cs1,f1',hraw,hcell,hfr,_,hg1,_,hg2,hg3,_,_⟩:=hown.open_ hget;obtain ⟨hcs,_,_⟩:=hraw;rw [hseg] at hcs;subst hcs;have hc0 : wr.cell? ⟨g,k * 2,none⟩ = some (.int .i64 x.n):=by have:=hcell 0 _ rfl;rwa [show k * (Rep.orR wrR).size + 0 = k * 2 from rfl] at this
        have hc1 : wr.cell? ⟨g,k * 2 + 1,none⟩ = some (.slice A2 x.b.length c2):=by have:=hcell 1 _ rfl;rwa [show k * (Rep.orR wrR).size + 1 = k * 2 + 1 from rfl] at this
        have HG:=Lib.hid hget;have hseg0:=Lib.hid hseg;clear hcell hfr hget hseg hn1 hn2 hlx;have e0 : wr.cell? ⟨w.heap.size,1,none⟩ = some (.slice (some ⟨g,0,none⟩) d.cache.length e'):=E9 v0.out 1;have i1 : (0 : Int) ≤ (k : Int):=by omega
        have i2 : (k : Int) < (d.cache.length : Int):=by omega
        have hfl : ∀ a,a ∈ fp'→a < wr.heap.size:=fun a ha => (hown.lt a ha).2
        have HF:=Lib.hid hfl;clear hfl;go_wp2
        have s1 : w.heap.size < wr.heap.size:=by omega
        have hkA : ∀ a,a < wr.heap.size→(wr.alloc (.cells #[.int .i64 x.n,.slice A2 x.b.length c2] 84)).heap[a]? = wr.heap[a]?:=fun a ha => Below.heap_alloc wr _ a ha
        have hvw:=heap_alloc_new wr (.cells #[.int .i64 x.n,.slice A2 x.b.length c2] 84);have hBA : Below w.heap.size w (wr.alloc (.cells #[.int .i64 x.n,.slice A2 x.b.length c2] 84)):=hb.alloc hb.size _;have hrA : Reads (wr.alloc (.cells #[.int .i64 x.n,.slice A2 x.b.length c2] 84)) w.heap.size 1 A2 x.b.length (bys x.b):=hrl.alloc hb.size _;have hzA : (wr.alloc (.cells #[.int .i64 x.n,.slice A2 x.b.length c2] 84)).heap.size = wr.heap.size + 1:=by simp
        generalize hgw : wr.alloc (.cells #[.int .i64 x.n,.slice A2 x.b.length c2] 84) = wa at hkA hvw hBA hrA hzA ⊢;clear hgw;have eA : wa.cell? ⟨w.heap.size,1,none⟩ = some (.slice (some ⟨g,0,none⟩) d.cache.length e'):=(World.cell?_of_block (hkA w.heap.size s1)).trans e0;have eW : wa.cell? ⟨wr.heap.size,1,none⟩ = some (.slice A2 x.b.length c2):=E9 hvw 1;clear e0 hc0 hc1;refine M9 8 [0,1,2,3,4] [5,6,7,8] (fun w' => w'.cell? ⟨w.heap.size,1,none⟩ = some (.slice (some ⟨g,0,none⟩) d.cache.length e')∧w'.cell? ⟨wr.heap.size,1,none⟩ = some (.slice A2 x.b.length c2)) (by kernel_rfl) (by kernel_rfl) ⟨eA,eW⟩ ?_
        iterate 5 (refine LexR.cons rfl ?_ (fun w' hw => ?_) ?_;rotate_left;focus (obtain ⟨e1,e2⟩:=hw;go_simp;(try exact rfl));(try go_frame))
        refine LexR.nil (LexW.cons rfl ?_);go_wp2_with fail;refine (Fy9 A2 c2 x.b wa.drew ((hrA.more hBA.size).drew) hll).mono ?_;rintro e3 w3 ⟨A3,c3,rfl,hown3,hb3⟩;have hk3 : ∀ a,a < wr.heap.size→w3.heap[a]? = wr.heap[a]?:=fun a ha => (hb3.block a (by show a < wa.heap.size;omega)).trans (hkA a ha)
        have hz3 : wa.heap.size ≤ w3.heap.size:=hb3.size;have hB3 : Below w.heap.size w w3:=hBA.trans ((belowD (Below.refl wa.heap.size wa) 1).trans hb3 |>.mono hBA.size)
        have hown4:=hown.kept (w':=w3) (fun a ha => hk3 a (HF.out a ha))
        have hownS4:=hownS.kept (w':=w3) (fun a ha => hk3 a (by have:=HFS.out a ha;omega))
        obtain ⟨⟨u0,hcl⟩,hfr,_,_⟩:=hown4.there (k * 2 + 1) (by rw [Rep.upTo_length _ _ _ _ hk];show k * 2 + 1 < d.cache.length * 2;omega)
        have hS3:=Lib.hid (show w3.cell? ⟨w.heap.size,1,none⟩ = some (.slice (some ⟨g,0,none⟩) d.cache.length e')∧w3.cell? ⟨wr.heap.size,1,none⟩ = some (.slice A2 x.b.length c2) from ⟨(World.cell?_of_block (hk3 w.heap.size s1)).trans ((World.cell?_of_block (hkA w.heap.size s1)).symm.trans eA),(World.cell?_of_block (hb3.block wr.heap.size (by show wr.heap.size < wa.heap.size;omega))).trans eW⟩)
        go_wp2_with fail;refine ⟨(by first | exact hS3.out | exact fun _ => hS3.out),LexW.cons rfl ?_⟩
        try go_frame
        go_wp2_with fail;refine ⟨(by first | exact hS3.out | exact fun _ => hS3.out),LexW.cons rfl ?_⟩
        try go_frame
        go_wp2_with fail;refine ⟨(by first | exact hS3.out | exact fun _ => hS3.out),LexW.cons rfl ?_⟩
        try go_frame
        go_wp2_with fail;refine ⟨fun h => absurd rfl h,LexW.nil ?_⟩
        obtain ⟨fp2,hput⟩:=hown4.poke (k:=k) (B:=wa.heap.size) (j:=1) (x:=x) (l:=[.int .i64 x.n,.slice A2 x.b.length c2]) (f:=(Value.slice A3 x.b.length c3).ownBlock.toList) (by rw [HG.out];exact congrArg (fun z => some (Sum.inr z)) hseg0.out) (.slice A3 x.b.length c3) (by decide) (Mg9 hown3) (by omega) (fun a ha => by have:=HF.out a ha;omega)
        rw [Rep.upTo_succ d.cache 2 cells' HX.out,show k * wrR.size + 1 = k * 2 + 1 from rfl] at hput
        have hgS : ∀ a,a ∈ fp→a ≠ g:=fun a ha e => by have h1:=HFS.out a ha;have h2:=hg2;omega
        have hownS5:=hownS4.kept (w':=w3.setCell ⟨g,k * 2 + 1,none⟩ (.slice A3 x.b.length c3)) (fun a ha => heap_setCell_other _ _ _ _ (hgS a ha))
        have V0:=Lib.hid ((heap_setCell_other w3 ⟨g,k * 2 + 1,none⟩ w.heap.size (.slice A3 x.b.length c3) (by simp;omega)).trans ((hk3 w.heap.size s1).trans v0.out))
        have V1:=Lib.hid ((heap_setCell_other w3 ⟨g,k * 2 + 1,none⟩ (w.heap.size + 1) (.slice A3 x.b.length c3) (by simp;omega)).trans ((hk3 (w.heap.size + 1) (by omega)).trans v1.out))
        have hB5:=hB3.setCell (p:=⟨g,k * 2 + 1,none⟩) (by simp;omega) (.slice A3 x.b.length c3)
        have hzz : wo.heap.size ≤ (w3.setCell ⟨g,k * 2 + 1,none⟩ (.slice A3 x.b.length c3)).heap.size:=by simp;omega
        clear hk3 hb3 hS3 hkA hgS;go_wp2_with fail;go_roundw
        case rel => exact ⟨k + 1,fp2,by omega,by go_num,V0,V1,hput,hownS5,hB5,hzz⟩
        case measure => simp [intOf];omega
       ·have he : k = d.cache.length:=by omega
        subst he;rw [Rep.upTo_all] at hown;replace hown:=hown.of_all;have d0 : wr.cell? ⟨w.heap.size,0,none⟩ = some (.slice B d.secs.length e):=E9 v0.out 0;have d1 : wr.cell? ⟨w.heap.size,1,none⟩ = some (.slice B' d.cache.length e'):=E9 v0.out 1;have d2 : wr.cell? ⟨w.heap.size,2,none⟩ = some (.int .i64 d.fuse):=E9 v0.out 2;have d3 : wr.cell? ⟨w.heap.size,3,none⟩ = some (.bool d.down):=E9 v0.out 3;have e0 : wr.cell? ⟨w.heap.size + 1,0,none⟩ = some (.slice none 0 0):=E9 v1.out 0;have e1 : wr.cell? ⟨w.heap.size + 1,1,none⟩ = some (.slice none 0 0):=E9 v1.out 1;have e2 : wr.cell? ⟨w.heap.size + 1,2,none⟩ = some (.int .i64 0):=E9 v1.out 2;have e3 : wr.cell? ⟨w.heap.size + 1,3,none⟩ = some (.bool false):=E9 v1.out 3;have q0:=C9 v1.out 0;have q1:=C9 v1.out 1;have q2:=C9 v1.out 2;have q3:=C9 v1.out 3;go_wp2_with fail;refine bodyPost_ret (v:=.agg #[.slice B d.secs.length e,.slice B' d.cache.length e',.int .i64 d.fuse,.bool d.down]) (by simp [results,Tryz.results18,go_sem,e0,e1,e2,e3]) rfl ⟨_,fp ++ fp',rfl,?_,?_⟩
        ·refine diskR.low (base:=W1.heap.size) ?_ (by omega)
         repeat (refine Rep.setLow ?_ (by first | (simp;done) | (simp;omega)) _)
         exact Iy9 hownS hown (by omega) (fun g hg => HFS.out g hg)
        ·repeat (refine Below.setCell ?_ (by first | (simp;done) | (simp;omega)) _)
         exact hb
end Go.Proofs.YthpkdjflndiojaaGreatDoor
