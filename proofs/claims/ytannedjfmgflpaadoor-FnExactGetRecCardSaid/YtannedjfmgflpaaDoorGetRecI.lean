/- GetRec of the program. -/
import Derived.Test.YtannedjfmgflpaaDoorGetRec
namespace Go.Proofs.YtannedjfmgflpaaDoor
open Go.RowKit
set_option maxRecDepth 100000
set_option linter.unusedVariables false

/-- The result's box is as it was made, r lies in the next. -/
structure GI (w : World) (r : Rec) (w' : World) : Prop where
  below : Below w.heap.size w w'
  zero : w'.heap[w.heap.size]? = some (.cells (recC zeroRec).toArray 42 (0, 0))
  var : w'.heap[w.heap.size + 1]? = some (.cells (recC r).toArray 42 (0, 0))
instance GI.keeps (w : World) (r : Rec) : Keeps (GI w r) := ⟨fun h x => ⟨Later.trans x.below h, (h.block _ (Array.getElem?_eq_some_iff.1 x.zero).1).trans x.zero, (h.block _ (Array.getElem?_eq_some_iff.1 x.var).1).trans x.var⟩⟩
theorem GI.set {w w' : World} {r : Rec} (h : GI w r w') (i : Nat) (u : Value) (r' : Rec) (hr : (recC r).toArray.setIfInBounds i u = (recC r').toArray) : GI w r' (w'.setCell ⟨w.heap.size + 1, i, none⟩ u) :=
  ⟨h.below.setCell (p := ⟨w.heap.size + 1, i, none⟩) (Nat.le_succ _) _, (heap_setCell_other _ _ _ _ (by simp)).trans h.zero, by rw [← hr]; exact var_set h.var i u⟩

set_option maxRecDepth 100000 in
set_option maxHeartbeats 4000000 in
theorem getRI_short (A : Option Addr) (c : Nat) (l : List UInt8) (w : World) (hl : l.length < 11) : Calls Tryd.prog 27 #[.slice A l.length c] w (RetGet w (getP l)) := by
  rw [getP_no (getOk_short hl)]
  have i1 : (l.length : Int) < 11 := by omega
  clear hl
  go_enter Tryd.func27, Tryd.ntmps27
  go_wp2_with fail
  refine bodyPost_ret (v := .tuple #[.int .i64 0, .int .i64 0, .agg #[.int .i64 0, .int .i64 0, .int .i64 0, .string ⟨#[]⟩], .bool false]) (by simp [results, Tryd.results27, go_sem]) rfl ⟨rfl, ?_⟩
  have hb := Later.alloc w (.cells #[.int .i64 0, .int .i64 0, .int .i64 0, .string ⟨#[]⟩] 42)
  exact hb

set_option maxRecDepth 100000 in
set_option maxHeartbeats 8000000 in
theorem getRI_long (A : Option Addr) (c : Nat) (l : List UInt8) (w : World) (h : Reads w w.heap.size 1 A l.length (bys l)) (hn : l.length ≤ 1048576) (hc : l.length ≤ c) (hg : Given w) (hl : 11 ≤ l.length) : Calls Tryd.prog 27 #[.slice A l.length c] w (RetGet w (getP l)) := by
  have HR0 := Lib.hid h
  have HG := Lib.hid hg
  have i1 : ¬ (l.length : Int) < 11 := by omega
  have S : GI w zeroRec ((w.alloc (.cells #[.int .i64 0, .int .i64 0, .int .i64 0, .string ⟨#[]⟩] 42)).alloc (.cells #[.int .i64 0, .int .i64 0, .int .i64 0, .string ⟨#[]⟩] 42)) := ⟨Later.trans (Later.alloc w _) (Later.alloc _ _), (Below.heap_alloc _ _ _ (by simp)).trans (heap_alloc_new w _), heap_alloc_new' _ _ (by simp)⟩
  obtain ⟨gen, hgen⟩ : ∃ x, gwVal l 0 = x := ⟨_, rfl⟩
  obtain ⟨pl, hpl⟩ : ∃ x, gwVal l 2 = x := ⟨_, rfl⟩
  obtain ⟨n, hnn⟩ : ∃ x, gwVal l 5 = x := ⟨_, rfl⟩
  obtain ⟨s, hs⟩ : ∃ x, gtS l 8 = x := ⟨_, rfl⟩
  obtain ⟨b, off, u, v, rfl, hu, hv, c4, c7⟩ := h.two (i := 4) (j := 7) (by omega) (by omega)
  have HR := Lib.hid (show recAt l = ⟨(u.toNat : Int), n, (v.toNat : Int), s⟩ by unfold recAt; rw [getD_of hu, getD_of hv, hnn, hs])
  have HGen := Lib.hid hgen
  have HPl := Lib.hid hpl
  have HN := Lib.hid hnn
  have HS := Lib.hid hs
  have HSZ := Lib.hid (show s.size ≤ 100 by rw [← hs]; exact gtS_size l 8)
  have HLEN := Lib.hid hl
  have A0 := Lib.hid (show gwNext l 0 = 2 from gwNext_in (p := 0) (by omega))
  have A2 := Lib.hid (show gwNext l 2 = 4 from gwNext_in (p := 2) (by omega))
  have A5 := Lib.hid (show gwNext l 5 = 7 from gwNext_in (p := 5) (by omega))
  have i4 : (4 : Int) < (l.length : Int) := by omega
  have i7 : (7 : Int) < (l.length : Int) := by omega
  have hub : u.toNat < 256 := u.toNat_lt
  have hvb : v.toNat < 256 := v.toNat_lt
  have C4 := Lib.hid c4
  have C7 := Lib.hid c7
  clear hgen hpl hnn hs hu hv c4 c7 h hg
  go_enter Tryd.func27, Tryd.ntmps27
  go_wp2_with fail
  generalize (w.alloc (.cells #[.int .i64 0, .int .i64 0, .int .i64 0, .string ⟨#[]⟩] 42)).alloc (.cells #[.int .i64 0, .int .i64 0, .int .i64 0, .string ⟨#[]⟩] 42) = W at S ⊢
  refine (getWord_any (some ⟨b, off, none⟩) c 0 l W ((HR0.out.below S.below).more S.below.size) (by omega)).mono ?_
  rw [HGen.out, A0.out]
  rintro e W1 ⟨rfl, n1, rfl⟩
  replace S := Keeps.keeps (F := GI w zeroRec) (Later.drewN W n1) S
  generalize W.drewN n1 = W1 at S ⊢
  go_wp2_with fail
  refine (getWord_any (some ⟨b, off, none⟩) c 2 l W1 ((HR0.out.below S.below).more S.below.size) (by omega)).mono ?_
  rw [HPl.out, A2.out]
  rintro e W2 ⟨rfl, n2, rfl⟩
  replace S := Keeps.keeps (F := GI w zeroRec) (Later.drewN W1 n2) S
  generalize W1.drewN n2 = W2 at S ⊢
  have z0 : W2.cell? ⟨w.heap.size + 1, 0, none⟩ = some (.int .i64 0) := var_cell S.var 0
  have f0 := var_frozen S.var 0
  have q4 : W2.cell? ⟨b, off + 4, none⟩ = some (.int .u8 (u.toNat : Int)) := (S.below.cell (World.block_lt_of_cell? _ _ C4.out)).trans C4.out
  go_wp2_with fail
  replace S := S.set 0 (.int .i64 (u.toNat : Int)) ⟨(u.toNat : Int), 0, 0, ⟨#[]⟩⟩ rfl
  clear z0 f0 q4
  generalize W2.setCell ⟨w.heap.size + 1, 0, none⟩ (.int .i64 (u.toNat : Int)) = W3 at S ⊢
  refine (getWord_any (some ⟨b, off, none⟩) c 5 l W3 ((HR0.out.below S.below).more S.below.size) (by omega)).mono ?_
  rw [HN.out, A5.out]
  rintro e W4 ⟨rfl, n3, rfl⟩
  replace S := Keeps.keeps (F := GI w ⟨(u.toNat : Int), 0, 0, ⟨#[]⟩⟩) (Later.drewN W3 n3) S
  generalize W3.drewN n3 = W4 at S ⊢
  have z0 : W4.cell? ⟨w.heap.size + 1, 1, none⟩ = some (.int .i64 0) := var_cell S.var 1
  have f0 := var_frozen S.var 1
  have z1 : W4.cell? ⟨w.heap.size + 1, 2, none⟩ = some (.int .i64 0) := var_cell S.var 2
  have f1 := var_frozen S.var 2
  have q7 : W4.cell? ⟨b, off + 7, none⟩ = some (.int .u8 (v.toNat : Int)) := (S.below.cell (World.block_lt_of_cell? _ _ C7.out)).trans C7.out
  have hbn : b < w.heap.size := World.block_lt_of_cell? _ _ C7.out
  go_wp2_with fail
  replace S := (S.set 1 (.int .i64 n) ⟨(u.toNat : Int), n, 0, ⟨#[]⟩⟩ rfl).set 2 (.int .i64 (v.toNat : Int)) ⟨(u.toNat : Int), n, (v.toNat : Int), ⟨#[]⟩⟩ rfl
  clear z0 f0 z1 f1 q7 hbn
  generalize (W4.setCell ⟨w.heap.size + 1, 1, none⟩ (.int .i64 n)).setCell ⟨w.heap.size + 1, 2, none⟩ (.int .i64 (v.toNat : Int)) = W5 at S ⊢
  refine (getText_any (some ⟨b, off, none⟩) c 8 l W5 ((HR0.out.below S.below).more S.below.size) (by omega) hc).mono ?_
  rw [HS.out]
  rintro e W6 ⟨rfl, rfl⟩
  have f3 := var_frozen S.var 3
  obtain ⟨q0, q1, q2, q3⟩ := rec_box S.var
  go_wp2_with fail
  replace S := S.set 3 (.string s) ⟨(u.toNat : Int), n, (v.toNat : Int), s⟩ rfl
  clear f3 q0 q1 q2 q3
  generalize W5.setCell ⟨w.heap.size + 1, 3, none⟩ (.string s) = W6 at S ⊢
  refine (putRI_any gen pl ⟨(u.toNat : Int), n, (v.toNat : Int), s⟩ W6 (Keeps.keeps (F := Given) S.below HG.out) (by have := HSZ.out; show s.size ≤ 1048576; omega)).mono ?_
  obtain ⟨x, hx⟩ : ∃ x, putR gen pl ⟨(u.toNat : Int), n, (v.toNat : Int), s⟩ = x := ⟨_, rfl⟩
  rw [hx]
  rintro e W7 ⟨v7, rfl, o7, hb⟩
  replace S := Keeps.keeps (F := GI w ⟨(u.toNat : Int), n, (v.toNat : Int), s⟩) hb S
  obtain ⟨A7, c7, rfl, _, _, r7, _⟩ := o7.shape
  obtain ⟨y, hy⟩ : ∃ y, (x == l) = y := ⟨_, rfl⟩
  have HY := Lib.hid (show (putR gen pl ⟨(u.toNat : Int), n, (v.toNat : Int), s⟩ == l) = y by rw [hx]; exact hy)
  have HY2 := Lib.hid hy
  clear hb hx hy o7
  go_wp2_with fail
  refine (bEqual_any A7 (some ⟨b, off, none⟩) c7 c _ _ x l W7 r7 ((HR0.out.below S.below).more S.below.size)).mono ?_
  rw [HY2.out]
  rintro e W8 ⟨rfl, rfl⟩
  clear r7
  have HF := Lib.hid (getOk_cmp HLEN.out HGen.out HPl.out HR.out HY.out)
  obtain ⟨z0, z1, z2, z3⟩ := rec_box S.zero
  have zf0 := var_frozen S.zero 0
  have zf1 := var_frozen S.zero 1
  have zf2 := var_frozen S.zero 2
  have zf3 := var_frozen S.zero 3
  have hbe := S.below
  have hsz : w.heap.size < W7.heap.size := (Array.getElem?_eq_some_iff.1 S.zero).1
  cases y
  · clear S hub hvb
    go_wp2_with fail
    refine bodyPost_ret (v := .tuple #[.int .i64 0, .int .i64 0, .agg #[.int .i64 0, .int .i64 0, .int .i64 0, .string ⟨#[]⟩], .bool false]) (by simp [results, Tryd.results27, go_sem, z0, z1, z2, z3]) rfl ⟨by rw [getP_no HF.out]; rfl, ?_⟩
    exact (((hbe.setCell (p := ⟨w.heap.size, 0, none⟩) (Nat.le_refl _) _).setCell (p := ⟨w.heap.size, 1, none⟩) (Nat.le_refl _) _).setCell (p := ⟨w.heap.size, 2, none⟩) (Nat.le_refl _) _).setCell (p := ⟨w.heap.size, 3, none⟩) (Nat.le_refl _) _
  · obtain ⟨d0, d1, d2, d3⟩ := rec_box S.var
    have hDn : w.heap.size ≠ w.heap.size + 1 := by omega
    clear S hub hvb
    go_wp2_with fail
    refine wp_region_lex' 100 [0, 1, 2] [3, 4, 5, 6] (fun w' => w'.cell? ⟨w.heap.size + 1, 0, none⟩ = some (.int .i64 (u.toNat : Int)) ∧ w'.cell? ⟨w.heap.size + 1, 1, none⟩ = some (.int .i64 n) ∧ w'.cell? ⟨w.heap.size + 1, 2, none⟩ = some (.int .i64 (v.toNat : Int)) ∧ w'.cell? ⟨w.heap.size + 1, 3, none⟩ = some (.string s)) (by kernel_rfl) (by kernel_rfl) ⟨d0, d1, d2, d3⟩ ?_
    iterate 3 (refine LexR.cons rfl ?_ (fun w' hw => ?_) ?_; rotate_left; focus (obtain ⟨e0, e1, e2, e3⟩ := hw; go_simp; (try exact rfl)); (try go_frame))
    refine LexR.nil (LexW.cons rfl ?_)
    go_wp2_with fail
    refine ⟨fun _ => ⟨d0, d1, d2, d3⟩, LexW.cons rfl ?_⟩
    try go_frame
    go_wp2_with fail
    refine ⟨fun _ => ⟨d0, d1, d2, d3⟩, LexW.cons rfl ?_⟩
    try go_frame
    go_wp2_with fail
    refine ⟨fun _ => ⟨kset (kset (kset (kset d0 hDn) hDn) hDn) hDn, kset (kset (kset (kset d1 hDn) hDn) hDn) hDn, kset (kset (kset (kset d2 hDn) hDn) hDn) hDn, kset (kset (kset (kset d3 hDn) hDn) hDn) hDn⟩, LexW.cons rfl ?_⟩
    try go_frame
    go_wp2_with fail
    refine ⟨fun _ => ⟨kset (kset (kset (kset d0 hDn) hDn) hDn) hDn, kset (kset (kset (kset d1 hDn) hDn) hDn) hDn, kset (kset (kset (kset d2 hDn) hDn) hDn) hDn, kset (kset (kset (kset d3 hDn) hDn) hDn) hDn⟩, LexW.nil ?_⟩
    go_wp2_with fail
    refine bodyPost_ret (v := .tuple #[.int .i64 gen, .int .i64 pl, .agg #[.int .i64 (u.toNat : Int), .int .i64 n, .int .i64 (v.toNat : Int), .string s], .bool true]) (by simp [results, Tryd.results27, go_sem, z0, z1, z2, z3]) rfl ⟨by rw [getP_yes HF.out, HGen.out, HPl.out, HR.out]; rfl, ?_⟩
    exact belowD ((((hbe.setCell (p := ⟨w.heap.size, 0, none⟩) (Nat.le_refl _) _).setCell (p := ⟨w.heap.size, 1, none⟩) (Nat.le_refl _) _).setCell (p := ⟨w.heap.size, 2, none⟩) (Nat.le_refl _) _).setCell (p := ⟨w.heap.size, 3, none⟩) (Nat.le_refl _) _) 1

theorem getRI_any (A : Option Addr) (c : Nat) (l : List UInt8) (w : World) (h : Reads w w.heap.size 1 A l.length (bys l)) (hn : l.length ≤ 1048576) (hc : l.length ≤ c) (hg : Given w) : Calls Tryd.prog 27 #[.slice A l.length c] w (RetGet w (getP l)) := by
  by_cases hl : l.length < 11
  · exact getRI_short A c l w hl
  · exact getRI_long A c l w h hn hc hg (by omega)

end Go.Proofs.YtannedjfmgflpaaDoor
