/- The draws of chapter 2's laws. spec.DrawFallDisk. -/
import Derived.Test.YtkpcjnamoejjjaaAll
import Derived.Test.YtkpcjnamoejjjaaDrawAny
namespace Go.Proofs.Ytkpcjnamoejjjaa
open Go.RowKit Go.Maps
set_option linter.unusedVariables false

def RetDiskDrawn (w : World) (P : Disk → Prop) (e : Ending) (w' : World) : Prop := ∃ d cs, e = .returned (.agg cs.toArray) ∧ P d ∧ diskR.at_ w' w'.heap.size cs d ∧ Below w.heap.size w w'
def RetDrawWS (w : World) (e : Ending) (w' : World) : Prop :=
  ∃ (d : Disk) (cs : List Value) (n : Int) (A : Option Addr) (c : Nat) (l : List UInt8), e = .returned (.tuple #[.agg cs.toArray, .int .i64 n, .slice A l.length c]) ∧ AnyDisk d ∧ diskR.at_ w' w'.heap.size cs d ∧ (-1 ≤ n ∧ n ≤ 5) ∧ byR.at_ w' w'.heap.size [.slice A l.length c] l ∧ l.length ≤ 161 ∧ Below w.heap.size w w'

/-- The memory at the end of a draw: the cursor, the disk d in the variable D, the result's variable R. -/
structure AtEnd (w : World) (R D lo g base : Nat) (A : Option Addr) (n c : Nat) (code : List UInt8) (d : Disk) (A5 B7 : Option Addr) (c6 d8 : Nat) (fp : List Nat) (w' : World) : Prop where
  cur : Cur w' lo g A n c code
  own : diskR.own w' base [.slice A5 d.secs.length c6, .slice B7 d.cache.length d8, .int .i64 d.fuse, .bool d.down] d fp
  var : w'.heap[D]? = some (.cells #[.slice A5 d.secs.length c6, .slice B7 d.cache.length d8, .int .i64 d.fuse, .bool d.down] 27 (0, 0))
  res : ∃ a b e f, w'.heap[R]? = some (.cells #[a, b, e, f] 27 (0, 0))
  only : Rep.Only w w' []
  ord : w.heap.size ≤ R ∧ R < base ∧ base ≤ D ∧ g < base ∧ R < g ∧ lo ≤ R
  fpD : ∀ a, a ∈ fp → a < D
theorem AtEnd.grow {w : World} {R D lo g base : Nat} {A : Option Addr} {n c : Nat} {code : List UInt8} {d : Disk} {A5 B7 : Option Addr} {c6 d8 : Nat} {fp : List Nat} {w1 w2 : World} (h : AtEnd w R D lo g base A n c code d A5 B7 c6 d8 fp w1)
    (ho : Rep.Only w1 w2 [g]) (hc : Cur w2 lo g A n c code) : AtEnd w R D lo g base A n c code d A5 B7 c6 d8 fp w2 := by
  obtain ⟨h1, h2, h3, h4, h5, h6⟩ := h.ord
  have hD : D < w1.heap.size := (Array.getElem?_eq_some_iff.1 h.var).1
  obtain ⟨a, b, e, f, hr⟩ := h.res
  exact ⟨hc, Rep.own_only h.own ho (fun a ha hb => by have := (Rep.lt diskR h.own a ha).1; simp at hb; omega), (ho.block D hD (by simp; omega)).trans h.var, ⟨a, b, e, f, (ho.block R (by omega) (by simp; omega)).trans hr⟩, h.only.then ho (fun a ha => .inr (by simp at ha; omega)), h.ord, h.fpD⟩
theorem AtEnd.cells {w : World} {R D lo g base : Nat} {A : Option Addr} {n c : Nat} {code : List UInt8} {d : Disk} {A5 B7 : Option Addr} {c6 d8 : Nat} {fp : List Nat} {w1 : World} (h : AtEnd w R D lo g base A n c code d A5 B7 c6 d8 fp w1) :
    w1.cell? ⟨D, 0, none⟩ = some (.slice A5 d.secs.length c6) ∧ w1.cell? ⟨D, 1, none⟩ = some (.slice B7 d.cache.length d8) ∧ w1.cell? ⟨D, 2, none⟩ = some (.int .i64 d.fuse) ∧ w1.cell? ⟨D, 3, none⟩ = some (.bool d.down) :=
  ⟨var_cell h.var 0, var_cell h.var 1, var_cell h.var 2, var_cell h.var 3⟩
theorem AtEnd.room {w : World} {R D lo g base : Nat} {A : Option Addr} {n c : Nat} {code : List UInt8} {d : Disk} {A5 B7 : Option Addr} {c6 d8 : Nat} {fp : List Nat} {w1 : World} (h : AtEnd w R D lo g base A n c code d A5 B7 c6 d8 fp w1) :
    ∃ a b e f, w1.cell? ⟨R, 0, none⟩ = some a ∧ w1.cell? ⟨R, 1, none⟩ = some b ∧ w1.cell? ⟨R, 2, none⟩ = some e ∧ w1.cell? ⟨R, 3, none⟩ = some f ∧ w1.frozen? ⟨R, 0, none⟩ = false ∧ w1.frozen? ⟨R, 1, none⟩ = false ∧ w1.frozen? ⟨R, 2, none⟩ = false ∧ w1.frozen? ⟨R, 3, none⟩ = false := by
  obtain ⟨a, b, e, f, hr⟩ := h.res
  exact ⟨a, b, e, f, var_cell hr 0, var_cell hr 1, var_cell hr 2, var_cell hr 3, var_frozen hr 0, var_frozen hr 1, var_frozen hr 2, var_frozen hr 3⟩
/-- The answer's first part is stored. -/
theorem AtEnd.put {w : World} {R D lo g base : Nat} {A : Option Addr} {n c : Nat} {code : List UInt8} {d : Disk} {A5 B7 : Option Addr} {c6 d8 : Nat} {fp : List Nat} {w1 : World} (h : AtEnd w R D lo g base A n c code d A5 B7 c6 d8 fp w1) :
    AtEnd w R D lo g base A n c code d A5 B7 c6 d8 fp ((((w1.setCell ⟨R, 0, none⟩ (.slice A5 d.secs.length c6)).setCell ⟨R, 1, none⟩ (.slice B7 d.cache.length d8)).setCell ⟨R, 2, none⟩ (.int .i64 d.fuse)).setCell ⟨R, 3, none⟩ (.bool d.down)) ∧
    Hid (((((w1.setCell ⟨R, 0, none⟩ (.slice A5 d.secs.length c6)).setCell ⟨R, 1, none⟩ (.slice B7 d.cache.length d8)).setCell ⟨R, 2, none⟩ (.int .i64 d.fuse)).setCell ⟨R, 3, none⟩ (.bool d.down)).heap[R]? = some (.cells #[.slice A5 d.secs.length c6, .slice B7 d.cache.length d8, .int .i64 d.fuse, .bool d.down] 27 (0, 0))) := by
  obtain ⟨h1, h2, h3, h4, h5, h6⟩ := h.ord
  have hD : D < w1.heap.size := (Array.getElem?_eq_some_iff.1 h.var).1
  obtain ⟨a, b, e, f, hr⟩ := h.res
  have o := put4_only w1 R (.slice A5 d.secs.length c6) (.slice B7 d.cache.length d8) (.int .i64 d.fuse) (.bool d.down)
  have hv := put4_var (a := .slice A5 d.secs.length c6) (b := .slice B7 d.cache.length d8) (c := .int .i64 d.fuse) (d := .bool d.down) hr
  exact ⟨⟨h.cur.only o (by simp; omega) (fun a ha => by simp at ha; omega), Rep.own_only h.own o (fun a ha hb => by have := (Rep.lt diskR h.own a ha).1; simp at hb; omega), (o.block D hD (by simp; omega)).trans h.var, ⟨_, _, _, _, hv⟩, h.only.then o (fun a ha => .inr (by simp at ha; omega)), h.ord, h.fpD⟩, Lib.hid hv⟩

set_option maxRecDepth 100000 in
set_option maxHeartbeats 4000000 in
theorem drawDisk_any (A : Option Addr) (c : Nat) (code : List UInt8) (w : World) (h : Reads w w.heap.size 1 A code.length (bys code)) (hn : code.length ≤ 1048576) :
    Calls Try.prog 19 #[.slice A code.length c] w (RetDiskDrawn w DiskGood) := by
  go_enter Try.func19, Try.ntmps19
  go_wp2_with fail
  have ho1 := Rep.only_alloc w (.cells #[.slice none 0 0, .slice none 0 0, .int .i64 0, .bool false] 27)
  have hv1 := heap_alloc_new w (.cells #[.slice none 0 0, .slice none 0 0, .int .i64 0, .bool false] 27)
  have hr1 := (h.alloc (Nat.le_refl _) (.cells #[.slice none 0 0, .slice none 0 0, .int .i64 0, .bool false] 27)).more (show w.heap.size ≤ (w.alloc (.cells #[.slice none 0 0, .slice none 0 0, .int .i64 0, .bool false] 27)).heap.size by simp)
  have hs1 : w.heap.size + 1 ≤ (w.alloc (.cells #[.slice none 0 0, .slice none 0 0, .int .i64 0, .bool false] 27)).heap.size := by simp
  generalize hgW : w.alloc (.cells #[.slice none 0 0, .slice none 0 0, .int .i64 0, .bool false] 27) = W1 at ho1 hv1 hs1 hr1 ⊢
  clear hgW
  have V1 := Lib.hid hv1
  clear hv1 h
  refine (l1New_any A c code W1 hr1 hn).mono ?_
  rintro e W2 ⟨g, rfl, hc2, hb2⟩
  have hlo := hc2.from_
  have ho2 := Rep.only_of_below hb2
  have V2 := Rep.var_only V1 ho2 (by omega) (by simp)
  have O2 := ho1.trans ho2
  have s2 := ho2.size
  clear hb2 ho1 ho2 V1 hr1
  go_wp2_with fail
  refine (l2Draw_any W1.heap.size g A code.length c code W2 hc2 (by omega)).mono ?_
  rintro e W3 ⟨d, cs, fp, rfl, hgood, Oo, hc3, ho⟩
  obtain ⟨A5, c6, B7, d8, rfl⟩ := disk_own_shape Oo
  have V3 := Rep.var_only V2 ho (by omega) (by simp; omega)
  have O3 : Rep.Only w W3 [] := O2.then ho (fun a ha => .inr (by simp at ha; omega))
  have s3 := ho.size
  have q0 : W3.cell? ⟨w.heap.size, 0, none⟩ = some (.slice none 0 0) := var_cell V3.out 0
  have q1 : W3.cell? ⟨w.heap.size, 1, none⟩ = some (.slice none 0 0) := var_cell V3.out 1
  have q2 : W3.cell? ⟨w.heap.size, 2, none⟩ = some (.int .i64 0) := var_cell V3.out 2
  have q3 : W3.cell? ⟨w.heap.size, 3, none⟩ = some (.bool false) := var_cell V3.out 3
  have f0 := var_frozen V3.out 0
  have f1 := var_frozen V3.out 1
  have f2 := var_frozen V3.out 2
  have f3 := var_frozen V3.out 3
  have lr : w.heap.size < W3.heap.size := by omega
  have o8 := put4_only W3 w.heap.size (.slice A5 d.secs.length c6) (.slice B7 d.cache.length d8) (.int .i64 d.fuse) (.bool d.down)
  have oz := O3.then o8 (fun a ha => .inr (by simp at ha; omega))
  have Oz := Rep.own_only Oo o8 (fun a ha hb => by have := (Rep.lt diskR Oo a ha).1; simp at hb; omega)
  have HE := Lib.hid (And.intro (Rep.reads diskR Oz) (Rep.Only.below (Below.refl _ _) oz (Nat.le_refl _) (fun a ha => by cases ha)))
  clear Oo oz Oz o8 ho hc2 hc3 V2 V3 O2 O3
  go_wp2_with fail
  exact bodyPost_ret (v := .agg #[.slice A5 d.secs.length c6, .slice B7 d.cache.length d8, .int .i64 d.fuse, .bool d.down]) (by simp [results, Try.results19, go_sem, q0, q1, q2, q3]) rfl ⟨d, _, rfl, hgood, HE.out.1, HE.out.2⟩

set_option maxRecDepth 100000 in
set_option maxHeartbeats 4000000 in
theorem drawWS_any (A : Option Addr) (c : Nat) (code : List UInt8) (w : World) (h : Reads w w.heap.size 1 A code.length (bys code)) (hn : code.length ≤ 1048576) :
    Calls Try.prog 9 #[.slice A code.length c] w (RetDrawWS w) := by
  go_enter Try.func9, Try.ntmps9
  go_wp2_with fail
  have ho1 := Rep.only_alloc w (.cells #[.slice none 0 0, .slice none 0 0, .int .i64 0, .bool false] 27)
  have hv1 := heap_alloc_new w (.cells #[.slice none 0 0, .slice none 0 0, .int .i64 0, .bool false] 27)
  have hr1 := (h.alloc (Nat.le_refl _) (.cells #[.slice none 0 0, .slice none 0 0, .int .i64 0, .bool false] 27)).more (show w.heap.size ≤ (w.alloc (.cells #[.slice none 0 0, .slice none 0 0, .int .i64 0, .bool false] 27)).heap.size by simp)
  have hs1 : w.heap.size + 1 ≤ (w.alloc (.cells #[.slice none 0 0, .slice none 0 0, .int .i64 0, .bool false] 27)).heap.size := by simp
  generalize hgW : w.alloc (.cells #[.slice none 0 0, .slice none 0 0, .int .i64 0, .bool false] 27) = W1 at ho1 hv1 hs1 hr1 ⊢
  clear hgW
  have V1 := Lib.hid hv1
  clear hv1
  refine (l1New_any A c code W1 hr1 hn).mono ?_
  rintro e W2 ⟨g, rfl, hc2, hb2⟩
  have hlo := hc2.from_
  replace hc2 : Cur W2 w.heap.size g A code.length c code := ⟨by omega, (h.keep fun p hp => World.cell?_of_block (ho1.block p.block hp (by simp))).keep fun p hp => hb2.cell (by omega), hc2.blk⟩
  have ho2 := Rep.only_of_below hb2
  have V2 := Rep.var_only V1 ho2 (by omega) (by simp)
  have O2 := ho1.trans ho2
  have s2 := ho2.size
  have hg2 := hc2.lt
  clear hb2 ho1 ho2 V1 hr1 h
  go_wp2_with fail
  refine (l2Any_any w.heap.size g A code.length c code W2 hc2 (by omega)).mono ?_
  rintro e W3 ⟨d, cs, fp, rfl, hany, Oo, hc3, ho⟩
  obtain ⟨A5, c6, B7, d8, rfl⟩ := disk_own_shape Oo
  have V3 := Rep.var_only V2 ho (by omega) (by simp; omega)
  have O3 : Rep.Only w W3 [] := O2.then ho (fun a ha => .inr (by simp at ha; omega))
  have s3 := ho.size
  clear ho hc2 V2 O2
  go_wp2_with fail
  have ho1 := Rep.only_alloc W3 (.cells #[.slice A5 d.secs.length c6, .slice B7 d.cache.length d8, .int .i64 d.fuse, .bool d.down] 27)
  have hv1 := heap_alloc_new W3 (.cells #[.slice A5 d.secs.length c6, .slice B7 d.cache.length d8, .int .i64 d.fuse, .bool d.down] 27)
  have hs4 : W3.heap.size + 1 ≤ (W3.alloc (.cells #[.slice A5 d.secs.length c6, .slice B7 d.cache.length d8, .int .i64 d.fuse, .bool d.down] 27)).heap.size := by simp
  generalize hgW : W3.alloc (.cells #[.slice A5 d.secs.length c6, .slice B7 d.cache.length d8, .int .i64 d.fuse, .bool d.down] 27) = W4 at ho1 hv1 hs4 ⊢
  clear hgW
  have hc4 := hc3.only ho1 (by simp) (fun a ha => by cases ha)
  have O4 := O3.trans ho1
  have V4 := Rep.var_only V3 ho1 (by omega) (by simp)
  have Oo4 := Rep.own_only Oo ho1 (fun a ha hb => by cases hb)
  have L := Lib.hid (fun a ha => (Rep.lt diskR Oo a ha))
  have VD4 := Lib.hid hv1
  clear ho1 hv1 hc3 V3 O3 Oo
  refine (l1Below_any w.heap.size g A code.length c code 7 W4 hc4 (by omega) (by omega) (by omega)).mono ?_
  rintro e W5 ⟨x, hx, rfl, hc, hg5⟩
  have ho := only_g hg5
  have hV := Rep.var_only V4 ho (by omega) (by simp; omega)
  have VD := Rep.var_only VD4 ho (by omega) (by simp; omega)
  have O5 : Rep.Only w W5 [] := O4.then ho (fun a ha => .inr (by simp at ha; omega))
  have Oo5 := Rep.own_only Oo4 ho (fun a ha hb => by have := (L.out a ha).1; simp at hb; omega)
  have s5 := ho.size
  clear hg5 ho hc4 V4 O4 Oo4 VD4
  obtain ⟨y, hyx⟩ : ∃ y : Int, (x : Int) - 1 = y := ⟨_, rfl⟩
  have hy1 : -1 ≤ y ∧ y ≤ 5 := by omega
  have HY := Lib.hid hy1
  have HS : W3.heap.size < W5.heap.size := by omega
  have hRg : w.heap.size < g := by omega
  have hgD : g < W3.heap.size := by omega
  have hBD : W2.heap.size ≤ W3.heap.size := by omega
  have hgB : g < W2.heap.size := by omega
  have J : AtEnd w w.heap.size W3.heap.size w.heap.size g W2.heap.size A code.length c code d A5 B7 c6 d8 fp W5 :=
    ⟨hc, Oo5, VD.out, ⟨_, _, _, _, hV.out⟩, O5, ⟨Nat.le_refl _, by omega, hBD, hgB, hRg, Nat.le_refl _⟩, fun a ha => (L.out a ha).2⟩
  clear hc Oo5 VD hV O5 L s2 s3 s5 hs1 hs4 hgD HS
  generalize W2.heap.size = base at J hBD hgB
  generalize W3.heap.size = D at J hBD ⊢
  go_wp2_with fail
  refine wp_region_lex' 100 [0, 1, 2, 3] [4, 5, 6, 7, 8, 9] (fun w' => w'.cell? ⟨D, 0, none⟩ = some (.slice A5 d.secs.length c6) ∧ w'.cell? ⟨D, 1, none⟩ = some (.slice B7 d.cache.length d8) ∧ w'.cell? ⟨D, 2, none⟩ = some (.int .i64 d.fuse) ∧ w'.cell? ⟨D, 3, none⟩ = some (.bool d.down)) (by kernel_rfl) (by kernel_rfl) J.cells ?_
  iterate 4 (refine LexR.cons rfl ?_ (fun w' hw => ?_) ?_; rotate_left; focus (obtain ⟨e1, e2, e3, e4⟩ := hw; go_simp; (try exact rfl)); (try go_frame))
  refine LexR.nil (LexW.cons rfl ?_)
  try go_frame
  go_wp2_with fail
  have o1 : Rep.Only W5 (W5.drew.alloc (.cells (([0, 3, 160, 161, 2] : List Int).map (Value.int .i64)).toArray 3)) [g] := ((Rep.only_drew W5).trans (Rep.only_alloc _ _)).mono (by simp)
  have J1 := J.grow o1 (J.cur.only ((Rep.only_drew W5).trans (Rep.only_alloc _ _)) (by simp) (fun a ha => by cases ha))
  refine ⟨fun _ => J1.cells, LexW.cons rfl ?_⟩
  try go_frame
  go_wp2_with fail
  refine (draw_int w.heap.size g A code.length c code [0, 3, 160, 161, 2] W5.drew J.cur.drew (by omega) (by decide) (by decide)).mono ?_
  rintro e wb ⟨z, hz, rfl, hcb, og⟩
  obtain ⟨m, rfl, hm⟩ : ∃ m : Nat, z = (m : Int) ∧ m ≤ 161 := by
    simp only [List.mem_cons, List.not_mem_nil, or_false] at hz
    rcases hz with rfl | rfl | rfl | rfl | rfl
    · exact ⟨0, rfl, by omega⟩
    · exact ⟨3, rfl, by omega⟩
    · exact ⟨160, rfl, by omega⟩
    · exact ⟨161, rfl, by omega⟩
    · exact ⟨2, rfl, by omega⟩
  have Jb := J.grow (((Rep.only_drew W5).mono (by simp) : Rep.Only W5 W5.drew [g]).trans og) hcb
  clear J J1 o1 og hcb hz
  go_wp2_with fail
  refine ⟨fun _ => Jb.cells, LexW.cons rfl ?_⟩
  try go_frame
  go_wp2_with fail
  refine (l1Bytes_any w.heap.size g A code.length c code m _ Jb.cur (by omega) (by omega)).mono ?_
  rintro e wc ⟨v, l, hl, rfl, hown, hcc, hgc⟩
  have Jc := Jb.grow (only_g hgc) hcc
  have hbl := hgc.size
  have hwb := Jb.only.size
  have hgb := Jb.cur.lt
  obtain ⟨A2, c2, rfl, hlc, hcm, hr2, _⟩ := hown.shape
  have hll : l.length ≤ 161 := by omega
  clear Jb hcc hgc hl
  go_wp2_with fail
  refine ⟨fun _ => Jc.cells, LexW.cons rfl ?_⟩
  obtain ⟨k0, k1, k2, k3, q0, q1, q2, q3, f0, f1, f2, f3⟩ := Jc.room
  try go_frame
  go_wp2_with fail
  obtain ⟨Jd, VR⟩ := Jc.put
  have od := put4_only wc w.heap.size (.slice A5 d.secs.length c6) (.slice B7 d.cache.length d8) (.int .i64 d.fuse) (.bool d.down)
  have hby := Rep.own_only (R := byR) (cs := [.slice A2 l.length c2]) (x := l) ⟨_, rfl, hown, rfl⟩ od (fun a ha hb => by have := (hown.lt a (by simpa using ha)).1; have := Jd.ord; simp at hb; omega)
  clear q0 q1 q2 q3 f0 f1 f2 f3 hown hr2 od
  generalize hgW : (((wc.setCell ⟨w.heap.size, 0, none⟩ (.slice A5 d.secs.length c6)).setCell ⟨w.heap.size, 1, none⟩ (.slice B7 d.cache.length d8)).setCell ⟨w.heap.size, 2, none⟩ (.int .i64 d.fuse)).setCell ⟨w.heap.size, 3, none⟩ (.bool d.down) = wd at Jd VR hby ⊢
  clear hgW
  refine ⟨fun _ => Jd.cells, LexW.cons rfl ?_⟩
  try go_frame
  go_wp2_with fail
  refine ⟨fun _ => Jd.cells, LexW.cons rfl ?_⟩
  try go_frame
  go_wp2_with fail
  refine ⟨fun _ => Jd.cells, LexW.nil ?_⟩
  have q0 : wd.cell? ⟨w.heap.size, 0, none⟩ = some (.slice A5 d.secs.length c6) := var_cell VR.out 0
  have q1 : wd.cell? ⟨w.heap.size, 1, none⟩ = some (.slice B7 d.cache.length d8) := var_cell VR.out 1
  have q2 : wd.cell? ⟨w.heap.size, 2, none⟩ = some (.int .i64 d.fuse) := var_cell VR.out 2
  have q3 : wd.cell? ⟨w.heap.size, 3, none⟩ = some (.bool d.down) := var_cell VR.out 3
  go_wp2_with fail
  exact bodyPost_ret (v := .tuple #[.agg #[.slice A5 d.secs.length c6, .slice B7 d.cache.length d8, .int .i64 d.fuse, .bool d.down], .int .i64 y, .slice A2 l.length c2]) (by simp [results, Try.results9, go_sem, q0, q1, q2, q3]) rfl
    ⟨d, _, y, A2, c2, l, rfl, hany, Rep.reads diskR Jd.own, HY.out, Rep.reads byR hby, hll, Rep.Only.below (Below.refl _ _) Jd.only (Nat.le_refl _) (fun a ha => by cases ha)⟩

end Go.Proofs.Ytkpcjnamoejjjaa

namespace Go.Proofs.Ytkpcjnamoejjjaa
open Go.RowKit Go.Maps
set_option linter.unusedVariables false

def RetDrawFall (w : World) (e : Ending) (w' : World) : Prop :=
  ∃ (d : Disk) (cs : List Value) (n : Int), e = .returned (.tuple #[.agg cs.toArray, .int .i64 n]) ∧ AnyDisk d ∧ diskR.at_ w' w'.heap.size cs d ∧ (-1 ≤ n ∧ n ≤ 1073741824) ∧ Below w.heap.size w w'

set_option maxRecDepth 100000 in
set_option maxHeartbeats 4000000 in
theorem drawFall_any (A : Option Addr) (c : Nat) (code : List UInt8) (w : World) (h : Reads w w.heap.size 1 A code.length (bys code)) (hn : code.length ≤ 1048576) :
    Calls Try.prog 21 #[.slice A code.length c] w (RetDrawFall w) := by
  go_enter Try.func21, Try.ntmps21
  go_wp2_with fail
  have ho1 := Rep.only_alloc w (.cells #[.slice none 0 0, .slice none 0 0, .int .i64 0, .bool false] 27)
  have hv1 := heap_alloc_new w (.cells #[.slice none 0 0, .slice none 0 0, .int .i64 0, .bool false] 27)
  have hr1 := (h.alloc (Nat.le_refl _) (.cells #[.slice none 0 0, .slice none 0 0, .int .i64 0, .bool false] 27)).more (show w.heap.size ≤ (w.alloc (.cells #[.slice none 0 0, .slice none 0 0, .int .i64 0, .bool false] 27)).heap.size by simp)
  have hs1 : w.heap.size + 1 ≤ (w.alloc (.cells #[.slice none 0 0, .slice none 0 0, .int .i64 0, .bool false] 27)).heap.size := by simp
  generalize hgW : w.alloc (.cells #[.slice none 0 0, .slice none 0 0, .int .i64 0, .bool false] 27) = W1 at ho1 hv1 hs1 hr1 ⊢
  clear hgW
  have V1 := Lib.hid hv1
  clear hv1
  refine (l1New_any A c code W1 hr1 hn).mono ?_
  rintro e W2 ⟨g, rfl, hc2, hb2⟩
  have hlo := hc2.from_
  replace hc2 : Cur W2 w.heap.size g A code.length c code := ⟨by omega, (h.keep fun p hp => World.cell?_of_block (ho1.block p.block hp (by simp))).keep fun p hp => hb2.cell (by omega), hc2.blk⟩
  have ho2 := Rep.only_of_below hb2
  have V2 := Rep.var_only V1 ho2 (by omega) (by simp)
  have O2 := ho1.trans ho2
  have s2 := ho2.size
  have hg2 := hc2.lt
  clear hb2 ho1 ho2 V1 hr1 h
  go_wp2_with fail
  refine (l2Any_any w.heap.size g A code.length c code W2 hc2 (by omega)).mono ?_
  rintro e W3 ⟨d, cs, fp, rfl, hany, Oo, hc3, ho⟩
  obtain ⟨A5, c6, B7, d8, rfl⟩ := disk_own_shape Oo
  have V3 := Rep.var_only V2 ho (by omega) (by simp; omega)
  have O3 : Rep.Only w W3 [] := O2.then ho (fun a ha => .inr (by simp at ha; omega))
  have s3 := ho.size
  clear ho hc2 V2 O2
  go_wp2_with fail
  have ho1 := Rep.only_alloc W3 (.cells #[.slice A5 d.secs.length c6, .slice B7 d.cache.length d8, .int .i64 d.fuse, .bool d.down] 27)
  have hv1 := heap_alloc_new W3 (.cells #[.slice A5 d.secs.length c6, .slice B7 d.cache.length d8, .int .i64 d.fuse, .bool d.down] 27)
  have hs4 : W3.heap.size + 1 ≤ (W3.alloc (.cells #[.slice A5 d.secs.length c6, .slice B7 d.cache.length d8, .int .i64 d.fuse, .bool d.down] 27)).heap.size := by simp
  generalize hgW : W3.alloc (.cells #[.slice A5 d.secs.length c6, .slice B7 d.cache.length d8, .int .i64 d.fuse, .bool d.down] 27) = W4 at ho1 hv1 hs4 ⊢
  clear hgW
  have hc4 := hc3.only ho1 (by simp) (fun a ha => by cases ha)
  have O4 := O3.trans ho1
  have V4 := Rep.var_only V3 ho1 (by omega) (by simp)
  have Oo4 := Rep.own_only Oo ho1 (fun a ha hb => by cases hb)
  have L := Lib.hid (fun a ha => (Rep.lt diskR Oo a ha))
  have VD4 := Lib.hid hv1
  clear ho1 hv1 hc3 V3 O3 Oo
  have hc := hc4
  have hV := V4
  have VD := VD4
  have Oo5 := Oo4
  have O5 := O4
  have s5 := hs4
  clear hc4 V4 VD4 Oo4 O4
  obtain ⟨W5, rfl⟩ : ∃ W5, W5 = W4 := ⟨_, rfl⟩
  have HS : W3.heap.size < W5.heap.size := by omega
  have hRg : w.heap.size < g := by omega
  have hgD : g < W3.heap.size := by omega
  have hBD : W2.heap.size ≤ W3.heap.size := by omega
  have hgB : g < W2.heap.size := by omega
  have J : AtEnd w w.heap.size W3.heap.size w.heap.size g W2.heap.size A code.length c code d A5 B7 c6 d8 fp W5 :=
    ⟨hc, Oo5, VD.out, ⟨_, _, _, _, hV.out⟩, O5, ⟨Nat.le_refl _, by omega, hBD, hgB, hRg, Nat.le_refl _⟩, fun a ha => (L.out a ha).2⟩
  clear hc Oo5 VD hV O5 L s2 s3 s5 hs1 hs4 hgD HS
  generalize W2.heap.size = base at J hBD hgB
  generalize W3.heap.size = D at J hBD ⊢
  go_wp2_with fail
  refine wp_region_lex' 100 [0, 1] [2, 3, 4, 5] (fun w' => w'.cell? ⟨D, 0, none⟩ = some (.slice A5 d.secs.length c6) ∧ w'.cell? ⟨D, 1, none⟩ = some (.slice B7 d.cache.length d8) ∧ w'.cell? ⟨D, 2, none⟩ = some (.int .i64 d.fuse) ∧ w'.cell? ⟨D, 3, none⟩ = some (.bool d.down)) (by kernel_rfl) (by kernel_rfl) J.cells ?_
  iterate 2 (refine LexR.cons rfl ?_ (fun w' hw => ?_) ?_; rotate_left; focus (obtain ⟨e1, e2, e3, e4⟩ := hw; go_simp; (try exact rfl)); (try go_frame))
  refine LexR.nil (LexW.cons rfl ?_)
  try go_frame
  go_wp2_with fail
  have o1 : Rep.Only W5 (W5.drew.alloc (.cells (([0, 1, 2, 5, 255, 1073741823, 1073741824, -1] : List Int).map (Value.int .i64)).toArray 3)) [g] := ((Rep.only_drew W5).trans (Rep.only_alloc _ _)).mono (by simp)
  have J1 := J.grow o1 (J.cur.only ((Rep.only_drew W5).trans (Rep.only_alloc _ _)) (by simp) (fun a ha => by cases ha))
  refine ⟨fun _ => J1.cells, LexW.cons rfl ?_⟩
  try go_frame
  go_wp2_with fail
  refine (draw_int w.heap.size g A code.length c code [0, 1, 2, 5, 255, 1073741823, 1073741824, -1] W5.drew J.cur.drew (by omega) (by decide) (by decide)).mono ?_
  rintro e wb ⟨z, hz, rfl, hcb, og⟩
  have hm : -1 ≤ z ∧ z ≤ 1073741824 := by
    simp only [List.mem_cons, List.not_mem_nil, or_false] at hz
    omega
  have HM := Lib.hid hm
  clear hm
  have Jb := J.grow (((Rep.only_drew W5).mono (by simp) : Rep.Only W5 W5.drew [g]).trans og) hcb
  clear J J1 o1 og hcb hz
  go_wp2_with fail
  refine ⟨fun _ => Jb.cells, LexW.cons rfl ?_⟩
  have Jc := Jb
  clear Jb
  obtain ⟨k0, k1, k2, k3, q0, q1, q2, q3, f0, f1, f2, f3⟩ := Jc.room
  try go_frame
  go_wp2_with fail
  obtain ⟨Jd, VR⟩ := Jc.put
  have od := put4_only wb w.heap.size (.slice A5 d.secs.length c6) (.slice B7 d.cache.length d8) (.int .i64 d.fuse) (.bool d.down)
  clear q0 q1 q2 q3 f0 f1 f2 f3 od
  generalize hgW : (((wb.setCell ⟨w.heap.size, 0, none⟩ (.slice A5 d.secs.length c6)).setCell ⟨w.heap.size, 1, none⟩ (.slice B7 d.cache.length d8)).setCell ⟨w.heap.size, 2, none⟩ (.int .i64 d.fuse)).setCell ⟨w.heap.size, 3, none⟩ (.bool d.down) = wd at Jd VR ⊢
  clear hgW
  refine ⟨fun _ => Jd.cells, LexW.cons rfl ?_⟩
  try go_frame
  go_wp2_with fail
  refine ⟨fun _ => Jd.cells, LexW.nil ?_⟩
  have q0 : wd.cell? ⟨w.heap.size, 0, none⟩ = some (.slice A5 d.secs.length c6) := var_cell VR.out 0
  have q1 : wd.cell? ⟨w.heap.size, 1, none⟩ = some (.slice B7 d.cache.length d8) := var_cell VR.out 1
  have q2 : wd.cell? ⟨w.heap.size, 2, none⟩ = some (.int .i64 d.fuse) := var_cell VR.out 2
  have q3 : wd.cell? ⟨w.heap.size, 3, none⟩ = some (.bool d.down) := var_cell VR.out 3
  go_wp2_with fail
  exact bodyPost_ret (v := .tuple #[.agg #[.slice A5 d.secs.length c6, .slice B7 d.cache.length d8, .int .i64 d.fuse, .bool d.down], .int .i64 z]) (by simp [results, Try.results21, go_sem, q0, q1, q2, q3]) rfl
    ⟨d, _, z, rfl, hany, Rep.reads diskR Jd.own, HM.out, Rep.Only.below (Below.refl _ _) Jd.only (Nat.le_refl _) (fun a ha => by cases ha)⟩

end Go.Proofs.Ytkpcjnamoejjjaa
