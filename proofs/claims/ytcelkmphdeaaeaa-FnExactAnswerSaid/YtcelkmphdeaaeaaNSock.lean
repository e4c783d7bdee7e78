/- The struct Sock: its cells, its memory, what the exact laws ask of it. (By gen_nest.py.) -/
import Derived.Test.YtcelkmphdeaaeaaWin
namespace Go.Proofs.Ytcelkmphdeaaeaa
open Go.RowKit
set_option maxRecDepth 100000
set_option linter.unusedVariables false

structure Sk where
  id : Int
  kind : Int
  hold : Int
  shut : Bool
  inn : List UInt8
  out : List UInt8
  st : Int
  done : Int
def skR : Rep Sk := (Rep.int.pair (Rep.int.pair (Rep.int.pair (Rep.bool.pair (winR.pair (winR.pair (Rep.int.pair Rep.int))))))).iso (fun x => (x.id, x.kind, x.hold, x.shut, x.inn, x.out, x.st, x.done)) (fun p => ⟨p.1, p.2.1, p.2.2.1, p.2.2.2.1, p.2.2.2.2.1, p.2.2.2.2.2.1, p.2.2.2.2.2.2.1, p.2.2.2.2.2.2.2⟩)
def skZero : Sk := ⟨0, 0, 0, false, [], [], 0, 0⟩

theorem sk_cells {w : World} {B : Nat} {x : Sk} {cs : List Value} (h : skR.at_ w B cs x) : ∃ A4 c4 A5 c5, cs = [.int .i64 x.id, .int .i64 x.kind, .int .i64 x.hold, .bool x.shut, .slice A4 x.inn.length c4, .slice A5 x.out.length c5, .int .i64 x.st, .int .i64 x.done] ∧ (x.inn.length ≤ c4 ∧ c4 ≤ maxLen) ∧ Reads w B 1 A4 x.inn.length (bys x.inn) ∧ (x.out.length ≤ c5 ∧ c5 ≤ maxLen) ∧ Reads w B 1 A5 x.out.length (bys x.out) := by
  have hl : cs.length = 8 := Rep.len skR h
  obtain ⟨h0, h1, h2, h3, ⟨A4, c4, h4, hc4, hr4⟩, ⟨A5, c5, h5, hc5, hr5⟩, h6, h7⟩ := h
  match cs, hl with
  | [u0, u1, u2, u3, u4, u5, u6, u7], _ =>
    replace h0 : [u0] = [.int .i64 x.id] := h0
    injection h0 with h0
    replace h1 : [u1] = [.int .i64 x.kind] := h1
    injection h1 with h1
    replace h2 : [u2] = [.int .i64 x.hold] := h2
    injection h2 with h2
    replace h3 : [u3] = [.bool x.shut] := h3
    injection h3 with h3
    replace h4 : [u4] = [.slice A4 x.inn.length c4] := h4
    injection h4 with h4
    replace h5 : [u5] = [.slice A5 x.out.length c5] := h5
    injection h5 with h5
    replace h6 : [u6] = [.int .i64 x.st] := h6
    injection h6 with h6
    replace h7 : [u7] = [.int .i64 x.done] := h7
    injection h7 with h7
    subst h0 h1 h2 h3 h4 h5 h6 h7
    exact ⟨A4, c4, A5, c5, rfl, hc4, hr4, hc5, hr5⟩
theorem sk_at {w : World} {B : Nat} {x : Sk} {A4 : Option Addr} {c4 : Nat} {A5 : Option Addr} {c5 : Nat} (hc4 : x.inn.length ≤ c4 ∧ c4 ≤ maxLen) (hr4 : Reads w B 1 A4 x.inn.length (bys x.inn)) (hc5 : x.out.length ≤ c5 ∧ c5 ≤ maxLen) (hr5 : Reads w B 1 A5 x.out.length (bys x.out)) : skR.at_ w B [.int .i64 x.id, .int .i64 x.kind, .int .i64 x.hold, .bool x.shut, .slice A4 x.inn.length c4, .slice A5 x.out.length c5, .int .i64 x.st, .int .i64 x.done] x :=
  ⟨rfl, rfl, rfl, rfl, ⟨A4, c4, rfl, hc4, hr4⟩, ⟨A5, c5, rfl, hc5, hr5⟩, rfl, rfl⟩
theorem sk_ownW {w : World} {base : Nat} {x : Sk} {v4 v5 : Value} (h4 : Win w base 5 v4 x.inn) (h5 : Win w base 5 v5 x.out) (hn : (v4.ownBlock.toList ++ (v5.ownBlock.toList ++ [])).Nodup) : skR.own w base [.int .i64 x.id, .int .i64 x.kind, .int .i64 x.hold, .bool x.shut, v4, v5, .int .i64 x.st, .int .i64 x.done] x (v4.ownBlock.toList ++ (v5.ownBlock.toList ++ [])) :=
  ⟨[], v4.ownBlock.toList ++ (v5.ownBlock.toList ++ ([])), ⟨rfl, rfl⟩, ⟨[], v4.ownBlock.toList ++ (v5.ownBlock.toList ++ ([])), ⟨rfl, rfl⟩, ⟨[], v4.ownBlock.toList ++ (v5.ownBlock.toList ++ ([])), ⟨rfl, rfl⟩, ⟨[], v4.ownBlock.toList ++ (v5.ownBlock.toList ++ ([])), ⟨rfl, rfl⟩, ⟨v4.ownBlock.toList, v5.ownBlock.toList ++ ([]), ⟨v4, rfl, h4, rfl⟩, ⟨v5.ownBlock.toList, [], ⟨v5, rfl, h5, rfl⟩, ⟨[], [], ⟨rfl, rfl⟩, ⟨rfl, rfl⟩, rfl, (List.nodup_append.1 (List.nodup_append.1 hn).2.1).2.1⟩, rfl, (List.nodup_append.1 hn).2.1⟩, rfl, hn⟩, rfl, hn⟩, rfl, hn⟩, rfl, hn⟩, rfl, hn⟩
theorem sk_own {w : World} {base : Nat} {x : Sk} {v4 v5 : Value} (h4 : Owns w base 5 v4 x.inn) (h5 : Owns w base 5 v5 x.out) (hn : (v4.ownBlock.toList ++ (v5.ownBlock.toList ++ [])).Nodup) : skR.own w base [.int .i64 x.id, .int .i64 x.kind, .int .i64 x.hold, .bool x.shut, v4, v5, .int .i64 x.st, .int .i64 x.done] x (v4.ownBlock.toList ++ (v5.ownBlock.toList ++ [])) :=
  sk_ownW (Owns.win h4) (Owns.win h5) hn
theorem sk_inv {w : World} {base : Nat} {x : Sk} {cs : List Value} {fp : List Nat} (h : skR.own w base cs x fp) : ∃ v4 v5, cs = [.int .i64 x.id, .int .i64 x.kind, .int .i64 x.hold, .bool x.shut, v4, v5, .int .i64 x.st, .int .i64 x.done] ∧ Win w base 5 v4 x.inn ∧ Win w base 5 v5 x.out ∧ fp = v4.ownBlock.toList ++ (v5.ownBlock.toList ++ []) ∧ fp.Nodup := by
  have hl : cs.length = 8 := Rep.len skR (Rep.reads skR h)
  have hn0 := Rep.nodup skR h
  obtain ⟨f0, g0, ⟨h0, hf0⟩, ⟨f1, g1, ⟨h1, hf1⟩, ⟨f2, g2, ⟨h2, hf2⟩, ⟨f3, g3, ⟨h3, hf3⟩, ⟨f4, g4, ⟨v4, h4, hv4, hf4⟩, ⟨f5, g5, ⟨v5, h5, hv5, hf5⟩, ⟨f6, g6, ⟨h6, hf6⟩, ⟨h7, hf7⟩, hff6, hnd6⟩, hff5, hnd5⟩, hff4, hnd4⟩, hff3, hnd3⟩, hff2, hnd2⟩, hff1, hnd1⟩, hff0, hnd0⟩ := h
  match cs, hl with
  | [u0, u1, u2, u3, u4, u5, u6, u7], _ =>
    replace h0 : [u0] = [.int .i64 x.id] := h0
    injection h0 with h0
    replace h1 : [u1] = [.int .i64 x.kind] := h1
    injection h1 with h1
    replace h2 : [u2] = [.int .i64 x.hold] := h2
    injection h2 with h2
    replace h3 : [u3] = [.bool x.shut] := h3
    injection h3 with h3
    replace h4 : [u4] = [v4] := h4
    injection h4 with h4
    replace h5 : [u5] = [v5] := h5
    injection h5 with h5
    replace h6 : [u6] = [.int .i64 x.st] := h6
    injection h6 with h6
    replace h7 : [u7] = [.int .i64 x.done] := h7
    injection h7 with h7
    subst h0 h1 h2 h3 h4 h5 h6 h7
    refine ⟨u4, u5, rfl, hv4, hv5, ?_, hn0⟩
    simp only [hff0, hff1, hff2, hff3, hff4, hff5, hff6, hf0, hf1, hf2, hf3, hf4, hf5, hf6, hf7, List.nil_append, List.append_nil]

def OkSk (x : Sk) : Prop := (Lit.int .i64 x.id).wf = true ∧ (Lit.int .i64 x.kind).wf = true ∧ (Lit.int .i64 x.hold).wf = true ∧ (Lit.int .i64 x.st).wf = true ∧ (Lit.int .i64 x.done).wf = true
open Go.ChangeShapes Go.WideShapes Go.Deep in
theorem sk_opens : Rep.Opens Try.prog 57 skR OkSk := by
  intro H enc w base spare held fuel cs x h
  obtain ⟨xs, n, rfl, _, hl, hxl, hf⟩ := DataW.trod_struct Try.underlying57 h
  have hl' : cs.length = 8 := hl.trans (by kernel_rfl)
  obtain ⟨y0, h0, k0⟩ := (Rep.Opens.int Try.underlying3).field (hf 0 _ rfl) (by rw [hxl]; decide) (sz := 1) (by kernel_rfl)
  obtain ⟨y1, h1, k1⟩ := (Rep.Opens.int Try.underlying3).field (hf 1 _ rfl) (by rw [hxl]; decide) (sz := 1) (by kernel_rfl)
  obtain ⟨y2, h2, k2⟩ := (Rep.Opens.int Try.underlying3).field (hf 2 _ rfl) (by rw [hxl]; decide) (sz := 1) (by kernel_rfl)
  obtain ⟨y3, h3, k3⟩ := (Rep.Opens.bool Try.underlying4).field (hf 3 _ rfl) (by rw [hxl]; decide) (sz := 1) (by kernel_rfl)
  obtain ⟨y4, h4, k4⟩ := win_opens.field (hf 4 _ rfl) (by rw [hxl]; decide) (sz := 1) (by kernel_rfl)
  obtain ⟨y5, h5, k5⟩ := win_opens.field (hf 5 _ rfl) (by rw [hxl]; decide) (sz := 1) (by kernel_rfl)
  obtain ⟨y6, h6, k6⟩ := (Rep.Opens.int Try.underlying3).field (hf 6 _ rfl) (by rw [hxl]; decide) (sz := 1) (by kernel_rfl)
  obtain ⟨y7, h7, k7⟩ := (Rep.Opens.int Try.underlying3).field (hf 7 _ rfl) (by rw [hxl]; decide) (sz := 1) (by kernel_rfl)
  match cs, hl' with
  | [c0, c1, c2, c3, c4, c5, c6, c7], _ => exact ⟨⟨y0, y1, y2, y3, y4, y5, y6, y7⟩, ⟨h0, h1, h2, h3, h4, h5, h6, h7⟩, k0, k1, k2, k6, k7⟩

theorem sk_apart1 {a : Option Nat} : (a.toList ++ []).Nodup := by cases a <;> simp
theorem sk_apart2 {a b : Option Nat} (h : ∀ k, a = some k → b ≠ some k) : (a.toList ++ (b.toList ++ [])).Nodup := by
  rw [List.append_nil, List.nodup_append]
  refine ⟨by cases a <;> simp, by cases b <;> simp, fun x hx y hy e => ?_⟩
  subst e
  exact h x (by simpa using hx) (by simpa using hy)

def RoomSk (x : Sk) : Prop := x.inn.length ≤ 1048576 ∧ x.out.length ≤ 1048576
def FitsSk (x : Sk) : Prop := x.inn.length ≤ 2097152 ∧ x.out.length ≤ 2097152
theorem RoomSk.fits {x : Sk} (h : RoomSk x) : FitsSk x := by unfold RoomSk at h; unfold FitsSk; omega
theorem sk_at_shape {w : World} {B : Nat} {x : Sk} {cs : List Value} (h : skR.at_ w B cs x) : ∃ A4 c4 A5 c5, cs = [.int .i64 x.id, .int .i64 x.kind, .int .i64 x.hold, .bool x.shut, .slice A4 x.inn.length c4, .slice A5 x.out.length c5, .int .i64 x.st, .int .i64 x.done] := by
  obtain ⟨A4, c4, A5, c5, rfl, _⟩ := sk_cells h
  exact ⟨A4, c4, A5, c5, rfl⟩
theorem sk_own_shape {w : World} {base : Nat} {x : Sk} {cs : List Value} {fp : List Nat} (h : skR.own w base cs x fp) : ∃ A4 c4 A5 c5, cs = [.int .i64 x.id, .int .i64 x.kind, .int .i64 x.hold, .bool x.shut, .slice A4 x.inn.length c4, .slice A5 x.out.length c5, .int .i64 x.st, .int .i64 x.done] := sk_at_shape (Rep.reads skR h)

set_option maxHeartbeats 1000000 in
theorem szSk_room (cs : List Value) (x : Sk) (left : Nat) (w : World) (h : skR.at_ w w.heap.size cs x) (hl : left ≤ 1048576) :
    Calls Try.prog 42 #[.agg cs.toArray, .int .i64 left] w (RoomB (RoomSk x) left w) := by
  obtain ⟨A4, c4, A5, c5, rfl, hc4, hr4, hc5, hr5⟩ := sk_cells h
  have hb4 : x.inn.length ≤ 9223372036854775807 := Nat.le_trans hc4.1 hc4.2
  have hb5 : x.out.length ≤ 9223372036854775807 := Nat.le_trans hc5.1 hc5.2
  clear h hr4 hr5
  go_enter Try.func42, Try.ntmps42
  go_wp2_with fail
  refine (szByteS_room A4 c4 x.inn.length left _ hb4 (by omega)).mono ?_
  rintro e4 w4 ⟨⟨z4, hz4, hbd4, rfl⟩ | rfl, rfl⟩
  rotate_left
  · go_wp2_with fail
    go_ret
    exact ⟨.inr rfl, (Below.refl _ _).alloc (Nat.le_refl _) _⟩
  have HB4 := Lib.hid hbd4
  clear hbd4
  go_wp2_with fail
  refine (szByteS_room A5 c5 x.out.length z4 _ hb5 (by omega)).mono ?_
  rintro e5 w5 ⟨⟨z5, hz5, hbd5, rfl⟩ | rfl, rfl⟩
  rotate_left
  · go_wp2_with fail
    go_ret
    exact ⟨.inr rfl, (Below.refl _ _).alloc (Nat.le_refl _) _⟩
  have HB5 := Lib.hid hbd5
  clear hbd5
  go_wp2_with fail
  go_ret
  exact ⟨.inl ⟨z5, by omega, ⟨HB4.out, HB5.out⟩, rfl⟩, (Below.refl _ _).alloc (Nat.le_refl _) _⟩

def RetSk (w : World) (x : Sk) (e : Ending) (w' : World) : Prop := ∃ A4 c4 A5 c5 fp, e = .returned (.agg #[.int .i64 x.id, .int .i64 x.kind, .int .i64 x.hold, .bool x.shut, .slice A4 x.inn.length c4, .slice A5 x.out.length c5, .int .i64 x.st, .int .i64 x.done]) ∧ skR.own w' w.heap.size [.int .i64 x.id, .int .i64 x.kind, .int .i64 x.hold, .bool x.shut, .slice A4 x.inn.length c4, .slice A5 x.out.length c5, .int .i64 x.st, .int .i64 x.done] x fp ∧ Below w.heap.size w w'
set_option maxRecDepth 100000 in
set_option maxHeartbeats 4000000 in
theorem toSk_any (cs : List Value) (x : Sk) (w : World) (h : skR.at_ w w.heap.size cs x) (hs : FitsSk x) :
    Calls Try.prog 43 #[.agg cs.toArray] w (RetSk w x) := by
  obtain ⟨A4, c4, A5, c5, rfl, hc4, hr4, hc5, hr5⟩ := sk_cells h
  obtain ⟨f4, f5⟩ := hs
  clear h hc4 hc5
  have HW : Below w.heap.size w (((w.alloc (.cells #[.int .i64 x.id, .int .i64 x.kind, .int .i64 x.hold, .bool x.shut, .slice A4 x.inn.length c4, .slice A5 x.out.length c5, .int .i64 x.st, .int .i64 x.done] 57)).alloc (.cells #[.int .i64 0, .int .i64 0, .int .i64 0, .bool false, .slice none 0 0, .slice none 0 0, .int .i64 0, .int .i64 0] 25)).alloc (.cells #[.int .i64 x.id, .int .i64 x.kind, .int .i64 x.hold, .bool x.shut, .slice none 0 0, .slice none 0 0, .int .i64 0, .int .i64 0] 25)) := Later.trans (Later.trans (Later.alloc w _) (Later.alloc _ _)) (Later.alloc _ _)
  have V : (((w.alloc (.cells #[.int .i64 x.id, .int .i64 x.kind, .int .i64 x.hold, .bool x.shut, .slice A4 x.inn.length c4, .slice A5 x.out.length c5, .int .i64 x.st, .int .i64 x.done] 57)).alloc (.cells #[.int .i64 0, .int .i64 0, .int .i64 0, .bool false, .slice none 0 0, .slice none 0 0, .int .i64 0, .int .i64 0] 25)).alloc (.cells #[.int .i64 x.id, .int .i64 x.kind, .int .i64 x.hold, .bool x.shut, .slice none 0 0, .slice none 0 0, .int .i64 0, .int .i64 0] 25)).heap[w.heap.size + 1 + 1]? = some (.cells [.int .i64 x.id, .int .i64 x.kind, .int .i64 x.hold, .bool x.shut, .slice none 0 0, .slice none 0 0, .int .i64 0, .int .i64 0].toArray 25 (0, 0)) := heap_alloc_new' _ _ (by simp)
  have Z : (((w.alloc (.cells #[.int .i64 x.id, .int .i64 x.kind, .int .i64 x.hold, .bool x.shut, .slice A4 x.inn.length c4, .slice A5 x.out.length c5, .int .i64 x.st, .int .i64 x.done] 57)).alloc (.cells #[.int .i64 0, .int .i64 0, .int .i64 0, .bool false, .slice none 0 0, .slice none 0 0, .int .i64 0, .int .i64 0] 25)).alloc (.cells #[.int .i64 x.id, .int .i64 x.kind, .int .i64 x.hold, .bool x.shut, .slice none 0 0, .slice none 0 0, .int .i64 0, .int .i64 0] 25)).heap[w.heap.size + 1]? = some (.cells [.int .i64 0, .int .i64 0, .int .i64 0, .bool false, .slice none 0 0, .slice none 0 0, .int .i64 0, .int .i64 0].toArray 25 (0, 0)) := (Below.heap_alloc _ _ _ (by simp)).trans (heap_alloc_new' _ _ (by simp))
  have Q : (((w.alloc (.cells #[.int .i64 x.id, .int .i64 x.kind, .int .i64 x.hold, .bool x.shut, .slice A4 x.inn.length c4, .slice A5 x.out.length c5, .int .i64 x.st, .int .i64 x.done] 57)).alloc (.cells #[.int .i64 0, .int .i64 0, .int .i64 0, .bool false, .slice none 0 0, .slice none 0 0, .int .i64 0, .int .i64 0] 25)).alloc (.cells #[.int .i64 x.id, .int .i64 x.kind, .int .i64 x.hold, .bool x.shut, .slice none 0 0, .slice none 0 0, .int .i64 0, .int .i64 0] 25)).heap[w.heap.size]? = some (.cells [.int .i64 x.id, .int .i64 x.kind, .int .i64 x.hold, .bool x.shut, .slice A4 x.inn.length c4, .slice A5 x.out.length c5, .int .i64 x.st, .int .i64 x.done].toArray 57 (0, 0)) := (Below.heap_alloc _ _ _ (by simp; omega)).trans ((Below.heap_alloc _ _ _ (by simp)).trans (heap_alloc_new w _))
  go_enter Try.func43, Try.ntmps43
  go_wp2_with fail
  generalize ((w.alloc (.cells #[.int .i64 x.id, .int .i64 x.kind, .int .i64 x.hold, .bool x.shut, .slice A4 x.inn.length c4, .slice A5 x.out.length c5, .int .i64 x.st, .int .i64 x.done] 57)).alloc (.cells #[.int .i64 0, .int .i64 0, .int .i64 0, .bool false, .slice none 0 0, .slice none 0 0, .int .i64 0, .int .i64 0] 25)).alloc (.cells #[.int .i64 x.id, .int .i64 x.kind, .int .i64 x.hold, .bool x.shut, .slice none 0 0, .slice none 0 0, .int .i64 0, .int .i64 0] 25) = W0 at HW V Z Q ⊢
  have hD0 : w.heap.size + 1 + 1 < W0.heap.size := (Array.getElem?_eq_some_iff.1 V).1
  refine (toByteS_any A4 c4 x.inn W0 ((hr4.below HW).more HW.size) (by omega)).mono ?_
  rintro e w0 ⟨v4, rfl, o4, hb⟩
  obtain ⟨D4, d4, rfl, _, _, _, _⟩ := o4.shape
  replace V := (hb.block _ hD0).trans V
  replace Z := (hb.block _ (by omega)).trans Z
  replace Q := (hb.block _ (by omega)).trans Q
  replace HW := HW.trans (hb.mono HW.size)
  skip
  have hs0 := hb.size
  clear hb
  have q0 := var_cell V 0
  have q1 := var_cell V 1
  have q2 := var_cell V 2
  have q3 := var_cell V 3
  have q4 := var_cell V 4
  have q5 := var_cell V 5
  have q6 := var_cell V 6
  have q7 := var_cell V 7
  have t0 := var_frozen V 0
  have t1 := var_frozen V 1
  have t2 := var_frozen V 2
  have t3 := var_frozen V 3
  have t4 := var_frozen V 4
  have t5 := var_frozen V 5
  have t6 := var_frozen V 6
  have t7 := var_frozen V 7
  have p0 := var_cell Q 0
  have p1 := var_cell Q 1
  have p2 := var_cell Q 2
  have p3 := var_cell Q 3
  have p4 := var_cell Q 4
  have p5 := var_cell Q 5
  have p6 := var_cell Q 6
  have p7 := var_cell Q 7
  go_wp2_with fail
  clear q0 q1 q2 q3 q4 q5 q6 q7 t0 t1 t2 t3 t4 t5 t6 t7 p0 p1 p2 p3 p4 p5 p6 p7
  have V2 : ((w0.setCell ⟨w.heap.size + 1 + 1, 4, none⟩ (.slice D4 x.inn.length d4))).heap[w.heap.size + 1 + 1]? = some (.cells [.int .i64 x.id, .int .i64 x.kind, .int .i64 x.hold, .bool x.shut, .slice D4 x.inn.length d4, .slice none 0 0, .int .i64 0, .int .i64 0].toArray 25 (0, 0)) := var_set (V) 4 (.slice D4 x.inn.length d4)
  have os := Rep.Only.setCell w0 (p := ⟨w.heap.size + 1 + 1, 4, none⟩) (fp := [w.heap.size + 1 + 1]) (by simp) (.slice D4 x.inn.length d4)
  replace HW : Below w.heap.size w (w0.setCell ⟨w.heap.size + 1 + 1, 4, none⟩ (.slice D4 x.inn.length d4)) := (HW.setCell (by simp; omega) _)
  replace Z := (os.block _ (by omega) (by simp)).trans Z
  replace Q := (os.block _ (by omega) (by simp; omega)).trans Q
  replace o4 : Owns (w0.setCell ⟨w.heap.size + 1 + 1, 4, none⟩ (.slice D4 x.inn.length d4)) _ 5 _ x.inn := Rep.ownsRow_block o4 fun g hg => os.block g (o4.lt g (by simpa using hg)).2 (by have := (o4.lt g (by simpa using hg)).1; simp; omega)
  clear V os
  generalize (w0.setCell ⟨w.heap.size + 1 + 1, 4, none⟩ (.slice D4 x.inn.length d4)) = W1 at HW V2 Z Q o4 ⊢
  have V := V2
  clear V2
  have u4_1 := fun k hk => (o4.lt k hk).2
  have hD1 : w.heap.size + 1 + 1 < W1.heap.size := (Array.getElem?_eq_some_iff.1 V).1
  refine (toByteS_any A5 c5 x.out W1 ((hr5.below HW).more HW.size) (by omega)).mono ?_
  rintro e w1 ⟨v5, rfl, o5, hb⟩
  obtain ⟨D5, d5, rfl, _, _, _, _⟩ := o5.shape
  replace V := (hb.block _ hD1).trans V
  replace Z := (hb.block _ (by omega)).trans Z
  replace Q := (hb.block _ (by omega)).trans Q
  replace HW := HW.trans (hb.mono HW.size)
  replace o4 := o4.keep hb
  skip
  have hs1 := hb.size
  clear hb
  have q0 := var_cell V 0
  have q1 := var_cell V 1
  have q2 := var_cell V 2
  have q3 := var_cell V 3
  have q4 := var_cell V 4
  have q5 := var_cell V 5
  have q6 := var_cell V 6
  have q7 := var_cell V 7
  have t0 := var_frozen V 0
  have t1 := var_frozen V 1
  have t2 := var_frozen V 2
  have t3 := var_frozen V 3
  have t4 := var_frozen V 4
  have t5 := var_frozen V 5
  have t6 := var_frozen V 6
  have t7 := var_frozen V 7
  have p0 := var_cell Q 0
  have p1 := var_cell Q 1
  have p2 := var_cell Q 2
  have p3 := var_cell Q 3
  have p4 := var_cell Q 4
  have p5 := var_cell Q 5
  have p6 := var_cell Q 6
  have p7 := var_cell Q 7
  have z0 := var_cell Z 0
  have zf0 := var_frozen Z 0
  have z1 := var_cell Z 1
  have zf1 := var_frozen Z 1
  have z2 := var_cell Z 2
  have zf2 := var_frozen Z 2
  have z3 := var_cell Z 3
  have zf3 := var_frozen Z 3
  have z4 := var_cell Z 4
  have zf4 := var_frozen Z 4
  have z5 := var_cell Z 5
  have zf5 := var_frozen Z 5
  have z6 := var_cell Z 6
  have zf6 := var_frozen Z 6
  have z7 := var_cell Z 7
  have zf7 := var_frozen Z 7
  have hsz : w.heap.size + 1 + 1 < w1.heap.size := (Array.getElem?_eq_some_iff.1 V).1
  go_wp2_with fail
  refine bodyPost_ret (v := .agg #[.int .i64 x.id, .int .i64 x.kind, .int .i64 x.hold, .bool x.shut, .slice D4 x.inn.length d4, .slice D5 x.out.length d5, .int .i64 x.st, .int .i64 x.done]) (by simp [results, Try.results43, go_sem, z0, z1, z2, z3, z4, z5, z6, z7]) rfl ?_
  refine ⟨D4, d4, D5, d5, (Value.slice D4 x.inn.length d4).ownBlock.toList ++ ((Value.slice D5 x.out.length d5).ownBlock.toList ++ []), rfl, ?_, ?_⟩
  · refine skR.low (base := w.heap.size + 1 + 1 + 1) ?_ (by omega)
    repeat (refine Rep.setLow ?_ (by first | (simp; done) | (simp; omega)) _)
    exact sk_own (ownsRow_mono o4 (by omega)) (ownsRow_mono o5 (by omega)) (sk_apart2 fun k h1 h2 => by have h3 := u4_1 k h1; have h4 := (o5.lt k h2).1; omega)
  · repeat (refine Below.setCell ?_ (by first | (simp; done) | (simp; omega)) _)
    exact HW

set_option maxHeartbeats 4000000 in
theorem eqSk_same (cs cs' : List Value) (x : Sk) (w : World) (h : skR.at_ w w.heap.size cs x) (h' : skR.at_ w w.heap.size cs' x) (hs : FitsSk x) :
    Calls Try.prog 44 #[.agg cs.toArray, .agg cs'.toArray] w fun e w' => e = .returned (.bool true) ∧ Below w.heap.size w w' := by
  obtain ⟨A4, c4, A5, c5, rfl, _, hr4, _, hr5⟩ := sk_cells h
  obtain ⟨B4, d4, B5, d5, rfl, _, hq4, _, hq5⟩ := sk_cells h'
  obtain ⟨f4, f5⟩ := hs
  have S0 : All (fun w' => ((((Below w.heap.size w w' ∧ Reads w' w'.heap.size 1 A4 x.inn.length (bys x.inn)) ∧ Reads w' w'.heap.size 1 A5 x.out.length (bys x.out)) ∧ Reads w' w'.heap.size 1 B4 x.inn.length (bys x.inn)) ∧ Reads w' w'.heap.size 1 B5 x.out.length (bys x.out))) w := ⟨⟨⟨⟨⟨Below.refl _ _, hr4⟩, hr5⟩, hq4⟩, hq5⟩⟩
  have S : All (fun w' => ((((Below w.heap.size w w' ∧ Reads w' w'.heap.size 1 A4 x.inn.length (bys x.inn)) ∧ Reads w' w'.heap.size 1 A5 x.out.length (bys x.out)) ∧ Reads w' w'.heap.size 1 B4 x.inn.length (bys x.inn)) ∧ Reads w' w'.heap.size 1 B5 x.out.length (bys x.out))) ((w.alloc (.cells #[.int .i64 x.id, .int .i64 x.kind, .int .i64 x.hold, .bool x.shut, .slice A4 x.inn.length c4, .slice A5 x.out.length c5, .int .i64 x.st, .int .i64 x.done] 25)).alloc (.cells #[.int .i64 x.id, .int .i64 x.kind, .int .i64 x.hold, .bool x.shut, .slice B4 x.inn.length d4, .slice B5 x.out.length d5, .int .i64 x.st, .int .i64 x.done] 25)) := (S0.alloc _).alloc _
  have Q : ((w.alloc (.cells #[.int .i64 x.id, .int .i64 x.kind, .int .i64 x.hold, .bool x.shut, .slice A4 x.inn.length c4, .slice A5 x.out.length c5, .int .i64 x.st, .int .i64 x.done] 25)).alloc (.cells #[.int .i64 x.id, .int .i64 x.kind, .int .i64 x.hold, .bool x.shut, .slice B4 x.inn.length d4, .slice B5 x.out.length d5, .int .i64 x.st, .int .i64 x.done] 25)).heap[w.heap.size]? = some (.cells [.int .i64 x.id, .int .i64 x.kind, .int .i64 x.hold, .bool x.shut, .slice A4 x.inn.length c4, .slice A5 x.out.length c5, .int .i64 x.st, .int .i64 x.done].toArray 25 (0, 0)) := (Below.heap_alloc _ _ _ (by simp)).trans (heap_alloc_new w _)
  have R : ((w.alloc (.cells #[.int .i64 x.id, .int .i64 x.kind, .int .i64 x.hold, .bool x.shut, .slice A4 x.inn.length c4, .slice A5 x.out.length c5, .int .i64 x.st, .int .i64 x.done] 25)).alloc (.cells #[.int .i64 x.id, .int .i64 x.kind, .int .i64 x.hold, .bool x.shut, .slice B4 x.inn.length d4, .slice B5 x.out.length d5, .int .i64 x.st, .int .i64 x.done] 25)).heap[w.heap.size + 1]? = some (.cells [.int .i64 x.id, .int .i64 x.kind, .int .i64 x.hold, .bool x.shut, .slice B4 x.inn.length d4, .slice B5 x.out.length d5, .int .i64 x.st, .int .i64 x.done].toArray 25 (0, 0)) := heap_alloc_new' _ _ (by simp)
  clear h h' S0 hr4 hq4 hr5 hq5
  have n0 : (x.id != x.id) = false := by simp
  have n1 : (x.kind != x.kind) = false := by simp
  have n2 : (x.hold != x.hold) = false := by simp
  have n3 : (x.shut != x.shut) = false := by simp
  have n6 : (x.st != x.st) = false := by simp
  have n7 : (x.done != x.done) = false := by simp
  go_enter Try.func44, Try.ntmps44
  go_wp2_with fail
  generalize (w.alloc (.cells #[.int .i64 x.id, .int .i64 x.kind, .int .i64 x.hold, .bool x.shut, .slice A4 x.inn.length c4, .slice A5 x.out.length c5, .int .i64 x.st, .int .i64 x.done] 25)).alloc (.cells #[.int .i64 x.id, .int .i64 x.kind, .int .i64 x.hold, .bool x.shut, .slice B4 x.inn.length d4, .slice B5 x.out.length d5, .int .i64 x.st, .int .i64 x.done] 25) = W0 at S Q R ⊢
  refine (eqByteS_same A4 B4 c4 d4 x.inn W0 S.out.1.1.1.2 S.out.1.2 (by omega)).mono ?_
  rintro e w0 ⟨rfl, m0, rfl⟩
  replace S := S.later (belowD (Below.refl _ _) m0)
  have hQ : (W0.drewN m0).heap[w.heap.size]? = _ := Q
  have hR : (W0.drewN m0).heap[w.heap.size + 1]? = _ := R
  clear Q R
  generalize W0.drewN m0 = W1 at S hQ hR ⊢
  have p0 := var_cell hQ 0
  have r0 := var_cell hR 0
  have p1 := var_cell hQ 1
  have r1 := var_cell hR 1
  have p2 := var_cell hQ 2
  have r2 := var_cell hR 2
  have p3 := var_cell hQ 3
  have r3 := var_cell hR 3
  have p4 := var_cell hQ 4
  have r4 := var_cell hR 4
  have p5 := var_cell hQ 5
  have r5 := var_cell hR 5
  have p6 := var_cell hQ 6
  have r6 := var_cell hR 6
  have p7 := var_cell hQ 7
  have r7 := var_cell hR 7
  go_wp2_with fail
  clear p0 r0 p1 r1 p2 r2 p3 r3 p4 r4 p5 r5 p6 r6 p7 r7
  have Q := hQ
  have R := hR
  clear hQ hR
  refine (eqByteS_same A5 B5 c5 d5 x.out W1 S.out.1.1.2 S.out.2 (by omega)).mono ?_
  rintro e w1 ⟨rfl, m1, rfl⟩
  replace S := S.later (belowD (Below.refl _ _) m1)
  have hQ : (W1.drewN m1).heap[w.heap.size]? = _ := Q
  have hR : (W1.drewN m1).heap[w.heap.size + 1]? = _ := R
  clear Q R
  generalize W1.drewN m1 = W2 at S hQ hR ⊢
  have p0 := var_cell hQ 0
  have r0 := var_cell hR 0
  have p1 := var_cell hQ 1
  have r1 := var_cell hR 1
  have p2 := var_cell hQ 2
  have r2 := var_cell hR 2
  have p3 := var_cell hQ 3
  have r3 := var_cell hR 3
  have p4 := var_cell hQ 4
  have r4 := var_cell hR 4
  have p5 := var_cell hQ 5
  have r5 := var_cell hR 5
  have p6 := var_cell hQ 6
  have r6 := var_cell hR 6
  have p7 := var_cell hQ 7
  have r7 := var_cell hR 7
  go_wp2_with fail
  clear p0 r0 p1 r1 p2 r2 p3 r3 p4 r4 p5 r5 p6 r6 p7 r7
  have Q := hQ
  have R := hR
  clear hQ hR
  have hfin := S.out.1.1.1.1
  go_ret
  exact ⟨rfl, hfin⟩

def markSk (k : Nat) (x : Sk) : Sk := ⟨x.id, x.kind, x.hold, x.shut, marks (k) x.inn.length, marks (k + x.inn.length) x.out.length, x.st, x.done⟩
def cntSk (x : Sk) : Nat := x.inn.length + x.out.length
theorem cntSk_le {x : Sk} (h : FitsSk x) : cntSk x ≤ 8796093022208 := by unfold FitsSk at h; unfold cntSk; omega
theorem sk_split {a b : Option Nat} (h : (a.toList ++ (b.toList ++ [])).Nodup) : ∀ k, a = some k → b ≠ some k := by
  intro k h1 h2
  subst h1 h2
  simp at h

set_option maxHeartbeats 4000000 in
theorem markSk_any (cs : List Value) (k0 : Nat) (x : Sk) (fp : List Nat) (w : World) (base : Nat) (h : skR.own w base cs x fp) (hs : FitsSk x) (hk0 : k0 ≤ 4398046511104) :
    Calls Try.prog 52 #[.agg cs.toArray, .int .i64 k0] w fun e w' => e = .returned (.int .i64 (k0 + cntSk x : Nat)) ∧ skR.own w' base cs (markSk k0 x) fp ∧ Rep.Only w w' fp := by
  obtain ⟨v4, v5, rfl, o4, o5, rfl, hn⟩ := sk_inv h
  obtain ⟨D4, d4, rfl, _, _, _, _⟩ := o4.shape
  obtain ⟨D5, d5, rfl, _, _, _, _⟩ := o5.shape
  obtain ⟨f4, f5⟩ := hs
  have b4 : ∀ k, (Value.slice D4 x.inn.length d4).ownBlock = some k → k < w.heap.size := fun k hk => (o4.lt k hk).2
  have b5 : ∀ k, (Value.slice D5 x.out.length d5).ownBlock = some k → k < w.heap.size := fun k hk => (o5.lt k hk).2
  have HD := Lib.hid (sk_split hn)
  have HN := Lib.hid hn
  have O : Rep.Only w (w.alloc (.cells #[.int .i64 x.id, .int .i64 x.kind, .int .i64 x.hold, .bool x.shut, .slice D4 x.inn.length d4, .slice D5 x.out.length d5, .int .i64 x.st, .int .i64 x.done] 25)) ((Value.slice D4 x.inn.length d4).ownBlock.toList ++ ((Value.slice D5 x.out.length d5).ownBlock.toList ++ [])) := (Rep.only_alloc w _).mono (by simp)
  have Q : (w.alloc (.cells #[.int .i64 x.id, .int .i64 x.kind, .int .i64 x.hold, .bool x.shut, .slice D4 x.inn.length d4, .slice D5 x.out.length d5, .int .i64 x.st, .int .i64 x.done] 25)).heap[w.heap.size]? = some (.cells [.int .i64 x.id, .int .i64 x.kind, .int .i64 x.hold, .bool x.shut, .slice D4 x.inn.length d4, .slice D5 x.out.length d5, .int .i64 x.st, .int .i64 x.done].toArray 25 (0, 0)) := heap_alloc_new w _
  replace o4 := o4.keep (Later.alloc w (.cells #[.int .i64 x.id, .int .i64 x.kind, .int .i64 x.hold, .bool x.shut, .slice D4 x.inn.length d4, .slice D5 x.out.length d5, .int .i64 x.st, .int .i64 x.done] 25))
  replace o5 := o5.keep (Later.alloc w (.cells #[.int .i64 x.id, .int .i64 x.kind, .int .i64 x.hold, .bool x.shut, .slice D4 x.inn.length d4, .slice D5 x.out.length d5, .int .i64 x.st, .int .i64 x.done] 25))
  clear h hn
  go_enter Try.func52, Try.ntmps52
  go_wp2_with fail
  generalize w.alloc (.cells #[.int .i64 x.id, .int .i64 x.kind, .int .i64 x.hold, .bool x.shut, .slice D4 x.inn.length d4, .slice D5 x.out.length d5, .int .i64 x.st, .int .i64 x.done] 25) = W0 at O Q o4 o5 ⊢
  have hq0 : w.heap.size < W0.heap.size := (Array.getElem?_eq_some_iff.1 Q).1
  refine (markByteS_win _ (k0) x.inn W0 base o4 (by omega) (by omega)).mono ?_
  rintro e W1 ⟨rfl, n4, hg⟩
  replace Q := (hg.block _ hq0 (fun e9 => by have := b4 _ e9.symm; omega)).trans Q
  replace O := O.trans (Rep.Only.of_grown hg (fun a ha => by rw [ha]; simp))
  replace o5 := Win.block o5 fun g hg9 => hg.block g (o5.lt g (by simpa using hg9)).2 (fun e9 => HD.out g (e9.symm) (by simpa using hg9))
  clear hg
  have p0 := var_cell Q 0
  have p1 := var_cell Q 1
  have p2 := var_cell Q 2
  have p3 := var_cell Q 3
  have p4 := var_cell Q 4
  have p5 := var_cell Q 5
  have p6 := var_cell Q 6
  have p7 := var_cell Q 7
  go_wp2_with fail
  clear p0 p1 p2 p3 p4 p5 p6 p7
  have hq1 : w.heap.size < W1.heap.size := (Array.getElem?_eq_some_iff.1 Q).1
  refine (markByteS_win _ (k0 + x.inn.length) x.out W1 base o5 (by omega) (by omega)).mono ?_
  rintro e W2 ⟨rfl, n5, hg⟩
  replace Q := (hg.block _ hq1 (fun e9 => by have := b5 _ e9.symm; omega)).trans Q
  replace O := O.trans (Rep.Only.of_grown hg (fun a ha => by rw [ha]; simp))
  replace n4 := Win.block n4 fun g hg9 => hg.block g (n4.lt g (by simpa [marks_length] using hg9)).2 (fun e9 => HD.out g (by simpa [marks_length] using hg9) e9.symm)
  clear hg
  have p0 := var_cell Q 0
  have p1 := var_cell Q 1
  have p2 := var_cell Q 2
  have p3 := var_cell Q 3
  have p4 := var_cell Q 4
  have p5 := var_cell Q 5
  have p6 := var_cell Q 6
  have p7 := var_cell Q 7
  go_wp2_with fail
  clear p0 p1 p2 p3 p4 p5 p6 p7
  go_ret
  refine ⟨congrArg (fun z : Nat => Ending.returned (.int .i64 (z : Int))) (by unfold cntSk; omega), ?_, O⟩
  have hh := sk_ownW (x := markSk k0 x) (base := base) (w := W2) (v4 := .slice D4 x.inn.length d4) (v5 := .slice D5 x.out.length d5) n4 n5 HN.out
  exact hh

set_option maxHeartbeats 4000000 in
theorem heldSk_any (cs : List Value) (k0 : Nat) (x : Sk) (w : World) (h : skR.at_ w w.heap.size cs (markSk k0 x)) (hs : FitsSk x) (hk0 : k0 ≤ 4398046511104) :
    Calls Try.prog 54 #[.agg cs.toArray, .int .i64 k0] w fun e w' => e = .returned (.int .i64 (k0 + cntSk x : Nat)) ∧ Below w.heap.size w w' := by
  obtain ⟨A4, c4, A5, c5, rfl, _, hr4, _, hr5⟩ := sk_cells h
  obtain ⟨f4, f5⟩ := hs
  have e4 : (markSk k0 x).inn.length = x.inn.length := marks_length _ _
  rw [e4] at hr4
  replace hr4 : Reads w w.heap.size 1 A4 x.inn.length (bys (marks (k0) x.inn.length)) := hr4
  have e5 : (markSk k0 x).out.length = x.out.length := marks_length _ _
  rw [e5] at hr5
  replace hr5 : Reads w w.heap.size 1 A5 x.out.length (bys (marks (k0 + x.inn.length) x.out.length)) := hr5
  have hcs : ([.int .i64 (markSk k0 x).id, .int .i64 (markSk k0 x).kind, .int .i64 (markSk k0 x).hold, .bool (markSk k0 x).shut, .slice A4 (markSk k0 x).inn.length c4, .slice A5 (markSk k0 x).out.length c5, .int .i64 (markSk k0 x).st, .int .i64 (markSk k0 x).done] : List Value) = [.int .i64 x.id, .int .i64 x.kind, .int .i64 x.hold, .bool x.shut, .slice A4 x.inn.length c4, .slice A5 x.out.length c5, .int .i64 x.st, .int .i64 x.done] := by rw [e4, e5]; rfl
  rw [hcs]
  clear hcs h e4 e5
  have Q : (w.alloc (.cells #[.int .i64 x.id, .int .i64 x.kind, .int .i64 x.hold, .bool x.shut, .slice A4 x.inn.length c4, .slice A5 x.out.length c5, .int .i64 x.st, .int .i64 x.done] 25)).heap[w.heap.size]? = some (.cells [.int .i64 x.id, .int .i64 x.kind, .int .i64 x.hold, .bool x.shut, .slice A4 x.inn.length c4, .slice A5 x.out.length c5, .int .i64 x.st, .int .i64 x.done].toArray 25 (0, 0)) := heap_alloc_new w _
  have HB := Later.alloc w (.cells #[.int .i64 x.id, .int .i64 x.kind, .int .i64 x.hold, .bool x.shut, .slice A4 x.inn.length c4, .slice A5 x.out.length c5, .int .i64 x.st, .int .i64 x.done] 25)
  replace hr4 := (hr4.below HB).more HB.size
  replace hr5 := (hr5.below HB).more HB.size
  go_enter Try.func54, Try.ntmps54
  go_wp2_with fail
  generalize w.alloc (.cells #[.int .i64 x.id, .int .i64 x.kind, .int .i64 x.hold, .bool x.shut, .slice A4 x.inn.length c4, .slice A5 x.out.length c5, .int .i64 x.st, .int .i64 x.done] 25) = W0 at Q HB hr4 hr5 ⊢
  refine (heldByteS_any A4 c4 (k0) x.inn.length W0 hr4 (by omega) (by omega)).mono ?_
  rintro e w0 ⟨rfl, rfl⟩
  have ng0 : ¬ (((k0 + x.inn.length : Nat) : Int) < 0) := by omega
  have p0 := var_cell Q 0
  have p1 := var_cell Q 1
  have p2 := var_cell Q 2
  have p3 := var_cell Q 3
  have p4 := var_cell Q 4
  have p5 := var_cell Q 5
  have p6 := var_cell Q 6
  have p7 := var_cell Q 7
  go_wp2_with fail
  clear p0 p1 p2 p3 p4 p5 p6 p7
  refine (heldByteS_any A5 c5 (k0 + x.inn.length) x.out.length W0 hr5 (by omega) (by omega)).mono ?_
  rintro e w1 ⟨rfl, rfl⟩
  have ng1 : ¬ (((k0 + x.inn.length + x.out.length : Nat) : Int) < 0) := by omega
  have p0 := var_cell Q 0
  have p1 := var_cell Q 1
  have p2 := var_cell Q 2
  have p3 := var_cell Q 3
  have p4 := var_cell Q 4
  have p5 := var_cell Q 5
  have p6 := var_cell Q 6
  have p7 := var_cell Q 7
  go_wp2_with fail
  clear p0 p1 p2 p3 p4 p5 p6 p7
  go_ret
  exact ⟨congrArg (fun z : Nat => Ending.returned (.int .i64 (z : Int))) (by unfold cntSk; omega), HB⟩

end Go.Proofs.Ytcelkmphdeaaeaa
