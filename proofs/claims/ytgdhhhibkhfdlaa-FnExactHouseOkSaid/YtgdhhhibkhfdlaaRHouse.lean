/- The struct House: its cells, its memory, what the exact laws ask of it. (By gen_rec.py.) -/
import Derived.Test.YtgdhhhibkhfdlaaFLAsker
import Derived.Test.YtgdhhhibkhfdlaaFLLine
import Derived.Test.YtgdhhhibkhfdlaaTHand
import Derived.Test.YtgdhhhibkhfdlaaConfEq
namespace Go.Proofs.Ytgdhhhibkhfdlaa
open Go.RowKit
set_option maxRecDepth 100000
set_option linter.unusedVariables false
set_option linter.unusedSimpArgs false

theorem hd_own_nil {w : World} {base : Nat} {cs : List Value} {x : Hd} {fp : List Nat} (h : hdR.own w base cs x fp) : fp = [] := by
  obtain ⟨_, _, ⟨_, a⟩, ⟨_, _, ⟨_, b⟩, ⟨_, _, ⟨_, c⟩, ⟨_, d⟩, e, _⟩, f, _⟩, g, _⟩ := h
  rw [g, f, e, a, b, c, d]; rfl
theorem dbs_of {w : World} {B : Nat} {cs : List Value} {xs : List Db} (h : dbsR.at_ w B cs xs) : ∃ A c, cs.headD undef = .slice A xs.length c ∧ xs.length ≤ c ∧ c ≤ maxLen ∧ Rep.RowsAt dbR w B A xs.length xs := by
  obtain ⟨A, c, rfl, h1, h2⟩ := h
  exact ⟨A, c, rfl, h1.1, h1.2, h2⟩

theorem szDbS_rep (cs : List Value) (xs : List Db) (left : Nat) (w : World) (h : dbsR.at_ w w.heap.size cs xs) (hl : left ≤ 1048576) (hk : OkDbs xs) : Calls Try.prog 133 #[cs.headD undef, .int .i64 left] w (RoomB (FitsDbs xs) left w) := by
  obtain ⟨A, c, hv, h1, h2, hr⟩ := dbs_of h
  rw [hv]
  exact szDbS_room A c xs left w hr (Nat.le_trans h1 h2) hk hl
theorem toDbS_rep (cs : List Value) (xs : List Db) (w : World) (h : dbsR.at_ w w.heap.size cs xs) (hs : FitsDbs xs) : Calls Try.prog 136 #[cs.headD undef] w (RetDbs w xs) := by
  obtain ⟨A, c, hv, h1, h2, hr⟩ := dbs_of h
  rw [hv]
  exact toDbS_any A c xs w hr hs.1
theorem eqDbS_rep (cs cs' : List Value) (xs : List Db) (w : World) (h : dbsR.at_ w w.heap.size cs xs) (h' : dbsR.at_ w w.heap.size cs' xs) (hs : FitsDbs xs) : Calls Try.prog 140 #[cs.headD undef, cs'.headD undef] w fun e w' => e = .returned (.bool true) ∧ Below w.heap.size w w' := by
  obtain ⟨A, c, hv, _, _, hr⟩ := dbs_of h
  obtain ⟨A', c', hv', _, _, hr'⟩ := dbs_of h'
  rw [hv, hv']
  exact eqDbS_same A A' c c' xs w hr hr' hs.1

structure Ho where
  st : Int
  epoch : Int
  gen : Int
  conf : List Db
  paused : Bool
  as_ : List Ak
  ls : List Ln
  ticket : Int
  h : Hd
def hoR : Rep Ho := (Rep.int.pair (Rep.int.pair (Rep.int.pair (dbsR.pair (Rep.bool.pair (akSR.pair (lnSR.pair (Rep.int.pair (hdR))))))))).iso (fun x => (x.st, x.epoch, x.gen, x.conf, x.paused, x.as_, x.ls, x.ticket, x.h)) (fun p => ⟨p.1, p.2.1, p.2.2.1, p.2.2.2.1, p.2.2.2.2.1, p.2.2.2.2.2.1, p.2.2.2.2.2.2.1, p.2.2.2.2.2.2.2.1, p.2.2.2.2.2.2.2.2⟩)

theorem ho_cells {w : World} {B : Nat} {x : Ho} {cs : List Value} (h : hoR.at_ w B cs x) : ∃ A3 c3 A5 c5 A6 c6, cs = [.int .i64 x.st, .int .i64 x.epoch, .int .i64 x.gen, .slice A3 x.conf.length c3, .bool x.paused, .slice A5 x.as_.length c5, .slice A6 x.ls.length c6, .int .i64 x.ticket, .int .i64 x.h.id, .int .i64 x.h.no, .int .i64 x.h.acked, .int .i64 x.h.since] ∧ dbsR.at_ w B [.slice A3 x.conf.length c3] x.conf ∧ akSR.at_ w B [.slice A5 x.as_.length c5] x.as_ ∧ lnSR.at_ w B [.slice A6 x.ls.length c6] x.ls := by
  have hl : cs.length = 12 := Rep.len hoR h
  obtain ⟨h0, h1, h2, h3, h4, h5, h6, h7, h8⟩ := h
  match cs, hl with
  | [u0, u1, u2, u3, u4, u5, u6, u7, u8, u9, u10, u11], _ =>
    replace h0 : [u0] = [.int .i64 x.st] := h0
    injection h0 with h0
    subst h0
    replace h1 : [u1] = [.int .i64 x.epoch] := h1
    injection h1 with h1
    subst h1
    replace h2 : [u2] = [.int .i64 x.gen] := h2
    injection h2 with h2
    subst h2
    replace h3 : dbsR.at_ w B [u3] x.conf := h3
    obtain ⟨A3, c3, e3⟩ := dbs_at_shape h3
    injection e3 with e3
    subst e3
    replace h4 : [u4] = [.bool x.paused] := h4
    injection h4 with h4
    subst h4
    replace h5 : akSR.at_ w B [u5] x.as_ := h5
    obtain ⟨A5, c5, e5⟩ := akS_at_shape h5
    injection e5 with e5
    subst e5
    replace h6 : lnSR.at_ w B [u6] x.ls := h6
    obtain ⟨A6, c6, e6⟩ := lnS_at_shape h6
    injection e6 with e6
    subst e6
    replace h7 : [u7] = [.int .i64 x.ticket] := h7
    injection h7 with h7
    subst h7
    have e8 := hd_cells (show hdR.at_ w B [u8, u9, u10, u11] x.h from h8)
    simp only [hdC, List.cons.injEq, and_true] at e8
    obtain ⟨rfl, rfl, rfl, rfl⟩ := e8
    exact ⟨A3, c3, A5, c5, A6, c6, rfl, h3, h5, h6⟩
theorem ho_at {w : World} {B : Nat} {x : Ho} {A3 : Option Addr} {c3 : Nat} {A5 : Option Addr} {c5 : Nat} {A6 : Option Addr} {c6 : Nat} (h3 : dbsR.at_ w B [.slice A3 x.conf.length c3] x.conf) (h5 : akSR.at_ w B [.slice A5 x.as_.length c5] x.as_) (h6 : lnSR.at_ w B [.slice A6 x.ls.length c6] x.ls) : hoR.at_ w B [.int .i64 x.st, .int .i64 x.epoch, .int .i64 x.gen, .slice A3 x.conf.length c3, .bool x.paused, .slice A5 x.as_.length c5, .slice A6 x.ls.length c6, .int .i64 x.ticket, .int .i64 x.h.id, .int .i64 x.h.no, .int .i64 x.h.acked, .int .i64 x.h.since] x :=
  ⟨rfl, rfl, rfl, h3, rfl, h5, h6, rfl, hd_at w B x.h⟩
theorem ho_own {w : World} {base : Nat} {x : Ho} {A3 : Option Addr} {c3 : Nat} {A5 : Option Addr} {c5 : Nat} {A6 : Option Addr} {c6 : Nat} {f3 f5 f6 : List Nat} (h3 : dbsR.own w base [.slice A3 x.conf.length c3] x.conf f3) (h5 : akSR.own w base [.slice A5 x.as_.length c5] x.as_ f5) (h6 : lnSR.own w base [.slice A6 x.ls.length c6] x.ls f6) (hn : (f3 ++ (f5 ++ (f6 ++ []))).Nodup) : hoR.own w base [.int .i64 x.st, .int .i64 x.epoch, .int .i64 x.gen, .slice A3 x.conf.length c3, .bool x.paused, .slice A5 x.as_.length c5, .slice A6 x.ls.length c6, .int .i64 x.ticket, .int .i64 x.h.id, .int .i64 x.h.no, .int .i64 x.h.acked, .int .i64 x.h.since] x (f3 ++ (f5 ++ (f6 ++ []))) :=
  ⟨[], f3 ++ (f5 ++ (f6 ++ [])), ⟨rfl, rfl⟩, ⟨[], f3 ++ (f5 ++ (f6 ++ [])), ⟨rfl, rfl⟩, ⟨[], f3 ++ (f5 ++ (f6 ++ [])), ⟨rfl, rfl⟩, ⟨f3, f5 ++ (f6 ++ []), h3, ⟨[], f5 ++ (f6 ++ []), ⟨rfl, rfl⟩, ⟨f5, f6 ++ [], h5, ⟨f6, [], h6, ⟨[], [], ⟨rfl, rfl⟩, hd_own w base x.h, rfl, (List.nodup_append.1 (List.nodup_append.1 (List.nodup_append.1 hn).2.1).2.1).2.1⟩, rfl, (List.nodup_append.1 (List.nodup_append.1 hn).2.1).2.1⟩, rfl, (List.nodup_append.1 hn).2.1⟩, rfl, (List.nodup_append.1 hn).2.1⟩, rfl, hn⟩, rfl, hn⟩, rfl, hn⟩, rfl, hn⟩
theorem ho_at_shape {w : World} {B : Nat} {x : Ho} {cs : List Value} (h : hoR.at_ w B cs x) : ∃ A3 c3 A5 c5 A6 c6, cs = [.int .i64 x.st, .int .i64 x.epoch, .int .i64 x.gen, .slice A3 x.conf.length c3, .bool x.paused, .slice A5 x.as_.length c5, .slice A6 x.ls.length c6, .int .i64 x.ticket, .int .i64 x.h.id, .int .i64 x.h.no, .int .i64 x.h.acked, .int .i64 x.h.since] := by
  obtain ⟨A3, c3, A5, c5, A6, c6, rfl, _⟩ := ho_cells h
  exact ⟨A3, c3, A5, c5, A6, c6, rfl⟩
theorem ho_own_shape {w : World} {base : Nat} {x : Ho} {cs : List Value} {fp : List Nat} (h : hoR.own w base cs x fp) : ∃ A3 c3 A5 c5 A6 c6, cs = [.int .i64 x.st, .int .i64 x.epoch, .int .i64 x.gen, .slice A3 x.conf.length c3, .bool x.paused, .slice A5 x.as_.length c5, .slice A6 x.ls.length c6, .int .i64 x.ticket, .int .i64 x.h.id, .int .i64 x.h.no, .int .i64 x.h.acked, .int .i64 x.h.since] := ho_at_shape (Rep.reads hoR h)
theorem ho_inv {w : World} {base : Nat} {x : Ho} {A3 : Option Addr} {c3 : Nat} {A5 : Option Addr} {c5 : Nat} {A6 : Option Addr} {c6 : Nat} {fp : List Nat} (h : hoR.own w base [.int .i64 x.st, .int .i64 x.epoch, .int .i64 x.gen, .slice A3 x.conf.length c3, .bool x.paused, .slice A5 x.as_.length c5, .slice A6 x.ls.length c6, .int .i64 x.ticket, .int .i64 x.h.id, .int .i64 x.h.no, .int .i64 x.h.acked, .int .i64 x.h.since] x fp) : ∃ f3 f5 f6, dbsR.own w base [.slice A3 x.conf.length c3] x.conf f3 ∧ akSR.own w base [.slice A5 x.as_.length c5] x.as_ f5 ∧ lnSR.own w base [.slice A6 x.ls.length c6] x.ls f6 ∧ (∀ a, a ∈ fp ↔ a ∈ f3 ∨ a ∈ f5 ∨ a ∈ f6) ∧ (f3 ++ (f5 ++ (f6 ++ []))).Nodup := by
  have hn0 := Rep.nodup hoR h
  obtain ⟨f0, g0, ⟨h0, hf0⟩, ⟨f1, g1, ⟨h1, hf1⟩, ⟨f2, g2, ⟨h2, hf2⟩, ⟨f3, g3, h3, ⟨f4, g4, ⟨h4, hf4⟩, ⟨f5, g5, h5, ⟨f6, g6, h6, ⟨f7, g7, ⟨h7, hf7⟩, h8, hff7, hnd7⟩, hff6, hnd6⟩, hff5, hnd5⟩, hff4, hnd4⟩, hff3, hnd3⟩, hff2, hnd2⟩, hff1, hnd1⟩, hff0, hnd0⟩ := h
  have hf8 : g7 = [] := hd_own_nil h8
  have e : fp = f3 ++ (f5 ++ (f6 ++ [])) := by
    rw [hff0, hff1, hff2, hff3, hff4, hff5, hff6, hff7]
    simp only [hf0, hf1, hf2, hf4, hf7, hf8, List.nil_append, List.append_nil]
  subst e
  exact ⟨f3, f5, f6, h3, h5, h6, fun a => by simp [or_assoc], hn0⟩

def OkHo (x : Ho) : Prop := (Lit.int .i64 x.st).wf = true ∧ (Lit.int .i64 x.epoch).wf = true ∧ (Lit.int .i64 x.gen).wf = true ∧ OkDbs x.conf ∧ True ∧ OkAkS x.as_ ∧ OkLnS x.ls ∧ (Lit.int .i64 x.ticket).wf = true ∧ OkHd x.h

open Go.ChangeShapes Go.WideShapes Go.Deep in
theorem ho_opens : Rep.Opens Try.prog 92 hoR OkHo := by
  intro H enc w base spare held fuel cs x h
  obtain ⟨xs, n, rfl, _, hl, hxl, hf⟩ := DataW.trod_struct Try.underlying92 h
  have hl' : cs.length = 12 := hl.trans (by kernel_rfl)
  obtain ⟨y0, h0, k0⟩ := (Rep.Opens.int Try.underlying3).field (hf 0 _ rfl) (by rw [hxl]; decide) (sz := 1) (by kernel_rfl)
  obtain ⟨y1, h1, k1⟩ := (Rep.Opens.int Try.underlying3).field (hf 1 _ rfl) (by rw [hxl]; decide) (sz := 1) (by kernel_rfl)
  obtain ⟨y2, h2, k2⟩ := (Rep.Opens.int Try.underlying3).field (hf 2 _ rfl) (by rw [hxl]; decide) (sz := 1) (by kernel_rfl)
  obtain ⟨y3, h3, k3⟩ := dbs_opens.field (hf 3 _ rfl) (by rw [hxl]; decide) (sz := 1) (by kernel_rfl)
  obtain ⟨y4, h4, k4⟩ := (Rep.Opens.bool Try.underlying4).field (hf 4 _ rfl) (by rw [hxl]; decide) (sz := 1) (by kernel_rfl)
  obtain ⟨y5, h5, k5⟩ := akS_opens.field (hf 5 _ rfl) (by rw [hxl]; decide) (sz := 1) (by kernel_rfl)
  obtain ⟨y6, h6, k6⟩ := lnS_opens.field (hf 6 _ rfl) (by rw [hxl]; decide) (sz := 1) (by kernel_rfl)
  obtain ⟨y7, h7, k7⟩ := (Rep.Opens.int Try.underlying3).field (hf 7 _ rfl) (by rw [hxl]; decide) (sz := 1) (by kernel_rfl)
  obtain ⟨y8, h8, k8⟩ := hd_opens.field (hf 8 _ rfl) (by rw [hxl]; decide) (sz := 4) (by kernel_rfl)
  match cs, hl' with
  | [c0, c1, c2, c3, c4, c5, c6, c7, c8, c9, c10, c11], _ => exact ⟨⟨y0, y1, y2, y3, y4, y5, y6, y7, y8⟩, ⟨h0, h1, h2, h3, h4, h5, h6, h7, h8⟩, k0, k1, k2, k3, trivial, k5, k6, k7, k8⟩

def FitsHo (x : Ho) : Prop := FitsDbs x.conf ∧ FitsAkS x.as_ ∧ FitsLnS x.ls

set_option maxHeartbeats 2000000 in
theorem szHo_rep (cs : List Value) (x : Ho) (left : Nat) (w : World) (h : hoR.at_ w w.heap.size cs x) (hl : left ≤ 1048576) (hk : OkHo x) :
    Calls Try.prog 65 #[.agg cs.toArray, .int .i64 left] w (RoomB (FitsHo x) left w) := by
  obtain ⟨A3, c3, A5, c5, A6, c6, rfl, t3, t5, t6⟩ := ho_cells h
  have K3 := Lib.hid (hk.2.2.2.1)
  have K5 := Lib.hid (hk.2.2.2.2.2.1)
  have K6 := Lib.hid (hk.2.2.2.2.2.2.1)
  have hb := Later.alloc w (.cells #[.int .i64 x.st, .int .i64 x.epoch, .int .i64 x.gen, .slice A3 x.conf.length c3, .bool x.paused, .slice A5 x.as_.length c5, .slice A6 x.ls.length c6, .int .i64 x.ticket, .int .i64 x.h.id, .int .i64 x.h.no, .int .i64 x.h.acked, .int .i64 x.h.since] 92)
  have V := heap_alloc_new w (.cells #[.int .i64 x.st, .int .i64 x.epoch, .int .i64 x.gen, .slice A3 x.conf.length c3, .bool x.paused, .slice A5 x.as_.length c5, .slice A6 x.ls.length c6, .int .i64 x.ticket, .int .i64 x.h.id, .int .i64 x.h.no, .int .i64 x.h.acked, .int .i64 x.h.since] 92)
  clear h hk
  go_enter Try.func65, Try.ntmps65
  go_wp2_with fail
  generalize w.alloc (.cells #[.int .i64 x.st, .int .i64 x.epoch, .int .i64 x.gen, .slice A3 x.conf.length c3, .bool x.paused, .slice A5 x.as_.length c5, .slice A6 x.ls.length c6, .int .i64 x.ticket, .int .i64 x.h.id, .int .i64 x.h.no, .int .i64 x.h.acked, .int .i64 x.h.since] 92) = W0 at hb V ⊢
  refine (szDbS_rep [.slice A3 x.conf.length c3] x.conf left W0 (Rep.more dbsR (Rep.at_below t3 hb) hb.size) hl K3.out).mono ?_
  rintro e W1 ⟨⟨z3, hz3, hbd3, rfl⟩ | rfl, hb3⟩
  rotate_left
  · replace hb := Later.trans hb hb3
    go_wp2_with fail
    go_ret
    exact ⟨.inr rfl, hb⟩
  have HB3 := Lib.hid hbd3
  clear hbd3
  replace V := (hb3.block _ (Array.getElem?_eq_some_iff.1 V).1).trans V
  replace hb := Later.trans hb hb3
  clear hb3
  have hz3' : z3 ≤ 1048576 := by omega
  have q5 := var_cell V 5
  go_wp2_with fail
  clear q5
  refine (szAkS_rep [.slice A5 x.as_.length c5] x.as_ z3 W1 (Rep.more akSR (Rep.at_below t5 hb) hb.size) hz3' K5.out).mono ?_
  rintro e W2 ⟨⟨z5, hz5, hbd5, rfl⟩ | rfl, hb5⟩
  rotate_left
  · replace hb := Later.trans hb hb5
    go_wp2_with fail
    go_ret
    exact ⟨.inr rfl, hb⟩
  have HB5 := Lib.hid hbd5
  clear hbd5
  replace V := (hb5.block _ (Array.getElem?_eq_some_iff.1 V).1).trans V
  replace hb := Later.trans hb hb5
  clear hb5
  have hz5' : z5 ≤ 1048576 := by omega
  have q6 := var_cell V 6
  go_wp2_with fail
  clear q6
  refine (szLnS_rep [.slice A6 x.ls.length c6] x.ls z5 W2 (Rep.more lnSR (Rep.at_below t6 hb) hb.size) hz5' K6.out).mono ?_
  rintro e W3 ⟨⟨z6, hz6, hbd6, rfl⟩ | rfl, hb6⟩
  rotate_left
  · replace hb := Later.trans hb hb6
    go_wp2_with fail
    go_ret
    exact ⟨.inr rfl, hb⟩
  have HB6 := Lib.hid hbd6
  clear hbd6
  replace V := (hb6.block _ (Array.getElem?_eq_some_iff.1 V).1).trans V
  replace hb := Later.trans hb hb6
  clear hb6
  have hz6' : z6 ≤ 1048576 := by omega
  go_wp2_with fail
  go_ret
  exact ⟨.inl ⟨z6, by omega, ⟨HB3.out, HB5.out, HB6.out⟩, rfl⟩, hb⟩

def RetHo (w : World) (x : Ho) (e : Ending) (w' : World) : Prop := ∃ A3 c3 A5 c5 A6 c6 fp, e = .returned (.agg #[.int .i64 x.st, .int .i64 x.epoch, .int .i64 x.gen, .slice A3 x.conf.length c3, .bool x.paused, .slice A5 x.as_.length c5, .slice A6 x.ls.length c6, .int .i64 x.ticket, .int .i64 x.h.id, .int .i64 x.h.no, .int .i64 x.h.acked, .int .i64 x.h.since]) ∧ hoR.own w' w.heap.size [.int .i64 x.st, .int .i64 x.epoch, .int .i64 x.gen, .slice A3 x.conf.length c3, .bool x.paused, .slice A5 x.as_.length c5, .slice A6 x.ls.length c6, .int .i64 x.ticket, .int .i64 x.h.id, .int .i64 x.h.no, .int .i64 x.h.acked, .int .i64 x.h.since] x fp ∧ Below w.heap.size w w'
set_option maxHeartbeats 8000000 in
theorem toHo_rep (cs : List Value) (x : Ho) (w : World) (h : hoR.at_ w w.heap.size cs x) (hs : FitsHo x) :
    Calls Try.prog 66 #[.agg cs.toArray] w (RetHo w x) := by
  obtain ⟨A3, c3, A5, c5, A6, c6, rfl, t3, t5, t6⟩ := ho_cells h
  have F3 := Lib.hid (hs.1)
  have F5 := Lib.hid (hs.2.1)
  have F6 := Lib.hid (hs.2.2)
  clear h hs
  have HW : Below w.heap.size w (((w.alloc (.cells #[.int .i64 x.st, .int .i64 x.epoch, .int .i64 x.gen, .slice A3 x.conf.length c3, .bool x.paused, .slice A5 x.as_.length c5, .slice A6 x.ls.length c6, .int .i64 x.ticket, .int .i64 x.h.id, .int .i64 x.h.no, .int .i64 x.h.acked, .int .i64 x.h.since] 92)).alloc (.cells #[.int .i64 0, .int .i64 0, .int .i64 0, .slice none 0 0, .bool false, .slice none 0 0, .slice none 0 0, .int .i64 0, .int .i64 0, .int .i64 0, .int .i64 0, .int .i64 0] 70)).alloc (.cells #[.int .i64 x.st, .int .i64 x.epoch, .int .i64 x.gen, .slice none 0 0, .bool false, .slice none 0 0, .slice none 0 0, .int .i64 0, .int .i64 0, .int .i64 0, .int .i64 0, .int .i64 0] 70)) := Later.trans (Later.trans (Later.alloc w _) (Later.alloc _ _)) (Later.alloc _ _)
  have V : (((w.alloc (.cells #[.int .i64 x.st, .int .i64 x.epoch, .int .i64 x.gen, .slice A3 x.conf.length c3, .bool x.paused, .slice A5 x.as_.length c5, .slice A6 x.ls.length c6, .int .i64 x.ticket, .int .i64 x.h.id, .int .i64 x.h.no, .int .i64 x.h.acked, .int .i64 x.h.since] 92)).alloc (.cells #[.int .i64 0, .int .i64 0, .int .i64 0, .slice none 0 0, .bool false, .slice none 0 0, .slice none 0 0, .int .i64 0, .int .i64 0, .int .i64 0, .int .i64 0, .int .i64 0] 70)).alloc (.cells #[.int .i64 x.st, .int .i64 x.epoch, .int .i64 x.gen, .slice none 0 0, .bool false, .slice none 0 0, .slice none 0 0, .int .i64 0, .int .i64 0, .int .i64 0, .int .i64 0, .int .i64 0] 70)).heap[w.heap.size + 1 + 1]? = some (.cells #[.int .i64 x.st, .int .i64 x.epoch, .int .i64 x.gen, .slice none 0 0, .bool false, .slice none 0 0, .slice none 0 0, .int .i64 0, .int .i64 0, .int .i64 0, .int .i64 0, .int .i64 0] 70 (0, 0)) := heap_alloc_new' _ _ (by simp)
  have Z : (((w.alloc (.cells #[.int .i64 x.st, .int .i64 x.epoch, .int .i64 x.gen, .slice A3 x.conf.length c3, .bool x.paused, .slice A5 x.as_.length c5, .slice A6 x.ls.length c6, .int .i64 x.ticket, .int .i64 x.h.id, .int .i64 x.h.no, .int .i64 x.h.acked, .int .i64 x.h.since] 92)).alloc (.cells #[.int .i64 0, .int .i64 0, .int .i64 0, .slice none 0 0, .bool false, .slice none 0 0, .slice none 0 0, .int .i64 0, .int .i64 0, .int .i64 0, .int .i64 0, .int .i64 0] 70)).alloc (.cells #[.int .i64 x.st, .int .i64 x.epoch, .int .i64 x.gen, .slice none 0 0, .bool false, .slice none 0 0, .slice none 0 0, .int .i64 0, .int .i64 0, .int .i64 0, .int .i64 0, .int .i64 0] 70)).heap[w.heap.size + 1]? = some (.cells #[.int .i64 0, .int .i64 0, .int .i64 0, .slice none 0 0, .bool false, .slice none 0 0, .slice none 0 0, .int .i64 0, .int .i64 0, .int .i64 0, .int .i64 0, .int .i64 0] 70 (0, 0)) := (Below.heap_alloc _ _ _ (by simp)).trans (heap_alloc_new' _ _ (by simp))
  have Q : (((w.alloc (.cells #[.int .i64 x.st, .int .i64 x.epoch, .int .i64 x.gen, .slice A3 x.conf.length c3, .bool x.paused, .slice A5 x.as_.length c5, .slice A6 x.ls.length c6, .int .i64 x.ticket, .int .i64 x.h.id, .int .i64 x.h.no, .int .i64 x.h.acked, .int .i64 x.h.since] 92)).alloc (.cells #[.int .i64 0, .int .i64 0, .int .i64 0, .slice none 0 0, .bool false, .slice none 0 0, .slice none 0 0, .int .i64 0, .int .i64 0, .int .i64 0, .int .i64 0, .int .i64 0] 70)).alloc (.cells #[.int .i64 x.st, .int .i64 x.epoch, .int .i64 x.gen, .slice none 0 0, .bool false, .slice none 0 0, .slice none 0 0, .int .i64 0, .int .i64 0, .int .i64 0, .int .i64 0, .int .i64 0] 70)).heap[w.heap.size]? = some (.cells #[.int .i64 x.st, .int .i64 x.epoch, .int .i64 x.gen, .slice A3 x.conf.length c3, .bool x.paused, .slice A5 x.as_.length c5, .slice A6 x.ls.length c6, .int .i64 x.ticket, .int .i64 x.h.id, .int .i64 x.h.no, .int .i64 x.h.acked, .int .i64 x.h.since] 92 (0, 0)) := (Below.heap_alloc _ _ _ (by simp; omega)).trans ((Below.heap_alloc _ _ _ (by simp)).trans (heap_alloc_new w _))
  go_enter Try.func66, Try.ntmps66
  go_wp2_with fail
  generalize ((w.alloc (.cells #[.int .i64 x.st, .int .i64 x.epoch, .int .i64 x.gen, .slice A3 x.conf.length c3, .bool x.paused, .slice A5 x.as_.length c5, .slice A6 x.ls.length c6, .int .i64 x.ticket, .int .i64 x.h.id, .int .i64 x.h.no, .int .i64 x.h.acked, .int .i64 x.h.since] 92)).alloc (.cells #[.int .i64 0, .int .i64 0, .int .i64 0, .slice none 0 0, .bool false, .slice none 0 0, .slice none 0 0, .int .i64 0, .int .i64 0, .int .i64 0, .int .i64 0, .int .i64 0] 70)).alloc (.cells #[.int .i64 x.st, .int .i64 x.epoch, .int .i64 x.gen, .slice none 0 0, .bool false, .slice none 0 0, .slice none 0 0, .int .i64 0, .int .i64 0, .int .i64 0, .int .i64 0, .int .i64 0] 70) = W0 at HW V Z Q ⊢
  have hD : w.heap.size + 1 + 1 < W0.heap.size := (Array.getElem?_eq_some_iff.1 V).1
  refine (toDbS_rep [.slice A3 x.conf.length c3] x.conf W0 (Rep.more dbsR (Rep.at_below t3 HW) HW.size) F3.out).mono ?_
  rintro e w0 ⟨D3, d3, fp3, rfl, o3, hb⟩
  have M3 := Lib.hid (show ∀ a, a ∈ fp3 → W0.heap.size ≤ a ∧ a < w0.heap.size from Rep.lt dbsR o3)
  replace o3 := Rep.low dbsR o3 (show w.heap.size + 1 + 1 + 1 ≤ W0.heap.size by omega)
  replace V := (hb.block _ hD).trans V
  replace Z := (hb.block _ (by omega)).trans Z
  replace Q := (hb.block _ (by omega)).trans Q
  replace HW := HW.trans (hb.mono HW.size)
  have N0 := hb.size
  clear hb hD
  have q0 := var_cell V 0
  have t0_ := var_frozen V 0
  have p0 := var_cell Q 0
  have q1 := var_cell V 1
  have t1_ := var_frozen V 1
  have p1 := var_cell Q 1
  have q2 := var_cell V 2
  have t2_ := var_frozen V 2
  have p2 := var_cell Q 2
  have q3 := var_cell V 3
  have t3_ := var_frozen V 3
  have p3 := var_cell Q 3
  have q4 := var_cell V 4
  have t4_ := var_frozen V 4
  have p4 := var_cell Q 4
  have q5 := var_cell V 5
  have t5_ := var_frozen V 5
  have p5 := var_cell Q 5
  have q6 := var_cell V 6
  have t6_ := var_frozen V 6
  have p6 := var_cell Q 6
  have q7 := var_cell V 7
  have t7_ := var_frozen V 7
  have p7 := var_cell Q 7
  have q8 := var_cell V 8
  have t8_ := var_frozen V 8
  have p8 := var_cell Q 8
  have q9 := var_cell V 9
  have t9_ := var_frozen V 9
  have p9 := var_cell Q 9
  have q10 := var_cell V 10
  have t10_ := var_frozen V 10
  have p10 := var_cell Q 10
  have q11 := var_cell V 11
  have t11_ := var_frozen V 11
  have p11 := var_cell Q 11
  have hD : w.heap.size + 1 + 1 < w0.heap.size := (Array.getElem?_eq_some_iff.1 V).1
  go_wp2_with fail
  clear q0 t0_ p0 q1 t1_ p1 q2 t2_ p2 q3 t3_ p3 q4 t4_ p4 q5 t5_ p5 q6 t6_ p6 q7 t7_ p7 q8 t8_ p8 q9 t9_ p9 q10 t10_ p10 q11 t11_ p11
  have V0 := V
  replace V0 : (w0.setCell ⟨w.heap.size + 1 + 1, 3, none⟩ (.slice D3 x.conf.length d3)).heap[w.heap.size + 1 + 1]? = some (.cells #[.int .i64 x.st, .int .i64 x.epoch, .int .i64 x.gen, .slice D3 x.conf.length d3, .bool false, .slice none 0 0, .slice none 0 0, .int .i64 0, .int .i64 0, .int .i64 0, .int .i64 0, .int .i64 0] 70 (0, 0)) := by simpa using var_set V0 3 (.slice D3 x.conf.length d3)
  replace V0 : ((w0.setCell ⟨w.heap.size + 1 + 1, 3, none⟩ (.slice D3 x.conf.length d3)).setCell ⟨w.heap.size + 1 + 1, 4, none⟩ (.bool x.paused)).heap[w.heap.size + 1 + 1]? = some (.cells #[.int .i64 x.st, .int .i64 x.epoch, .int .i64 x.gen, .slice D3 x.conf.length d3, .bool x.paused, .slice none 0 0, .slice none 0 0, .int .i64 0, .int .i64 0, .int .i64 0, .int .i64 0, .int .i64 0] 70 (0, 0)) := by simpa using var_set V0 4 (.bool x.paused)
  have os := Rep.Only.refl w0 [w.heap.size + 1 + 1]
  replace os := os.trans (Rep.Only.setCell _ (p := ⟨w.heap.size + 1 + 1, 3, none⟩) (by simp) (.slice D3 x.conf.length d3))
  replace os := os.trans (Rep.Only.setCell _ (p := ⟨w.heap.size + 1 + 1, 4, none⟩) (by simp) (.bool x.paused))
  replace HW := Rep.Only.below HW os HW.size (fun a ha => by simp at ha; omega)
  replace Z := (os.block _ (by omega) (by simp)).trans Z
  replace Q := (os.block _ (by omega) (by simp; omega)).trans Q
  replace o3 := Rep.own_only o3 os (fun a ha hm => by simp at hm; have := (Rep.lt dbsR o3 a ha).1; omega)
  have N0' := os.size
  clear V os
  generalize ((w0.setCell ⟨w.heap.size + 1 + 1, 3, none⟩ (.slice D3 x.conf.length d3)).setCell ⟨w.heap.size + 1 + 1, 4, none⟩ (.bool x.paused)) = W1 at HW V0 Z Q N0' o3 ⊢
  have V := V0
  clear V0
  have hD : w.heap.size + 1 + 1 < W1.heap.size := (Array.getElem?_eq_some_iff.1 V).1
  refine (toAkS_rep [.slice A5 x.as_.length c5] x.as_ W1 (Rep.more akSR (Rep.at_below t5 HW) HW.size) F5.out).mono ?_
  rintro e w1 ⟨D5, d5, fp5, rfl, o5, hb⟩
  have M5 := Lib.hid (show ∀ a, a ∈ fp5 → W1.heap.size ≤ a ∧ a < w1.heap.size from Rep.lt akSR o5)
  replace o5 := Rep.low akSR o5 (show w.heap.size + 1 + 1 + 1 ≤ W1.heap.size by omega)
  replace V := (hb.block _ hD).trans V
  replace Z := (hb.block _ (by omega)).trans Z
  replace Q := (hb.block _ (by omega)).trans Q
  replace HW := HW.trans (hb.mono HW.size)
  replace o3 := Rep.own_below o3 hb
  have N1 := hb.size
  clear hb hD
  have q0 := var_cell V 0
  have t0_ := var_frozen V 0
  have p0 := var_cell Q 0
  have q1 := var_cell V 1
  have t1_ := var_frozen V 1
  have p1 := var_cell Q 1
  have q2 := var_cell V 2
  have t2_ := var_frozen V 2
  have p2 := var_cell Q 2
  have q3 := var_cell V 3
  have t3_ := var_frozen V 3
  have p3 := var_cell Q 3
  have q4 := var_cell V 4
  have t4_ := var_frozen V 4
  have p4 := var_cell Q 4
  have q5 := var_cell V 5
  have t5_ := var_frozen V 5
  have p5 := var_cell Q 5
  have q6 := var_cell V 6
  have t6_ := var_frozen V 6
  have p6 := var_cell Q 6
  have q7 := var_cell V 7
  have t7_ := var_frozen V 7
  have p7 := var_cell Q 7
  have q8 := var_cell V 8
  have t8_ := var_frozen V 8
  have p8 := var_cell Q 8
  have q9 := var_cell V 9
  have t9_ := var_frozen V 9
  have p9 := var_cell Q 9
  have q10 := var_cell V 10
  have t10_ := var_frozen V 10
  have p10 := var_cell Q 10
  have q11 := var_cell V 11
  have t11_ := var_frozen V 11
  have p11 := var_cell Q 11
  have hD : w.heap.size + 1 + 1 < w1.heap.size := (Array.getElem?_eq_some_iff.1 V).1
  go_wp2_with fail
  clear q0 t0_ p0 q1 t1_ p1 q2 t2_ p2 q3 t3_ p3 q4 t4_ p4 q5 t5_ p5 q6 t6_ p6 q7 t7_ p7 q8 t8_ p8 q9 t9_ p9 q10 t10_ p10 q11 t11_ p11
  have V0 := V
  replace V0 : (w1.setCell ⟨w.heap.size + 1 + 1, 5, none⟩ (.slice D5 x.as_.length d5)).heap[w.heap.size + 1 + 1]? = some (.cells #[.int .i64 x.st, .int .i64 x.epoch, .int .i64 x.gen, .slice D3 x.conf.length d3, .bool x.paused, .slice D5 x.as_.length d5, .slice none 0 0, .int .i64 0, .int .i64 0, .int .i64 0, .int .i64 0, .int .i64 0] 70 (0, 0)) := by simpa using var_set V0 5 (.slice D5 x.as_.length d5)
  have os := Rep.Only.refl w1 [w.heap.size + 1 + 1]
  replace os := os.trans (Rep.Only.setCell _ (p := ⟨w.heap.size + 1 + 1, 5, none⟩) (by simp) (.slice D5 x.as_.length d5))
  replace HW := Rep.Only.below HW os HW.size (fun a ha => by simp at ha; omega)
  replace Z := (os.block _ (by omega) (by simp)).trans Z
  replace Q := (os.block _ (by omega) (by simp; omega)).trans Q
  replace o3 := Rep.own_only o3 os (fun a ha hm => by simp at hm; have := (Rep.lt dbsR o3 a ha).1; omega)
  replace o5 := Rep.own_only o5 os (fun a ha hm => by simp at hm; have := (Rep.lt akSR o5 a ha).1; omega)
  have N1' := os.size
  clear V os
  generalize (w1.setCell ⟨w.heap.size + 1 + 1, 5, none⟩ (.slice D5 x.as_.length d5)) = W2 at HW V0 Z Q N1' o3 o5 ⊢
  have V := V0
  clear V0
  have hD : w.heap.size + 1 + 1 < W2.heap.size := (Array.getElem?_eq_some_iff.1 V).1
  refine (toLnS_rep [.slice A6 x.ls.length c6] x.ls W2 (Rep.more lnSR (Rep.at_below t6 HW) HW.size) F6.out).mono ?_
  rintro e w2 ⟨D6, d6, fp6, rfl, o6, hb⟩
  have M6 := Lib.hid (show ∀ a, a ∈ fp6 → W2.heap.size ≤ a ∧ a < w2.heap.size from Rep.lt lnSR o6)
  replace o6 := Rep.low lnSR o6 (show w.heap.size + 1 + 1 + 1 ≤ W2.heap.size by omega)
  replace V := (hb.block _ hD).trans V
  replace Z := (hb.block _ (by omega)).trans Z
  replace Q := (hb.block _ (by omega)).trans Q
  replace HW := HW.trans (hb.mono HW.size)
  replace o3 := Rep.own_below o3 hb
  replace o5 := Rep.own_below o5 hb
  have N2 := hb.size
  clear hb hD
  have q0 := var_cell V 0
  have t0_ := var_frozen V 0
  have p0 := var_cell Q 0
  have q1 := var_cell V 1
  have t1_ := var_frozen V 1
  have p1 := var_cell Q 1
  have q2 := var_cell V 2
  have t2_ := var_frozen V 2
  have p2 := var_cell Q 2
  have q3 := var_cell V 3
  have t3_ := var_frozen V 3
  have p3 := var_cell Q 3
  have q4 := var_cell V 4
  have t4_ := var_frozen V 4
  have p4 := var_cell Q 4
  have q5 := var_cell V 5
  have t5_ := var_frozen V 5
  have p5 := var_cell Q 5
  have q6 := var_cell V 6
  have t6_ := var_frozen V 6
  have p6 := var_cell Q 6
  have q7 := var_cell V 7
  have t7_ := var_frozen V 7
  have p7 := var_cell Q 7
  have q8 := var_cell V 8
  have t8_ := var_frozen V 8
  have p8 := var_cell Q 8
  have q9 := var_cell V 9
  have t9_ := var_frozen V 9
  have p9 := var_cell Q 9
  have q10 := var_cell V 10
  have t10_ := var_frozen V 10
  have p10 := var_cell Q 10
  have q11 := var_cell V 11
  have t11_ := var_frozen V 11
  have p11 := var_cell Q 11
  have hD : w.heap.size + 1 + 1 < w2.heap.size := (Array.getElem?_eq_some_iff.1 V).1
  go_wp2_with fail
  clear q0 t0_ p0 q1 t1_ p1 q2 t2_ p2 q3 t3_ p3 q4 t4_ p4 q5 t5_ p5 q6 t6_ p6 q7 t7_ p7 q8 t8_ p8 q9 t9_ p9 q10 t10_ p10 q11 t11_ p11
  have V0 := V
  replace V0 : (w2.setCell ⟨w.heap.size + 1 + 1, 6, none⟩ (.slice D6 x.ls.length d6)).heap[w.heap.size + 1 + 1]? = some (.cells #[.int .i64 x.st, .int .i64 x.epoch, .int .i64 x.gen, .slice D3 x.conf.length d3, .bool x.paused, .slice D5 x.as_.length d5, .slice D6 x.ls.length d6, .int .i64 0, .int .i64 0, .int .i64 0, .int .i64 0, .int .i64 0] 70 (0, 0)) := by simpa using var_set V0 6 (.slice D6 x.ls.length d6)
  replace V0 : ((w2.setCell ⟨w.heap.size + 1 + 1, 6, none⟩ (.slice D6 x.ls.length d6)).setCell ⟨w.heap.size + 1 + 1, 7, none⟩ (.int .i64 x.ticket)).heap[w.heap.size + 1 + 1]? = some (.cells #[.int .i64 x.st, .int .i64 x.epoch, .int .i64 x.gen, .slice D3 x.conf.length d3, .bool x.paused, .slice D5 x.as_.length d5, .slice D6 x.ls.length d6, .int .i64 x.ticket, .int .i64 0, .int .i64 0, .int .i64 0, .int .i64 0] 70 (0, 0)) := by simpa using var_set V0 7 (.int .i64 x.ticket)
  have os := Rep.Only.refl w2 [w.heap.size + 1 + 1]
  replace os := os.trans (Rep.Only.setCell _ (p := ⟨w.heap.size + 1 + 1, 6, none⟩) (by simp) (.slice D6 x.ls.length d6))
  replace os := os.trans (Rep.Only.setCell _ (p := ⟨w.heap.size + 1 + 1, 7, none⟩) (by simp) (.int .i64 x.ticket))
  replace HW := Rep.Only.below HW os HW.size (fun a ha => by simp at ha; omega)
  replace Z := (os.block _ (by omega) (by simp)).trans Z
  replace Q := (os.block _ (by omega) (by simp; omega)).trans Q
  replace o3 := Rep.own_only o3 os (fun a ha hm => by simp at hm; have := (Rep.lt dbsR o3 a ha).1; omega)
  replace o5 := Rep.own_only o5 os (fun a ha hm => by simp at hm; have := (Rep.lt akSR o5 a ha).1; omega)
  replace o6 := Rep.own_only o6 os (fun a ha hm => by simp at hm; have := (Rep.lt lnSR o6 a ha).1; omega)
  have N2' := os.size
  clear V os
  generalize ((w2.setCell ⟨w.heap.size + 1 + 1, 6, none⟩ (.slice D6 x.ls.length d6)).setCell ⟨w.heap.size + 1 + 1, 7, none⟩ (.int .i64 x.ticket)) = W3 at HW V0 Z Q N2' o3 o5 o6 ⊢
  have V := V0
  clear V0
  have hD : w.heap.size + 1 + 1 < W3.heap.size := (Array.getElem?_eq_some_iff.1 V).1
  refine (toHd_any x.h W3).mono ?_
  rintro e w3 ⟨rfl, hb⟩
  replace V := (hb.block _ hD).trans V
  replace Z := (hb.block _ (by omega)).trans Z
  replace Q := (hb.block _ (by omega)).trans Q
  replace HW := HW.trans (hb.mono HW.size)
  replace o3 := Rep.own_below o3 hb
  replace o5 := Rep.own_below o5 hb
  replace o6 := Rep.own_below o6 hb
  have N3 := hb.size
  clear hb hD
  have q0 := var_cell V 0
  have t0_ := var_frozen V 0
  have p0 := var_cell Q 0
  have q1 := var_cell V 1
  have t1_ := var_frozen V 1
  have p1 := var_cell Q 1
  have q2 := var_cell V 2
  have t2_ := var_frozen V 2
  have p2 := var_cell Q 2
  have q3 := var_cell V 3
  have t3_ := var_frozen V 3
  have p3 := var_cell Q 3
  have q4 := var_cell V 4
  have t4_ := var_frozen V 4
  have p4 := var_cell Q 4
  have q5 := var_cell V 5
  have t5_ := var_frozen V 5
  have p5 := var_cell Q 5
  have q6 := var_cell V 6
  have t6_ := var_frozen V 6
  have p6 := var_cell Q 6
  have q7 := var_cell V 7
  have t7_ := var_frozen V 7
  have p7 := var_cell Q 7
  have q8 := var_cell V 8
  have t8_ := var_frozen V 8
  have p8 := var_cell Q 8
  have q9 := var_cell V 9
  have t9_ := var_frozen V 9
  have p9 := var_cell Q 9
  have q10 := var_cell V 10
  have t10_ := var_frozen V 10
  have p10 := var_cell Q 10
  have q11 := var_cell V 11
  have t11_ := var_frozen V 11
  have p11 := var_cell Q 11
  have hD : w.heap.size + 1 + 1 < w3.heap.size := (Array.getElem?_eq_some_iff.1 V).1
  have z0 := var_cell Z 0
  have zf0 := var_frozen Z 0
  have z1 := var_cell Z 1
  have zf1 := var_frozen Z 1
  have z2 := var_cell Z 2
  have zf2 := var_frozen Z 2
  have z3 := var_cell Z 3
  have zf3 := var_frozen Z 3
  have z4 := var_cell Z 4
  have zf4 := var_frozen Z 4
  have z5 := var_cell Z 5
  have zf5 := var_frozen Z 5
  have z6 := var_cell Z 6
  have zf6 := var_frozen Z 6
  have z7 := var_cell Z 7
  have zf7 := var_frozen Z 7
  have z8 := var_cell Z 8
  have zf8 := var_frozen Z 8
  have z9 := var_cell Z 9
  have zf9 := var_frozen Z 9
  have z10 := var_cell Z 10
  have zf10 := var_frozen Z 10
  have z11 := var_cell Z 11
  have zf11 := var_frozen Z 11
  unfold hdC
  go_wp2_with fail
  clear q0 t0_ p0 q1 t1_ p1 q2 t2_ p2 q3 t3_ p3 q4 t4_ p4 q5 t5_ p5 q6 t6_ p6 q7 t7_ p7 q8 t8_ p8 q9 t9_ p9 q10 t10_ p10 q11 t11_ p11
  refine bodyPost_ret (v := .agg #[.int .i64 x.st, .int .i64 x.epoch, .int .i64 x.gen, .slice D3 x.conf.length d3, .bool x.paused, .slice D5 x.as_.length d5, .slice D6 x.ls.length d6, .int .i64 x.ticket, .int .i64 x.h.id, .int .i64 x.h.no, .int .i64 x.h.acked, .int .i64 x.h.since]) (by simp [results, Try.results66, go_sem, z0, z1, z2, z3, z4, z5, z6, z7, z8, z9, z10, z11]) rfl ?_
  refine ⟨D3, d3, D5, d5, D6, d6, fp3 ++ (fp5 ++ (fp6 ++ [])), rfl, ?_, ?_⟩
  · refine hoR.low (base := w.heap.size + 1 + 1 + 1) ?_ (by omega)
    repeat (refine Rep.setLow ?_ (by first | (simp; done) | (simp; omega)) _)
    have nd : (fp3 ++ (fp5 ++ (fp6 ++ []))).Nodup := by
      skip
      have nd3 := Rep.nodup dbsR o3
      have nd5 := Rep.nodup akSR o5
      have nd6 := Rep.nodup lnSR o6
      simp only [List.append_nil, List.nodup_append, List.mem_append]
      exact ⟨nd3, ⟨nd5, nd6, fun a ha b hb e => by subst e; exact (by have h1 := (M5.out a ha).2; have h2 := (M6.out a hb).1; omega)⟩, fun a ha b hb e => by subst e; exact hb.elim (fun hb => (by have h1 := (M3.out a ha).2; have h2 := (M5.out a hb).1; omega)) (fun hb => (by have h1 := (M3.out a ha).2; have h2 := (M6.out a hb).1; omega))⟩
    exact ho_own o3 o5 o6 nd
  · repeat (refine Below.setCell ?_ (by first | (simp; done) | (simp; omega)) _)
    exact HW

set_option maxHeartbeats 8000000 in
theorem eqHo_rep (cs cs' : List Value) (x : Ho) (w : World) (h : hoR.at_ w w.heap.size cs x) (h' : hoR.at_ w w.heap.size cs' x) (hs : FitsHo x) :
    Calls Try.prog 67 #[.agg cs.toArray, .agg cs'.toArray] w fun e w' => e = .returned (.bool true) ∧ Below w.heap.size w w' := by
  obtain ⟨A3, c3, A5, c5, A6, c6, rfl, t3, t5, t6⟩ := ho_cells h
  obtain ⟨B3, d3, B5, d5, B6, d6, rfl, s3, s5, s6⟩ := ho_cells h'
  have F3 := Lib.hid (hs.1)
  have F5 := Lib.hid (hs.2.1)
  have F6 := Lib.hid (hs.2.2)
  have S : All (fun w' => (Below w.heap.size w w' ∧ w'.heap[w.heap.size]? = some (.cells #[.int .i64 x.st, .int .i64 x.epoch, .int .i64 x.gen, .slice A3 x.conf.length c3, .bool x.paused, .slice A5 x.as_.length c5, .slice A6 x.ls.length c6, .int .i64 x.ticket, .int .i64 x.h.id, .int .i64 x.h.no, .int .i64 x.h.acked, .int .i64 x.h.since] 70 (0, 0))) ∧ w'.heap[w.heap.size + 1]? = some (.cells #[.int .i64 x.st, .int .i64 x.epoch, .int .i64 x.gen, .slice B3 x.conf.length d3, .bool x.paused, .slice B5 x.as_.length d5, .slice B6 x.ls.length d6, .int .i64 x.ticket, .int .i64 x.h.id, .int .i64 x.h.no, .int .i64 x.h.acked, .int .i64 x.h.since] 70 (0, 0))) ((w.alloc (.cells #[.int .i64 x.st, .int .i64 x.epoch, .int .i64 x.gen, .slice A3 x.conf.length c3, .bool x.paused, .slice A5 x.as_.length c5, .slice A6 x.ls.length c6, .int .i64 x.ticket, .int .i64 x.h.id, .int .i64 x.h.no, .int .i64 x.h.acked, .int .i64 x.h.since] 70)).alloc (.cells #[.int .i64 x.st, .int .i64 x.epoch, .int .i64 x.gen, .slice B3 x.conf.length d3, .bool x.paused, .slice B5 x.as_.length d5, .slice B6 x.ls.length d6, .int .i64 x.ticket, .int .i64 x.h.id, .int .i64 x.h.no, .int .i64 x.h.acked, .int .i64 x.h.since] 70)) :=
    ⟨⟨Later.trans (Later.alloc w _) (Later.alloc _ _), (Below.heap_alloc _ _ _ (by simp)).trans (heap_alloc_new w _)⟩, heap_alloc_new' _ _ (by simp)⟩
  clear h h' hs
  have e0 : (x.st != x.st) = false := by simp
  have e1 : (x.epoch != x.epoch) = false := by simp
  have e2 : (x.gen != x.gen) = false := by simp
  have e4 : (x.paused != x.paused) = false := by simp
  have e7 : (x.ticket != x.ticket) = false := by simp
  have e8 : (x.h.id != x.h.id) = false := by simp
  have e9 : (x.h.no != x.h.no) = false := by simp
  have e10 : (x.h.acked != x.h.acked) = false := by simp
  have e11 : (x.h.since != x.h.since) = false := by simp
  go_enter Try.func67, Try.ntmps67
  go_wp2_with fail
  generalize (w.alloc (.cells #[.int .i64 x.st, .int .i64 x.epoch, .int .i64 x.gen, .slice A3 x.conf.length c3, .bool x.paused, .slice A5 x.as_.length c5, .slice A6 x.ls.length c6, .int .i64 x.ticket, .int .i64 x.h.id, .int .i64 x.h.no, .int .i64 x.h.acked, .int .i64 x.h.since] 70)).alloc (.cells #[.int .i64 x.st, .int .i64 x.epoch, .int .i64 x.gen, .slice B3 x.conf.length d3, .bool x.paused, .slice B5 x.as_.length d5, .slice B6 x.ls.length d6, .int .i64 x.ticket, .int .i64 x.h.id, .int .i64 x.h.no, .int .i64 x.h.acked, .int .i64 x.h.since] 70) = W0 at S ⊢
  refine (eqDbS_rep [.slice A3 x.conf.length c3] [.slice B3 x.conf.length d3] x.conf W0 (Rep.more dbsR (Rep.at_below t3 S.out.1.1) S.out.1.1.size) (Rep.more dbsR (Rep.at_below s3 S.out.1.1) S.out.1.1.size) F3.out).mono ?_
  rintro e W1 ⟨rfl, hb⟩
  replace S := S.later hb
  clear hb
  have q0 := var_cell S.out.1.2 0
  have p0 := var_cell S.out.2 0
  have q1 := var_cell S.out.1.2 1
  have p1 := var_cell S.out.2 1
  have q2 := var_cell S.out.1.2 2
  have p2 := var_cell S.out.2 2
  have q3 := var_cell S.out.1.2 3
  have p3 := var_cell S.out.2 3
  have q4 := var_cell S.out.1.2 4
  have p4 := var_cell S.out.2 4
  have q5 := var_cell S.out.1.2 5
  have p5 := var_cell S.out.2 5
  have q6 := var_cell S.out.1.2 6
  have p6 := var_cell S.out.2 6
  have q7 := var_cell S.out.1.2 7
  have p7 := var_cell S.out.2 7
  have q8 := var_cell S.out.1.2 8
  have p8 := var_cell S.out.2 8
  have q9 := var_cell S.out.1.2 9
  have p9 := var_cell S.out.2 9
  have q10 := var_cell S.out.1.2 10
  have p10 := var_cell S.out.2 10
  have q11 := var_cell S.out.1.2 11
  have p11 := var_cell S.out.2 11
  go_wp2_with fail
  clear q0 p0 q1 p1 q2 p2 q3 p3 q4 p4 q5 p5 q6 p6 q7 p7 q8 p8 q9 p9 q10 p10 q11 p11
  refine (eqAkS_rep [.slice A5 x.as_.length c5] [.slice B5 x.as_.length d5] x.as_ W1 (Rep.more akSR (Rep.at_below t5 S.out.1.1) S.out.1.1.size) (Rep.more akSR (Rep.at_below s5 S.out.1.1) S.out.1.1.size) F5.out).mono ?_
  rintro e W2 ⟨rfl, hb⟩
  replace S := S.later hb
  clear hb
  have q0 := var_cell S.out.1.2 0
  have p0 := var_cell S.out.2 0
  have q1 := var_cell S.out.1.2 1
  have p1 := var_cell S.out.2 1
  have q2 := var_cell S.out.1.2 2
  have p2 := var_cell S.out.2 2
  have q3 := var_cell S.out.1.2 3
  have p3 := var_cell S.out.2 3
  have q4 := var_cell S.out.1.2 4
  have p4 := var_cell S.out.2 4
  have q5 := var_cell S.out.1.2 5
  have p5 := var_cell S.out.2 5
  have q6 := var_cell S.out.1.2 6
  have p6 := var_cell S.out.2 6
  have q7 := var_cell S.out.1.2 7
  have p7 := var_cell S.out.2 7
  have q8 := var_cell S.out.1.2 8
  have p8 := var_cell S.out.2 8
  have q9 := var_cell S.out.1.2 9
  have p9 := var_cell S.out.2 9
  have q10 := var_cell S.out.1.2 10
  have p10 := var_cell S.out.2 10
  have q11 := var_cell S.out.1.2 11
  have p11 := var_cell S.out.2 11
  go_wp2_with fail
  clear q0 p0 q1 p1 q2 p2 q3 p3 q4 p4 q5 p5 q6 p6 q7 p7 q8 p8 q9 p9 q10 p10 q11 p11
  refine (eqLnS_rep [.slice A6 x.ls.length c6] [.slice B6 x.ls.length d6] x.ls W2 (Rep.more lnSR (Rep.at_below t6 S.out.1.1) S.out.1.1.size) (Rep.more lnSR (Rep.at_below s6 S.out.1.1) S.out.1.1.size) F6.out).mono ?_
  rintro e W3 ⟨rfl, hb⟩
  replace S := S.later hb
  clear hb
  have q0 := var_cell S.out.1.2 0
  have p0 := var_cell S.out.2 0
  have q1 := var_cell S.out.1.2 1
  have p1 := var_cell S.out.2 1
  have q2 := var_cell S.out.1.2 2
  have p2 := var_cell S.out.2 2
  have q3 := var_cell S.out.1.2 3
  have p3 := var_cell S.out.2 3
  have q4 := var_cell S.out.1.2 4
  have p4 := var_cell S.out.2 4
  have q5 := var_cell S.out.1.2 5
  have p5 := var_cell S.out.2 5
  have q6 := var_cell S.out.1.2 6
  have p6 := var_cell S.out.2 6
  have q7 := var_cell S.out.1.2 7
  have p7 := var_cell S.out.2 7
  have q8 := var_cell S.out.1.2 8
  have p8 := var_cell S.out.2 8
  have q9 := var_cell S.out.1.2 9
  have p9 := var_cell S.out.2 9
  have q10 := var_cell S.out.1.2 10
  have p10 := var_cell S.out.2 10
  have q11 := var_cell S.out.1.2 11
  have p11 := var_cell S.out.2 11
  go_wp2_with fail
  clear q0 p0 q1 p1 q2 p2 q3 p3 q4 p4 q5 p5 q6 p6 q7 p7 q8 p8 q9 p9 q10 p10 q11 p11
  refine (eqHd_same x.h W3).mono ?_
  rintro e W4 ⟨rfl, hb⟩
  replace S := S.later hb
  clear hb
  have q0 := var_cell S.out.1.2 0
  have p0 := var_cell S.out.2 0
  have q1 := var_cell S.out.1.2 1
  have p1 := var_cell S.out.2 1
  have q2 := var_cell S.out.1.2 2
  have p2 := var_cell S.out.2 2
  have q3 := var_cell S.out.1.2 3
  have p3 := var_cell S.out.2 3
  have q4 := var_cell S.out.1.2 4
  have p4 := var_cell S.out.2 4
  have q5 := var_cell S.out.1.2 5
  have p5 := var_cell S.out.2 5
  have q6 := var_cell S.out.1.2 6
  have p6 := var_cell S.out.2 6
  have q7 := var_cell S.out.1.2 7
  have p7 := var_cell S.out.2 7
  have q8 := var_cell S.out.1.2 8
  have p8 := var_cell S.out.2 8
  have q9 := var_cell S.out.1.2 9
  have p9 := var_cell S.out.2 9
  have q10 := var_cell S.out.1.2 10
  have p10 := var_cell S.out.2 10
  have q11 := var_cell S.out.1.2 11
  have p11 := var_cell S.out.2 11
  go_wp2_with fail
  clear q0 p0 q1 p1 q2 p2 q3 p3 q4 p4 q5 p5 q6 p6 q7 p7 q8 p8 q9 p9 q10 p10 q11 p11
  go_ret
  exact ⟨rfl, S.out.1.1⟩

end Go.Proofs.Ytgdhhhibkhfdlaa
