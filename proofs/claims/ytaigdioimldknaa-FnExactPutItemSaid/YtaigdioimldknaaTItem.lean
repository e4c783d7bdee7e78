/- The struct Item: its cells, its memory; what the exact laws ask of it; compared with itself. (By gen_titem.py.) -/
import Derived.Test.YtaigdioimldknaaFLAsker
import Derived.Test.YtaigdioimldknaaFLLine
import Derived.Deep.Cut
import Derived.Deep.MidRow
import Derived.Test.YtaigdioimldknaaHalt
namespace Go.Proofs.Ytaigdioimldknaa
open Go.RowKit
set_option maxRecDepth 100000
set_option linter.unusedVariables false
set_option linter.unusedSimpArgs false

structure It where
  kind : Int
  a : Ak
  l : Ln
def itC (x : It) : List Value := [.int .i64 x.kind, .int .i64 x.a.sock, .string x.a.db, .int .i64 x.a.st, .int .i64 x.a.ticket, .int .i64 x.a.since, .string x.a.q, .int .i64 x.a.line, .int .i64 x.a.lease, .int .i64 x.l.sock, .string x.l.db, .int .i64 x.l.gen, .int .i64 x.l.st, .int .i64 x.l.since, .int .i64 x.l.asker, .int .i64 x.l.lease]
def itR : Rep It := (Rep.int.pair (akR.pair lnR)).iso (fun r => (r.kind, r.a, r.l)) (fun p => ⟨p.1, p.2.1, p.2.2⟩)
theorem it_cells {w : World} {B : Nat} {cs : List Value} {x : It} (h : itR.at_ w B cs x) : cs = itC x := by
  have hl : cs.length = 16 := Rep.len itR h
  obtain ⟨h0, h1, h2⟩ := h
  have e0 : cs.take 1 = [.int .i64 x.kind] := h0
  have e1 := ak_cells h1
  have e2 := ln_cells h2
  have e : cs = cs.take 1 ++ ((cs.drop 1).take 8 ++ (cs.drop 1).drop 8) := by rw [List.take_append_drop, List.take_append_drop]
  replace e1 : (cs.drop 1).take 8 = akC x.a := e1
  replace e2 : (cs.drop 1).drop 8 = lnC x.l := e2
  rw [e, e0, e1, e2]
  rfl
theorem it_own (w : World) (base : Nat) (x : It) : itR.own w base (itC x) x [] :=
  ⟨[], [], ⟨rfl, rfl⟩, ⟨[], [], ak_own w base x.a, ln_own w base x.l, rfl, by simp⟩, rfl, by simp⟩
theorem it_at (w : World) (B : Nat) (x : It) : itR.at_ w B (itC x) x := ⟨rfl, ak_at w B x.a, ln_at w B x.l⟩
def OkIt (x : It) : Prop := (Lit.int .i64 x.kind).wf = true ∧ OkAk x.a ∧ OkLn x.l

open Go.ChangeShapes Go.WideShapes Go.Deep in
theorem it_opens : Rep.Opens Try.prog 95 itR OkIt := by
  intro H enc w base spare held fuel cs x h
  obtain ⟨xs, n, rfl, _, hl, hxl, hf⟩ := DataW.trod_struct Try.underlying95 h
  have hl' : cs.length = 16 := hl.trans (by kernel_rfl)
  obtain ⟨y0, h0, k0⟩ := (Rep.Opens.int Try.underlying3).field (hf 0 _ rfl) (by rw [hxl]; decide) (sz := 1) (by kernel_rfl)
  obtain ⟨y1, h1, k1⟩ := ak_opens.field (hf 1 _ rfl) (by rw [hxl]; decide) (sz := 8) (by kernel_rfl)
  obtain ⟨y2, h2, k2⟩ := ln_opens.field (hf 2 _ rfl) (by rw [hxl]; decide) (sz := 7) (by kernel_rfl)
  match cs, hl' with
  | [c0, c1, c2, c3, c4, c5, c6, c7, c8, c9, c10, c11, c12, c13, c14, c15], _ => exact ⟨⟨y0, y1, y2⟩, ⟨h0, h1, h2⟩, k0, k1, k2⟩

def FitsIt (x : It) : Prop := FitsAk x.a ∧ FitsLn x.l
set_option maxHeartbeats 2000000 in
theorem szIt_room (x : It) (left : Nat) (w : World) (hk : OkIt x) (hl : left ≤ 1048576) : Calls Try.prog 66 #[.agg (itC x).toArray, .int .i64 left] w (RoomB (FitsIt x) left w) := by
  have HK := Lib.hid hk
  clear hk
  have S : All (fun w' => Below w.heap.size w w' ∧ w'.heap[w.heap.size]? = some (.cells #[.int .i64 x.kind, .int .i64 x.a.sock, .string x.a.db, .int .i64 x.a.st, .int .i64 x.a.ticket, .int .i64 x.a.since, .string x.a.q, .int .i64 x.a.line, .int .i64 x.a.lease, .int .i64 x.l.sock, .string x.l.db, .int .i64 x.l.gen, .int .i64 x.l.st, .int .i64 x.l.since, .int .i64 x.l.asker, .int .i64 x.l.lease] 95 (0, 0))) (w.alloc (.cells #[.int .i64 x.kind, .int .i64 x.a.sock, .string x.a.db, .int .i64 x.a.st, .int .i64 x.a.ticket, .int .i64 x.a.since, .string x.a.q, .int .i64 x.a.line, .int .i64 x.a.lease, .int .i64 x.l.sock, .string x.l.db, .int .i64 x.l.gen, .int .i64 x.l.st, .int .i64 x.l.since, .int .i64 x.l.asker, .int .i64 x.l.lease] 95)) := ⟨Later.alloc w _, heap_alloc_new w _⟩
  unfold itC
  go_enter Try.func66, Try.ntmps66
  go_wp2_with fail
  generalize w.alloc (.cells #[.int .i64 x.kind, .int .i64 x.a.sock, .string x.a.db, .int .i64 x.a.st, .int .i64 x.a.ticket, .int .i64 x.a.since, .string x.a.q, .int .i64 x.a.line, .int .i64 x.a.lease, .int .i64 x.l.sock, .string x.l.db, .int .i64 x.l.gen, .int .i64 x.l.st, .int .i64 x.l.since, .int .i64 x.l.asker, .int .i64 x.l.lease] 95) = W0 at S ⊢
  refine (szAk_rep (akC x.a) x.a left W0 (ak_at _ _ _) hl HK.out.2.1).mono ?_
  rintro e W1 ⟨⟨z, hz, hfit, rfl⟩ | rfl, hb⟩
  rotate_left
  · replace S := S.later hb
    clear hb
    go_wp2_with fail
    go_ret
    exact ⟨.inr rfl, S.out.1⟩
  · replace S := S.later hb
    clear hb
    have HF := Lib.hid hfit
    clear hfit
    have c9 := var_cell S.out.2 9
    have c10 := var_cell S.out.2 10
    have c11 := var_cell S.out.2 11
    have c12 := var_cell S.out.2 12
    have c13 := var_cell S.out.2 13
    have c14 := var_cell S.out.2 14
    have c15 := var_cell S.out.2 15
    go_wp2_with fail
    clear c9 c10 c11 c12 c13 c14 c15
    refine (szLn_rep (lnC x.l) x.l z W1 (ln_at _ _ _) (by omega) HK.out.2.2).mono ?_
    rintro e W2 ⟨⟨z2, hz2, hfit, rfl⟩ | rfl, hb⟩
    rotate_left
    · replace S := S.later hb
      clear hb
      go_wp2_with fail
      go_ret
      exact ⟨.inr rfl, S.out.1⟩
    · replace S := S.later hb
      clear hb
      have HG := Lib.hid hfit
      clear hfit
      go_wp2_with fail
      go_ret
      exact ⟨.inl ⟨z2, by omega, ⟨HF.out, HG.out⟩, rfl⟩, S.out.1⟩

def putA (cs : Array Value) (o : Nat) : List Value → Array Value
  | [] => cs
  | u :: us => putA (cs.setIfInBounds o u) (o + 1) us
theorem setRow_box {w : World} {g t : Nat} {cs : Array Value} (o : Nat) (us : List Value) (h : w.heap[g]? = some (.cells cs t (0, 0))) : (Rep.setRow w g o us).heap[g]? = some (.cells (putA cs o us) t (0, 0)) := by
  induction us generalizing w cs o with
  | nil => exact h
  | cons u us ih => exact ih (o + 1) (var_set h o u)

theorem setCells_row (w : World) (b o : Nat) (vs : List Value) : w.setCells b o vs = Rep.setRow w b o vs := by
  induction vs generalizing w o with
  | nil => rfl
  | cons v vs ih => exact ih _ _

set_option maxHeartbeats 4000000 in
theorem toIt_any (x : It) (w : World) : Calls Try.prog 67 #[.agg (itC x).toArray] w fun e w' => e = .returned (.agg (itC x).toArray) ∧ Below w.heap.size w w' := by
  unfold itC
  go_enter Try.func67, Try.ntmps67
  go_wp2_with fail
  have hA := Later.alloc w (.cells #[.int .i64 x.kind, .int .i64 x.a.sock, .string x.a.db, .int .i64 x.a.st, .int .i64 x.a.ticket, .int .i64 x.a.since, .string x.a.q, .int .i64 x.a.line, .int .i64 x.a.lease, .int .i64 x.l.sock, .string x.l.db, .int .i64 x.l.gen, .int .i64 x.l.st, .int .i64 x.l.since, .int .i64 x.l.asker, .int .i64 x.l.lease] 95)
  obtain ⟨a0, ha0⟩ : ∃ a0, w.alloc (.cells #[.int .i64 x.kind, .int .i64 x.a.sock, .string x.a.db, .int .i64 x.a.st, .int .i64 x.a.ticket, .int .i64 x.a.since, .string x.a.q, .int .i64 x.a.line, .int .i64 x.a.lease, .int .i64 x.l.sock, .string x.l.db, .int .i64 x.l.gen, .int .i64 x.l.st, .int .i64 x.l.since, .int .i64 x.l.asker, .int .i64 x.l.lease] 95) = a0 := ⟨_, rfl⟩
  have s0 : a0.heap.size = w.heap.size + 1 := by rw [← ha0]; simp
  have v0 := heap_alloc_new w (.cells #[.int .i64 x.kind, .int .i64 x.a.sock, .string x.a.db, .int .i64 x.a.st, .int .i64 x.a.ticket, .int .i64 x.a.since, .string x.a.q, .int .i64 x.a.line, .int .i64 x.a.lease, .int .i64 x.l.sock, .string x.l.db, .int .i64 x.l.gen, .int .i64 x.l.st, .int .i64 x.l.since, .int .i64 x.l.asker, .int .i64 x.l.lease] 95)
  rw [ha0] at hA v0
  obtain ⟨a1, ha1⟩ : ∃ a1, a0.alloc (.cells #[.int .i64 0, .int .i64 0, .string ⟨#[]⟩, .int .i64 0, .int .i64 0, .int .i64 0, .string ⟨#[]⟩, .int .i64 0, .int .i64 0, .int .i64 0, .string ⟨#[]⟩, .int .i64 0, .int .i64 0, .int .i64 0, .int .i64 0, .int .i64 0] 62) = a1 := ⟨_, rfl⟩
  have s1 : a1.heap.size = w.heap.size + 1 + 1 := by rw [← ha1]; simp [s0]
  have hB := Later.alloc a0 (.cells #[.int .i64 0, .int .i64 0, .string ⟨#[]⟩, .int .i64 0, .int .i64 0, .int .i64 0, .string ⟨#[]⟩, .int .i64 0, .int .i64 0, .int .i64 0, .string ⟨#[]⟩, .int .i64 0, .int .i64 0, .int .i64 0, .int .i64 0, .int .i64 0] 62)
  have v1 := heap_alloc_new a0 (.cells #[.int .i64 0, .int .i64 0, .string ⟨#[]⟩, .int .i64 0, .int .i64 0, .int .i64 0, .string ⟨#[]⟩, .int .i64 0, .int .i64 0, .int .i64 0, .string ⟨#[]⟩, .int .i64 0, .int .i64 0, .int .i64 0, .int .i64 0, .int .i64 0] 62)
  rw [ha1] at hB v1
  obtain ⟨a2, ha2⟩ : ∃ a2, a1.alloc (.cells #[.int .i64 x.kind, .int .i64 0, .string ⟨#[]⟩, .int .i64 0, .int .i64 0, .int .i64 0, .string ⟨#[]⟩, .int .i64 0, .int .i64 0, .int .i64 0, .string ⟨#[]⟩, .int .i64 0, .int .i64 0, .int .i64 0, .int .i64 0, .int .i64 0] 62) = a2 := ⟨_, rfl⟩
  have s2 : a2.heap.size = w.heap.size + 1 + 1 + 1 := by rw [← ha2]; simp [s1]
  have hC := Later.alloc a1 (.cells #[.int .i64 x.kind, .int .i64 0, .string ⟨#[]⟩, .int .i64 0, .int .i64 0, .int .i64 0, .string ⟨#[]⟩, .int .i64 0, .int .i64 0, .int .i64 0, .string ⟨#[]⟩, .int .i64 0, .int .i64 0, .int .i64 0, .int .i64 0, .int .i64 0] 62)
  have v2 := heap_alloc_new a1 (.cells #[.int .i64 x.kind, .int .i64 0, .string ⟨#[]⟩, .int .i64 0, .int .i64 0, .int .i64 0, .string ⟨#[]⟩, .int .i64 0, .int .i64 0, .int .i64 0, .string ⟨#[]⟩, .int .i64 0, .int .i64 0, .int .i64 0, .int .i64 0, .int .i64 0] 62)
  rw [ha2] at hC v2
  rw [s0] at v1
  rw [s1] at v2
  replace v0 := (hC.block _ (by omega)).trans ((hB.block _ (by omega)).trans v0)
  replace v1 := (hC.block _ (by omega)).trans v1
  have hb0 : Below w.heap.size w a2 := Later.trans (Later.trans hA hB) hC
  rw [ha0, ha1, ha2]
  clear ha0 ha1 ha2 hA hB hC s0 s1
  refine (toAk_any x.a a2).mono ?_
  rintro e W1 ⟨h9, hb⟩
  obtain ⟨X, hX⟩ : ∃ X, (akC x.a).toArray = X := ⟨_, rfl⟩
  rw [hX] at h9
  subst h9
  have HX := Lib.hid hX
  clear hX
  have z1 : w.heap.size + 1 + 1 < W1.heap.size := by have := hb.size; omega
  replace v0 := (hb.block _ (by omega)).trans v0
  replace v1 := (hb.block _ (by omega)).trans v1
  replace v2 := (hb.block _ (by omega)).trans v2
  have hb1 := Later.trans hb0 hb
  clear hb0 hb s2
  have HV := Lib.hid (And.intro v0 (And.intro v1 v2))
  have HB := Lib.hid hb1
  have ht : W1.there (w.heap.size + 1 + 1) 1 8 := fun j hj => ⟨by rw [var_cell v2 (1 + j)]; match j, hj with | 0, _ | 1, _ | 2, _ | 3, _ | 4, _ | 5, _ | 6, _ | 7, _ => rfl, var_frozen v2 (1 + j)⟩
  have HT := Lib.hid ht
  clear ht v0 v1 v2 hb1
  have hXs : X.size = 8 := by rw [← HX.out]; rfl
  have hst : (storeCells ⟨w.heap.size + 1 + 1, 1, none⟩ X.toList).run Try.prog W1 = .ok () (Rep.setRow W1 (w.heap.size + 1 + 1) 1 X.toList) := by
    rw [← setCells_row]
    have h9 := run_storeCells_cells (P := Try.prog) (w.heap.size + 1 + 1) 1 X.toList 0 W1 (fun j hj => by rw [← HX.out] at hj; simpa using (HT.out j (by simpa [akC, lnC] using hj)).1) (fun j hj => by rw [← HX.out] at hj; simpa using (HT.out j (by simpa [akC, lnC] using hj)).2) (by rw [← HX.out]; simp [Value.oneCell', akC, lnC])
    simpa using h9
  clear HT
  go_upto_region 4 with (fail)
  clear hst hXs
  have eX : X.toList = [.int .i64 x.a.sock, .string x.a.db, .int .i64 x.a.st, .int .i64 x.a.ticket, .int .i64 x.a.since, .string x.a.q, .int .i64 x.a.line, .int .i64 x.a.lease] := by rw [← HX.out]; rfl
  rw [eX]
  clear eX HX
  have hB := Rep.setRow_below (g := w.heap.size + 1 + 1) 1 [.int .i64 x.a.sock, .string x.a.db, .int .i64 x.a.st, .int .i64 x.a.ticket, .int .i64 x.a.since, .string x.a.q, .int .i64 x.a.line, .int .i64 x.a.lease] HB.out (by omega)
  have v0 := (Rep.setRow_heap W1 (w.heap.size + 1 + 1) 1 w.heap.size [.int .i64 x.a.sock, .string x.a.db, .int .i64 x.a.st, .int .i64 x.a.ticket, .int .i64 x.a.since, .string x.a.q, .int .i64 x.a.line, .int .i64 x.a.lease] (by omega)).trans HV.out.1
  have v1 := (Rep.setRow_heap W1 (w.heap.size + 1 + 1) 1 (w.heap.size + 1) [.int .i64 x.a.sock, .string x.a.db, .int .i64 x.a.st, .int .i64 x.a.ticket, .int .i64 x.a.since, .string x.a.q, .int .i64 x.a.line, .int .i64 x.a.lease] (by omega)).trans HV.out.2.1
  have v2 := setRow_box (g := w.heap.size + 1 + 1) 1 [.int .i64 x.a.sock, .string x.a.db, .int .i64 x.a.st, .int .i64 x.a.ticket, .int .i64 x.a.since, .string x.a.q, .int .i64 x.a.line, .int .i64 x.a.lease] HV.out.2.2
  have zz : W1.heap.size ≤ (Rep.setRow W1 (w.heap.size + 1 + 1) 1 [.int .i64 x.a.sock, .string x.a.db, .int .i64 x.a.st, .int .i64 x.a.ticket, .int .i64 x.a.since, .string x.a.q, .int .i64 x.a.line, .int .i64 x.a.lease]).heap.size := (Rep.setRow_grown W1 (w.heap.size + 1 + 1) 1 [.int .i64 x.a.sock, .string x.a.db, .int .i64 x.a.st, .int .i64 x.a.ticket, .int .i64 x.a.since, .string x.a.q, .int .i64 x.a.line, .int .i64 x.a.lease]).size
  replace v2 : (Rep.setRow W1 (w.heap.size + 1 + 1) 1 [.int .i64 x.a.sock, .string x.a.db, .int .i64 x.a.st, .int .i64 x.a.ticket, .int .i64 x.a.since, .string x.a.q, .int .i64 x.a.line, .int .i64 x.a.lease]).heap[w.heap.size + 1 + 1]? = some (.cells #[.int .i64 x.kind, .int .i64 x.a.sock, .string x.a.db, .int .i64 x.a.st, .int .i64 x.a.ticket, .int .i64 x.a.since, .string x.a.q, .int .i64 x.a.line, .int .i64 x.a.lease, .int .i64 0, .string ⟨#[]⟩, .int .i64 0, .int .i64 0, .int .i64 0, .int .i64 0, .int .i64 0] 62 (0, 0)) := by simpa [putA] using v2
  change Code.wp _ _ _ _ (Rep.setRow W1 (w.heap.size + 1 + 1) 1 [.int .i64 x.a.sock, .string x.a.db, .int .i64 x.a.st, .int .i64 x.a.ticket, .int .i64 x.a.since, .string x.a.q, .int .i64 x.a.line, .int .i64 x.a.lease])
  generalize Rep.setRow W1 (w.heap.size + 1 + 1) 1 [.int .i64 x.a.sock, .string x.a.db, .int .i64 x.a.st, .int .i64 x.a.ticket, .int .i64 x.a.since, .string x.a.q, .int .i64 x.a.line, .int .i64 x.a.lease] = W2 at hB v0 v1 v2 zz ⊢
  have c9 := var_cell v0 9
  have c10 := var_cell v0 10
  have c11 := var_cell v0 11
  have c12 := var_cell v0 12
  have c13 := var_cell v0 13
  have c14 := var_cell v0 14
  have c15 := var_cell v0 15
  go_wp2_with fail
  clear c9 c10 c11 c12 c13 c14 c15
  refine (toLn_any x.l W2).mono ?_
  rintro e W3 ⟨h9, hb⟩
  obtain ⟨X2, hX⟩ : ∃ X, (lnC x.l).toArray = X := ⟨_, rfl⟩
  rw [hX] at h9
  subst h9
  have HX2 := Lib.hid hX
  clear hX
  have z3 : w.heap.size + 1 + 1 < W3.heap.size := by have := hb.size; omega
  replace v1 := (hb.block _ (by omega)).trans v1
  replace v2 := (hb.block _ (by omega)).trans v2
  have hb1 := Later.trans hB hb
  clear hB hb zz z1 HV HB v0
  have HV := Lib.hid (And.intro v1 v2)
  have HB := Lib.hid hb1
  have ht : W3.there (w.heap.size + 1 + 1) 9 7 := fun j hj => ⟨by rw [var_cell v2 (9 + j)]; match j, hj with | 0, _ | 1, _ | 2, _ | 3, _ | 4, _ | 5, _ | 6, _ => rfl, var_frozen v2 (9 + j)⟩
  have HT := Lib.hid ht
  clear ht v1 v2 hb1
  have hXs : X2.size = 7 := by rw [← HX2.out]; rfl
  have hst : (storeCells ⟨w.heap.size + 1 + 1, 9, none⟩ X2.toList).run Try.prog W3 = .ok () (Rep.setRow W3 (w.heap.size + 1 + 1) 9 X2.toList) := by
    rw [← setCells_row]
    have h9 := run_storeCells_cells (P := Try.prog) (w.heap.size + 1 + 1) 9 X2.toList 0 W3 (fun j hj => by rw [← HX2.out] at hj; simpa using (HT.out j (by simpa [akC, lnC] using hj)).1) (fun j hj => by rw [← HX2.out] at hj; simpa using (HT.out j (by simpa [akC, lnC] using hj)).2) (by rw [← HX2.out]; simp [Value.oneCell', akC, lnC])
    simpa using h9
  clear HT
  go_upto_region 5 with (fail)
  clear hst hXs
  have eX : X2.toList = [.int .i64 x.l.sock, .string x.l.db, .int .i64 x.l.gen, .int .i64 x.l.st, .int .i64 x.l.since, .int .i64 x.l.asker, .int .i64 x.l.lease] := by rw [← HX2.out]; rfl
  rw [eX]
  clear eX HX2
  have hB := Rep.setRow_below (g := w.heap.size + 1 + 1) 9 [.int .i64 x.l.sock, .string x.l.db, .int .i64 x.l.gen, .int .i64 x.l.st, .int .i64 x.l.since, .int .i64 x.l.asker, .int .i64 x.l.lease] HB.out (by omega)
  have v1 := (Rep.setRow_heap W3 (w.heap.size + 1 + 1) 9 (w.heap.size + 1) [.int .i64 x.l.sock, .string x.l.db, .int .i64 x.l.gen, .int .i64 x.l.st, .int .i64 x.l.since, .int .i64 x.l.asker, .int .i64 x.l.lease] (by omega)).trans HV.out.1
  have v2 := setRow_box (g := w.heap.size + 1 + 1) 9 [.int .i64 x.l.sock, .string x.l.db, .int .i64 x.l.gen, .int .i64 x.l.st, .int .i64 x.l.since, .int .i64 x.l.asker, .int .i64 x.l.lease] HV.out.2
  have zz : W3.heap.size ≤ (Rep.setRow W3 (w.heap.size + 1 + 1) 9 [.int .i64 x.l.sock, .string x.l.db, .int .i64 x.l.gen, .int .i64 x.l.st, .int .i64 x.l.since, .int .i64 x.l.asker, .int .i64 x.l.lease]).heap.size := (Rep.setRow_grown W3 (w.heap.size + 1 + 1) 9 [.int .i64 x.l.sock, .string x.l.db, .int .i64 x.l.gen, .int .i64 x.l.st, .int .i64 x.l.since, .int .i64 x.l.asker, .int .i64 x.l.lease]).size
  replace v2 : (Rep.setRow W3 (w.heap.size + 1 + 1) 9 [.int .i64 x.l.sock, .string x.l.db, .int .i64 x.l.gen, .int .i64 x.l.st, .int .i64 x.l.since, .int .i64 x.l.asker, .int .i64 x.l.lease]).heap[w.heap.size + 1 + 1]? = some (.cells #[.int .i64 x.kind, .int .i64 x.a.sock, .string x.a.db, .int .i64 x.a.st, .int .i64 x.a.ticket, .int .i64 x.a.since, .string x.a.q, .int .i64 x.a.line, .int .i64 x.a.lease, .int .i64 x.l.sock, .string x.l.db, .int .i64 x.l.gen, .int .i64 x.l.st, .int .i64 x.l.since, .int .i64 x.l.asker, .int .i64 x.l.lease] 62 (0, 0)) := by simpa [putA] using v2
  change Code.wp _ _ _ _ (Rep.setRow W3 (w.heap.size + 1 + 1) 9 [.int .i64 x.l.sock, .string x.l.db, .int .i64 x.l.gen, .int .i64 x.l.st, .int .i64 x.l.since, .int .i64 x.l.asker, .int .i64 x.l.lease])
  generalize Rep.setRow W3 (w.heap.size + 1 + 1) 9 [.int .i64 x.l.sock, .string x.l.db, .int .i64 x.l.gen, .int .i64 x.l.st, .int .i64 x.l.since, .int .i64 x.l.asker, .int .i64 x.l.lease] = W4 at hB v1 v2 zz ⊢
  have z4 : w.heap.size + 1 + 1 < W4.heap.size := by omega
  clear zz z3 HV HB
  have HB := Lib.hid hB
  have V2 := Lib.hid v2
  have HV := Lib.hid v1
  have d0 := var_cell v1 0
  have d1 := var_cell v1 1
  have d2 := var_cell v1 2
  have d3 := var_cell v1 3
  have d4 := var_cell v1 4
  have d5 := var_cell v1 5
  have d6 := var_cell v1 6
  have d7 := var_cell v1 7
  have d8 := var_cell v1 8
  have d9 := var_cell v1 9
  have d10 := var_cell v1 10
  have d11 := var_cell v1 11
  have d12 := var_cell v1 12
  have d13 := var_cell v1 13
  have d14 := var_cell v1 14
  have d15 := var_cell v1 15
  have f0 := var_frozen v1 0
  have f1 := var_frozen v1 1
  have f2 := var_frozen v1 2
  have f3 := var_frozen v1 3
  have f4 := var_frozen v1 4
  have f5 := var_frozen v1 5
  have f6 := var_frozen v1 6
  have f7 := var_frozen v1 7
  have f8 := var_frozen v1 8
  have f9 := var_frozen v1 9
  have f10 := var_frozen v1 10
  have f11 := var_frozen v1 11
  have f12 := var_frozen v1 12
  have f13 := var_frozen v1 13
  have f14 := var_frozen v1 14
  have f15 := var_frozen v1 15
  have c0 := var_cell v2 0
  have c1 := var_cell v2 1
  have c2 := var_cell v2 2
  have c3 := var_cell v2 3
  have c4 := var_cell v2 4
  have c5 := var_cell v2 5
  have c6 := var_cell v2 6
  have c7 := var_cell v2 7
  have c8 := var_cell v2 8
  have c9 := var_cell v2 9
  have c10 := var_cell v2 10
  have c11 := var_cell v2 11
  have c12 := var_cell v2 12
  have c13 := var_cell v2 13
  have c14 := var_cell v2 14
  have c15 := var_cell v2 15
  clear v1 v2 hB
  go_wp2_with fail
  clear d0 d1 d2 d3 d4 d5 d6 d7 d8 d9 d10 d11 d12 d13 d14 d15 f0 f1 f2 f3 f4 f5 f6 f7 f8 f9 f10 f11 f12 f13 f14 f15 c0 c1 c2 c3 c4 c5 c6 c7 c8 c9 c10 c11 c12 c13 c14 c15
  have hB := Rep.setRow_below (g := w.heap.size + 1) 0 [.int .i64 x.kind, .int .i64 x.a.sock, .string x.a.db, .int .i64 x.a.st, .int .i64 x.a.ticket, .int .i64 x.a.since, .string x.a.q, .int .i64 x.a.line, .int .i64 x.a.lease, .int .i64 x.l.sock, .string x.l.db, .int .i64 x.l.gen, .int .i64 x.l.st, .int .i64 x.l.since, .int .i64 x.l.asker, .int .i64 x.l.lease] HB.out (by omega)
  have v1 := setRow_box (g := w.heap.size + 1) 0 [.int .i64 x.kind, .int .i64 x.a.sock, .string x.a.db, .int .i64 x.a.st, .int .i64 x.a.ticket, .int .i64 x.a.since, .string x.a.q, .int .i64 x.a.line, .int .i64 x.a.lease, .int .i64 x.l.sock, .string x.l.db, .int .i64 x.l.gen, .int .i64 x.l.st, .int .i64 x.l.since, .int .i64 x.l.asker, .int .i64 x.l.lease] HV.out
  replace v1 : (Rep.setRow W4 (w.heap.size + 1) 0 [.int .i64 x.kind, .int .i64 x.a.sock, .string x.a.db, .int .i64 x.a.st, .int .i64 x.a.ticket, .int .i64 x.a.since, .string x.a.q, .int .i64 x.a.line, .int .i64 x.a.lease, .int .i64 x.l.sock, .string x.l.db, .int .i64 x.l.gen, .int .i64 x.l.st, .int .i64 x.l.since, .int .i64 x.l.asker, .int .i64 x.l.lease]).heap[w.heap.size + 1]? = some (.cells #[.int .i64 x.kind, .int .i64 x.a.sock, .string x.a.db, .int .i64 x.a.st, .int .i64 x.a.ticket, .int .i64 x.a.since, .string x.a.q, .int .i64 x.a.line, .int .i64 x.a.lease, .int .i64 x.l.sock, .string x.l.db, .int .i64 x.l.gen, .int .i64 x.l.st, .int .i64 x.l.since, .int .i64 x.l.asker, .int .i64 x.l.lease] 62 (0, 0)) := by simpa [putA] using v1
  change bodyPost _ _ _ _ _ (Rep.setRow W4 (w.heap.size + 1) 0 [.int .i64 x.kind, .int .i64 x.a.sock, .string x.a.db, .int .i64 x.a.st, .int .i64 x.a.ticket, .int .i64 x.a.since, .string x.a.q, .int .i64 x.a.line, .int .i64 x.a.lease, .int .i64 x.l.sock, .string x.l.db, .int .i64 x.l.gen, .int .i64 x.l.st, .int .i64 x.l.since, .int .i64 x.l.asker, .int .i64 x.l.lease])
  generalize Rep.setRow W4 (w.heap.size + 1) 0 [.int .i64 x.kind, .int .i64 x.a.sock, .string x.a.db, .int .i64 x.a.st, .int .i64 x.a.ticket, .int .i64 x.a.since, .string x.a.q, .int .i64 x.a.line, .int .i64 x.a.lease, .int .i64 x.l.sock, .string x.l.db, .int .i64 x.l.gen, .int .i64 x.l.st, .int .i64 x.l.since, .int .i64 x.l.asker, .int .i64 x.l.lease] = W5 at hB v1 ⊢
  have c0 := var_cell v1 0
  have c1 := var_cell v1 1
  have c2 := var_cell v1 2
  have c3 := var_cell v1 3
  have c4 := var_cell v1 4
  have c5 := var_cell v1 5
  have c6 := var_cell v1 6
  have c7 := var_cell v1 7
  have c8 := var_cell v1 8
  have c9 := var_cell v1 9
  have c10 := var_cell v1 10
  have c11 := var_cell v1 11
  have c12 := var_cell v1 12
  have c13 := var_cell v1 13
  have c14 := var_cell v1 14
  have c15 := var_cell v1 15
  clear v1
  refine bodyPost_ret (v := .agg #[.int .i64 x.kind, .int .i64 x.a.sock, .string x.a.db, .int .i64 x.a.st, .int .i64 x.a.ticket, .int .i64 x.a.since, .string x.a.q, .int .i64 x.a.line, .int .i64 x.a.lease, .int .i64 x.l.sock, .string x.l.db, .int .i64 x.l.gen, .int .i64 x.l.st, .int .i64 x.l.since, .int .i64 x.l.asker, .int .i64 x.l.lease]) (by simp [results, Try.results67, go_sem, c0, c1, c2, c3, c4, c5, c6, c7, c8, c9, c10, c11, c12, c13, c14, c15]) rfl ⟨rfl, hB⟩

set_option maxHeartbeats 4000000 in
theorem eqIt_same (x : It) (w : World) : Calls Try.prog 72 #[.agg (itC x).toArray, .agg (itC x).toArray] w fun e w' => e = .returned (.bool true) ∧ Below w.heap.size w w' := by
  have h0 : (x.kind != x.kind) = false := by simp
  unfold itC
  go_enter Try.func72, Try.ntmps72
  go_wp2_with fail
  have S : All (fun w' => Below w.heap.size w w' ∧ w'.heap[w.heap.size]? = some (.cells #[.int .i64 x.kind, .int .i64 x.a.sock, .string x.a.db, .int .i64 x.a.st, .int .i64 x.a.ticket, .int .i64 x.a.since, .string x.a.q, .int .i64 x.a.line, .int .i64 x.a.lease, .int .i64 x.l.sock, .string x.l.db, .int .i64 x.l.gen, .int .i64 x.l.st, .int .i64 x.l.since, .int .i64 x.l.asker, .int .i64 x.l.lease] 62 (0, 0)) ∧ w'.heap[w.heap.size + 1]? = some (.cells #[.int .i64 x.kind, .int .i64 x.a.sock, .string x.a.db, .int .i64 x.a.st, .int .i64 x.a.ticket, .int .i64 x.a.since, .string x.a.q, .int .i64 x.a.line, .int .i64 x.a.lease, .int .i64 x.l.sock, .string x.l.db, .int .i64 x.l.gen, .int .i64 x.l.st, .int .i64 x.l.since, .int .i64 x.l.asker, .int .i64 x.l.lease] 62 (0, 0))) ((w.alloc (.cells #[.int .i64 x.kind, .int .i64 x.a.sock, .string x.a.db, .int .i64 x.a.st, .int .i64 x.a.ticket, .int .i64 x.a.since, .string x.a.q, .int .i64 x.a.line, .int .i64 x.a.lease, .int .i64 x.l.sock, .string x.l.db, .int .i64 x.l.gen, .int .i64 x.l.st, .int .i64 x.l.since, .int .i64 x.l.asker, .int .i64 x.l.lease] 62)).alloc (.cells #[.int .i64 x.kind, .int .i64 x.a.sock, .string x.a.db, .int .i64 x.a.st, .int .i64 x.a.ticket, .int .i64 x.a.since, .string x.a.q, .int .i64 x.a.line, .int .i64 x.a.lease, .int .i64 x.l.sock, .string x.l.db, .int .i64 x.l.gen, .int .i64 x.l.st, .int .i64 x.l.since, .int .i64 x.l.asker, .int .i64 x.l.lease] 62)) := ⟨Later.trans (Later.alloc w _) (Later.alloc _ _), ((Later.alloc _ _).block _ (by simp)).trans (heap_alloc_new w _), heap_alloc_new' _ _ (by simp)⟩
  generalize (w.alloc (.cells #[.int .i64 x.kind, .int .i64 x.a.sock, .string x.a.db, .int .i64 x.a.st, .int .i64 x.a.ticket, .int .i64 x.a.since, .string x.a.q, .int .i64 x.a.line, .int .i64 x.a.lease, .int .i64 x.l.sock, .string x.l.db, .int .i64 x.l.gen, .int .i64 x.l.st, .int .i64 x.l.since, .int .i64 x.l.asker, .int .i64 x.l.lease] 62)).alloc (.cells #[.int .i64 x.kind, .int .i64 x.a.sock, .string x.a.db, .int .i64 x.a.st, .int .i64 x.a.ticket, .int .i64 x.a.since, .string x.a.q, .int .i64 x.a.line, .int .i64 x.a.lease, .int .i64 x.l.sock, .string x.l.db, .int .i64 x.l.gen, .int .i64 x.l.st, .int .i64 x.l.since, .int .i64 x.l.asker, .int .i64 x.l.lease] 62) = W0 at S ⊢
  refine (eqAk_same x.a W0).mono ?_
  rintro e W1 ⟨rfl, hb⟩
  replace S := S.later hb
  clear hb
  have c9 := var_cell S.out.2.1 9
  have c10 := var_cell S.out.2.1 10
  have c11 := var_cell S.out.2.1 11
  have c12 := var_cell S.out.2.1 12
  have c13 := var_cell S.out.2.1 13
  have c14 := var_cell S.out.2.1 14
  have c15 := var_cell S.out.2.1 15
  have d9 := var_cell S.out.2.2 9
  have d10 := var_cell S.out.2.2 10
  have d11 := var_cell S.out.2.2 11
  have d12 := var_cell S.out.2.2 12
  have d13 := var_cell S.out.2.2 13
  have d14 := var_cell S.out.2.2 14
  have d15 := var_cell S.out.2.2 15
  go_wp2_with fail
  clear c9 c10 c11 c12 c13 c14 c15 d9 d10 d11 d12 d13 d14 d15
  refine (eqLn_same x.l W1).mono ?_
  rintro e W2 ⟨rfl, hb⟩
  replace S := S.later hb
  clear hb
  go_wp2_with fail
  go_ret
  exact ⟨rfl, S.out.1⟩

theorem it_at_shape {w : World} {B : Nat} {cs : List Value} {x : It} (h : itR.at_ w B cs x) : cs = [.int .i64 x.kind, .int .i64 x.a.sock, .string x.a.db, .int .i64 x.a.st, .int .i64 x.a.ticket, .int .i64 x.a.since, .string x.a.q, .int .i64 x.a.line, .int .i64 x.a.lease, .int .i64 x.l.sock, .string x.l.db, .int .i64 x.l.gen, .int .i64 x.l.st, .int .i64 x.l.since, .int .i64 x.l.asker, .int .i64 x.l.lease] := it_cells h
theorem it_own_shape {w : World} {base : Nat} {cs : List Value} {x : It} {fp : List Nat} (h : itR.own w base cs x fp) : cs = [.int .i64 x.kind, .int .i64 x.a.sock, .string x.a.db, .int .i64 x.a.st, .int .i64 x.a.ticket, .int .i64 x.a.since, .string x.a.q, .int .i64 x.a.line, .int .i64 x.a.lease, .int .i64 x.l.sock, .string x.l.db, .int .i64 x.l.gen, .int .i64 x.l.st, .int .i64 x.l.since, .int .i64 x.l.asker, .int .i64 x.l.lease] := it_cells (Rep.reads itR h)
theorem toIt_rep (cs : List Value) (x : It) (w : World) (h : itR.at_ w w.heap.size cs x) (hs : FitsIt x) : Calls Try.prog 67 #[.agg cs.toArray] w (fun e w' => ∃ cs' fp, e = .returned (.agg cs'.toArray) ∧ itR.own w' w.heap.size cs' x fp ∧ Below w.heap.size w w') := by
  obtain rfl := it_cells h
  exact (toIt_any x w).mono fun e w' ⟨he, hb⟩ => ⟨_, _, he, it_own w' _ x, hb⟩
theorem eqIt_rep (cs cs' : List Value) (x : It) (w : World) (h : itR.at_ w w.heap.size cs x) (h' : itR.at_ w w.heap.size cs' x) (hs : FitsIt x) : Calls Try.prog 72 #[.agg cs.toArray, .agg cs'.toArray] w fun e w' => e = .returned (.bool true) ∧ Below w.heap.size w w' := by
  obtain rfl := it_cells h
  obtain rfl := it_cells h'
  exact eqIt_same x w
theorem szIt_rep (cs : List Value) (x : It) (left : Nat) (w : World) (h : itR.at_ w w.heap.size cs x) (hl : left ≤ 1048576) (hk : OkIt x) : Calls Try.prog 66 #[.agg cs.toArray, .int .i64 left] w (RoomB (FitsIt x) left w) := by
  obtain rfl := it_cells h
  exact szIt_room x left w hk hl
end Go.Proofs.Ytaigdioimldknaa
