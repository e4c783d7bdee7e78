/- drive.flush: the map's sectors are laid into the disk's. -/
import Derived.Test.YtoaaogacaibedaaFlush
namespace Go.Proofs.Ytoaaogacaibedaa
open Go.RowKit Go.Maps Go.ChangeMaps Go.MapKept Go.WideShapes
set_option linter.unusedVariables false

theorem run_clear {w : World} {mb k : Nat} {cells : List Value} {idx : Int → Option Nat} (h : MapIs w mb k cells idx) :
    ∃ w', (∀ ty, (Builtin.clear_ #[73] ty #[.map (some mb)]).run Try.prog w = .ok (.tuple #[]) w') ∧ MapIs w' mb 0 cells (fun _ => none) ∧ w.mapTurned w' mb := by
  obtain ⟨D, ⟨es, clock, hb, hF, hs, hD⟩, hI, hi⟩ := h
  refine ⟨setBlock w mb (.map #[] clock), fun ty => ?_, ⟨.map [], ⟨#[], clock, heap_setBlock_same hb _, ⟨by simp, stamped_empty clock, by simp⟩, Nat.le_refl _, rfl⟩, isMap_empty, fun i _ => ⟨rfl, fun j hj => by cases hj⟩⟩, ⟨es, clock, #[], clock, hb, rfl⟩⟩
  simp [Builtin.clear_, run_underlying Try.underlying73, MapKept.run_getObj_map hb, MapKept.run_setObj_map _ hb, Result.andThen, setBlock]

theorem mapNext (w : World) {ops : Array Oper} {rest : List Oper} {o : Oper} {a : Act} {Q : Exit → Act → World → Prop} (hgd : o.guard = none) (it : Operand) (hop : o.op = Op.next it false) (mb r n : Nat) (D : DataW Value) (left : Lit → Bool) (cnt : Nat)
    (hit : a.eval it = .pointer (some ⟨r, 0, none⟩)) (h : w.ranges Try.prog 3 heldR mb r n D left cnt)
    (hDone : cnt = 0 → (∀ kl, left kl = false) → wpList Try.prog ops Q rest (a.put o.dst (.tuple #[.bool false])) w)
    (hMore : ∀ (x : Int) (c : Value) (w' : World) (cnt' : Nat), (Lit.int .i64 x).wf = true → left (.int .i64 x) = true → (∀ zd, D.atKey (.int .i64 x) zd = .held c) → w'.ranges Try.prog 3 heldR mb r n D (fun z => left z && !z.sameKey (.int .i64 x)) cnt' → cnt' < cnt →
      w.grownBy w' (some r) → w'.heap.size = w.heap.size → (Instr.entry (.pointer (some ⟨r, 0, none⟩))).run Try.prog w' = .ok (.tuple #[.int .i64 x, c]) w' → wpList Try.prog ops Q rest (a.put o.dst (.tuple #[.bool true, .int .i64 x, c])) w') :
    wpList Try.prog ops Q (o :: rest) a w := by
  refine wpList_next_ranges (α := Int) (β := Value) w hgd it hop 3 int_law heldR (Value.int .i64) (fun v => v) (fun key kl hkey => ?_) (fun v y _ => ⟨v, rfl⟩) mb r n D left cnt hit h hDone (fun x c kl y w' cnt' hkey hlk hv hat hrg hlt hgr hsz hen => ?_)
  · obtain ⟨x, rfl, _⟩ := Maps.keyOf_int_inv Try.underlying3 hkey
    exact ⟨x, rfl⟩
  · obtain ⟨x', ex, rfl, hwx⟩ := Maps.keyOf_int_inv Try.underlying3 hkey
    cases ex
    replace hv : some (DataW.held c, ([] : List MemPlace)) = some y := hv
    injection hv with hv
    subst hv
    exact hMore x c w' cnt' hwx hlk hat hrg hlt hgr hsz hen

theorem mapRange (w : World) {ops : Array Oper} {rest : List Oper} {o : Oper} {a : Act} {Q : Exit → Act → World → Prop} (hgd : o.guard = none) (m : Operand) (hop : o.op = Op.range 73 m) (mb n : Nat) (D : DataW Value)
    (hm : a.eval m = .map (some mb)) (hown : w.ownsMap Try.prog 3 heldR mb n D)
    (hK : ∀ w', w'.ranges Try.prog 3 heldR mb w.heap.size n D (Maps.has D) (Maps.size D) → w.grownBy w' none → w'.heap.size = w.heap.size + 1 → wpList Try.prog ops Q rest (a.put o.dst (.pointer (some ⟨w.heap.size, 0, none⟩))) w') :
    wpList Try.prog ops Q (o :: rest) a w :=
  wpList_range_own w hgd m 73 hop 3 22 int_law Try.underlying73 heldR mb n D hm hown hK

theorem Rep.Only.drop_new {w w' : World} {r : Nat} {fp : List Nat} (h : Rep.Only w w' (r :: fp)) (hr : w.heap.size ≤ r) : Rep.Only w w' fp :=
  ⟨h.os, h.tape, h.output, h.size, fun k hk hn => h.block k hk (by simp only [List.mem_cons, not_or]; exact ⟨by omega, hn⟩)⟩
theorem Rep.Only.grown_new {w wr w1 : World} {r : Nat} {fp : List Nat} (h : Rep.Only w wr fp) (hg : wr.grownBy w1 (some r)) (hr : w.heap.size ≤ r) : Rep.Only w w1 fp :=
  ((h.mono (fun a ha => List.mem_cons_of_mem r ha)).trans (Rep.Only.of_grown hg (fun a ha => by injection ha with ha; subst ha; simp))).drop_new hr

def idxL (left : Lit → Bool) (idx : Int → Option Nat) (i : Int) : Option Nat := if left (.int .i64 i) = true then none else idx i

def KeysOk (d : Disk) : Prop := ∀ x, x ∈ d.cache → 0 ≤ x.n ∧ x.n < (d.secs.length : Int)

theorem idxL_start {d : Disk} {D : DataW Value} {cells : List Value} {idx : Int → Option Nat} (hI : IdxOk d idx) (hk : KeysOk d) (hf : d.secs.length ≤ 1048576) (hi : ∀ i, (Lit.int .i64 i).wf = true → has D (.int .i64 i) = (idx i).isSome ∧ ∀ j, idx i = some j → ∀ z, D.atKey (.int .i64 i) z = .held (cells.getD (2 * j + 1) undef)) :
    ∀ i, (fun _ : Int => (none : Option Nat)) i = idxL (has D) idx i := by
  intro i
  show none = if has D (.int .i64 i) = true then none else idx i
  split
  · rfl
  · rename_i hh
    rcases he : idx i with _ | j
    · rfl
    · exfalso
      obtain ⟨x, hx, hxn⟩ := hI i j he
      obtain ⟨h0, h1⟩ := hk x (List.mem_of_getElem? hx)
      have hw : (Lit.int .i64 i).wf = true := WalkArith.wf_i64 (by omega)
      exact hh (by rw [(hi i hw).1, he]; rfl)

theorem idxL_step {left : Lit → Bool} {idx : Int → Option Nat} {n0 j : Nat} (hj : idx (n0 : Int) = some j) : ∀ i, idxL (fun z => left z && !z.sameKey (.int .i64 (n0 : Int))) idx i = if (n0 : Int) = i then some j else idxL left idx i := by
  intro i
  unfold idxL
  by_cases he : (n0 : Int) = i
  · subst he
    have hs : (Lit.int .i64 (n0 : Int)).sameKey (.int .i64 (n0 : Int)) = true := by simp [Lit.sameKey]
    have e1 : (fun z : Lit => left z && !z.sameKey (.int .i64 (n0 : Int))) (.int .i64 (n0 : Int)) = false := by show (left _ && !(Lit.int .i64 (n0 : Int)).sameKey (.int .i64 (n0 : Int))) = false; rw [hs]; simp
    rw [e1]
    simp [hj]
  · have hs : (Lit.int .i64 i).sameKey (.int .i64 (n0 : Int)) = false := Maps.sameKey_ne (fun e => he (by injection e with _ e; exact e.symm))
    have e1 : (fun z : Lit => left z && !z.sameKey (.int .i64 (n0 : Int))) (.int .i64 i) = left (.int .i64 i) := by show (left _ && !(Lit.int .i64 i).sameKey (.int .i64 (n0 : Int))) = _; rw [hs]; simp
    rw [e1, if_neg he]

set_option maxRecDepth 100000 in
set_option maxHeartbeats 2000000 in
theorem driveFlush_any (g mb m base gs c : Nat) (B : Option Addr) (c' : Nat) (vf vd : Value) (d : Disk) (sc cc : List Value) (fps fcs : List (List Nat)) (idx : Int → Option Nat) (w : World)
    (hv : w.heap[g]? = some (.cells #[.slice (some ⟨gs, 0, none⟩) d.secs.length c, .slice B d.cache.length c', vf, vd, .map (some mb)] 75 (0, 0)))
    (hm : MapIs w mb m cc idx) (hM : Mid w base (.slice (some ⟨gs, 0, none⟩) d.secs.length c) (.slice B d.cache.length c') d sc cc fps fcs (fun _ => none)) (hI : IdxOk d idx) (hk : KeysOk d) (hf : d.secs.length ≤ 1048576)
    (hg1 : ∀ a, a ∈ ((Value.slice (some ⟨gs, 0, none⟩) d.secs.length c).ownBlock.toList ++ fps.flatten) ++ ((Value.slice B d.cache.length c').ownBlock.toList ++ fcs.flatten) → a ≠ g ∧ a ≠ mb) (hgm : g ≠ mb) :
    Calls Try.prog 70 #[.pointer (some ⟨g, 0, none⟩)] w fun e w' => e = .returned (.tuple #[]) ∧ Hid (w'.heap[g]? = some (.cells #[.slice (some ⟨gs, 0, none⟩) d.secs.length c, .slice none 0 0, vf, vd, .map (some mb)] 75 (0, 0))) ∧
      Mid w' base (.slice (some ⟨gs, 0, none⟩) d.secs.length c) (.slice B d.cache.length c') d sc cc fps fcs idx ∧ Rep.Only w w' [g, mb, gs] := by
  have c4 : w.cell? ⟨g, 4, none⟩ = some (.map (some mb)) := var_cell hv 4
  have hgl : g < w.heap.size := World.block_lt_of_cell? w ⟨g, 4, none⟩ c4
  have hml := hm.lt
  have hgsm := hg1 gs (by simp [Value.ownBlock])
  have LT := Lib.hid hM.lts
  have HG1 := Lib.hid hg1
  have HV := Lib.hid hv
  obtain ⟨D, ho, hD, hi⟩ := hm
  have HI := Lib.hid hi
  have hgsl : gs < w.heap.size := (LT.out gs (by simp [Value.ownBlock])).2
  have hMs := hM.weak (idxL_start hI hk hf hi)
  clear hv hi hg1 hM
  go_enter Try.func70, Try.ntmps70
  go_wp2_with (first
    | (at_range; refine mapRange w rfl _ rfl mb m D rfl ho ?_; intro w0 hrg0 hg0 hs0)
    | go_in)
  have hO0 : Rep.Only w w0 [g, mb, gs] := Rep.Only.of_grown hg0 (fun a ha => by cases ha)
  have V0 := Lib.hid ((hg0.block g hgl (by simp)).trans HV.out)
  have hM0 := hMs.kept (w' := w0) (fun a ha => hg0.block a (LT.out a ha).2 (by simp))
  have hz0 : w.heap.size < w0.heap.size := by omega
  clear hg0 hs0 hMs c4
  go_frame
  go_loopw [2, 3] (fun _ _ wr => ∃ (left : Lit → Bool) (cnt : Nat), wr.ranges Try.prog 3 heldR mb w.heap.size m D left cnt ∧ Mid wr base (.slice (some ⟨gs, 0, none⟩) d.secs.length c) (.slice B d.cache.length c') d sc cc fps fcs (idxL left idx) ∧
      Hid (wr.heap[g]? = some (.cells #[.slice (some ⟨gs, 0, none⟩) d.secs.length c, .slice B d.cache.length c', vf, vd, .map (some mb)] 75 (0, 0))) ∧ Rep.Only w wr [g, mb, gs] ∧ w.heap.size < wr.heap.size) (fun _ _ wr => wr.rangeLeft mb w.heap.size)
  case atStart => exact ⟨_, _, hrg0, hM0, V0, hO0, hz0⟩
  case round =>
    obtain ⟨left, cnt, hrg, hM, vo, hO, hz⟩ := hrel
    clear hrg0 hM0 V0 hO0 hz0
    go_wp2_with (first
      | (at_next; refine mapNext _ rfl _ rfl mb w.heap.size m D left cnt rfl hrg ?_ ?_)
      | go_in)
    · intro hc0 hl0
      have hM9 := hM.weak (idx' := idx) (fun i => by show (if left (.int .i64 i) = true then none else idx i) = idx i; rw [hl0, if_neg (by simp)])
      have e4 : wr.cell? ⟨g, 4, none⟩ = some (.map (some mb)) := var_cell vo.out 4
      have e1 : wr.cell? ⟨g, 1, none⟩ = some (.slice B d.cache.length c') := var_cell vo.out 1
      have f1 := var_frozen vo.out 1
      have hmr : MapIs wr mb m cc idx := ⟨D, hrg.owns, hD, HI.out⟩
      clear hM
      obtain ⟨w5, hrun, hm5, ht5⟩ := run_clear hmr
      have hg5 := ht5.grown
      have V5 := Lib.hid ((hg5.block g (by have := hO.size; omega) (by simp; omega)).trans vo.out)
      have hM5 := hM9.kept (w' := w5) (fun a ha => hg5.block a (by have := (LT.out a ha).2; omega) (by have := (HG1.out a ha).2; simp; omega))
      have hO5 : Rep.Only w w5 [g, mb, gs] := hO.trans (Rep.Only.of_grown hg5 (fun a ha => by injection ha with ha; simp [ha]))
      have e5 : w5.cell? ⟨g, 1, none⟩ = some (.slice B d.cache.length c') := var_cell V5.out 1
      have q5 : w5.frozen? ⟨g, 1, none⟩ = false := var_frozen V5.out 1
      clear hg5 ht5 hM9 hO hmr e1 f1
      go_wp2_with fail
      go_end0
      exact ⟨rfl, Lib.hid (var_set V5.out 1 (.slice none 0 0)), hM5.kept (fun a ha => heap_setCell_other _ _ _ _ (by have := (HG1.out a ha).1; simp; omega)), hO5.trans (Rep.Only.setCell _ (by simp) _)⟩
    · intro x v w1 cnt1 hwx hlx hat hrg1 hlt hg1 hs1 hen
      rcases hix : idx x with _ | j
      · exfalso
        obtain ⟨h1, _⟩ := HI.out x hwx
        rw [hix] at h1
        have q1 := hat (.held (.int .i64 0))
        have q2 := hat (.held (.int .i64 1))
        rw [atKey_of_not_has h1] at q1 q2
        rw [← q2] at q1
        simp at q1
      · obtain ⟨y, hy, hyn⟩ := hI x j hix
        obtain ⟨h0, h1⟩ := hk y (List.mem_of_getElem? hy)
        obtain ⟨n0, rfl⟩ := Int.eq_ofNat_of_zero_le (show 0 ≤ x by omega)
        have hn1 : n0 < d.secs.length := by omega
        have hjl : j < d.cache.length := (List.getElem?_eq_some_iff.1 hy).1
        have hM1 := hM.kept (w' := w1) (fun a ha => hg1.block a (by have := (LT.out a ha).2; omega) (by have := (LT.out a ha).2; simp; omega))
        obtain ⟨b, off, A2, c2, x2, _, _, _, _, _, hgd⟩ := hM1.elem hjl
        have hvv : v = .slice A2 x2.b.length c2 := by
          have := (HI.out _ hwx).2 j hix (.held undef)
          rw [hat, hgd] at this
          injection this
        subst hvv
        obtain ⟨⟨u0, hcl⟩, hfr⟩ := hM1.there hn1
        have hM2 := hM1.store (k := j) hn1 (idxL_step (left := left) hix)
        rw [hgd] at hM2
        have vo1 := Lib.hid ((hg1.block g (by omega) (by simp; omega)).trans vo.out)
        have e0 : w1.cell? ⟨g, 0, none⟩ = some (.slice (some ⟨gs, 0, none⟩) d.secs.length c) := var_cell vo1.out 0
        have i1 : (0 : Int) ≤ (n0 : Int) := by omega
        have i2 : (n0 : Int) < (d.secs.length : Int) := by omega
        have hO1 := hO.grown_new hg1 (Nat.le_refl _)
        clear hM hM1 hgd hy hyn hat vo
        go_wp2_with fail
        have hg2 : w1.grownBy (w1.setCell ⟨gs, n0, none⟩ (.slice A2 x2.b.length c2)) (some gs) := ⟨rfl, rfl, rfl, by simp, fun k _ hk => heap_setCell_other w1 ⟨gs, n0, none⟩ k _ (fun e => hk (by simp [e]))⟩
        have hrg2 := hrg1.kept hg2 (fun e => by have := Option.some.inj e; omega) (fun e => by have := Option.some.inj e; omega)
        have V2 := Lib.hid ((heap_setCell_other w1 ⟨gs, n0, none⟩ g (.slice A2 x2.b.length c2) (by simp; omega)).trans vo1.out)
        have hO2 : Rep.Only w (w1.setCell ⟨gs, n0, none⟩ (.slice A2 x2.b.length c2)) [g, mb, gs] := hO1.trans (Rep.Only.setCell _ (by simp) _)
        go_roundw
        case rel => exact ⟨_, cnt1, hrg2, hM2, V2, hO2, by simp; omega⟩
        case measure => rw [hrg2.left_eq, hrg.left_eq]; exact hlt

end Go.Proofs.Ytoaaogacaibedaa
