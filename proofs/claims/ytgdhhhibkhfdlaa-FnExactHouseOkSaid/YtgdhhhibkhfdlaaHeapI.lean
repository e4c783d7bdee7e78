/- The methods of the heap of waiting clients. -/
import Derived.Test.YtgdhhhibkhfdlaaHeapP
import Derived.Test.YtgdhhhibkhfdlaaLex
import Derived.Test.YtgdhhhibkhfdlaaHalt
import Derived.BigQuiet
import Derived.Deep.QuietTactic
import Derived.Handy
namespace Go.Proofs.Ytgdhhhibkhfdlaa
open Go.RowKit HeapP
set_option linter.unusedVariables false
set_option maxRecDepth 100000

def nI (P : List Nat) : List Value := P.map fun (k : Nat) => Value.int .i64 (k : Int)
theorem nI_get {P : List Nat} {k : Nat} (h : k < P.length) : (nI P)[k]? = some (.int .i64 (nth P k : Int)) := by
  unfold nI; rw [List.getElem?_map, nth_get h]; rfl
theorem nI_set (P : List Nat) (k x : Nat) : (nI P).set k (.int .i64 (x : Int)) = nI (P.set k x) := by
  unfold nI; rw [List.map_set]
theorem nI_app (P : List Nat) (x : Nat) : nI (P ++ [x]) = nI P ++ [.int .i64 (x : Int)] := by
  unfold nI; simp
theorem nI_len (P : List Nat) : (nI P).length = P.length := by simp [nI]

/-- The heap at block g: the clients' row below it, the places' row behind it, of its own. -/
structure Hq (w : World) (g : Nat) (A : Option Addr) (c : Nat) (xs : List Ak) (B : Option Addr) (d : Nat) (P : List Nat) : Prop where
  box : w.heap[g]? = some (.cells #[.slice A xs.length c, .slice B P.length d] 198 (0, 0))
  row : w.ownsRow (g + 1) 3 1 (.slice B P.length d) P.length (nI P)
  rows : Rep.RowsAt akR w g A xs.length xs
  small : ∀ p, p ∈ P → p < xs.length
  xlen : xs.length ≤ 1048576
  plen : P.length ≤ 1048576

theorem keepSet {w : World} {g b i j : Nat} {u v : Value} (h : w.cell? ⟨b, j, none⟩ = some v) (hne : g ≠ b) : (w.setCell ⟨g, i, none⟩ u).cell? ⟨b, j, none⟩ = some v :=
  (World.cell?_setCell_other _ _ _ _ (fun e => hne (congrArg Addr.block e))).trans h
theorem drewN2 (w : World) (a b : Nat) : (w.drewN a).drewN b = w.drewN (a + b) := by simp [World.drewN, Nat.add_assoc]
/-- The blocks that are the heap's own. -/
def fpB (g : Nat) (B : Option Addr) : List Nat := g :: (B.map (·.block)).toList
/-- From w to w' only the heap's own blocks have turned; what is the heap's own then was before, or is new. -/
structure Mv (w w' : World) (g : Nat) (B B' : Option Addr) : Prop where
  only : Rep.Only w w' (fpB g B)
  from_ : ∀ a, a ∈ fpB g B' → a ∈ fpB g B ∨ w.heap.size ≤ a
theorem Mv.refl (w : World) (g : Nat) (B : Option Addr) : Mv w w g B B := ⟨Rep.Only.refl _ _, fun a h => .inl h⟩
theorem Mv.drewN {w w' : World} {g : Nat} {B B' : Option Addr} (h : Mv w w' g B B') (n : Nat) : Mv w (w'.drewN n) g B B' := ⟨⟨h.only.os, h.only.tape, h.only.output, h.only.size, h.only.block⟩, h.from_⟩
theorem Mv.trans {w w1 w2 : World} {g : Nat} {B B1 B2 : Option Addr} (h : Mv w w1 g B B1) (h2 : Mv w1 w2 g B1 B2) : Mv w w2 g B B2 where
  only := ⟨h2.only.os.trans h.only.os, h2.only.tape.trans h.only.tape, h2.only.output.trans h.only.output, Nat.le_trans h.only.size h2.only.size,
    fun k hk hn => (h2.only.block k (Nat.lt_of_lt_of_le hk h.only.size) (fun hm => by rcases h.from_ k hm with h3 | h3; exact hn h3; omega)).trans (h.only.block k hk hn)⟩
  from_ := fun a ha => by
    rcases h2.from_ a ha with h3 | h3
    · exact h.from_ a h3
    · exact .inr (Nat.le_trans h.only.size h3)

theorem Hq.lt {w : World} {g : Nat} {A : Option Addr} {c : Nat} {xs : List Ak} {B : Option Addr} {d : Nat} {P : List Nat} (h : Hq w g A c xs B d P) : g < w.heap.size := (Array.getElem?_eq_some_iff.1 h.box).1
theorem Hq.drewN {w : World} {g : Nat} {A : Option Addr} {c : Nat} {xs : List Ak} {B : Option Addr} {d : Nat} {P : List Nat} (h : Hq w g A c xs B d P) (n : Nat) : Hq (w.drewN n) g A c xs B d P := ⟨h.box, h.row, h.rows.keep fun _ _ => rfl, h.small, h.xlen, h.plen⟩
theorem Hq.place {w : World} {g : Nat} {A : Option Addr} {c : Nat} {xs : List Ak} {B : Option Addr} {d : Nat} {P : List Nat} (h : Hq w g A c xs B d P) {k : Nat} (hk : k < P.length) : nth P k < xs.length := h.small _ (mem_nth.2 ⟨k, hk, rfl⟩)
theorem Hq.base {w : World} {g : Nat} {A : Option Addr} {c : Nat} {xs : List Ak} {B : Option Addr} {d : Nat} {P : List Nat} (h : Hq w g A c xs B d P) (hp : 0 < P.length) : ∃ b, B = some ⟨b, 0, none⟩ ∧ g < b ∧ b < w.heap.size := by
  rcases h.row.2 with ⟨h1, h2⟩ | ⟨b, cap, cur, hv, hb, hh, _⟩
  · omega
  · cases hv
    exact ⟨b, rfl, by omega, (Array.getElem?_eq_some_iff.1 hh).1⟩
theorem Hq.cell {w : World} {g : Nat} {A : Option Addr} {c : Nat} {xs : List Ak} {b d : Nat} {P : List Nat} (h : Hq w g A c xs (some ⟨b, 0, none⟩) d P) {k : Nat} (hk : k < P.length) : w.cell? ⟨b, k, none⟩ = some (.int .i64 (nth P k : Int)) := by
  rw [h.row.cellAt k (by omega), nI_get hk]
theorem Hq.ticket {w : World} {g : Nat} {A : Option Addr} {c : Nat} {xs : List Ak} {B : Option Addr} {d : Nat} {P : List Nat} (h : Hq w g A c xs B d P) {k : Nat} (hk : k < xs.length) : ∃ b off, A = some ⟨b, off, none⟩ ∧ b < g ∧ w.cell? ⟨b, off + k * 8 + 3, none⟩ = some (.int .i64 (tickA xs k)) := by
  obtain ⟨b, off, x, rfl, hb, hx, e0, e1, e2, e3, _⟩ := ak_elem h.rows hk
  exact ⟨b, off, rfl, hb, by rw [tickA_of hx]; exact e3⟩

set_option maxHeartbeats 2000000 in
theorem less_any {w : World} {g : Nat} {A : Option Addr} {c : Nat} {xs : List Ak} {B : Option Addr} {d : Nat} {P : List Nat} (h : Hq w g A c xs B d P) (i j : Nat) (hi : i < P.length) (hj : j < P.length) :
    Calls Try.prog 223 #[.pointer (some ⟨g, 0, none⟩), .int .i64 i, .int .i64 j] w (fun e w' => e = .returned (.bool (ltA xs (nth P i) (nth P j))) ∧ ∃ n, w' = w.drewN n) := by
  obtain ⟨b, rfl, hgb, hbl⟩ := h.base (by omega)
  have hpi := h.place hi
  have hpj := h.place hj
  have ci := h.cell hi
  have cj := h.cell hj
  obtain ⟨a, off, rfl, ha, ti⟩ := h.ticket hpi
  obtain ⟨a2, off2, he, ha2, tj⟩ := h.ticket hpj
  simp only [Option.some.injEq, Addr.mk.injEq, and_true] at he
  obtain ⟨rfl, rfl⟩ := he
  have g0 := var_cell h.box 0
  have g1 := var_cell h.box 1
  have hl := h.plen
  have hx := h.xlen
  have hr : ltA xs (nth P i) (nth P j) = if tickA xs (nth P i) = tickA xs (nth P j) then decide (nth P i < nth P j) else decide (tickA xs (nth P i) < tickA xs (nth P j)) := rfl
  have HR := Lib.hid hr
  clear hr h
  generalize ltA xs (nth P i) (nth P j) = r at HR ⊢
  generalize tickA xs (nth P i) = u at ti HR
  generalize tickA xs (nth P j) = v at tj HR
  generalize nth P i = p at *
  generalize nth P j = q at *
  by_cases he : u = v
  · subst he
    have h1 : (u != u) = false := by simp
    have HR2 := Lib.hid (HR.out.trans (if_pos rfl))
    clear HR
    go_enter Try.func223, Try.ntmps223
    go_wp2_with fail
    go_quiet (fail)
    go_wp2_with fail
    go_quiet (fail)
    go_wp2_with fail
    go_ret
    exact ⟨by rw [HR2.out]; rfl, _, rfl⟩
  · have h1 : (u != v) = true := by simp [he]
    have HR2 := Lib.hid (HR.out.trans (if_neg he))
    clear HR he
    go_enter Try.func223, Try.ntmps223
    go_wp2_with fail
    go_quiet (fail)
    go_wp2_with fail
    go_quiet (fail)
    go_wp2_with fail
    go_quiet (fail)
    go_wp2_with fail
    go_ret
    exact ⟨by rw [HR2.out]; rfl, _, by rw [drewN2, drewN2]⟩

theorem len_any {w : World} {g : Nat} {A : Option Addr} {c : Nat} {xs : List Ak} {B : Option Addr} {d : Nat} {P : List Nat} (h : Hq w g A c xs B d P) :
    Calls Try.prog 173 #[.pointer (some ⟨g, 0, none⟩)] w (fun e w' => e = .returned (.int .i64 (P.length : Int)) ∧ w = w') := by
  have g1 := var_cell h.box 1
  clear h
  go_enter Try.func173, Try.ntmps173
  go_wp2_with fail
  go_ret
  exact ⟨rfl, rfl⟩

/-- Two places change sides. -/
theorem Hq.swapped {w : World} {g : Nat} {A : Option Addr} {c : Nat} {xs : List Ak} {b d : Nat} {P : List Nat} (h : Hq w g A c xs (some ⟨b, 0, none⟩) d P) {i j : Nat} (hi : i < P.length) (hj : j < P.length) (hgb : g < b) :
    Hq ((w.setCell ⟨b, i, none⟩ (.int .i64 (nth P j : Int))).setCell ⟨b, j, none⟩ (.int .i64 (nth P i : Int))) g A c xs (some ⟨b, 0, none⟩) d (swp P i j) ∧
    Mv w ((w.setCell ⟨b, i, none⟩ (.int .i64 (nth P j : Int))).setCell ⟨b, j, none⟩ (.int .i64 (nth P i : Int))) g (some ⟨b, 0, none⟩) (some ⟨b, 0, none⟩) := by
  have h1 := (h.row.stored i (.int .i64 (nth P j : Int))).1
  have h2 := (h1.stored j (.int .i64 (nth P i : Int))).1
  rw [nI_set, nI_set] at h2
  have hl := swp_length P i j
  refine ⟨⟨?_, ?_, ?_, ?_, h.xlen, by rw [hl]; exact h.plen⟩, ⟨((Rep.Only.setCell w (p := ⟨b, i, none⟩) (by simp [fpB]) _).trans (Rep.Only.setCell _ (p := ⟨b, j, none⟩) (by simp [fpB]) _)), fun a ha => .inl ha⟩⟩
  · rw [hl, heap_setCell_other _ _ _ _ (by simp; omega), heap_setCell_other _ _ _ _ (by simp; omega)]; exact h.box
  · rw [hl]; exact h2
  · exact h.rows.keep fun p hp => by rw [World.cell?_setCell_other _ _ _ _ (fun e => by subst e; simp at hp; omega), World.cell?_setCell_other _ _ _ _ (fun e => by subst e; simp at hp; omega)]
  · intro p hp
    exact h.small p ((mem_swp hi hj p).1 hp)

set_option maxHeartbeats 4000000 in
theorem swap_any {w : World} {g : Nat} {A : Option Addr} {c : Nat} {xs : List Ak} {B : Option Addr} {d : Nat} {P : List Nat} (h : Hq w g A c xs B d P) (i j : Nat) (hi : i < P.length) (hj : j < P.length) :
    Calls Try.prog 226 #[.pointer (some ⟨g, 0, none⟩), .int .i64 i, .int .i64 j] w (fun e w' => e = .returned (.tuple #[]) ∧ Hq w' g A c xs B d (swp P i j) ∧ Mv w w' g B B) := by
  obtain ⟨b, rfl, hgb, hbl⟩ := h.base (by omega)
  have ci := h.cell hi
  have cj := h.cell hj
  have fi := h.row.frozenAt i
  have fj := h.row.frozenAt j
  have g1 := var_cell h.box 1
  have hl := h.plen
  have hd : i < d ∧ j < d := by
    rcases h.row.2 with ⟨h1, h2⟩ | ⟨b', cap, cur, hv, _, _, hc, _⟩
    · omega
    · cases hv; omega
  have HS := Lib.hid (h.swapped hi hj hgb)
  obtain ⟨u, cu⟩ : ∃ u, (w.setCell ⟨b, i, none⟩ (.int .i64 (nth P j : Int))).cell? ⟨b, j, none⟩ = some u := ⟨_, by rw [(h.row.stored i (.int .i64 (nth P j : Int))).1.cellAt j (by omega), nI_set]; exact nI_get (by simpa using hj)⟩
  have hgb' : b ≠ g := by omega
  have hgb2 : g ≠ b := by omega
  have i2 : (i : Int) < (P.length : Int) := by omega
  have j2 : (j : Int) < (P.length : Int) := by omega
  clear h
  generalize nth P i = p at *
  generalize nth P j = q at *
  go_enter Try.func226, Try.ntmps226
  go_wp2_with fail
  refine wp_region_open 27 (fun w' => w'.cell? ⟨g, 1, none⟩ = some (.slice (some ⟨b, 0, none⟩) P.length d)) (by kernel_rfl) ?_
  refine wpAnyL_reads [0, 1, 2, 3, 4, 5, 6, 7, 8, 9, 10, 11, 12, 13, 14, 15, 17, 18, 19, 20, 21, 22] (fuel := 6) (by kernel_rfl) g1 ?_
  iterate 22 (refine LexR.cons rfl ?_ (fun w' hw => ?_) ?_; rotate_left; focus (go_simp; (try exact rfl)); (try go_frame))
  refine LexR.nil ?_
  refine wpAnyL_two (i := 16) (j := 23) (by kernel_rfl) ?_ ?_
  · refine lexA_get rfl ?_
    try go_frame
    go_wp2_with fail
    refine ⟨fun _ => g1, ?_⟩
    refine wpAnyL_one (i := 23) (by kernel_rfl) ?_
    refine lexA_get rfl ?_
    try go_frame
    go_wp2_with fail
    refine ⟨fun _ => g1, ?_⟩
    refine wpAnyL_writes [24, 25, 26, 27] (by kernel_rfl) (LexW.cons rfl ?_)
    try go_frame
    go_wp2_with fail
    refine ⟨fun _ => g1, LexW.cons rfl ?_⟩
    try go_frame
    go_wp2_with fail
    refine ⟨fun _ => keepSet g1 hgb', LexW.cons rfl ?_⟩
    try go_frame
    go_wp2_with fail
    refine ⟨fun _ => keepSet g1 hgb', LexW.cons rfl ?_⟩
    try go_frame
    go_wp2_with fail
    refine ⟨fun h => absurd rfl h, LexW.nil ?_⟩
    go_wp2_with fail
    go_end0
    exact ⟨rfl, HS.out.1.drewN 1, HS.out.2.drewN 1⟩
  · refine lexA_get rfl ?_
    try go_frame
    go_wp2_with fail
    refine ⟨fun _ => g1, ?_⟩
    refine wpAnyL_one (i := 16) (by kernel_rfl) ?_
    refine lexA_get rfl ?_
    try go_frame
    go_wp2_with fail
    refine ⟨fun _ => g1, ?_⟩
    refine wpAnyL_writes [24, 25, 26, 27] (by kernel_rfl) (LexW.cons rfl ?_)
    try go_frame
    go_wp2_with fail
    refine ⟨fun _ => g1, LexW.cons rfl ?_⟩
    try go_frame
    go_wp2_with fail
    refine ⟨fun _ => keepSet g1 hgb', LexW.cons rfl ?_⟩
    try go_frame
    go_wp2_with fail
    refine ⟨fun _ => keepSet g1 hgb', LexW.cons rfl ?_⟩
    try go_frame
    go_wp2_with fail
    refine ⟨fun h => absurd rfl h, LexW.nil ?_⟩
    go_wp2_with fail
    go_end0
    exact ⟨rfl, HS.out.1.drewN 1, HS.out.2.drewN 1⟩

theorem Try.infoInt : (Try.prog.info? 3).map (fun i => (i.zero, i.size, i.bytes)) = some (some (.int .i64 0), 1, 8) := by kernel_rfl
theorem Try.as_int (x : Int) (W : World) : (Instr.typeAssert (.iface 3 (.int .i64 x)) 20 3 false).run Try.prog W = .ok (.int .i64 x) W := by kernel_rfl

/-- A place is laid behind the others. -/
theorem Hq.pushed {w w' : World} {g : Nat} {A : Option Addr} {c : Nat} {xs : List Ak} {B : Option Addr} {d : Nat} {P : List Nat} (h : Hq w g A c xs B d P) {x : Nat} (hx : x < xs.length) (hp : P.length < 1048576)
    {v : Value} (hrow : w'.ownsRow (g + 1) 3 1 v (P.length + 1) (nI (P ++ [x]))) (hg : w.grownBy w' (Value.slice B P.length d).ownBlock) (hat : v.ownBlock = (Value.slice B P.length d).ownBlock ∨ v.ownBlock = some w.heap.size) :
    ∃ B' d', v = .slice B' (P.length + 1) d' ∧ Hq (w'.setCell ⟨g, 1, none⟩ v) g A c xs B' d' (P ++ [x]) ∧ Mv w (w'.setCell ⟨g, 1, none⟩ v) g B B' := by
  have hgl := h.lt
  obtain ⟨B', d', rfl⟩ : ∃ B' d', v = .slice B' (P.length + 1) d' := by
    rcases hrow.2 with ⟨h1, h2⟩ | ⟨b, cap, cur, hv, _⟩
    · omega
    · exact ⟨_, _, hv⟩
  refine ⟨B', d', rfl, ⟨?_, ?_, ?_, ?_, h.xlen, by simp; omega⟩, ⟨?_, ?_⟩⟩
  · have h1 : w'.heap[g]? = some (.cells #[.slice A xs.length c, .slice B P.length d] 198 (0, 0)) := (hg.block g hgl (fun e => by have := (h.row.lt g e.symm).1; omega)).trans h.box
    rw [List.length_append, List.length_singleton]
    exact var_set h1 1 _
  · rw [List.length_append, List.length_singleton]
    exact ownsRow_setCell_below hrow (by simp) _
  · refine h.rows.keep fun p hp => ?_
    rw [World.cell?_setCell_other _ _ _ _ (fun e => by subst e; simp at hp)]
    exact World.cell?_of_block (hg.block p.block (by omega) (fun e => by have := (h.row.lt p.block e.symm).1; omega))
  · intro p hp
    rcases List.mem_append.1 hp with hp | hp
    · exact h.small p hp
    · simp at hp; omega
  · refine Rep.Only.trans (Rep.Only.of_grown hg (fun k hk => ?_)) (Rep.Only.setCell _ (by simp [fpB]) _)
    cases B with
    | none => simp [Value.ownBlock] at hk
    | some b => simp [Value.ownBlock] at hk; simp [fpB, hk]
  · intro a ha
    simp only [fpB, List.mem_cons] at ha ⊢
    rcases ha with ha | ha
    · exact .inl (.inl ha)
    · rcases hat with h1 | h1
      · cases B' <;> cases B <;> simp_all [Value.ownBlock]
      · cases B' <;> simp_all [Value.ownBlock]

set_option maxHeartbeats 4000000 in
theorem hpush_any {w : World} {g : Nat} {A : Option Addr} {c : Nat} {xs : List Ak} {B : Option Addr} {d : Nat} {P : List Nat} (h : Hq w g A c xs B d P) (x : Nat) (hx : x < xs.length) (hp : P.length < 1048576) :
    Calls Try.prog 225 #[.pointer (some ⟨g, 0, none⟩), .iface 3 (.int .i64 x)] w (fun e w' => e = .returned (.tuple #[]) ∧ ∃ B' d', Hq w' g A c xs B' d' (P ++ [x]) ∧ Mv w w' g B B') := by
  obtain ⟨m0, hm0, hm1, hm2, hm3⟩ := info_parts Try.infoInt
  have g1 := var_cell h.box 1
  have ha := Try.as_int (x : Int)
  have hgl := h.lt
  go_enter Try.func225, Try.ntmps225
  go_wp2_with fail
  refine wp_region_lex' 11 [0, 1, 2, 3, 4, 5, 6] [7, 8, 9, 10, 11] (fun w' => w'.cell? ⟨g, 1, none⟩ = some (.slice B P.length d)) (by kernel_rfl) (by kernel_rfl) g1 ?_
  iterate 7 (refine LexR.cons rfl ?_ (fun w' hw => ?_) ?_; rotate_left; focus (go_simp; (try exact rfl)); (try go_frame))
  refine LexR.nil (LexW.cons rfl ?_)
  go_wp2_with fail
  have hA := Later.alloc w (.cells #[.int .i64 (x : Int)] 3)
  have g2 : (w.alloc (.cells #[.int .i64 (x : Int)] 3)).drew.cell? ⟨g, 1, none⟩ = some (.slice B P.length d) := (World.cell?_of_block (hA.block g hgl)).trans g1
  have hnew := reads_lit w #[.int .i64 (x : Int)] 1 1 3 (g := w.heap.size) rfl rfl (by simp [maxLen])
  have H2 : Hq (w.alloc (.cells #[.int .i64 (x : Int)] 3)).drew g A c xs B d P :=
    ⟨(hA.block g hgl).trans h.box, h.row.alloc _, h.rows.keep fun p hp => World.cell?_of_block (hA.block p.block (by omega)), h.small, h.xlen, h.plen⟩
  have hz : w.heap.size ≤ (w.alloc (.cells #[.int .i64 (x : Int)] 3)).drew.heap.size := hA.size
  have hM : Mv w (w.alloc (.cells #[.int .i64 (x : Int)] 3)).drew g B B := ⟨⟨hA.os, hA.tape, hA.output, hA.size, fun k hk _ => hA.block k hk⟩, fun a ha => .inl ha⟩
  refine ⟨fun _ => g2, LexW.cons rfl ?_⟩
  try go_frame
  refine wpList_append_any (w.alloc (.cells #[.int .i64 (x : Int)] 3)).drew rfl (.tmp 8) (.tmp 11) 74 rfl (g + 1) 3 m0 (.int .i64 0) 1 8 Try.underlying74 hm0 hm1 hm2 hm3 rfl (by decide) (.slice B P.length d) P.length (nI P) rfl H2.row (w.alloc (.cells #[.int .i64 (x : Int)] 3)).heap.size (some ⟨w.heap.size, 0, none⟩) 1 1 [.int .i64 (x : Int)] rfl ?_ (by simp [Value.oneCell']) (by simp only [maxLen]; omega) (by omega) (by have := H2.lt; omega) ?_
  · exact hnew.drew
  intro v w' hrow hg hat
  rw [← nI_app P x] at hrow
  obtain ⟨B', d', rfl, HQ, HM⟩ := H2.pushed hx hp hrow hg hat
  have HE := Lib.hid (show Hq (w'.setCell ⟨g, 1, none⟩ (.slice B' (P.length + 1) d')) g A c xs B' d' (P ++ [x]) ∧ Mv w (w'.setCell ⟨g, 1, none⟩ (.slice B' (P.length + 1) d')) g B B' from ⟨HQ, hM.trans HM⟩)
  have e1 : w'.cell? ⟨g, 1, none⟩ = some (.slice B P.length d) := (World.cell?_of_block (hg.block g H2.lt (fun e => by have := (H2.row.lt g e.symm).1; omega))).trans g2
  have f1 : w'.frozen? ⟨g, 1, none⟩ = false := by
    have hb : w'.heap[g]? = some (.cells #[.slice A xs.length c, .slice B P.length d] 198 (0, 0)) := (hg.block g H2.lt (fun e => by have := (H2.row.lt g e.symm).1; omega)).trans H2.box
    exact var_frozen hb 1
  clear hrow hg hat H2 HQ HM hM hA g1 hnew
  refine ⟨fun _ => e1, LexW.cons rfl ?_⟩
  try go_frame
  go_wp2_with fail
  refine ⟨fun _ => e1, LexW.cons rfl ?_⟩
  try go_frame
  go_wp2_with fail
  refine ⟨fun _ => e1, LexW.cons rfl ?_⟩
  try go_frame
  go_wp2_with fail
  refine ⟨fun h => absurd rfl h, LexW.nil ?_⟩
  go_wp2_with fail
  go_end0
  exact ⟨rfl, B', d', HE.out⟩

theorem Hq.popped {w : World} {g : Nat} {A : Option Addr} {c : Nat} {xs : List Ak} {b d n : Nat} {P : List Nat} (h : Hq w g A c xs (some ⟨b, 0, none⟩) d P) (hn : P.length = n + 1) (hgb : g < b) :
    Hq (w.setCell ⟨g, 1, none⟩ (.slice (some ⟨b, 0, none⟩) n d)) g A c xs (some ⟨b, 0, none⟩) d (P.take n) ∧ Mv w (w.setCell ⟨g, 1, none⟩ (.slice (some ⟨b, 0, none⟩) n d)) g (some ⟨b, 0, none⟩) (some ⟨b, 0, none⟩) := by
  have hl : (P.take n).length = n := by simp; omega
  have hsplit : nI P = nI (P.take n) ++ nI (P.drop n) := by unfold nI; rw [← List.map_append, List.take_append_drop]
  refine ⟨⟨?_, ?_, ?_, ?_, h.xlen, by rw [hl]; have := h.plen; omega⟩, ⟨Rep.Only.setCell _ (by simp [fpB]) _, fun a ha => .inl ha⟩⟩
  · rw [hl]; exact var_set h.box 1 _
  · rw [hl]
    refine ownsRow_setCell_below ?_ (by simp) _
    have h1 := h.row
    rw [hn, hsplit] at h1
    exact Go.ownsRow_pop (by rw [nI_len, hl]; omega) h1
  · exact h.rows.keep fun p hp => World.cell?_setCell_other _ _ _ _ (fun e => by subst e; simp at hp)
  · intro p hp
    exact h.small p (List.mem_of_mem_take hp)

set_option maxHeartbeats 4000000 in
theorem hpop_any {w : World} {g : Nat} {A : Option Addr} {c : Nat} {xs : List Ak} {B : Option Addr} {d : Nat} {P : List Nat} (h : Hq w g A c xs B d P) (n : Nat) (hn : P.length = n + 1) :
    Calls Try.prog 224 #[.pointer (some ⟨g, 0, none⟩)] w (fun e w' => e = .returned (.iface 3 (.int .i64 (nth P n : Int))) ∧ Hq w' g A c xs B d (P.take n) ∧ Mv w w' g B B) := by
  obtain ⟨b, rfl, hgb, hbl⟩ := h.base (by omega)
  have cn := h.cell (k := n) (by omega)
  have g1 := var_cell h.box 1
  rw [hn] at g1
  have f1 := var_frozen h.box 1
  have hd : n + 1 ≤ d := by
    rcases h.row.2 with ⟨h1, h2⟩ | ⟨b', cap, cur, hv, _, _, hc, _⟩
    · omega
    · cases hv; omega
  have hd2 : d ≤ 9223372036854775807 := by
    rcases h.row.2 with ⟨h1, h2⟩ | ⟨b', cap, cur, hv, _, _, _, hc, _⟩
    · omega
    · cases hv; exact hc
  have hl := h.plen
  have hn2 : n ≤ 1048576 := by omega
  have HS := Lib.hid (h.popped hn hgb)
  clear h hn hl
  generalize nth P n = p at *
  go_enter Try.func224, Try.ntmps224
  go_wp2_with fail
  go_ret
  exact ⟨rfl, HS.out⟩

end Go.Proofs.Ytgdhhhibkhfdlaa
