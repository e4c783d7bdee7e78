/- As XLex's reads, where a guard may stand: its outcome is decided. Records that are drawn. The draws of FnRecs. The bytes that FnRecs reads. -/
import Derived.Test.YtannedjfmgflpaaGreatDoorLex
import Derived.Test.YtannedjfmgflpaaGreatDoorDrawConf
import Derived.Test.YtannedjfmgflpaaGreatDoorRecLaw
import Derived.Test.YtannedjfmgflpaaGreatDoorGetRec
namespace Go.Proofs.YtannedjfmgflpaaGreatDoor
set_option maxRecDepth 100000
set_option linter.unusedVariables false

section
variable {P : Program} {ops : Array Oper} {Q : Exit → Act → World → Prop} {md : Region.Mode} {S : World → Prop} {z : Nat}

def lexReadsG (md : Region.Mode) (ops : Array Oper) (z : Nat) : List Nat → Array Bool → Option (Array Bool)
  | [], L => some L
  | i :: r, L => if Region.free md ops L i && (Region.ready md ops L).contains i && ((ops[z]?).map (fun oz => oz.after.any fun e => Region.binds md e && e.on == i)).getD true then lexReadsG md ops z r (L.setIfInBounds i true) else none
def LexRG (P : Program) (ops : Array Oper) (S : World → Prop) : List Nat → (Act → Prop) → Act → Prop
  | [], K, a => K a
  | i :: r, K, a => ∃ o v, ops[i]? = some o ∧ YieldsIf P ops S o v a ∧ LexRG P ops S r K (a.put o.dst v)

theorem lexReadsG_sound (hs : Region.noSelect ops = true) (hQ : ∀ c a d v w, Q (.panic c) (Act.put a d v) w → Q (.panic c) a w) : ∀ (rs : List Nat) (L L' : Array Bool) (fuel : Nat) (K : Act → Prop) (a : Act) (w : World), lexReadsG md ops z rs L = some L' → S w → LexRG P ops S rs K a →
    (∀ a', K a' → wpAnyL P md ops Q S z fuel L' a' w) → wpAnyL P md ops Q S z (rs.length + fuel) L a w
  | [], L, L', fuel, K, a, w, hc, hS, h, hk => by
    simp only [lexReadsG] at hc
    injection hc with hc
    subst hc
    rw [List.length_nil, Nat.zero_add]
    exact hk a h
  | i :: r, L, L', fuel, K, a, w, hc, hS, h, hk => by
    simp only [lexReadsG] at hc
    split at hc
    · rename_i hb
      simp only [Bool.and_eq_true] at hb
      obtain ⟨⟨hf, hr⟩, hz⟩ := hb
      obtain ⟨o, v, ho, hv, h⟩ := h
      have ih := lexReadsG_sound hs hQ r _ L' fuel K (a.put o.dst v) w hc hS h hk
      have e : (i :: r).length + fuel = (r.length + fuel) + 1 := by simp only [List.length_cons]; omega
      rw [e]
      refine wpAnyL_first ho (Region.noSelect_spec hs) (fun c a w => hQ c a o.dst v w) (fun oz hoz => ?_) _ L a w (Region.free_spec ho hf) (by simpa using hr) hv hS ih
      simp only [hoz, Option.map_some, Option.getD_some] at hz
      obtain ⟨e, he, hb⟩ := Array.any_eq_true'.1 hz
      simp only [Bool.and_eq_true, beq_iff_eq] at hb
      exact ⟨e, he, hb.1, hb.2⟩
    · cases hc
theorem lexReadsG_done : ∀ (rs : List Nat) (L L' : Array Bool), lexReadsG md ops z rs L = some L' → L' = doneL L rs
  | [], L, L', h => by
    simp only [lexReadsG] at h
    injection h with h
    exact h.symm
  | i :: r, L, L', h => by
    simp only [lexReadsG] at h
    split at h
    · exact lexReadsG_done r _ L' h
    · cases h
/-- The quiet operations rs may be taken first. -/
theorem wpAnyL_readsG (rs : List Nat) {fuel : Nat} {L : Array Bool} {a : Act} {w : World} (hc : (Region.noSelect ops && (lexReadsG .any ops z rs L).isSome) = true) (hS : S w)
    (h : LexRG P ops S rs (fun a' => wpAnyL P .any ops (NoPanic Q) S z fuel (doneL L rs) a' w) a) : wpAnyL P .any ops (NoPanic Q) S z (rs.length + fuel) L a w := by
  simp only [Bool.and_eq_true] at hc
  rcases hL : lexReadsG .any ops z rs L with _ | L'
  · rw [hL] at hc; cases hc.2
  · exact lexReadsG_sound hc.1 (fun _ _ _ _ _ h => h) rs L L' fuel _ a w hL hS h fun a' ha => by rw [lexReadsG_done rs L L' hL]; exact ha
theorem LexRG.nil {K : Act → Prop} {a : Act} (h : K a) : LexRG P ops S [] K a := h
theorem LexRG.yes {i : Nat} {r : List Nat} {K : Act → Prop} {a : Act} {o : Oper} (ho : ops.toList[i]? = some o) (hw : Region.wanted o (yielded ops a.tmps) = true) (v : Value) (hv : ∀ w, S w → (execOp a.eval o).run P w = .ok (.value v) w) (h : LexRG P ops S r K (a.put o.dst v)) : LexRG P ops S (i :: r) K a := ⟨o, v, by simpa using ho, .inl ⟨hw, hv⟩, h⟩
theorem LexRG.no {i : Nat} {r : List Nat} {K : Act → Prop} {a : Act} {o : Oper} (ho : ops.toList[i]? = some o) (hw : Region.wanted o (yielded ops a.tmps) = false) (h : LexRG P ops S r K (a.put o.dst undef)) : LexRG P ops S (i :: r) K a := ⟨o, undef, by simpa using ho, .inr ⟨hw, rfl⟩, h⟩
end
end Go.Proofs.YtannedjfmgflpaaGreatDoor

namespace Go.Proofs.YtannedjfmgflpaaGreatDoor
open Go.RowKit
set_option linter.unusedVariables false

/-- A variable that holds a record lies in block D, the result's box beside it, the cursor elsewhere. -/
structure V4 (w : World) (lo g : Nat) (A : Option Addr) (n c : Nat) (code : List UInt8) (D : Nat) (r : Rec) (wr : World) : Prop where
  zero : wr.heap[w.heap.size]? = some (.cells (recC zeroRec).toArray 25 (0, 0))
  var : wr.heap[D]? = some (.cells (recC r).toArray 25 (0, 0))
  cur : Cur wr lo g A n c code
  only : Rep.Only w wr [g]
  hD : w.heap.size < D
  lt : g < w.heap.size
  from_ : lo ≤ g
theorem V4.step {w w1 w2 : World} {lo g : Nat} {A : Option Addr} {n c : Nat} {code : List UInt8} {D : Nat} {r : Rec} (h : V4 w lo g A n c code D r w1) (hc : Cur w2 lo g A n c code) (ho : Rep.Only w1 w2 [g]) : V4 w lo g A n c code D r w2 :=
  ⟨(ho.block _ (Array.getElem?_eq_some_iff.1 h.zero).1 (by have := h.lt; simp; omega)).trans h.zero, (ho.block _ (Array.getElem?_eq_some_iff.1 h.var).1 (by have := h.lt; have := h.hD; simp; omega)).trans h.var, hc, h.only.then ho (fun a ha => .inl ha), h.hD, h.lt, h.from_⟩
theorem V4.later {w w1 w2 : World} {lo g : Nat} {A : Option Addr} {n c : Nat} {code : List UInt8} {D : Nat} {r : Rec} (h : V4 w lo g A n c code D r w1) (hb : Below w1.heap.size w1 w2) : V4 w lo g A n c code D r w2 :=
  have ho := Rep.only_of_below hb
  h.step (h.cur.only ho (by simp) (fun a ha => by cases ha)) (ho.mono (by simp))
theorem V4.set {w w1 : World} {lo g : Nat} {A : Option Addr} {n c : Nat} {code : List UInt8} {D : Nat} {r : Rec} (h : V4 w lo g A n c code D r w1) (i : Nat) (u : Value) (r' : Rec) (hr : (recC r).toArray.setIfInBounds i u = (recC r').toArray) : V4 w lo g A n c code D r' (w1.setCell ⟨D, i, none⟩ u) := by
  have ho := Rep.Only.setCell w1 (p := ⟨D, i, none⟩) (fp := [D]) (by simp) u
  have h1 := h.hD
  have h2 := h.lt
  have h3 := h.from_
  exact ⟨(ho.block _ (Array.getElem?_eq_some_iff.1 h.zero).1 (by simp; omega)).trans h.zero, by rw [← hr]; exact var_set h.var i u, h.cur.only ho (by simp; omega) (fun a ha => by simp at ha; omega), h.only.then ho (fun a ha => .inr (by simp at ha; omega)), h1, h2, h3⟩
theorem putR4_only (w : World) (D : Nat) (a b c d : Value) : Rep.Only w ((((w.setCell ⟨D, 0, none⟩ a).setCell ⟨D, 1, none⟩ b).setCell ⟨D, 2, none⟩ c).setCell ⟨D, 3, none⟩ d) [D] :=
  (((Rep.Only.setCell w (p := ⟨D, 0, none⟩) (by simp) a).trans (Rep.Only.setCell _ (p := ⟨D, 1, none⟩) (by simp) b)).trans (Rep.Only.setCell _ (p := ⟨D, 2, none⟩) (by simp) c)).trans (Rep.Only.setCell _ (p := ⟨D, 3, none⟩) (by simp) d)

/-- A record comes back. -/
def RetRec4 (w : World) (lo g : Nat) (A : Option Addr) (n c : Nat) (code : List UInt8) (e : Ending) (w' : World) : Prop :=
  ∃ r : Rec, e = .returned (.agg #[.int .i64 r.kind, .int .i64 r.n, .int .i64 r.owner, .string r.text]) ∧ r.text.size ≤ 100 ∧ Cur w' lo g A n c code ∧ Rep.Only w w' [g]
/-- Its end: the variable's cells are copied into the result's box. -/
theorem V4.ret {w w1 : World} {lo g : Nat} {A : Option Addr} {n c : Nat} {code : List UInt8} {D : Nat} {k m o : Int} {t : ByteArray} (h : V4 w lo g A n c code D ⟨k, m, o, t⟩ w1) (ht : t.size ≤ 100) :
    RetRec4 w lo g A n c code (.returned (.agg #[.int .i64 k, .int .i64 m, .int .i64 o, .string t])) ((((w1.setCell ⟨w.heap.size, 0, none⟩ (.int .i64 k)).setCell ⟨w.heap.size, 1, none⟩ (.int .i64 m)).setCell ⟨w.heap.size, 2, none⟩ (.int .i64 o)).setCell ⟨w.heap.size, 3, none⟩ (.string t)) := by
  have ho := putR4_only w1 w.heap.size (.int .i64 k) (.int .i64 m) (.int .i64 o) (.string t)
  have h2 := h.lt
  have h3 := h.from_
  exact ⟨⟨k, m, o, t⟩, rfl, ht, h.cur.only ho (by simp; omega) (fun a ha => by simp at ha; omega), h.only.then ho (fun a ha => .inr (by simp at ha; omega))⟩
/-- What a walk reads of it. -/
theorem V4.facts {w w1 : World} {lo g : Nat} {A : Option Addr} {n c : Nat} {code : List UInt8} {D : Nat} {k m o : Int} {t : ByteArray} (h : V4 w lo g A n c code D ⟨k, m, o, t⟩ w1) :
    (w1.cell? ⟨D, 0, none⟩ = some (.int .i64 k) ∧ w1.cell? ⟨D, 1, none⟩ = some (.int .i64 m) ∧ w1.cell? ⟨D, 2, none⟩ = some (.int .i64 o) ∧ w1.cell? ⟨D, 3, none⟩ = some (.string t)) ∧ (∀ i, w1.frozen? ⟨D, i, none⟩ = false) ∧
    (w1.cell? ⟨w.heap.size, 0, none⟩ = some (.int .i64 0) ∧ w1.cell? ⟨w.heap.size, 1, none⟩ = some (.int .i64 0) ∧ w1.cell? ⟨w.heap.size, 2, none⟩ = some (.int .i64 0) ∧ w1.cell? ⟨w.heap.size, 3, none⟩ = some (.string ⟨#[]⟩)) ∧ (∀ i, w1.frozen? ⟨w.heap.size, i, none⟩ = false) :=
  ⟨rec_box h.var, var_frozen h.var, rec_box h.zero, var_frozen h.zero⟩

set_option maxRecDepth 100000 in
set_option maxHeartbeats 4000000 in
theorem l4Draw_any (lo g : Nat) (A : Option Addr) (n c : Nat) (code : List UInt8) (w : World) (h : Cur w lo g A n c code) (hn : n ≤ 140737488351232) :
    Calls Tryz.prog 24 #[.pointer (some ⟨g, 0, none⟩)] w (RetRec4 w lo g A n c code) := by
  have hglt := h.lt
  have hlg := h.from_
  go_enter Tryz.func24, Tryz.ntmps24
  go_wp2_with fail
  have ho1 := Rep.only_alloc w (.cells #[.int .i64 0, .int .i64 0, .int .i64 0, .string ⟨#[]⟩] 25)
  have hv1 := heap_alloc_new w (.cells #[.int .i64 0, .int .i64 0, .int .i64 0, .string ⟨#[]⟩] 25)
  have hs1 : (w.alloc (.cells #[.int .i64 0, .int .i64 0, .int .i64 0, .string ⟨#[]⟩] 25)).heap.size = w.heap.size + 1 := by simp
  generalize w.alloc (.cells #[.int .i64 0, .int .i64 0, .int .i64 0, .string ⟨#[]⟩] 25) = W1 at ho1 hv1 hs1 ⊢
  have hc1 := h.only ho1 (by simp) (fun a ha => by cases ha)
  have O1 : Rep.Only w W1 [g] := ho1.mono (by simp)
  have V1 := Lib.hid hv1
  clear ho1 hv1 h
  refine (l1Below_any lo g A n c code 3 W1 hc1 hn (by omega) (by omega)).mono ?_
  rintro e W2 ⟨x, hx, rfl, hc2, hg2⟩
  have ho := only_g hg2
  have V2 := Rep.var_only V1 ho (by omega) (by simp; omega)
  have O2 := O1.then ho (fun a ha => .inl ha)
  have s2 := ho.size
  clear hg2 ho hc1 V1 O1
  go_wp2_with fail
  refine (l1Below_any lo g A n c code 6 W2 hc2 hn (by omega) (by omega)).mono ?_
  rintro e W3 ⟨m, hm, rfl, hc3, hg3⟩
  have ho := only_g hg3
  have V3 := Rep.var_only V2 ho (by omega) (by simp; omega)
  have O3 := O2.then ho (fun a ha => .inl ha)
  have s3 := ho.size
  clear hg3 ho hc2 V2 O2
  have V : ∀ kd : Int, V4 w lo g A n c code W3.heap.size ⟨kd, 1 + (m : Int), 0, ⟨#[]⟩⟩ (W3.alloc (.cells #[.int .i64 kd, .int .i64 (1 + (m : Int)), .int .i64 0, .string ⟨#[]⟩] 25)) := fun kd =>
    ⟨(Below.heap_alloc _ _ _ (by omega)).trans V3.out, heap_alloc_new _ _, hc3.alloc _, O3.then (Rep.only_alloc _ _) (fun a ha => by cases ha), by omega, hglt, hlg⟩
  clear hc3 O3
  have split : x = 0 ∨ x = 1 ∨ x = 2 := by omega
  rcases split with rfl | rfl | rfl
  · replace V := V 1
    clear V3
    go_wp2_with fail
    generalize W3.alloc (.cells #[.int .i64 1, .int .i64 (1 + (m : Int)), .int .i64 0, .string ⟨#[]⟩] 25) = W4 at V ⊢
    generalize W3.heap.size = D at V ⊢
    refine (l3Draw_any lo g A n c code W4 V.cur hn).mono ?_
    rintro e W5 ⟨A2, c2, xs, fp, rfl, hP, hown, hc5, ho5⟩
    replace V := V.step hc5 ho5
    obtain ⟨hfew, h1⟩ := hP
    obtain ⟨⟨hq1, hq2⟩, hrows⟩ := dbs_rows (Rep.reads dbsR hown)
    clear hown hc5 ho5
    go_wp2_with fail
    refine (confTextS_any A2 c2 xs W5 hrows (hfew.fits (by omega))).mono ?_
    rintro e W6 ⟨rfl, hb⟩
    replace V := V.later hb
    have hts := confT_len xs
    generalize confT xs = t at hts ⊢
    clear hb hrows hq1 hq2 h1 hfew
    obtain ⟨⟨d0, d1, d2, d3⟩, df, ⟨z0, z1, z2, z3⟩, zf⟩ := V.facts
    have df3 := df 3
    have hDl : D < W6.heap.size := (Array.getElem?_eq_some_iff.1 V.var).1
    have hne : w.heap.size ≠ D := by have := V.hD; omega
    have zf0 := zf 0
    have zf1 := zf 1
    have zf2 := zf 2
    have zf3 := zf 3
    have hret := (V.set 3 (.string t) ⟨1, 1 + (m : Int), 0, t⟩ rfl).ret hts
    clear V df zf
    go_wp2_with fail
    exact bodyPost_ret (v := .agg #[.int .i64 1, .int .i64 (1 + (m : Int)), .int .i64 0, .string t]) (by simp [results, Tryz.results24, go_sem, z0, z1, z2, z3]) rfl hret
  · replace V := V 2
    clear V3
    go_upto_region 2 with (fail)
    generalize W3.alloc (.cells #[.int .i64 2, .int .i64 (1 + (m : Int)), .int .i64 0, .string ⟨#[]⟩] 25) = W4 at V ⊢
    generalize W3.heap.size = D at V ⊢
    obtain ⟨⟨d0, d1, d2, d3⟩, df, ⟨z0, z1, z2, z3⟩, zf⟩ := V.facts
    have zf0 := zf 0
    have zf1 := zf 1
    have zf2 := zf 2
    have zf3 := zf 3
    have hret := V.ret (by decide)
    clear V df zf
    go_wp2_with fail
    exact bodyPost_ret (v := .agg #[.int .i64 2, .int .i64 (1 + (m : Int)), .int .i64 0, .string ⟨#[]⟩]) (by simp [results, Tryz.results24, go_sem, z0, z1, z2, z3]) rfl hret
  · replace V := V 3
    clear V3
    go_wp2_with fail
    generalize W3.alloc (.cells #[.int .i64 3, .int .i64 (1 + (m : Int)), .int .i64 0, .string ⟨#[]⟩] 25) = W4 at V ⊢
    generalize W3.heap.size = D at V ⊢
    refine (l1Below_any lo g A n c code 2 W4 V.cur hn (by omega) (by omega)).mono ?_
    rintro e W5 ⟨ow, how, rfl, hc5, hg5⟩
    replace V := V.step hc5 (only_g hg5)
    clear hc5 hg5
    obtain ⟨⟨d0, d1, d2, d3⟩, df, ⟨z0, z1, z2, z3⟩, zf⟩ := V.facts
    have df2 := df 2
    have hDl : D < W5.heap.size := (Array.getElem?_eq_some_iff.1 V.var).1
    have hne : w.heap.size ≠ D := by have := V.hD; omega
    have zf0 := zf 0
    have zf1 := zf 1
    have zf2 := zf 2
    have zf3 := zf 3
    have hret := (V.set 2 (.int .i64 (ow : Int)) ⟨3, 1 + (m : Int), (ow : Int), ⟨#[]⟩⟩ rfl).ret (by decide)
    clear V df zf
    go_wp2_with fail
    exact bodyPost_ret (v := .agg #[.int .i64 3, .int .i64 (1 + (m : Int)), .int .i64 (ow : Int), .string ⟨#[]⟩]) (by simp [results, Tryz.results24, go_sem, z0, z1, z2, z3]) rfl hret

set_option maxRecDepth 100000 in
set_option maxHeartbeats 4000000 in
theorem l4Any_any (lo g : Nat) (A : Option Addr) (n c : Nat) (code : List UInt8) (w : World) (h : Cur w lo g A n c code) (hn : n ≤ 140737488351232) :
    Calls Tryz.prog 15 #[.pointer (some ⟨g, 0, none⟩)] w (RetRec4 w lo g A n c code) := by
  have hglt := h.lt
  have hlg := h.from_
  go_enter Tryz.func15, Tryz.ntmps15
  go_wp2_with fail
  have ho1 := Rep.only_alloc w (.cells #[.int .i64 0, .int .i64 0, .int .i64 0, .string ⟨#[]⟩] 25)
  have hv1 := heap_alloc_new w (.cells #[.int .i64 0, .int .i64 0, .int .i64 0, .string ⟨#[]⟩] 25)
  have hs1 : (w.alloc (.cells #[.int .i64 0, .int .i64 0, .int .i64 0, .string ⟨#[]⟩] 25)).heap.size = w.heap.size + 1 := by simp
  generalize w.alloc (.cells #[.int .i64 0, .int .i64 0, .int .i64 0, .string ⟨#[]⟩] 25) = W1 at ho1 hv1 hs1 ⊢
  have hc1 := h.only ho1 (by simp) (fun a ha => by cases ha)
  have O1 : Rep.Only w W1 [g] := ho1.mono (by simp)
  have V1 := Lib.hid hv1
  clear ho1 hv1 h
  refine (l4Draw_any lo g A n c code W1 hc1 hn).mono ?_
  rintro e W2 ⟨⟨rk, rn, ro, rt⟩, rfl, hts, hc2, ho⟩
  have V2 := Rep.var_only V1 ho (by omega) (by simp; omega)
  have O2 := O1.then ho (fun a ha => .inl ha)
  have s2 := ho.size
  have V : V4 w lo g A n c code W2.heap.size ⟨rk, rn, ro, rt⟩ (W2.alloc (.cells #[.int .i64 rk, .int .i64 rn, .int .i64 ro, .string rt] 25)) :=
    ⟨(Below.heap_alloc _ _ _ (by omega)).trans V2.out, heap_alloc_new _ _, hc2.alloc _, O2.then (Rep.only_alloc _ _) (fun a ha => by cases ha), by omega, hglt, hlg⟩
  clear hc2 ho hc1 V1 O1 V2 O2
  replace hts : rt.size ≤ 100 := hts
  go_wp2_with fail
  generalize W2.alloc (.cells #[.int .i64 rk, .int .i64 rn, .int .i64 ro, .string rt] 25) = W4 at V ⊢
  generalize W2.heap.size = D at V ⊢
  refine (l1Below_any lo g A n c code 12 W4 V.cur hn (by omega) (by omega)).mono ?_
  rintro e W5 ⟨k, hk, rfl, hc5, hg5⟩
  replace V := V.step hc5 (only_g hg5)
  have hne : w.heap.size ≠ D := by have := V.hD; omega
  clear hc5 hg5 s2 hs1
  have split : k = 0 ∨ k = 1 ∨ k = 2 ∨ k = 3 ∨ 4 ≤ k := by omega
  rcases split with rfl | rfl | rfl | rfl | h4
  · go_wp2_with fail
    refine (draw_int lo g A n c code [0, 1, 2, 4] W5 V.cur hn (by decide) (by decide)).mono ?_
    rintro e W6 ⟨z, hz, rfl, hc6, ho6⟩
    replace V := V.step hc6 ho6
    clear hc6 ho6 hz
    obtain ⟨⟨d0, d1, d2, d3⟩, df, ⟨z0, z1, z2, z3⟩, zf⟩ := V.facts
    have dfi := df 0
    have hDl : D < W6.heap.size := (Array.getElem?_eq_some_iff.1 V.var).1
    have zf0 := zf 0
    have zf1 := zf 1
    have zf2 := zf 2
    have zf3 := zf 3
    have hret := (V.set 0 (.int .i64 z) ⟨z, rn, ro, rt⟩ rfl).ret hts
    clear V df zf
    go_wp2_with fail
    exact bodyPost_ret (v := .agg #[.int .i64 z, .int .i64 rn, .int .i64 ro, .string rt]) (by simp [results, Tryz.results15, go_sem, z0, z1, z2, z3]) rfl hret
  · go_wp2_with fail
    refine (draw_int lo g A n c code [0, 60000, 60001, -1] W5 V.cur hn (by decide) (by decide)).mono ?_
    rintro e W6 ⟨z, hz, rfl, hc6, ho6⟩
    replace V := V.step hc6 ho6
    clear hc6 ho6 hz
    obtain ⟨⟨d0, d1, d2, d3⟩, df, ⟨z0, z1, z2, z3⟩, zf⟩ := V.facts
    have dfi := df 1
    have hDl : D < W6.heap.size := (Array.getElem?_eq_some_iff.1 V.var).1
    have zf0 := zf 0
    have zf1 := zf 1
    have zf2 := zf 2
    have zf3 := zf 3
    have hret := (V.set 1 (.int .i64 z) ⟨rk, z, ro, rt⟩ rfl).ret hts
    clear V df zf
    go_wp2_with fail
    exact bodyPost_ret (v := .agg #[.int .i64 rk, .int .i64 z, .int .i64 ro, .string rt]) (by simp [results, Tryz.results15, go_sem, z0, z1, z2, z3]) rfl hret
  · go_wp2_with fail
    refine (draw_int lo g A n c code [-1, 1, 2] W5 V.cur hn (by decide) (by decide)).mono ?_
    rintro e W6 ⟨z, hz, rfl, hc6, ho6⟩
    replace V := V.step hc6 ho6
    clear hc6 ho6 hz
    obtain ⟨⟨d0, d1, d2, d3⟩, df, ⟨z0, z1, z2, z3⟩, zf⟩ := V.facts
    have dfi := df 2
    have hDl : D < W6.heap.size := (Array.getElem?_eq_some_iff.1 V.var).1
    have zf0 := zf 0
    have zf1 := zf 1
    have zf2 := zf 2
    have zf3 := zf 3
    have hret := (V.set 2 (.int .i64 z) ⟨rk, rn, z, rt⟩ rfl).ret hts
    clear V df zf
    go_wp2_with fail
    exact bodyPost_ret (v := .agg #[.int .i64 rk, .int .i64 rn, .int .i64 z, .string rt]) (by simp [results, Tryz.results15, go_sem, z0, z1, z2, z3]) rfl hret
  · go_wp2_with fail
    refine (l3Text_any lo g A n c code W5 V.cur hn).mono ?_
    rintro e W6 ⟨s, rfl, hs, hc6, ho6⟩
    replace V := V.step hc6 ho6
    clear hc6 ho6
    obtain ⟨⟨d0, d1, d2, d3⟩, df, ⟨z0, z1, z2, z3⟩, zf⟩ := V.facts
    have dfi := df 3
    have hDl : D < W6.heap.size := (Array.getElem?_eq_some_iff.1 V.var).1
    have zf0 := zf 0
    have zf1 := zf 1
    have zf2 := zf 2
    have zf3 := zf 3
    have hret := (V.set 3 (.string s) ⟨rk, rn, ro, s⟩ rfl).ret hs
    clear V df zf
    go_wp2_with fail
    exact bodyPost_ret (v := .agg #[.int .i64 rk, .int .i64 rn, .int .i64 ro, .string s]) (by simp [results, Tryz.results15, go_sem, z0, z1, z2, z3]) rfl hret
  · have b0 : ((k : Int) == 0) = false := by simp; omega
    have b1 : ((k : Int) == 1) = false := by simp; omega
    have b2 : ((k : Int) == 2) = false := by simp; omega
    have b3 : ((k : Int) == 3) = false := by simp; omega
    obtain ⟨⟨d0, d1, d2, d3⟩, df, ⟨z0, z1, z2, z3⟩, zf⟩ := V.facts
    have hDl : D < W5.heap.size := (Array.getElem?_eq_some_iff.1 V.var).1
    have zf0 := zf 0
    have zf1 := zf 1
    have zf2 := zf 2
    have zf3 := zf 3
    have hret := V.ret hts
    clear V df zf
    go_wp2_with fail
    exact bodyPost_ret (v := .agg #[.int .i64 rk, .int .i64 rn, .int .i64 ro, .string rt]) (by simp [results, Tryz.results15, go_sem, z0, z1, z2, z3]) rfl hret

end Go.Proofs.YtannedjfmgflpaaGreatDoor

namespace Go.Proofs.YtannedjfmgflpaaGreatDoor
open Go.RowKit
set_option linter.unusedVariables false

/-- Two numbers and a record come back. -/
def RetPut (w : World) (e : Ending) (w' : World) : Prop :=
  ∃ (a b : Int) (r : Rec), e = .returned (.tuple #[.int .i64 a, .int .i64 b, .agg #[.int .i64 r.kind, .int .i64 r.n, .int .i64 r.owner, .string r.text]]) ∧ r.text.size ≤ 100 ∧ Below w.heap.size w w'

/-- The cursor, a record's box and the result's, all of them new. -/
structure RR (w : World) (lo g : Nat) (A : Option Addr) (n c : Nat) (code : List UInt8) (D : Nat) (rk rn ro : Int) (rt : ByteArray) (V : World) : Prop where
  below : Below w.heap.size w V
  cur : Cur V lo g A n c code
  box : V.heap[D]? = some (.cells (recC ⟨rk, rn, ro, rt⟩).toArray 25 (0, 0))
  zero : V.heap[w.heap.size]? = some (.cells (recC zeroRec).toArray 25 (0, 0))
  low : w.heap.size < lo
  hDg : D ≠ g
  hDz : w.heap.size ≠ D
theorem RR.step {w V V2 : World} {lo g : Nat} {A : Option Addr} {n c : Nat} {code : List UInt8} {D : Nat} {rk rn ro : Int} {rt : ByteArray} (h : RR w lo g A n c code D rk rn ro rt V) (hc : Cur V2 lo g A n c code) (ho : Rep.Only V V2 [g]) : RR w lo g A n c code D rk rn ro rt V2 := by
  have hf := h.cur.from_
  have hl := h.low
  exact ⟨Rep.Only.below h.below ho h.below.size (fun a ha => by simp at ha; omega), hc, (ho.block _ (Array.getElem?_eq_some_iff.1 h.box).1 (by simpa using h.hDg)).trans h.box, (ho.block _ (Array.getElem?_eq_some_iff.1 h.zero).1 (by simp; omega)).trans h.zero, h.low, h.hDg, h.hDz⟩
theorem RR.alloc {w V : World} {lo g : Nat} {A : Option Addr} {n c : Nat} {code : List UInt8} {D : Nat} {rk rn ro : Int} {rt : ByteArray} (h : RR w lo g A n c code D rk rn ro rt V) (ob : Obj) : RR w lo g A n c code D rk rn ro rt (V.alloc ob) :=
  h.step (h.cur.alloc ob) ((Rep.only_alloc V ob).mono (by simp))
theorem RR.drew {w V : World} {lo g : Nat} {A : Option Addr} {n c : Nat} {code : List UInt8} {D : Nat} {rk rn ro : Int} {rt : ByteArray} (h : RR w lo g A n c code D rk rn ro rt V) : RR w lo g A n c code D rk rn ro rt V.drew := h.step h.cur.drew ((Rep.only_drew V).mono (by simp))
theorem RR.box4 {w w' : World} {lo g : Nat} {A : Option Addr} {n c : Nat} {code : List UInt8} {D : Nat} {rk rn ro : Int} {rt : ByteArray} (h : RR w lo g A n c code D rk rn ro rt w') : w'.cell? ⟨D, 0, none⟩ = some (.int .i64 rk) ∧ w'.cell? ⟨D, 1, none⟩ = some (.int .i64 rn) ∧ w'.cell? ⟨D, 2, none⟩ = some (.int .i64 ro) ∧ w'.cell? ⟨D, 3, none⟩ = some (.string rt) := rec_box h.box
theorem RR.gt {w V : World} {lo g : Nat} {A : Option Addr} {n c : Nat} {code : List UInt8} {D : Nat} {rk rn ro : Int} {rt : ByteArray} (h : RR w lo g A n c code D rk rn ro rt V) : V.heap.size ≠ g := by have := h.cur.lt; omega

set_option maxRecDepth 100000 in
set_option maxHeartbeats 8000000 in
theorem drawPutRec_any (A : Option Addr) (c : Nat) (code : List UInt8) (w : World) (h : Reads w w.heap.size 1 A code.length (bys code)) (hn : code.length ≤ 1048576) :
    Calls Tryz.prog 5 #[.slice A code.length c] w (RetPut w) := by
  go_enter Tryz.func5, Tryz.ntmps5
  go_wp2_with fail
  have hb0 := Later.alloc w (.cells #[.int .i64 0, .int .i64 0, .int .i64 0, .string ⟨#[]⟩] 25)
  have hv1 := heap_alloc_new w (.cells #[.int .i64 0, .int .i64 0, .int .i64 0, .string ⟨#[]⟩] 25)
  have hs1 : (w.alloc (.cells #[.int .i64 0, .int .i64 0, .int .i64 0, .string ⟨#[]⟩] 25)).heap.size = w.heap.size + 1 := by simp
  have h1 := (h.below hb0).more hb0.size
  generalize w.alloc (.cells #[.int .i64 0, .int .i64 0, .int .i64 0, .string ⟨#[]⟩] 25) = W1 at hb0 hv1 hs1 h1 ⊢
  clear h
  refine (l1New_any A c code W1 h1 hn).mono ?_
  rintro e W2 ⟨g, rfl, hcur, hb1⟩
  have hgl := hcur.from_
  have hglt := hcur.lt
  have hv2 := (hb1.block w.heap.size (by omega)).trans hv1
  have hb2 : Below w.heap.size w W2 := Later.trans hb0 hb1
  clear h1 hv1 hb0 hb1
  go_wp2_with fail
  refine (l4Any_any W1.heap.size g A code.length c code W2 hcur (by omega)).mono ?_
  rintro e W3 ⟨⟨rk, rn, ro, rt⟩, rfl, hts, hc3, ho3⟩
  replace hts : rt.size ≤ 100 := hts
  have hs3 := ho3.size
  have hv3 := (ho3.block w.heap.size (by omega) (by simp; omega)).trans hv2
  have hb3 : Below w.heap.size w W3 := Rep.Only.below hb2 ho3 hb2.size (fun a ha => by simp at ha; omega)
  have R : RR w W1.heap.size g A code.length c code W3.heap.size rk rn ro rt (W3.alloc (.cells #[.int .i64 rk, .int .i64 rn, .int .i64 ro, .string rt] 25)) :=
    ⟨Later.trans hb3 (Later.alloc W3 _), hc3.alloc _, heap_alloc_new _ _, (Below.heap_alloc W3 _ w.heap.size (by omega)).trans hv3, by omega, by omega, by omega⟩
  clear hcur hv2 hb2 hc3 ho3 hv3 hb3
  go_wp2_with fail
  generalize W3.alloc (.cells #[.int .i64 rk, .int .i64 rn, .int .i64 ro, .string rt] 25) = W4 at R ⊢
  generalize W3.heap.size = D at R ⊢
  refine wp_region_open 100 (fun w' => w'.cell? ⟨D, 0, none⟩ = some (.int .i64 rk) ∧ w'.cell? ⟨D, 1, none⟩ = some (.int .i64 rn) ∧ w'.cell? ⟨D, 2, none⟩ = some (.int .i64 ro) ∧ w'.cell? ⟨D, 3, none⟩ = some (.string rt)) (by kernel_rfl) ?_
  replace R := R.drew
  refine wpAnyL_reads [0, 3, 6] (fuel := 7) (by kernel_rfl) R.box4 ?_
  iterate 3 (refine LexR.cons rfl ?_ (fun w' hw => ?_) ?_; rotate_left; focus (obtain ⟨e0, e1, e2, e3⟩ := hw; go_simp; (try exact rfl)); (try go_frame))
  refine LexR.nil ?_
  generalize W4.drew = V0 at R ⊢
  refine wpAnyL_two (i := 1) (j := 4) (by kernel_rfl) ?_ ?_
  · refine lexA_get rfl ?_
    try go_frame
    go_wp2_with fail
    have hn1 := R.gt
    have hL1 : (V0.alloc (.cells #[.int .i64 0, .int .i64 1, .int .i64 300, .int .i64 65535, .int .i64 65536, .int .i64 (-1)] 3)).heap[V0.heap.size]? = some (.cells (List.map (Value.int .i64) [0, 1, 300, 65535, 65536, -1]).toArray 3 (0, 0)) := heap_alloc_new V0 _
    replace R := R.alloc (.cells #[.int .i64 0, .int .i64 1, .int .i64 300, .int .i64 65535, .int .i64 65536, .int .i64 (-1)] 3)
    generalize V0.alloc (.cells #[.int .i64 0, .int .i64 1, .int .i64 300, .int .i64 65535, .int .i64 65536, .int .i64 (-1)] 3) = V1 at R hL1 ⊢
    generalize V0.heap.size = L1 at hn1 hL1 ⊢
    refine ⟨fun _ => R.box4, ?_⟩
    refine wpAnyL_two (i := 2) (j := 4) (by kernel_rfl) ?_ ?_
    · refine lexA_get rfl ?_
      try go_frame
      go_wp2_with fail
      refine (l1Int_any W1.heap.size g L1 A code.length c code [0, 1, 300, 65535, 65536, -1] V1 R.cur (by omega) (by decide) (by decide) hL1 hn1).mono ?_
      rintro e V2 ⟨z1, _, rfl, hc, hg⟩
      replace R := R.step hc (only_g hg)
      clear hc hg hL1
      go_wp2_with fail
      refine ⟨fun _ => R.box4, ?_⟩
      refine wpAnyL_one (i := 4) (by kernel_rfl) ?_
      refine lexA_get rfl ?_
      try go_frame
      go_wp2_with fail
      have hn2 := R.gt
      have hL2 : (V2.alloc (.cells #[.int .i64 0, .int .i64 1, .int .i64 15, .int .i64 65535, .int .i64 65536, .int .i64 (-1)] 3)).heap[V2.heap.size]? = some (.cells (List.map (Value.int .i64) [0, 1, 15, 65535, 65536, -1]).toArray 3 (0, 0)) := heap_alloc_new V2 _
      replace R := R.alloc (.cells #[.int .i64 0, .int .i64 1, .int .i64 15, .int .i64 65535, .int .i64 65536, .int .i64 (-1)] 3)
      generalize V2.alloc (.cells #[.int .i64 0, .int .i64 1, .int .i64 15, .int .i64 65535, .int .i64 65536, .int .i64 (-1)] 3) = V3 at R hL2 ⊢
      generalize V2.heap.size = L2 at hn2 hL2 ⊢
      refine ⟨fun _ => R.box4, ?_⟩
      refine wpAnyL_one (i := 5) (by kernel_rfl) ?_
      refine lexA_get rfl ?_
      try go_frame
      go_wp2_with fail
      refine (l1Int_any W1.heap.size g L2 A code.length c code [0, 1, 15, 65535, 65536, -1] V3 R.cur (by omega) (by decide) (by decide) hL2 hn2).mono ?_
      rintro e V4 ⟨z2, _, rfl, hc, hg⟩
      replace R := R.step hc (only_g hg)
      clear hc hg hL2
      go_wp2_with fail
      refine ⟨fun _ => R.box4, ?_⟩
      obtain ⟨d0, d1, d2, d3⟩ := R.box4
      obtain ⟨q0, q1, q2, q3⟩ := rec_box (r := zeroRec) R.zero
      have qf0 := var_frozen R.zero 0
      have qf1 := var_frozen R.zero 1
      have qf2 := var_frozen R.zero 2
      have qf3 := var_frozen R.zero 3
      have hzl : w.heap.size < V4.heap.size := (Array.getElem?_eq_some_iff.1 R.zero).1
      have hDn := R.hDz
      have hbe := R.below
      clear R
      refine wpAnyL_writes [7, 8, 9] (by kernel_rfl) (LexW.cons rfl ?_)
      try go_frame
      go_wp2_with fail
      refine ⟨fun _ => ⟨d0, d1, d2, d3⟩, LexW.cons rfl ?_⟩
      try go_frame
      go_wp2_with fail
      refine ⟨fun _ => ⟨d0, d1, d2, d3⟩, LexW.cons rfl ?_⟩
      try go_frame
      go_wp2_with fail
      refine ⟨fun _ => ⟨kset (kset (kset (kset d0 hDn) hDn) hDn) hDn, kset (kset (kset (kset d1 hDn) hDn) hDn) hDn, kset (kset (kset (kset d2 hDn) hDn) hDn) hDn, kset (kset (kset (kset d3 hDn) hDn) hDn) hDn⟩, LexW.nil ?_⟩
      go_wp2_with fail
      refine bodyPost_ret (v := .tuple #[.int .i64 z1, .int .i64 z2, .agg #[.int .i64 rk, .int .i64 rn, .int .i64 ro, .string rt]]) (by simp [results, Tryz.results5, go_sem, q0, q1, q2, q3]) rfl ⟨z1, z2, ⟨rk, rn, ro, rt⟩, rfl, hts, ?_⟩
      exact (((hbe.setCell (p := ⟨w.heap.size, 0, none⟩) (Nat.le_refl _) _).setCell (p := ⟨w.heap.size, 1, none⟩) (Nat.le_refl _) _).setCell (p := ⟨w.heap.size, 2, none⟩) (Nat.le_refl _) _).setCell (p := ⟨w.heap.size, 3, none⟩) (Nat.le_refl _) _
    · refine lexA_get rfl ?_
      try go_frame
      go_wp2_with fail
      have hn2 := R.gt
      have hL2 : (V1.alloc (.cells #[.int .i64 0, .int .i64 1, .int .i64 15, .int .i64 65535, .int .i64 65536, .int .i64 (-1)] 3)).heap[V1.heap.size]? = some (.cells (List.map (Value.int .i64) [0, 1, 15, 65535, 65536, -1]).toArray 3 (0, 0)) := heap_alloc_new V1 _
      replace hL1 := (Below.heap_alloc V1 (.cells #[.int .i64 0, .int .i64 1, .int .i64 15, .int .i64 65535, .int .i64 65536, .int .i64 (-1)] 3) L1 (Array.getElem?_eq_some_iff.1 hL1).1).trans hL1
      replace R := R.alloc (.cells #[.int .i64 0, .int .i64 1, .int .i64 15, .int .i64 65535, .int .i64 65536, .int .i64 (-1)] 3)
      generalize V1.alloc (.cells #[.int .i64 0, .int .i64 1, .int .i64 15, .int .i64 65535, .int .i64 65536, .int .i64 (-1)] 3) = V5 at R hL1 hL2 ⊢
      generalize V1.heap.size = L2 at hn2 hL2 ⊢
      refine ⟨fun _ => R.box4, ?_⟩
      refine wpAnyL_one (i := 2) (by kernel_rfl) ?_
      refine lexA_get rfl ?_
      try go_frame
      go_wp2_with fail
      refine (l1Int_any W1.heap.size g L1 A code.length c code [0, 1, 300, 65535, 65536, -1] V5 R.cur (by omega) (by decide) (by decide) hL1 hn1).mono ?_
      rintro e V6 ⟨z1, _, rfl, hc, hg⟩
      replace hL2 := ((only_g hg).block L2 (Array.getElem?_eq_some_iff.1 hL2).1 (by simpa using hn2)).trans hL2
      replace R := R.step hc (only_g hg)
      clear hc hg hL1
      go_wp2_with fail
      refine ⟨fun _ => R.box4, ?_⟩
      refine wpAnyL_one (i := 5) (by kernel_rfl) ?_
      refine lexA_get rfl ?_
      try go_frame
      go_wp2_with fail
      refine (l1Int_any W1.heap.size g L2 A code.length c code [0, 1, 15, 65535, 65536, -1] V6 R.cur (by omega) (by decide) (by decide) hL2 hn2).mono ?_
      rintro e V7 ⟨z2, _, rfl, hc, hg⟩
      replace R := R.step hc (only_g hg)
      clear hc hg hL2
      go_wp2_with fail
      refine ⟨fun _ => R.box4, ?_⟩
      obtain ⟨d0, d1, d2, d3⟩ := R.box4
      obtain ⟨q0, q1, q2, q3⟩ := rec_box (r := zeroRec) R.zero
      have qf0 := var_frozen R.zero 0
      have qf1 := var_frozen R.zero 1
      have qf2 := var_frozen R.zero 2
      have qf3 := var_frozen R.zero 3
      have hzl : w.heap.size < V7.heap.size := (Array.getElem?_eq_some_iff.1 R.zero).1
      have hDn := R.hDz
      have hbe := R.below
      clear R
      refine wpAnyL_writes [7, 8, 9] (by kernel_rfl) (LexW.cons rfl ?_)
      try go_frame
      go_wp2_with fail
      refine ⟨fun _ => ⟨d0, d1, d2, d3⟩, LexW.cons rfl ?_⟩
      try go_frame
      go_wp2_with fail
      refine ⟨fun _ => ⟨d0, d1, d2, d3⟩, LexW.cons rfl ?_⟩
      try go_frame
      go_wp2_with fail
      refine ⟨fun _ => ⟨kset (kset (kset (kset d0 hDn) hDn) hDn) hDn, kset (kset (kset (kset d1 hDn) hDn) hDn) hDn, kset (kset (kset (kset d2 hDn) hDn) hDn) hDn, kset (kset (kset (kset d3 hDn) hDn) hDn) hDn⟩, LexW.nil ?_⟩
      go_wp2_with fail
      refine bodyPost_ret (v := .tuple #[.int .i64 z1, .int .i64 z2, .agg #[.int .i64 rk, .int .i64 rn, .int .i64 ro, .string rt]]) (by simp [results, Tryz.results5, go_sem, q0, q1, q2, q3]) rfl ⟨z1, z2, ⟨rk, rn, ro, rt⟩, rfl, hts, ?_⟩
      exact (((hbe.setCell (p := ⟨w.heap.size, 0, none⟩) (Nat.le_refl _) _).setCell (p := ⟨w.heap.size, 1, none⟩) (Nat.le_refl _) _).setCell (p := ⟨w.heap.size, 2, none⟩) (Nat.le_refl _) _).setCell (p := ⟨w.heap.size, 3, none⟩) (Nat.le_refl _) _
  · refine lexA_get rfl ?_
    try go_frame
    go_wp2_with fail
    have hn2 := R.gt
    have hL2 : (V0.alloc (.cells #[.int .i64 0, .int .i64 1, .int .i64 15, .int .i64 65535, .int .i64 65536, .int .i64 (-1)] 3)).heap[V0.heap.size]? = some (.cells (List.map (Value.int .i64) [0, 1, 15, 65535, 65536, -1]).toArray 3 (0, 0)) := heap_alloc_new V0 _
    replace R := R.alloc (.cells #[.int .i64 0, .int .i64 1, .int .i64 15, .int .i64 65535, .int .i64 65536, .int .i64 (-1)] 3)
    generalize V0.alloc (.cells #[.int .i64 0, .int .i64 1, .int .i64 15, .int .i64 65535, .int .i64 65536, .int .i64 (-1)] 3) = V8 at R hL2 ⊢
    generalize V0.heap.size = L2 at hn2 hL2 ⊢
    refine ⟨fun _ => R.box4, ?_⟩
    refine wpAnyL_one (i := 1) (by kernel_rfl) ?_
    refine lexA_get rfl ?_
    try go_frame
    go_wp2_with fail
    have hn1 := R.gt
    have hL1 : (V8.alloc (.cells #[.int .i64 0, .int .i64 1, .int .i64 300, .int .i64 65535, .int .i64 65536, .int .i64 (-1)] 3)).heap[V8.heap.size]? = some (.cells (List.map (Value.int .i64) [0, 1, 300, 65535, 65536, -1]).toArray 3 (0, 0)) := heap_alloc_new V8 _
    replace hL2 := (Below.heap_alloc V8 (.cells #[.int .i64 0, .int .i64 1, .int .i64 300, .int .i64 65535, .int .i64 65536, .int .i64 (-1)] 3) L2 (Array.getElem?_eq_some_iff.1 hL2).1).trans hL2
    replace R := R.alloc (.cells #[.int .i64 0, .int .i64 1, .int .i64 300, .int .i64 65535, .int .i64 65536, .int .i64 (-1)] 3)
    generalize V8.alloc (.cells #[.int .i64 0, .int .i64 1, .int .i64 300, .int .i64 65535, .int .i64 65536, .int .i64 (-1)] 3) = V9 at R hL2 hL1 ⊢
    generalize V8.heap.size = L1 at hn1 hL1 ⊢
    refine ⟨fun _ => R.box4, ?_⟩
    refine wpAnyL_one (i := 2) (by kernel_rfl) ?_
    refine lexA_get rfl ?_
    try go_frame
    go_wp2_with fail
    refine (l1Int_any W1.heap.size g L1 A code.length c code [0, 1, 300, 65535, 65536, -1] V9 R.cur (by omega) (by decide) (by decide) hL1 hn1).mono ?_
    rintro e V10 ⟨z1, _, rfl, hc, hg⟩
    replace hL2 := ((only_g hg).block L2 (Array.getElem?_eq_some_iff.1 hL2).1 (by simpa using hn2)).trans hL2
    replace R := R.step hc (only_g hg)
    clear hc hg hL1
    go_wp2_with fail
    refine ⟨fun _ => R.box4, ?_⟩
    refine wpAnyL_one (i := 5) (by kernel_rfl) ?_
    refine lexA_get rfl ?_
    try go_frame
    go_wp2_with fail
    refine (l1Int_any W1.heap.size g L2 A code.length c code [0, 1, 15, 65535, 65536, -1] V10 R.cur (by omega) (by decide) (by decide) hL2 hn2).mono ?_
    rintro e V11 ⟨z2, _, rfl, hc, hg⟩
    replace R := R.step hc (only_g hg)
    clear hc hg hL2
    go_wp2_with fail
    refine ⟨fun _ => R.box4, ?_⟩
    obtain ⟨d0, d1, d2, d3⟩ := R.box4
    obtain ⟨q0, q1, q2, q3⟩ := rec_box (r := zeroRec) R.zero
    have qf0 := var_frozen R.zero 0
    have qf1 := var_frozen R.zero 1
    have qf2 := var_frozen R.zero 2
    have qf3 := var_frozen R.zero 3
    have hzl : w.heap.size < V11.heap.size := (Array.getElem?_eq_some_iff.1 R.zero).1
    have hDn := R.hDz
    have hbe := R.below
    clear R
    refine wpAnyL_writes [7, 8, 9] (by kernel_rfl) (LexW.cons rfl ?_)
    try go_frame
    go_wp2_with fail
    refine ⟨fun _ => ⟨d0, d1, d2, d3⟩, LexW.cons rfl ?_⟩
    try go_frame
    go_wp2_with fail
    refine ⟨fun _ => ⟨d0, d1, d2, d3⟩, LexW.cons rfl ?_⟩
    try go_frame
    go_wp2_with fail
    refine ⟨fun _ => ⟨kset (kset (kset (kset d0 hDn) hDn) hDn) hDn, kset (kset (kset (kset d1 hDn) hDn) hDn) hDn, kset (kset (kset (kset d2 hDn) hDn) hDn) hDn, kset (kset (kset (kset d3 hDn) hDn) hDn) hDn⟩, LexW.nil ?_⟩
    go_wp2_with fail
    refine bodyPost_ret (v := .tuple #[.int .i64 z1, .int .i64 z2, .agg #[.int .i64 rk, .int .i64 rn, .int .i64 ro, .string rt]]) (by simp [results, Tryz.results5, go_sem, q0, q1, q2, q3]) rfl ⟨z1, z2, ⟨rk, rn, ro, rt⟩, rfl, hts, ?_⟩
    exact (((hbe.setCell (p := ⟨w.heap.size, 0, none⟩) (Nat.le_refl _) _).setCell (p := ⟨w.heap.size, 1, none⟩) (Nat.le_refl _) _).setCell (p := ⟨w.heap.size, 2, none⟩) (Nat.le_refl _) _).setCell (p := ⟨w.heap.size, 3, none⟩) (Nat.le_refl _) _

end Go.Proofs.YtannedjfmgflpaaGreatDoor

namespace Go.Proofs.YtannedjfmgflpaaGreatDoor
open Go.RowKit
set_option linter.unusedVariables false

/-- Bytes come back. -/
def RetGot (w : World) (e : Ending) (w' : World) : Prop :=
  ∃ A2 c2 l', e = .returned (.slice A2 l'.length c2) ∧ l'.length ≤ 112 ∧ l'.length ≤ c2 ∧ Reads w' w'.heap.size 1 A2 l'.length (bys l') ∧ Below w.heap.size w w'

set_option maxRecDepth 100000 in
set_option maxHeartbeats 8000000 in
theorem drawGetRec_any (A : Option Addr) (c : Nat) (code : List UInt8) (w : World) (h : Reads w w.heap.size 1 A code.length (bys code)) (hn : code.length ≤ 1048576) (hg : Given w) :
    Calls Tryz.prog 7 #[.slice A code.length c] w (RetGot w) := by
  obtain ⟨i0, hi0, hz0, hz1, hz2⟩ := info_parts Tryz.info8
  have HG := Lib.hid hg
  clear hg
  go_enter Tryz.func7, Tryz.ntmps7
  go_wp2_with fail
  refine (l1New_any A c code w h hn).mono ?_
  rintro e W1 ⟨g, rfl, hcur, hb1⟩
  have hgl := hcur.from_
  have hglt := hcur.lt
  clear h
  go_wp2_with fail
  refine (l1Below_any w.heap.size g A code.length c code 9 W1 hcur (by omega) (by omega) (by omega)).mono ?_
  rintro e W2 ⟨a, ha, rfl, hc2, hg2⟩
  have ho2 := only_g hg2
  clear hcur hg2
  go_wp2_with fail
  refine (l1Below_any w.heap.size g A code.length c code 16 W2 hc2 (by omega) (by omega) (by omega)).mono ?_
  rintro e W3 ⟨b, hb, rfl, hc3, hg3⟩
  have ho3 := ho2.trans (only_g hg3)
  clear hc2 hg3 ho2
  go_wp2_with fail
  refine (l4Draw_any w.heap.size g A code.length c code W3 hc3 (by omega)).mono ?_
  rintro e W4 ⟨⟨rk, rn, ro, rt⟩, rfl, hts, hc4, ho4⟩
  replace hts : rt.size ≤ 100 := hts
  replace ho4 := ho3.trans ho4
  have hb4 : Below w.heap.size w W4 := Rep.Only.below hb1 ho4 hb1.size (fun a ha => by simp at ha; omega)
  have hg4 : g < W4.heap.size := Nat.lt_of_lt_of_le hglt ho4.size
  clear hc3 ho3
  go_wp2_with fail
  refine (putRS_any (a : Int) (b : Int) ⟨rk, rn, ro, rt⟩ W4 (Keeps.keeps (F := Given) hb4 HG.out) (by show rt.size ≤ 1048576; omega)).mono ?_
  rintro e W5 ⟨v5, rfl, o5, hb5⟩
  have hlen := putR_len (a : Int) (b : Int) ⟨rk, rn, ro, rt⟩
  generalize putR (a : Int) (b : Int) ⟨rk, rn, ro, rt⟩ = l at o5 hlen
  have hs5 := hb5.size
  have hob := Rep.only_of_below hb5
  have hc5 := hc4.only hob (by simp) (fun a ha => by cases ha)
  have ho5 := ho4.then hob (fun a ha => by cases ha)
  obtain ⟨A5, c5, rfl, hl5, hcm5, _, _⟩ := o5.shape
  clear hc4 hb4 hb5 hob
  go_wp2_with fail
  refine (l1Once_any w.heap.size g A code.length c code 4 W5 hc5 (by omega) (by omega) (by omega)).mono ?_
  rintro e W6 ⟨y, rfl, hc6, hg6⟩
  have o6 : Owns W6 W4.heap.size 5 (.slice A5 l.length c5) l := World.ownsRow.kept o5 hg6 (.inr fun e => by have := (o5.lt g e).1; omega)
  have ho6 := ho5.trans (only_g hg6)
  have h46 : W4.heap.size ≤ W6.heap.size := Nat.le_trans hs5 hg6.size
  clear hc5 ho5 hg6 o5
  cases y
  · go_wp2_with fail
    refine (l1Bend_any w.heap.size g A A5 code.length c c5 code l W6 hc6 (by omega) o6.reads (by omega)).mono ?_
    rintro e W7 ⟨A7, c7, l7, rfl, hl7, hk7, hr7, hc7, ho7⟩
    have hb7 : Below w.heap.size w W7 := Rep.Only.below hb1 (ho6.trans ho7) hb1.size (fun a ha => by simp at ha; omega)
    clear hc7 ho7 hc6 ho6 hb1
    go_wp2_with fail
    go_ret
    exact ⟨A7, c7, l7, rfl, by omega, hk7, hr7, hb7⟩
  · by_cases h11 : (11 : Int) < (l.length : Int)
    rotate_left
    · go_wp2_with fail
      refine (l1Bend_any w.heap.size g A A5 code.length c c5 code l W6 hc6 (by omega) o6.reads (by omega)).mono ?_
      rintro e W7 ⟨A7, c7, l7, rfl, hl7, hk7, hr7, hc7, ho7⟩
      have hb7 : Below w.heap.size w W7 := Rep.Only.below hb1 (ho6.trans ho7) hb1.size (fun a ha => by simp at ha; omega)
      clear hc7 ho7 hc6 ho6 hb1
      go_wp2_with fail
      go_ret
      exact ⟨A7, c7, l7, rfl, by omega, hk7, hr7, hb7⟩
    · have k0 : (0 : Int) ≤ (l.length : Int) - 2 := by omega
      have k1 : (l.length : Int) - 2 ≤ (c5 : Int) := by omega
      have hr6 := reads_take o6.reads rfl (k := l.length - 2) (by omega)
      have hx : (l.take (l.length - 2)).length = l.length - 2 := by simp
      rw [hx] at hr6
      generalize l.take (l.length - 2) = x at hr6 hx
      have hown0 : (W6.alloc (.cells #[] 5)).ownsRow W6.heap.size 5 1 (.slice (some ⟨W6.heap.size, 0, none⟩) 0 0) 0 [] := World.ownsRow_lit W6 #[] 0 (Nat.le_refl _) (by simp) rfl
      have hba := Later.alloc W6 (.cells #[] 5)
      have HX := Lib.hid hx
      clear hx
      go_wp2_with (at_builtin
                   go_must (refine wpList_append_any _ rfl (.tmp 22) (.tmp 27) _ rfl W6.heap.size 5 i0 _ 1 1 Tryz.underlying22 hi0 hz0 hz1 hz2 rfl (by omega) (.slice (some ⟨W6.heap.size, 0, none⟩) 0 0) 0 [] rfl hown0 W6.heap.size A5 (l.length - 2) c5 (bys x) rfl (hr6.below hba) (bys_one x) (by simp only [maxLen]; omega) (by omega) (by simp) ?_)
                   intro v7 W7 hown7 hg7 hat7
                   have hb7 : Below W6.heap.size W6 W7 := hba.grown hg7 (by simp) (fun k hk => (hown0.lt k hk).1)
                   have o7 : Owns W7 W6.heap.size 5 v7 x := by unfold Owns; rw [HX.out]; simpa using hown7
                   obtain ⟨A7, c7, rfl, hl7, hcm7, _, hA7⟩ := o7.shape)
      have hoc := Rep.only_of_below hb7
      have hc7 := hc6.only hoc (by simp) (fun a ha => by cases ha)
      have ho7 := ho6.then hoc (fun a ha => by cases ha)
      have hg6 : g < W6.heap.size := hc6.lt
      have H16 := Lib.hid ho6.size
      have hx10 : 10 ≤ x.length := by have := HX.out; omega
      have hxm : x.length ≤ 109 := by have := HX.out; omega
      clear hown0 hba hown7 hg7 hat7 hr6 hb7 hoc hc6 ho6 o6 h11 k0 k1
      refine (l1Below_any w.heap.size g A code.length c code 4 W7 hc7 (by omega) (by omega) (by omega)).mono ?_
      rintro e W8 ⟨i, hi, rfl, hc8, hg8⟩
      have o8 : Owns W8 W6.heap.size 5 (.slice A7 x.length c7) x := World.ownsRow.kept o7 hg8 (.inr fun e => by have := (o7.lt g e).1; omega)
      have ho8 := ho7.trans (only_g hg8)
      clear hc7 ho7 o7 hg8
      go_wp2_with fail
      refine (l1Below_any w.heap.size g A code.length c code 5 W8 hc8 (by omega) (by omega) (by omega)).mono ?_
      rintro e W9 ⟨u, hu, rfl, hc9, hg9⟩
      have o9 : Owns W9 W6.heap.size 5 (.slice A7 x.length c7) x := World.ownsRow.kept o8 hg9 (.inr fun e => by have := (o8.lt g e).1; omega)
      have ho9 := ho8.trans (only_g hg9)
      clear hc8 ho8 o8 hg9
      obtain ⟨ad, hA, _⟩ := (o9.reads).2 (by omega)
      obtain ⟨G, hG, hG1, hG2⟩ := hA7 ad hA
      obtain rfl : A7 = some ⟨G, 0, none⟩ := by rw [hA, hG]
      obtain ⟨b4, hlp⟩ : ∃ b4, x[4 + i]? = some b4 := ⟨_, List.getElem?_eq_getElem (by omega)⟩
      have hcell : W9.cell? ⟨G, 4 + i, none⟩ = some (.int .u8 (b4.toNat : Int)) := (o9.cellAt (4 + i) (by omega)).trans (bys_get hlp)
      have hfr := o9.frozenAt (4 + i)
      have j0 : (0 : Int) ≤ 4 + (i : Int) := by omega
      have j1 : 4 + (i : Int) < (x.length : Int) := by omega
      have hu8 : u < 256 := by omega
      have hst := (o9.stored (4 + i) (.int .u8 (((UInt8.ofNat u).toNat : Nat) : Int))).1
      rw [show (bys x).set (4 + i) (.int .u8 (((UInt8.ofNat u).toNat : Nat) : Int)) = bys (x.set (4 + i) (UInt8.ofNat u)) by simp [bys, List.map_set], show (((UInt8.ofNat u).toNat : Nat) : Int) = (u : Int) by rw [UInt8.toNat_ofNat', Nat.mod_eq_of_lt (by omega)]] at hst
      have HST := Lib.hid hst
      replace hG1 : W6.heap.size ≤ G := hG1
      clear hst hlp hA hG hA7
      go_wp2_with fail
      have os := Rep.Only.setCell W9 (p := ⟨G, 4 + i, none⟩) (fp := [G]) (by simp) (.int .u8 (u : Int))
      have hoA : Rep.Only W1 (W9.setCell ⟨G, 4 + i, none⟩ (.int .u8 (u : Int))) [g] := ho9.then os (fun a ha => .inr (by have := hb1.size; simp at ha; have h16 := H16.out; omega))
      clear os ho9 hc9 o9 hcell hfr
      have oA : Owns (W9.setCell ⟨G, 4 + i, none⟩ (.int .u8 (u : Int))) W6.heap.size 5 (.slice (some ⟨G, 0, none⟩) (x.set (4 + i) (UInt8.ofNat u)).length c7) (x.set (4 + i) (UInt8.ofNat u)) := by
        unfold Owns
        rw [List.length_set]
        exact HST.out
      have hlx : (x.set (4 + i) (UInt8.ofNat u)).length = x.length := by simp
      generalize W9.setCell ⟨G, 4 + i, none⟩ (.int .u8 (u : Int)) = WA at hoA oA ⊢
      generalize x.set (4 + i) (UInt8.ofNat u) = z at oA hlx
      rw [← hlx]
      rw [← hlx] at hx10 hxm
      clear HST HX hlx j0 j1
      refine (sumS_any (some ⟨G, 0, none⟩) c7 z WA oA.reads (by omega)).mono ?_
      rintro e WB ⟨rfl, rfl⟩
      go_wp2_with fail
      refine (putWordS_any (some ⟨G, 0, none⟩) c7 (crc z) z WA oA.reads (by omega)).mono ?_
      rintro e WC ⟨vC, rfl, oC, hbC⟩
      have hoC := hoA.then (Rep.only_of_below hbC) (fun a ha => by cases ha)
      have hbF : Below w.heap.size w WC := Rep.Only.below hb1 hoC hb1.size (fun a ha => by simp at ha; omega)
      have hlC : (z ++ wordBytes (crc z)).length ≤ 112 := by simp [wordBytes]; omega
      generalize z ++ wordBytes (crc z) = zz at oC hlC
      obtain ⟨AC, cC, rfl, hkC, _, hrC, _⟩ := oC.shape
      clear oA oC hoA hoC hbC hb1
      go_wp2_with fail
      go_ret
      exact ⟨AC, cC, _, rfl, hlC, hkC, hrC, hbF⟩

end Go.Proofs.YtannedjfmgflpaaGreatDoor
