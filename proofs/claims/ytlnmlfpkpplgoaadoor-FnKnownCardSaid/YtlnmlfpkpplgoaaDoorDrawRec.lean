/- What FnRecs says of records, in plain lists; two records compared. As XLex's reads, where a guard may stand: its outcome is decided. Records that are drawn. The draws of FnRecs. The bytes that FnRecs reads. -/
import Derived.Test.YtlnmlfpkpplgoaaDoorRecPure
import Derived.Test.YtlnmlfpkpplgoaaDoorConfBack
import Derived.Test.YtlnmlfpkpplgoaaDoorRecOkI
import Derived.Test.YtlnmlfpkpplgoaaDoorGetRec
import Derived.Test.YtlnmlfpkpplgoaaDoorDbNe
import Derived.Test.YtlnmlfpkpplgoaaDoorLex
import Derived.Test.YtlnmlfpkpplgoaaDoorDrawConf
namespace Go.Proofs.YtlnmlfpkpplgoaaDoor
open Go.RowKit
set_option maxRecDepth 100000
set_option linter.unusedVariables false

theorem rec_parts {r : Rec} (h : recB r = true) : (1 ≤ r.n ∧ r.n ≤ 60000) ∧ (1 ≤ r.kind ∧ r.kind ≤ 3) ∧ (0 ≤ r.owner ∧ r.owner ≤ 1) ∧ okB r.text.data.toList = true := by
  have hnil : nilB r.text = true → okB r.text.data.toList = true := fun h => by rw [(nilB_iff _).1 h]; exact okB_nil
  have htxt : txtB r.text = true → okB r.text.data.toList = true := fun h => by
    unfold txtB at h
    exact parse_ok (xs := (parseS r.text.data.toList).1) (by rw [← h])
  unfold recB at h
  rw [Bool.and_eq_true] at h
  obtain ⟨h0, h⟩ := h
  refine ⟨of_decide_eq_true h0, ?_⟩
  split at h
  · rename_i hk
    rw [Bool.and_eq_true] at h
    have ho := of_decide_eq_true h.1
    exact ⟨by omega, by omega, htxt h.2⟩
  · split at h
    · rename_i hk
      rw [Bool.and_eq_true] at h
      have ho := of_decide_eq_true h.1
      exact ⟨by omega, by omega, hnil h.2⟩
    · rw [Bool.and_eq_true, Bool.and_eq_true] at h
      have hk := of_decide_eq_true h.1
      have ho := of_decide_eq_true h.2.1
      exact ⟨by omega, by omega, hnil h.2.2⟩

theorem putR_yes {g p : Int} {r : Rec} (hr : recB r = true) (hg : 0 ≤ g ∧ g ≤ 65535) (hp : 0 ≤ p ∧ p ≤ 65535) : putR g p r = withSum (recBody g p r) := if_pos ⟨hr, hg, hp⟩
theorem putR_no {g p : Int} {r : Rec} (h : ¬ (recB r = true ∧ (0 ≤ g ∧ g ≤ 65535) ∧ (0 ≤ p ∧ p ≤ 65535))) : putR g p r = [] := if_neg h

theorem word_at {l : List UInt8} {k : Nat} {n : Int} (h0 : 0 ≤ n) (h1 : n ≤ 65535) (hl : k + 2 ≤ l.length) (hx : l[k]? = some (u8 (n / 256))) (hy : l[k + 1]? = some (u8 n)) : gwVal l k = n := by
  rw [(gw_yes hl hx hy).2.1, u8_cell, u8_cell]
  omega

theorem rec_round {g p : Int} {r : Rec} (hr : recB r = true) (hg : 0 ≤ g ∧ g ≤ 65535) (hp : 0 ≤ p ∧ p ≤ 65535) :
    getOk (putR g p r) = true ∧ gwVal (putR g p r) 0 = g ∧ gwVal (putR g p r) 2 = p ∧ recAt (putR g p r) = r ∧ 11 ≤ (putR g p r).length := by
  obtain ⟨hn, hk, ho, ht⟩ := rec_parts hr
  have e : putR g p r = u8 (g / 256) :: u8 g :: u8 (p / 256) :: u8 p :: u8 r.kind :: u8 (r.n / 256) :: u8 r.n :: u8 r.owner :: u8 (r.text.data.toList.length : Int) :: (r.text.data.toList ++ wordBytes (crc (recBody g p r))) := by
    rw [putR_yes hr hg hp]
    unfold withSum
    conv => lhs; arg 1; unfold recBody ptB
    rw [if_pos ht]
    simp [wordBytes]
  have hlen : 11 ≤ (putR g p r).length := by rw [e]; simp [wordBytes]
  have w0 : gwVal (putR g p r) 0 = g := word_at (k := 0) hg.1 hg.2 (by omega) (by rw [e]; rfl) (by rw [e]; rfl)
  have w2 : gwVal (putR g p r) 2 = p := word_at (k := 2) hp.1 hp.2 (by omega) (by rw [e]; rfl) (by rw [e]; rfl)
  have w5 : gwVal (putR g p r) 5 = r.n := word_at (k := 5) (by omega) (by omega) (by omega) (by rw [e]; rfl) (by rw [e]; rfl)
  have hgt : gtS (putR g p r) 8 = r.text := by
    have hm := gt_mid (l := [u8 (g / 256), u8 g, u8 (p / 256), u8 p, u8 r.kind, u8 (r.n / 256), u8 r.n, u8 r.owner]) (t := wordBytes (crc (recBody g p r))) ht
    have e2 : ptB [u8 (g / 256), u8 g, u8 (p / 256), u8 p, u8 r.kind, u8 (r.n / 256), u8 r.n, u8 r.owner] r.text.data.toList ++ wordBytes (crc (recBody g p r)) = putR g p r := by
      rw [e]
      unfold ptB
      rw [if_pos ht]
      simp
    rw [e2] at hm
    have h8 := (gt_some (p := 8) hm).1
    rw [h8]
  have hrec : recAt (putR g p r) = r := by
    unfold recAt
    rw [w5, hgt, getD_of (k := 4) (u := u8 r.kind) (by rw [e]; rfl), getD_of (k := 7) (u := u8 r.owner) (by rw [e]; rfl), u8_cell, u8_cell]
    obtain ⟨a, b, c, d⟩ := r
    have h1 : a % 256 = a := by simp at hk; omega
    have h2 : c % 256 = c := by simp at ho; omega
    show (⟨a % 256, b, c % 256, d⟩ : Rec) = ⟨a, b, c, d⟩
    rw [h1, h2]
  refine ⟨?_, w0, w2, hrec, hlen⟩
  rw [getOk_long hlen, w0, w2, hrec]
  simp
/-- With a byte turned it is a record's no more. -/
theorem rec_turned {g p : Int} {r : Rec} {i : Nat} {b b' : UInt8} (hr : recB r = true) (hg : 0 ≤ g ∧ g ≤ 65535) (hp : 0 ≤ p ∧ p ≤ 65535) (hi : (putR g p r)[i]? = some b) (hne : b' ≠ b) : getOk ((putR g p r).set i b') = false := by
  rw [putR_yes hr hg hp] at hi ⊢
  exact getOk_turned (sum_turned hi hne)
/-- What is read is what was written. -/
theorem get_back {b : List UInt8} (h : getOk b = true) : putR (gwVal b 0) (gwVal b 2) (recAt b) = b := by
  unfold getOk at h
  rw [Bool.and_eq_true, beq_iff_eq] at h
  exact h.2

def recEqB (x y : Rec) : Bool := (x.kind == y.kind) && ((x.n == y.n) && ((x.owner == y.owner) && (x.text.toList == y.text.toList)))
theorem recEqB_self (x : Rec) : recEqB x x = true := by simp [recEqB]
theorem Tryd.recStruct : Tryd.prog.underlying 32 = some (.struct (Tryd.prog.fieldsOf 32)) := by kernel_rfl
theorem Tryd.recStood : Tryd.prog.stoodInHeld 32 = false := by kernel_rfl
theorem Tryd.recGuard : Tryd.prog.eqGuardType Tryd.prog.depth 32 = false := by kernel_rfl
theorem Tryd.recFields : ((Tryd.prog.fieldsOf 32).toList.map fun f => (f.type, f.offset, decide (f.name = "_"))) = [(3, 0, false), (3, 1, false), (3, 2, false), (9, 3, false)] := by kernel_rfl
theorem four {α : Type} {g : Field → α} {fs : List Field} {a b c d : α} (h : fs.map g = [a, b, c, d]) : ∃ f1 f2 f3 f4, fs = [f1, f2, f3, f4] ∧ g f1 = a ∧ g f2 = b ∧ g f3 = c ∧ g f4 = d := by
  match fs, h with
  | [f1, f2, f3, f4], h =>
    simp only [List.map_cons, List.map_nil, List.cons.injEq, and_true] at h
    exact ⟨f1, f2, f3, f4, rfl, h⟩
theorem rec_equal (x y : Rec) (w : World) : (Op.equalIn 10000 32 (.agg (recC x).toArray) (.agg (recC y).toArray)).run Tryd.prog w = .ok (recEqB x y) w := by
  rw [run_equalIn_struct w 9999 _ _ _ Tryd.recStruct Tryd.recStood]
  obtain ⟨f1, f2, f3, f4, hfs, h1, h2, h3, h4⟩ := four Tryd.recFields
  rw [hfs]
  rw [eqFields_cons 9999 _ _ f1 _ _ _ (.int .i64 x.kind) (.int .i64 y.kind) (x.kind == y.kind) w h1 (run_part_plain w Tryd.intKey rfl) (run_part_plain w Tryd.intKey rfl) (run_equalIn_int w _ _ _ _ _ _ Tryd.underlying3)]
  rw [eqFields_cons 9999 _ _ f2 _ _ _ (.int .i64 x.n) (.int .i64 y.n) (x.n == y.n) w h2 (run_part_plain w Tryd.intKey rfl) (run_part_plain w Tryd.intKey rfl) (run_equalIn_int w _ _ _ _ _ _ Tryd.underlying3)]
  rw [eqFields_cons 9999 _ _ f3 _ _ _ (.int .i64 x.owner) (.int .i64 y.owner) (x.owner == y.owner) w h3 (run_part_plain w Tryd.intKey rfl) (run_part_plain w Tryd.intKey rfl) (run_equalIn_int w _ _ _ _ _ _ Tryd.underlying3)]
  rw [eqFields_cons 9999 _ _ f4 _ _ _ (.string x.text) (.string y.text) (x.text.toList == y.text.toList) w h4 (run_part_plain w Tryd.strKey rfl) (run_part_plain w Tryd.strKey rfl) (run_equalIn_string w _ _ _ _ Tryd.underlying9)]
  unfold recEqB
  generalize (x.kind == y.kind) = b1
  generalize (x.n == y.n) = b2
  generalize (x.owner == y.owner) = b3
  generalize (x.text.toList == y.text.toList) = b4
  cases b1 <;> cases b2 <;> cases b3 <;> cases b4 <;> simp [Op.eqFields, Sem.run_pure]
theorem rec_guard (op : BinOp) (a b : Operand) (x y : Rec) (w : World) : (eqGuard op 32 a b (.agg (recC x).toArray) (.agg (recC y).toArray)).run Tryd.prog w = .ok () w := run_eqGuard_agg w op _ a b _ _ Tryd.recGuard

end Go.Proofs.YtlnmlfpkpplgoaaDoor

namespace Go.Proofs.YtlnmlfpkpplgoaaDoor
set_option linter.unusedVariables false

section
variable {P : Program} {ops : Array Oper} {Q : Exit → Act → World → Prop} {md : Region.Mode} {S : World → Prop} {z : Nat}

def lexReadsG (md : Region.Mode) (ops : Array Oper) (z : Nat) : List Nat → Array Bool → Option (Array Bool)
  | [], L => some L
  | i :: r, L => if Region.free md ops L i && (Region.ready md ops L).contains i && ((ops[z]?).map (fun oz => oz.after.any fun e => Region.binds md e && e.on == i)).getD true then lexReadsG md ops z r (L.setIfInBounds i true) else none
def LexRG (P : Program) (ops : Array Oper) (S : World → Prop) : List Nat → (Act → Prop) → Act → Prop
  | [], K, a => K a
  | i :: r, K, a => ∃ o v, ops[i]? = some o ∧ YieldsIf P ops S o v a ∧ LexRG P ops S r K (a.put o.dst v)

theorem lexReadsG_sound (hs : Region.noSelect ops = true) (hQ : ∀ c a d v w, Q (.panic c) (Act.put a d v) w → Q (.panic c) a w) : ∀ (rs : List Nat) (L L' : Array Bool) (fuel : Nat) (K : Act → Prop) (a : Act) (w : World), lexReadsG md ops z rs L = some L' → S w → LexRG P ops S rs K a →
    (∀ a', K a' → wpAnyL P md ops Q S z fuel L' a' w) → wpAnyL P md ops Q S z (rs.length + fuel) L a w
  | [], L, L', fuel, K, a, w, hc, hS, h, hk => by
    simp only [lexReadsG] at hc
    injection hc with hc
    subst hc
    rw [List.length_nil, Nat.zero_add]
    exact hk a h
  | i :: r, L, L', fuel, K, a, w, hc, hS, h, hk => by
    simp only [lexReadsG] at hc
    split at hc
    · rename_i hb
      simp only [Bool.and_eq_true] at hb
      obtain ⟨⟨hf, hr⟩, hz⟩ := hb
      obtain ⟨o, v, ho, hv, h⟩ := h
      have ih := lexReadsG_sound hs hQ r _ L' fuel K (a.put o.dst v) w hc hS h hk
      have e : (i :: r).length + fuel = (r.length + fuel) + 1 := by simp only [List.length_cons]; omega
      rw [e]
      refine wpAnyL_first ho (Region.noSelect_spec hs) (fun c a w => hQ c a o.dst v w) (fun oz hoz => ?_) _ L a w (Region.free_spec ho hf) (by simpa using hr) hv hS ih
      simp only [hoz, Option.map_some, Option.getD_some] at hz
      obtain ⟨e, he, hb⟩ := Array.any_eq_true'.1 hz
      simp only [Bool.and_eq_true, beq_iff_eq] at hb
      exact ⟨e, he, hb.1, hb.2⟩
    · cases hc
theorem lexReadsG_done : ∀ (rs : List Nat) (L L' : Array Bool), lexReadsG md ops z rs L = some L' → L' = doneL L rs
  | [], L, L', h => by
    simp only [lexReadsG] at h
    injection h with h
    exact h.symm
  | i :: r, L, L', h => by
    simp only [lexReadsG] at h
    split at h
    · exact lexReadsG_done r _ L' h
    · cases h
/-- The quiet operations rs may be taken first. -/
theorem wpAnyL_readsG (rs : List Nat) {fuel : Nat} {L : Array Bool} {a : Act} {w : World} (hc : (Region.noSelect ops && (lexReadsG .any ops z rs L).isSome) = true) (hS : S w)
    (h : LexRG P ops S rs (fun a' => wpAnyL P .any ops (NoPanic Q) S z fuel (doneL L rs) a' w) a) : wpAnyL P .any ops (NoPanic Q) S z (rs.length + fuel) L a w := by
  simp only [Bool.and_eq_true] at hc
  rcases hL : lexReadsG .any ops z rs L with _ | L'
  · rw [hL] at hc; cases hc.2
  · exact lexReadsG_sound hc.1 (fun _ _ _ _ _ h => h) rs L L' fuel _ a w hL hS h fun a' ha => by rw [lexReadsG_done rs L L' hL]; exact ha
theorem LexRG.nil {K : Act → Prop} {a : Act} (h : K a) : LexRG P ops S [] K a := h
theorem LexRG.yes {i : Nat} {r : List Nat} {K : Act → Prop} {a : Act} {o : Oper} (ho : ops.toList[i]? = some o) (hw : Region.wanted o (yielded ops a.tmps) = true) (v : Value) (hv : ∀ w, S w → (execOp a.eval o).run P w = .ok (.value v) w) (h : LexRG P ops S r K (a.put o.dst v)) : LexRG P ops S (i :: r) K a := ⟨o, v, by simpa using ho, .inl ⟨hw, hv⟩, h⟩
theorem LexRG.no {i : Nat} {r : List Nat} {K : Act → Prop} {a : Act} {o : Oper} (ho : ops.toList[i]? = some o) (hw : Region.wanted o (yielded ops a.tmps) = false) (h : LexRG P ops S r K (a.put o.dst undef)) : LexRG P ops S (i :: r) K a := ⟨o, undef, by simpa using ho, .inr ⟨hw, rfl⟩, h⟩
end
end Go.Proofs.YtlnmlfpkpplgoaaDoor

namespace Go.Proofs.YtlnmlfpkpplgoaaDoor
open Go.RowKit
set_option linter.unusedVariables false

/-- A variable that holds a record lies in block D, the result's box beside it, the cursor elsewhere. -/
structure V4 (w : World) (lo g : Nat) (A : Option Addr) (n c : Nat) (code : List UInt8) (D : Nat) (r : Rec) (wr : World) : Prop where
  zero : wr.heap[w.heap.size]? = some (.cells (recC zeroRec).toArray 32 (0, 0))
  var : wr.heap[D]? = some (.cells (recC r).toArray 32 (0, 0))
  cur : Cur wr lo g A n c code
  only : Rep.Only w wr [g]
  hD : w.heap.size < D
  lt : g < w.heap.size
  from_ : lo ≤ g
theorem V4.step {w w1 w2 : World} {lo g : Nat} {A : Option Addr} {n c : Nat} {code : List UInt8} {D : Nat} {r : Rec} (h : V4 w lo g A n c code D r w1) (hc : Cur w2 lo g A n c code) (ho : Rep.Only w1 w2 [g]) : V4 w lo g A n c code D r w2 :=
  ⟨(ho.block _ (Array.getElem?_eq_some_iff.1 h.zero).1 (by have := h.lt; simp; omega)).trans h.zero, (ho.block _ (Array.getElem?_eq_some_iff.1 h.var).1 (by have := h.lt; have := h.hD; simp; omega)).trans h.var, hc, h.only.then ho (fun a ha => .inl ha), h.hD, h.lt, h.from_⟩
theorem V4.later {w w1 w2 : World} {lo g : Nat} {A : Option Addr} {n c : Nat} {code : List UInt8} {D : Nat} {r : Rec} (h : V4 w lo g A n c code D r w1) (hb : Below w1.heap.size w1 w2) : V4 w lo g A n c code D r w2 :=
  have ho := Rep.only_of_below hb
  h.step (h.cur.only ho (by simp) (fun a ha => by cases ha)) (ho.mono (by simp))
theorem V4.set {w w1 : World} {lo g : Nat} {A : Option Addr} {n c : Nat} {code : List UInt8} {D : Nat} {r : Rec} (h : V4 w lo g A n c code D r w1) (i : Nat) (u : Value) (r' : Rec) (hr : (recC r).toArray.setIfInBounds i u = (recC r').toArray) : V4 w lo g A n c code D r' (w1.setCell ⟨D, i, none⟩ u) := by
  have ho := Rep.Only.setCell w1 (p := ⟨D, i, none⟩) (fp := [D]) (by simp) u
  have h1 := h.hD
  have h2 := h.lt
  have h3 := h.from_
  exact ⟨(ho.block _ (Array.getElem?_eq_some_iff.1 h.zero).1 (by simp; omega)).trans h.zero, by rw [← hr]; exact var_set h.var i u, h.cur.only ho (by simp; omega) (fun a ha => by simp at ha; omega), h.only.then ho (fun a ha => .inr (by simp at ha; omega)), h1, h2, h3⟩
theorem putR4_only (w : World) (D : Nat) (a b c d : Value) : Rep.Only w ((((w.setCell ⟨D, 0, none⟩ a).setCell ⟨D, 1, none⟩ b).setCell ⟨D, 2, none⟩ c).setCell ⟨D, 3, none⟩ d) [D] :=
  (((Rep.Only.setCell w (p := ⟨D, 0, none⟩) (by simp) a).trans (Rep.Only.setCell _ (p := ⟨D, 1, none⟩) (by simp) b)).trans (Rep.Only.setCell _ (p := ⟨D, 2, none⟩) (by simp) c)).trans (Rep.Only.setCell _ (p := ⟨D, 3, none⟩) (by simp) d)

/-- A record comes back. -/
def RetRec4 (w : World) (lo g : Nat) (A : Option Addr) (n c : Nat) (code : List UInt8) (e : Ending) (w' : World) : Prop :=
  ∃ r : Rec, e = .returned (.agg #[.int .i64 r.kind, .int .i64 r.n, .int .i64 r.owner, .string r.text]) ∧ r.text.size ≤ 100 ∧ Cur w' lo g A n c code ∧ Rep.Only w w' [g]
/-- Its end: the variable's cells are copied into the result's box. -/
theorem V4.ret {w w1 : World} {lo g : Nat} {A : Option Addr} {n c : Nat} {code : List UInt8} {D : Nat} {k m o : Int} {t : ByteArray} (h : V4 w lo g A n c code D ⟨k, m, o, t⟩ w1) (ht : t.size ≤ 100) :
    RetRec4 w lo g A n c code (.returned (.agg #[.int .i64 k, .int .i64 m, .int .i64 o, .string t])) ((((w1.setCell ⟨w.heap.size, 0, none⟩ (.int .i64 k)).setCell ⟨w.heap.size, 1, none⟩ (.int .i64 m)).setCell ⟨w.heap.size, 2, none⟩ (.int .i64 o)).setCell ⟨w.heap.size, 3, none⟩ (.string t)) := by
  have ho := putR4_only w1 w.heap.size (.int .i64 k) (.int .i64 m) (.int .i64 o) (.string t)
  have h2 := h.lt
  have h3 := h.from_
  exact ⟨⟨k, m, o, t⟩, rfl, ht, h.cur.only ho (by simp; omega) (fun a ha => by simp at ha; omega), h.only.then ho (fun a ha => .inr (by simp at ha; omega))⟩
/-- What a walk reads of it. -/
theorem V4.facts {w w1 : World} {lo g : Nat} {A : Option Addr} {n c : Nat} {code : List UInt8} {D : Nat} {k m o : Int} {t : ByteArray} (h : V4 w lo g A n c code D ⟨k, m, o, t⟩ w1) :
    (w1.cell? ⟨D, 0, none⟩ = some (.int .i64 k) ∧ w1.cell? ⟨D, 1, none⟩ = some (.int .i64 m) ∧ w1.cell? ⟨D, 2, none⟩ = some (.int .i64 o) ∧ w1.cell? ⟨D, 3, none⟩ = some (.string t)) ∧ (∀ i, w1.frozen? ⟨D, i, none⟩ = false) ∧
    (w1.cell? ⟨w.heap.size, 0, none⟩ = some (.int .i64 0) ∧ w1.cell? ⟨w.heap.size, 1, none⟩ = some (.int .i64 0) ∧ w1.cell? ⟨w.heap.size, 2, none⟩ = some (.int .i64 0) ∧ w1.cell? ⟨w.heap.size, 3, none⟩ = some (.string ⟨#[]⟩)) ∧ (∀ i, w1.frozen? ⟨w.heap.size, i, none⟩ = false) :=
  ⟨rec_box h.var, var_frozen h.var, rec_box h.zero, var_frozen h.zero⟩

set_option maxRecDepth 100000 in
set_option maxHeartbeats 4000000 in
theorem l4Draw_any (lo g : Nat) (A : Option Addr) (n c : Nat) (code : List UInt8) (w : World) (h : Cur w lo g A n c code) (hn : n ≤ 140737488351232) :
    Calls Tryd.prog 25 #[.pointer (some ⟨g, 0, none⟩)] w (RetRec4 w lo g A n c code) := by
  have hglt := h.lt
  have hlg := h.from_
  go_enter Tryd.func25, Tryd.ntmps25
  go_wp2_with fail
  have ho1 := Rep.only_alloc w (.cells #[.int .i64 0, .int .i64 0, .int .i64 0, .string ⟨#[]⟩] 32)
  have hv1 := heap_alloc_new w (.cells #[.int .i64 0, .int .i64 0, .int .i64 0, .string ⟨#[]⟩] 32)
  have hs1 : (w.alloc (.cells #[.int .i64 0, .int .i64 0, .int .i64 0, .string ⟨#[]⟩] 32)).heap.size = w.heap.size + 1 := by simp
  generalize w.alloc (.cells #[.int .i64 0, .int .i64 0, .int .i64 0, .string ⟨#[]⟩] 32) = W1 at ho1 hv1 hs1 ⊢
  have hc1 := h.only ho1 (by simp) (fun a ha => by cases ha)
  have O1 : Rep.Only w W1 [g] := ho1.mono (by simp)
  have V1 := Lib.hid hv1
  clear ho1 hv1 h
  refine (l1Below_any lo g A n c code 3 W1 hc1 hn (by omega) (by omega)).mono ?_
  rintro e W2 ⟨x, hx, rfl, hc2, hg2⟩
  have ho := only_g hg2
  have V2 := Rep.var_only V1 ho (by omega) (by simp; omega)
  have O2 := O1.then ho (fun a ha => .inl ha)
  have s2 := ho.size
  clear hg2 ho hc1 V1 O1
  go_wp2_with fail
  refine (l1Below_any lo g A n c code 6 W2 hc2 hn (by omega) (by omega)).mono ?_
  rintro e W3 ⟨m, hm, rfl, hc3, hg3⟩
  have ho := only_g hg3
  have V3 := Rep.var_only V2 ho (by omega) (by simp; omega)
  have O3 := O2.then ho (fun a ha => .inl ha)
  have s3 := ho.size
  clear hg3 ho hc2 V2 O2
  have V : ∀ kd : Int, V4 w lo g A n c code W3.heap.size ⟨kd, 1 + (m : Int), 0, ⟨#[]⟩⟩ (W3.alloc (.cells #[.int .i64 kd, .int .i64 (1 + (m : Int)), .int .i64 0, .string ⟨#[]⟩] 32)) := fun kd =>
    ⟨(Below.heap_alloc _ _ _ (by omega)).trans V3.out, heap_alloc_new _ _, hc3.alloc _, O3.then (Rep.only_alloc _ _) (fun a ha => by cases ha), by omega, hglt, hlg⟩
  clear hc3 O3
  have split : x = 0 ∨ x = 1 ∨ x = 2 := by omega
  rcases split with rfl | rfl | rfl
  · replace V := V 1
    clear V3
    go_wp2_with fail
    generalize W3.alloc (.cells #[.int .i64 1, .int .i64 (1 + (m : Int)), .int .i64 0, .string ⟨#[]⟩] 32) = W4 at V ⊢
    generalize W3.heap.size = D at V ⊢
    refine (l3Draw_any lo g A n c code W4 V.cur hn).mono ?_
    rintro e W5 ⟨A2, c2, xs, fp, rfl, hP, hown, hc5, ho5⟩
    replace V := V.step hc5 ho5
    obtain ⟨hfew, h1⟩ := hP
    obtain ⟨⟨hq1, hq2⟩, hrows⟩ := dbs_rows (Rep.reads dbsR hown)
    clear hown hc5 ho5
    go_wp2_with fail
    refine (confTextS_any A2 c2 xs W5 hrows (hfew.fits (by omega))).mono ?_
    rintro e W6 ⟨rfl, hb⟩
    replace V := V.later hb
    have hts := confT_len xs
    generalize confT xs = t at hts ⊢
    clear hb hrows hq1 hq2 h1 hfew
    obtain ⟨⟨d0, d1, d2, d3⟩, df, ⟨z0, z1, z2, z3⟩, zf⟩ := V.facts
    have df3 := df 3
    have hDl : D < W6.heap.size := (Array.getElem?_eq_some_iff.1 V.var).1
    have hne : w.heap.size ≠ D := by have := V.hD; omega
    have zf0 := zf 0
    have zf1 := zf 1
    have zf2 := zf 2
    have zf3 := zf 3
    have hret := (V.set 3 (.string t) ⟨1, 1 + (m : Int), 0, t⟩ rfl).ret hts
    clear V df zf
    go_wp2_with fail
    exact bodyPost_ret (v := .agg #[.int .i64 1, .int .i64 (1 + (m : Int)), .int .i64 0, .string t]) (by simp [results, Tryd.results25, go_sem, z0, z1, z2, z3]) rfl hret
  · replace V := V 2
    clear V3
    go_upto_region 2 with (fail)
    generalize W3.alloc (.cells #[.int .i64 2, .int .i64 (1 + (m : Int)), .int .i64 0, .string ⟨#[]⟩] 32) = W4 at V ⊢
    generalize W3.heap.size = D at V ⊢
    obtain ⟨⟨d0, d1, d2, d3⟩, df, ⟨z0, z1, z2, z3⟩, zf⟩ := V.facts
    have zf0 := zf 0
    have zf1 := zf 1
    have zf2 := zf 2
    have zf3 := zf 3
    have hret := V.ret (by decide)
    clear V df zf
    go_wp2_with fail
    exact bodyPost_ret (v := .agg #[.int .i64 2, .int .i64 (1 + (m : Int)), .int .i64 0, .string ⟨#[]⟩]) (by simp [results, Tryd.results25, go_sem, z0, z1, z2, z3]) rfl hret
  · replace V := V 3
    clear V3
    go_wp2_with fail
    generalize W3.alloc (.cells #[.int .i64 3, .int .i64 (1 + (m : Int)), .int .i64 0, .string ⟨#[]⟩] 32) = W4 at V ⊢
    generalize W3.heap.size = D at V ⊢
    refine (l1Below_any lo g A n c code 2 W4 V.cur hn (by omega) (by omega)).mono ?_
    rintro e W5 ⟨ow, how, rfl, hc5, hg5⟩
    replace V := V.step hc5 (only_g hg5)
    clear hc5 hg5
    obtain ⟨⟨d0, d1, d2, d3⟩, df, ⟨z0, z1, z2, z3⟩, zf⟩ := V.facts
    have df2 := df 2
    have hDl : D < W5.heap.size := (Array.getElem?_eq_some_iff.1 V.var).1
    have hne : w.heap.size ≠ D := by have := V.hD; omega
    have zf0 := zf 0
    have zf1 := zf 1
    have zf2 := zf 2
    have zf3 := zf 3
    have hret := (V.set 2 (.int .i64 (ow : Int)) ⟨3, 1 + (m : Int), (ow : Int), ⟨#[]⟩⟩ rfl).ret (by decide)
    clear V df zf
    go_wp2_with fail
    exact bodyPost_ret (v := .agg #[.int .i64 3, .int .i64 (1 + (m : Int)), .int .i64 (ow : Int), .string ⟨#[]⟩]) (by simp [results, Tryd.results25, go_sem, z0, z1, z2, z3]) rfl hret

set_option maxRecDepth 100000 in
set_option maxHeartbeats 4000000 in
theorem l4Any_any (lo g : Nat) (A : Option Addr) (n c : Nat) (code : List UInt8) (w : World) (h : Cur w lo g A n c code) (hn : n ≤ 140737488351232) :
    Calls Tryd.prog 19 #[.pointer (some ⟨g, 0, none⟩)] w (RetRec4 w lo g A n c code) := by
  have hglt := h.lt
  have hlg := h.from_
  go_enter Tryd.func19, Tryd.ntmps19
  go_wp2_with fail
  have ho1 := Rep.only_alloc w (.cells #[.int .i64 0, .int .i64 0, .int .i64 0, .string ⟨#[]⟩] 32)
  have hv1 := heap_alloc_new w (.cells #[.int .i64 0, .int .i64 0, .int .i64 0, .string ⟨#[]⟩] 32)
  have hs1 : (w.alloc (.cells #[.int .i64 0, .int .i64 0, .int .i64 0, .string ⟨#[]⟩] 32)).heap.size = w.heap.size + 1 := by simp
  generalize w.alloc (.cells #[.int .i64 0, .int .i64 0, .int .i64 0, .string ⟨#[]⟩] 32) = W1 at ho1 hv1 hs1 ⊢
  have hc1 := h.only ho1 (by simp) (fun a ha => by cases ha)
  have O1 : Rep.Only w W1 [g] := ho1.mono (by simp)
  have V1 := Lib.hid hv1
  clear ho1 hv1 h
  refine (l4Draw_any lo g A n c code W1 hc1 hn).mono ?_
  rintro e W2 ⟨⟨rk, rn, ro, rt⟩, rfl, hts, hc2, ho⟩
  have V2 := Rep.var_only V1 ho (by omega) (by simp; omega)
  have O2 := O1.then ho (fun a ha => .inl ha)
  have s2 := ho.size
  have V : V4 w lo g A n c code W2.heap.size ⟨rk, rn, ro, rt⟩ (W2.alloc (.cells #[.int .i64 rk, .int .i64 rn, .int .i64 ro, .string rt] 32)) :=
    ⟨(Below.heap_alloc _ _ _ (by omega)).trans V2.out, heap_alloc_new _ _, hc2.alloc _, O2.then (Rep.only_alloc _ _) (fun a ha => by cases ha), by omega, hglt, hlg⟩
  clear hc2 ho hc1 V1 O1 V2 O2
  replace hts : rt.size ≤ 100 := hts
  go_wp2_with fail
  generalize W2.alloc (.cells #[.int .i64 rk, .int .i64 rn, .int .i64 ro, .string rt] 32) = W4 at V ⊢
  generalize W2.heap.size = D at V ⊢
  refine (l1Below_any lo g A n c code 12 W4 V.cur hn (by omega) (by omega)).mono ?_
  rintro e W5 ⟨k, hk, rfl, hc5, hg5⟩
  replace V := V.step hc5 (only_g hg5)
  have hne : w.heap.size ≠ D := by have := V.hD; omega
  clear hc5 hg5 s2 hs1
  have split : k = 0 ∨ k = 1 ∨ k = 2 ∨ k = 3 ∨ 4 ≤ k := by omega
  rcases split with rfl | rfl | rfl | rfl | h4
  · go_wp2_with fail
    refine (draw_int lo g A n c code [0, 1, 2, 4] W5 V.cur hn (by decide) (by decide)).mono ?_
    rintro e W6 ⟨z, hz, rfl, hc6, ho6⟩
    replace V := V.step hc6 ho6
    clear hc6 ho6 hz
    obtain ⟨⟨d0, d1, d2, d3⟩, df, ⟨z0, z1, z2, z3⟩, zf⟩ := V.facts
    have dfi := df 0
    have hDl : D < W6.heap.size := (Array.getElem?_eq_some_iff.1 V.var).1
    have zf0 := zf 0
    have zf1 := zf 1
    have zf2 := zf 2
    have zf3 := zf 3
    have hret := (V.set 0 (.int .i64 z) ⟨z, rn, ro, rt⟩ rfl).ret hts
    clear V df zf
    go_wp2_with fail
    exact bodyPost_ret (v := .agg #[.int .i64 z, .int .i64 rn, .int .i64 ro, .string rt]) (by simp [results, Tryd.results19, go_sem, z0, z1, z2, z3]) rfl hret
  · go_wp2_with fail
    refine (draw_int lo g A n c code [0, 60000, 60001, -1] W5 V.cur hn (by decide) (by decide)).mono ?_
    rintro e W6 ⟨z, hz, rfl, hc6, ho6⟩
    replace V := V.step hc6 ho6
    clear hc6 ho6 hz
    obtain ⟨⟨d0, d1, d2, d3⟩, df, ⟨z0, z1, z2, z3⟩, zf⟩ := V.facts
    have dfi := df 1
    have hDl : D < W6.heap.size := (Array.getElem?_eq_some_iff.1 V.var).1
    have zf0 := zf 0
    have zf1 := zf 1
    have zf2 := zf 2
    have zf3 := zf 3
    have hret := (V.set 1 (.int .i64 z) ⟨rk, z, ro, rt⟩ rfl).ret hts
    clear V df zf
    go_wp2_with fail
    exact bodyPost_ret (v := .agg #[.int .i64 rk, .int .i64 z, .int .i64 ro, .string rt]) (by simp [results, Tryd.results19, go_sem, z0, z1, z2, z3]) rfl hret
  · go_wp2_with fail
    refine (draw_int lo g A n c code [-1, 1, 2] W5 V.cur hn (by decide) (by decide)).mono ?_
    rintro e W6 ⟨z, hz, rfl, hc6, ho6⟩
    replace V := V.step hc6 ho6
    clear hc6 ho6 hz
    obtain ⟨⟨d0, d1, d2, d3⟩, df, ⟨z0, z1, z2, z3⟩, zf⟩ := V.facts
    have dfi := df 2
    have hDl : D < W6.heap.size := (Array.getElem?_eq_some_iff.1 V.var).1
    have zf0 := zf 0
    have zf1 := zf 1
    have zf2 := zf 2
    have zf3 := zf 3
    have hret := (V.set 2 (.int .i64 z) ⟨rk, rn, z, rt⟩ rfl).ret hts
    clear V df zf
    go_wp2_with fail
    exact bodyPost_ret (v := .agg #[.int .i64 rk, .int .i64 rn, .int .i64 z, .string rt]) (by simp [results, Tryd.results19, go_sem, z0, z1, z2, z3]) rfl hret
  · go_wp2_with fail
    refine (l3Text_any lo g A n c code W5 V.cur hn).mono ?_
    rintro e W6 ⟨s, rfl, hs, hc6, ho6⟩
    replace V := V.step hc6 ho6
    clear hc6 ho6
    obtain ⟨⟨d0, d1, d2, d3⟩, df, ⟨z0, z1, z2, z3⟩, zf⟩ := V.facts
    have dfi := df 3
    have hDl : D < W6.heap.size := (Array.getElem?_eq_some_iff.1 V.var).1
    have zf0 := zf 0
    have zf1 := zf 1
    have zf2 := zf 2
    have zf3 := zf 3
    have hret := (V.set 3 (.string s) ⟨rk, rn, ro, s⟩ rfl).ret hs
    clear V df zf
    go_wp2_with fail
    exact bodyPost_ret (v := .agg #[.int .i64 rk, .int .i64 rn, .int .i64 ro, .string s]) (by simp [results, Tryd.results19, go_sem, z0, z1, z2, z3]) rfl hret
  · have b0 : ((k : Int) == 0) = false := by simp; omega
    have b1 : ((k : Int) == 1) = false := by simp; omega
    have b2 : ((k : Int) == 2) = false := by simp; omega
    have b3 : ((k : Int) == 3) = false := by simp; omega
    obtain ⟨⟨d0, d1, d2, d3⟩, df, ⟨z0, z1, z2, z3⟩, zf⟩ := V.facts
    have hDl : D < W5.heap.size := (Array.getElem?_eq_some_iff.1 V.var).1
    have zf0 := zf 0
    have zf1 := zf 1
    have zf2 := zf 2
    have zf3 := zf 3
    have hret := V.ret hts
    clear V df zf
    go_wp2_with fail
    exact bodyPost_ret (v := .agg #[.int .i64 rk, .int .i64 rn, .int .i64 ro, .string rt]) (by simp [results, Tryd.results19, go_sem, z0, z1, z2, z3]) rfl hret

end Go.Proofs.YtlnmlfpkpplgoaaDoor

namespace Go.Proofs.YtlnmlfpkpplgoaaDoor
open Go.RowKit
set_option linter.unusedVariables false

/-- Two numbers and a record come back. -/
def RetPut (w : World) (e : Ending) (w' : World) : Prop :=
  ∃ (a b : Int) (r : Rec), e = .returned (.tuple #[.int .i64 a, .int .i64 b, .agg #[.int .i64 r.kind, .int .i64 r.n, .int .i64 r.owner, .string r.text]]) ∧ r.text.size ≤ 100 ∧ Below w.heap.size w w'

/-- The cursor, a record's box and the result's, all of them new. -/
structure RR (w : World) (lo g : Nat) (A : Option Addr) (n c : Nat) (code : List UInt8) (D : Nat) (rk rn ro : Int) (rt : ByteArray) (V : World) : Prop where
  below : Below w.heap.size w V
  cur : Cur V lo g A n c code
  box : V.heap[D]? = some (.cells (recC ⟨rk, rn, ro, rt⟩).toArray 32 (0, 0))
  zero : V.heap[w.heap.size]? = some (.cells (recC zeroRec).toArray 32 (0, 0))
  low : w.heap.size < lo
  hDg : D ≠ g
  hDz : w.heap.size ≠ D
theorem RR.step {w V V2 : World} {lo g : Nat} {A : Option Addr} {n c : Nat} {code : List UInt8} {D : Nat} {rk rn ro : Int} {rt : ByteArray} (h : RR w lo g A n c code D rk rn ro rt V) (hc : Cur V2 lo g A n c code) (ho : Rep.Only V V2 [g]) : RR w lo g A n c code D rk rn ro rt V2 := by
  have hf := h.cur.from_
  have hl := h.low
  exact ⟨Rep.Only.below h.below ho h.below.size (fun a ha => by simp at ha; omega), hc, (ho.block _ (Array.getElem?_eq_some_iff.1 h.box).1 (by simpa using h.hDg)).trans h.box, (ho.block _ (Array.getElem?_eq_some_iff.1 h.zero).1 (by simp; omega)).trans h.zero, h.low, h.hDg, h.hDz⟩
theorem RR.alloc {w V : World} {lo g : Nat} {A : Option Addr} {n c : Nat} {code : List UInt8} {D : Nat} {rk rn ro : Int} {rt : ByteArray} (h : RR w lo g A n c code D rk rn ro rt V) (ob : Obj) : RR w lo g A n c code D rk rn ro rt (V.alloc ob) :=
  h.step (h.cur.alloc ob) ((Rep.only_alloc V ob).mono (by simp))
theorem RR.drew {w V : World} {lo g : Nat} {A : Option Addr} {n c : Nat} {code : List UInt8} {D : Nat} {rk rn ro : Int} {rt : ByteArray} (h : RR w lo g A n c code D rk rn ro rt V) : RR w lo g A n c code D rk rn ro rt V.drew := h.step h.cur.drew ((Rep.only_drew V).mono (by simp))
theorem RR.box4 {w w' : World} {lo g : Nat} {A : Option Addr} {n c : Nat} {code : List UInt8} {D : Nat} {rk rn ro : Int} {rt : ByteArray} (h : RR w lo g A n c code D rk rn ro rt w') : w'.cell? ⟨D, 0, none⟩ = some (.int .i64 rk) ∧ w'.cell? ⟨D, 1, none⟩ = some (.int .i64 rn) ∧ w'.cell? ⟨D, 2, none⟩ = some (.int .i64 ro) ∧ w'.cell? ⟨D, 3, none⟩ = some (.string rt) := rec_box h.box
theorem RR.gt {w V : World} {lo g : Nat} {A : Option Addr} {n c : Nat} {code : List UInt8} {D : Nat} {rk rn ro : Int} {rt : ByteArray} (h : RR w lo g A n c code D rk rn ro rt V) : V.heap.size ≠ g := by have := h.cur.lt; omega

end Go.Proofs.YtlnmlfpkpplgoaaDoor

namespace Go.Proofs.YtlnmlfpkpplgoaaDoor
open Go.RowKit
set_option linter.unusedVariables false

/-- Bytes come back. -/
def RetGot (w : World) (e : Ending) (w' : World) : Prop :=
  ∃ A2 c2 l', e = .returned (.slice A2 l'.length c2) ∧ l'.length ≤ 112 ∧ l'.length ≤ c2 ∧ Reads w' w'.heap.size 1 A2 l'.length (bys l') ∧ Below w.heap.size w w'

end Go.Proofs.YtlnmlfpkpplgoaaDoor
