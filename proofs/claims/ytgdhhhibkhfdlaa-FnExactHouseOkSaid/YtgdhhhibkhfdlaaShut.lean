/- Words for memory: a slice that reads as a list of bytes, a row that the call owns. Plain lemmas, over any program. Slices of slices of bytes, and strings made of them. Over any program. Contracts of the helpers that every exact law calls: a copy of a byte slice, equality of two byte slices that hold the same bytes, marks written and found again. What a walk is told of a slice of bytes that came in, and what it gives: the slice reads as a list of bytes. -/
import Derived.WalkKit
import Derived.Below
import Derived.Laws.OwnMore
import Derived.Deep.Draws
import Derived.Maps.AppendAt
import Derived.Deep.AppendLies
import Derived.RegionTactic
import Derived.OwnWalk
import Derived.Laws.IdiomStrings
import Derived.Laws.BytesArg
import Derived.Laws.Slices
import Derived.Test.YtgdhhhibkhfdlaaProg
import Derived.BigQuiet
import Derived.Deep.QuietTactic
import Derived.Lib.Hide
import Derived.KernelRfl
import Derived.Outline
namespace Go.Proofs.Ytgdhhhibkhfdlaa
open Go.RowKit

theorem block_of_add (a : Addr) (n : Nat) : (a.add n).block = a.block := by unfold Addr.add; split <;> rfl
theorem add_of_add (a : Addr) (i j : Nat) : (a.add i).add j = a.add (i + j) := by
  unfold Addr.add
  by_cases hi : i = 0 <;> by_cases hj : j = 0 <;> simp [hi, hj, Nat.add_assoc]

/-- The slice value '.slice A n c' holds the cells xs; its block lies below B. -/
def Reads (w : World) (B size : Nat) (A : Option Addr) (n : Nat) (xs : List Value) : Prop :=
  xs.length = n * size ∧ (0 < n → ∃ ad, A = some ad ∧ ad.block < B ∧ ∀ j u, xs[j]? = some u → w.cell? (ad.add j) = some u)

section
variable {w w' : World} {B B' size n : Nat} {A : Option Addr} {xs : List Value}
theorem Reads.none_ : Reads w B size A 0 [] := ⟨by simp, fun h => absurd h (by omega)⟩
theorem Reads.at_ {k : Nat} (h : Reads w B 1 A n xs) (hk : k < n) : ∃ ad u, A = some ad ∧ ad.block < B ∧ xs[k]? = some u ∧ w.cell? (ad.add k) = some u := by
  obtain ⟨ad, e, hb, hc⟩ := h.2 (by omega)
  have hl : k < xs.length := by have := h.1; omega
  exact ⟨ad, xs[k], e, hb, List.getElem?_eq_getElem hl, hc k _ (List.getElem?_eq_getElem hl)⟩
theorem Reads.keep (h : Reads w B size A n xs) (hk : ∀ p : Addr, p.block < B → w'.cell? p = w.cell? p) : Reads w' B size A n xs :=
  ⟨h.1, fun hn => by
    obtain ⟨ad, e, hb, hc⟩ := h.2 hn
    exact ⟨ad, e, hb, fun j u hu => (hk _ (by rw [block_of_add]; exact hb)).trans (hc j u hu)⟩⟩
theorem Reads.more (h : Reads w B size A n xs) (hB : B ≤ B') : Reads w B' size A n xs :=
  ⟨h.1, fun hn => by
    obtain ⟨ad, e, hb, hc⟩ := h.2 hn
    exact ⟨ad, e, by omega, hc⟩⟩
theorem Reads.below (h : Reads w B size A n xs) (hb : Below B w w') : Reads w' B size A n xs := h.keep fun _ hp => hb.cell hp
theorem Reads.drew (h : Reads w B size A n xs) : Reads w.drew B size A n xs := h
theorem Reads.drewN (h : Reads w B size A n xs) (k : Nat) : Reads (w.drewN k) B size A n xs := h
theorem Reads.alloc (h : Reads w B size A n xs) (hB : B ≤ w.heap.size) (o : Obj) : Reads (w.alloc o) B size A n xs := h.keep fun p hp => World.cell?_alloc_lt w o p (by omega)
theorem Reads.setCell (h : Reads w B size A n xs) {p : Addr} (hB : B ≤ p.block) (u : Value) : Reads (w.setCell p u) B size A n xs :=
  h.keep fun q hq => World.cell?_setCell_other w p q u (fun e => by subst e; omega)
theorem Reads.grown (h : Reads w B size A n xs) {row : Option Nat} (hg : w.grownBy w' row) (hB : B ≤ w.heap.size) (hr : ∀ g, row = some g → B ≤ g) : Reads w' B size A n xs :=
  h.keep fun p hp => World.cell?_of_block (hg.block p.block (by omega) (fun e => by have := hr _ e.symm; omega))
theorem Reads.cut (h : Reads w B size A n xs) {k cap : Nat} (hk : k ≤ n) (hc : n ≤ cap) :
    Reads w B size (if cap = k then A else A.map (·.add (k * size))) (n - k) (xs.drop (k * size)) := by
  refine ⟨by rw [List.length_drop, h.1, Nat.sub_mul], fun hn => ?_⟩
  obtain ⟨ad, rfl, hb, hcell⟩ := h.2 (by omega)
  rw [if_neg (by omega)]
  refine ⟨ad.add (k * size), rfl, by rw [block_of_add]; exact hb, fun j u hu => ?_⟩
  rw [add_of_add]
  exact hcell _ u (by rw [← hu, List.getElem?_drop])
theorem Reads.of_own {base : Nat} {e : TypeId} {c : Nat} (h : w.ownsRow base e size (.slice A n c) n xs) : Reads w w.heap.size size A n xs := by
  refine ⟨h.1, fun hn => ?_⟩
  obtain ⟨g, cap, hv, _, hlt⟩ := h.form hn
  have hA : A = some ⟨g, 0, none⟩ := by injection hv
  subst hA
  exact ⟨_, rfl, hlt, h.cells (g := g) rfl⟩
end

/-! ### append onto a row of the call's own, the source nil, empty or not -/

section
variable {P : Program} (w : World)

theorem run_append_of_nil (base : Nat) (t ty e : TypeId) (i : TypeInfo) (size : Nat) (ht : P.underlying t = some (.slice e)) (hi : P.info? e = some i)
    (v : Value) (n : Nat) (xs : List Value) (hown : w.ownsRow base e size v n xs) (c : Nat) : (Builtin.append_ #[t, t] ty #[v, .slice none 0 c]).run P w = .ok v w := by
  rcases hown.2 with ⟨rfl, rfl⟩ | ⟨g, cap, cur, rfl, _, _, hnc, _⟩
  · simp [Builtin.append_, run_underlying ht, sizeOf, typeInfo, hi, Builtin.lenOf, Builtin.firstCells]
  · simp [Builtin.append_, run_underlying ht, sizeOf, typeInfo, hi, Builtin.lenOf, Builtin.firstCells, hnc, storeCells]

theorem run_append_any (base : Nat) (t ty e : TypeId) (i : TypeInfo) (z : Value) (size bytes : Nat) (ht : P.underlying t = some (.slice e)) (hi : P.info? e = some i) (hz : i.zero = some z)
    (hsize : i.size = size) (hby : i.bytes = bytes) (hzs : z.cells.size = size) (hsz : 0 < size)
    (v : Value) (n : Nat) (xs : List Value) (hown : w.ownsRow base e size v n xs)
    (B : Nat) (A : Option Addr) (m c : Nat) (news : List Value) (hr : Reads w B size A m news) (h1 : ∀ u ∈ news, u.oneCell' = true)
    (h63 : n + m ≤ maxLen) (hbytes : (n + m) * bytes ≤ 140737488355328) (hbase : base ≤ w.heap.size) :
    ∃ v' w', (Builtin.append_ #[t, t] ty #[v, .slice A m c]).run P w = .ok v' w' ∧ w'.ownsRow base e size v' (n + m) (xs ++ news) ∧ w.grownBy w' v.ownBlock ∧
      (v'.ownBlock = v.ownBlock ∨ v'.ownBlock = some w.heap.size) := by
  rcases A with _ | ad
  · have hm : m = 0 := by
      rcases Nat.eq_zero_or_pos m with h0 | h0
      · exact h0
      · obtain ⟨ad, h, _⟩ := hr.2 h0
        cases h
    subst hm
    have hn : news = [] := List.eq_nil_of_length_eq_zero (by simpa using hr.1)
    subst hn
    exact ⟨v, w, run_append_of_nil w base t ty e i size ht hi v n xs hown c, by simpa using hown, World.grownBy.refl w _, .inl rfl⟩
  · have hcells : ∀ j u, news[j]? = some u → w.cell? (ad.add j) = some u := by
      intro j u hu
      rcases Nat.eq_zero_or_pos m with h0 | h0
      · subst h0
        have hn : news = [] := List.eq_nil_of_length_eq_zero (by simpa using hr.1)
        subst hn
        simp at hu
      · obtain ⟨ad', h, _, hc⟩ := hr.2 h0
        injection h with h
        subst h
        exact hc j u hu
    obtain ⟨v', w', hrun, h2, h3, _, h5⟩ := run_append_own_at (P := P) w base t ty e i z size bytes ht hi hz hsize hby hzs hsz v n xs hown ad m c news hr.1 hcells h1 h63 hbytes hbase
    exact ⟨v', w', hrun, h2, h3, h5⟩

theorem wp_append_any {o : Oper} {a : Act} {K : Act → World → Prop} {Q : Exit → Act → World → Prop} (s x : Operand) (t : TypeId)
    (ho : o.op = .call { callee := .builtin .append, args := #[s, x], argTypes := #[t, t] })
    (base : Nat) (e : TypeId) (i : TypeInfo) (z : Value) (size bytes : Nat) (ht : P.underlying t = some (.slice e)) (hi : P.info? e = some i) (hz : i.zero = some z)
    (hsize : i.size = size) (hby : i.bytes = bytes) (hzs : z.cells.size = size) (hsz : 0 < size)
    (v : Value) (n : Nat) (xs : List Value) (hs : a.eval s = v) (hown : w.ownsRow base e size v n xs)
    (B : Nat) (A : Option Addr) (m c : Nat) (news : List Value) (hx : a.eval x = .slice A m c) (hr : Reads w B size A m news) (h1 : ∀ u ∈ news, u.oneCell' = true)
    (h63 : n + m ≤ maxLen) (hbytes : (n + m) * bytes ≤ 140737488355328) (hbase : base ≤ w.heap.size)
    (h : ∀ v' w', w'.ownsRow base e size v' (n + m) (xs ++ news) → w.grownBy w' v.ownBlock → (v'.ownBlock = v.ownBlock ∨ v'.ownBlock = some w.heap.size) → K (a.put o.dst v') w') : o.wp P a w K Q := by
  obtain ⟨v', w', hrun, h2, h3, h4⟩ := run_append_any (P := P) w base t o.type e i z size bytes ht hi hz hsize hby hzs hsz v n xs hown B A m c news hr h1 h63 hbytes hbase
  unfold Oper.wp execOp
  simp only [ho, resolve, invoke, builtin, Sem.run_bind, Sem.run_pure, Result.andThen_ok, List.map_toArray, List.map_cons, List.map_nil, hs, hx, hrun]
  exact h v' w' h2 h3 h4

theorem wpList_append_any {ops : Array Oper} {rest : List Oper} {o : Oper} {a : Act} {Q : Exit → Act → World → Prop} (hgd : o.guard = none) (s x : Operand) (t : TypeId)
    (ho : o.op = .call { callee := .builtin .append, args := #[s, x], argTypes := #[t, t] })
    (base : Nat) (e : TypeId) (i : TypeInfo) (z : Value) (size bytes : Nat) (ht : P.underlying t = some (.slice e)) (hi : P.info? e = some i) (hz : i.zero = some z)
    (hsize : i.size = size) (hby : i.bytes = bytes) (hzs : z.cells.size = size) (hsz : 0 < size)
    (v : Value) (n : Nat) (xs : List Value) (hs : a.eval s = v) (hown : w.ownsRow base e size v n xs)
    (B : Nat) (A : Option Addr) (m c : Nat) (news : List Value) (hx : a.eval x = .slice A m c) (hr : Reads w B size A m news) (h1 : ∀ u ∈ news, u.oneCell' = true)
    (h63 : n + m ≤ maxLen) (hbytes : (n + m) * bytes ≤ 140737488355328) (hbase : base ≤ w.heap.size)
    (h : ∀ v' w', w'.ownsRow base e size v' (n + m) (xs ++ news) → w.grownBy w' v.ownBlock → (v'.ownBlock = v.ownBlock ∨ v'.ownBlock = some w.heap.size) → wpList P ops Q rest (a.put o.dst v') w') : wpList P ops Q (o :: rest) a w :=
  wpList_plain hgd fun _ hK => wp_append_any w s x t ho base e i z size bytes ht hi hz hsize hby hzs hsz v n xs hs hown B A m c news hx hr h1 h63 hbytes hbase fun v' w' h2 h3 h4 => hK _ _ (h v' w' h2 h3 h4)

theorem step_append_any {ops : Array Oper} {o : Oper} {a : Act} {K : Act → World → Prop} {Q : Exit → Act → World → Prop} {E : Prop} (hgd : o.guard = none) (s x : Operand) (t : TypeId)
    (ho : o.op = .call { callee := .builtin .append, args := #[s, x], argTypes := #[t, t] })
    (base : Nat) (e : TypeId) (i : TypeInfo) (z : Value) (size bytes : Nat) (ht : P.underlying t = some (.slice e)) (hi : P.info? e = some i) (hz : i.zero = some z)
    (hsize : i.size = size) (hby : i.bytes = bytes) (hzs : z.cells.size = size) (hsz : 0 < size)
    (v : Value) (n : Nat) (xs : List Value) (hs : a.eval s = v) (hown : w.ownsRow base e size v n xs)
    (B : Nat) (A : Option Addr) (m c : Nat) (news : List Value) (hx : a.eval x = .slice A m c) (hr : Reads w B size A m news) (h1 : ∀ u ∈ news, u.oneCell' = true)
    (h63 : n + m ≤ maxLen) (hbytes : (n + m) * bytes ≤ 140737488355328) (hbase : base ≤ w.heap.size)
    (h : ∀ v' w', w'.ownsRow base e size v' (n + m) (xs ++ news) → w.grownBy w' v.ownBlock → (v'.ownBlock = v.ownBlock ∨ v'.ownBlock = some w.heap.size) → K (a.put o.dst v') w') :
    if Region.wanted o (yielded ops a.tmps) = true then Oper.wp P o a w K Q else E := by
  have hw : Region.wanted o (yielded ops a.tmps) = true := by simp [Region.wanted, hgd]
  rw [if_pos hw]
  exact wp_append_any w s x t ho base e i z size bytes ht hi hz hsize hby hzs hsz v n xs hs hown B A m c news hx hr h1 h63 hbytes hbase h
end

/-! ### Bytes -/

/-- The cells of a list of bytes. -/
def bys (l : List UInt8) : List Value := l.map fun b => Value.int .u8 (b.toNat : Int)

theorem bys_length (l : List UInt8) : (bys l).length = l.length := by simp [bys]
theorem bys_append (l l' : List UInt8) : bys (l ++ l') = bys l ++ bys l' := by simp [bys]
theorem bys_get {l : List UInt8} {k : Nat} {b : UInt8} (h : l[k]? = some b) : (bys l)[k]? = some (.int .u8 (b.toNat : Int)) := by simp [bys, h]
theorem bys_one (l : List UInt8) : ∀ u ∈ bys l, u.oneCell' = true := by
  intro u hu
  simp only [bys, List.mem_map] at hu
  obtain ⟨b, _, rfl⟩ := hu
  rfl

/-- A byte of a slice that is read, in the walk's own form. -/
theorem Reads.byte {w : World} {B n k : Nat} {A : Option Addr} {l : List UInt8} (h : Reads w B 1 A n (bys l)) (hk : k < n) :
    ∃ b off u, A = some ⟨b, off, none⟩ ∧ b < B ∧ l[k]? = some u ∧ w.cell? ⟨b, off + k, none⟩ = some (.int .u8 (u.toNat : Int)) := by
  obtain ⟨ad, v0, hA, hb, _, hc0⟩ := h.at_ (k := 0) (by omega)
  obtain ⟨ad', v, hA', _, hx, hc⟩ := h.at_ hk
  have hl : k < l.length := by have := h.1; rw [bys_length] at this; omega
  have hv : v = .int .u8 (l[k].toNat : Int) := by
    have := bys_get (List.getElem?_eq_getElem hl); rw [this] at hx; injection hx with hx; exact hx.symm
  obtain ⟨b, off, spot⟩ := ad
  have hs : spot = none := by simpa [Addr.add] using World.cell?_spot hc0
  have hd : ad' = ⟨b, off, spot⟩ := by rw [hA] at hA'; injection hA' with hA'; exact hA'.symm
  subst hd
  subst hs
  refine ⟨b, off, l[k], hA, hb, List.getElem?_eq_getElem hl, ?_⟩
  have e : (⟨b, off, none⟩ : Addr).add k = ⟨b, off + k, none⟩ := by
    unfold Addr.add
    split <;> simp_all
  rw [← e, hc, hv]

theorem Reads.len {w : World} {B n : Nat} {A : Option Addr} {l : List UInt8} (h : Reads w B 1 A n (bys l)) : l.length = n := by
  have := h.1; rw [bys_length] at this; omega

/-- The value v is a slice of the call's own, of bytes l, in a block from base on ('e': the number of the type uint8). -/
abbrev Owns (w : World) (base : Nat) (e : TypeId) (v : Value) (l : List UInt8) : Prop := w.ownsRow base e 1 v l.length (bys l)

theorem Owns.shape {w : World} {base : Nat} {e : TypeId} {v : Value} {l : List UInt8} (h : Owns w base e v l) :
    ∃ A c, v = .slice A l.length c ∧ l.length ≤ c ∧ c ≤ maxLen ∧ Reads w w.heap.size 1 A l.length (bys l) ∧ (∀ a, A = some a → ∃ g, a = ⟨g, 0, none⟩ ∧ base ≤ g ∧ g < w.heap.size) := by
  have h' := h
  rcases h.2 with ⟨rfl, h0⟩ | ⟨g, cap, cur, rfl, hb, hg, hnc, hcm, _, _⟩
  · rw [h0]
    have hl : l = [] := List.eq_nil_of_length_eq_zero h0
    subst hl
    exact ⟨none, 0, rfl, Nat.le_refl _, by simp, Reads.none_, fun a ha => by cases ha⟩
  · refine ⟨_, cap, rfl, hnc, hcm, Reads.of_own h', fun a ha => ?_⟩
    injection ha with ha
    exact ⟨g, ha.symm, hb, (Array.getElem?_eq_some_iff.1 hg).1⟩

theorem ownsRow_mono {w : World} {base base' : Nat} {e : TypeId} {size n : Nat} {v : Value} {xs : List Value} (h : w.ownsRow base e size v n xs) (hb : base' ≤ base) : w.ownsRow base' e size v n xs := by
  refine ⟨h.1, ?_⟩
  rcases h.2 with h2 | ⟨g, cap, cur, hv, hg, r⟩
  · exact .inl h2
  · exact .inr ⟨g, cap, cur, hv, Nat.le_trans hb hg, r⟩

/-- A row that is owned stays owned while what lies below another number turns not. -/
theorem ownsRow_below {w w' : World} {base B : Nat} {e : TypeId} {size n : Nat} {v : Value} {xs : List Value} (h : w.ownsRow base e size v n xs) (hb : Below B w w') (hB : w.heap.size ≤ B) : w'.ownsRow base e size v n xs := by
  refine ⟨h.1, ?_⟩
  rcases h.2 with h2 | ⟨g, cap, cur, hv, hg, hh, r⟩
  · exact .inl h2
  · refine .inr ⟨g, cap, cur, hv, hg, ?_, r⟩
    rw [hb.block g (Nat.lt_of_lt_of_le (Array.getElem?_eq_some_iff.1 hh).1 hB)]
    exact hh

end Go.Proofs.Ytgdhhhibkhfdlaa

namespace Go.Proofs.Ytgdhhhibkhfdlaa
open Go.RowKit

theorem sizeOf_run {P : Program} {e : TypeId} {i : TypeInfo} (w : World) (hi : P.info? e = some i) : (sizeOf e).run P w = .ok i.size w := by simp [sizeOf, typeInfo, hi, go_sem]

/-- 's[lo:hi]' of a slice of bytes. -/
theorem slice_run {P : Program} {t e : TypeId} {i : TypeInfo} (ht : P.underlying t = some (.slice e)) (hi : P.info? e = some i) (hs : i.size = 1)
    (A : Option Addr) (n c lo hi' : Nat) (k k' : IntKind) (h1 : lo ≤ hi') (h2 : hi' ≤ c) (w : World) :
    (Instr.slice t (.slice A n c) (some (.int k (lo : Int))) (some (.int k' (hi' : Int))) none).run P w = .ok (.slice (if c = lo then A else A.map (·.add lo)) (hi' - lo) (c - lo)) w := by
  have a1 : (0 : Int) ≤ hi' := by omega
  have a2 : (hi' : Int) ≤ c := by omega
  have a3 : (0 : Int) ≤ lo := by omega
  have a4 : (lo : Int) ≤ hi' := by omega
  have hz := sizeOf_run (P := P) (e := e) w hi
  simp [Instr.slice, run_underlying ht, Instr.sliceBounds, Instr.sliceBound, asIntOf, h1, h2, hz, hs, go_sem]

/-- It reads as the part of the list. -/
theorem slice_reads {P : Program} {t e : TypeId} {i : TypeInfo} (ht : P.underlying t = some (.slice e)) (hi : P.info? e = some i) (hs : i.size = 1)
    {A : Option Addr} {n c lo hi' : Nat} (k k' : IntKind) (h1 : lo ≤ hi') (h2 : hi' ≤ n) (h3 : n ≤ c) :
    ∃ A', (∀ w, (Instr.slice t (.slice A n c) (some (.int k (lo : Int))) (some (.int k' (hi' : Int))) none).run P w = .ok (.slice A' (hi' - lo) (c - lo)) w) ∧
      ∀ {w : World} {B : Nat} {l : List UInt8}, Reads w B 1 A n (bys l) → Reads w B 1 A' (hi' - lo) (bys ((l.drop lo).take (hi' - lo))) := by
  refine ⟨_, fun w => slice_run ht hi hs A n c lo hi' k k' h1 (by omega) w, ?_⟩
  intro w B l hr
  have hc := hr.cut (k := lo) (cap := c) (by omega) h3
  simp only [Nat.mul_one] at hc
  refine ⟨by have := hr.1; simp [bys] at this ⊢; omega, fun hn => ?_⟩
  obtain ⟨ad, he, hb, hcell⟩ := hc.2 (by omega)
  refine ⟨ad, he, hb, fun j u hu => hcell j u ?_⟩
  by_cases hj : j < hi' - lo
  · rw [← hu]
    simp only [bys, List.map_take, List.map_drop, List.getElem?_take]
    rw [if_pos hj]
  · rw [List.getElem?_eq_none (by rw [bys_length, List.length_take]; omega)] at hu
    cases hu

/-- 's[:hi]' of a slice of bytes. -/
theorem slice_run0 {P : Program} {t e : TypeId} {i : TypeInfo} (ht : P.underlying t = some (.slice e)) (hi : P.info? e = some i) (hs : i.size = 1)
    (A : Option Addr) (n c hi' : Nat) (k' : IntKind) (h2 : hi' ≤ c) (w : World) :
    (Instr.slice t (.slice A n c) none (some (.int k' (hi' : Int))) none).run P w = .ok (.slice (if c = 0 then A else A.map (·.add 0)) hi' c) w := by
  have a1 : (0 : Int) ≤ hi' := by omega
  have a2 : (hi' : Int) ≤ c := by omega
  have hz := sizeOf_run (P := P) (e := e) w hi
  simp [Instr.slice, run_underlying ht, Instr.sliceBounds, Instr.sliceBound, asIntOf, h2, hz, hs, go_sem]
theorem slice_reads0 {P : Program} {t e : TypeId} {i : TypeInfo} (ht : P.underlying t = some (.slice e)) (hi : P.info? e = some i) (hs : i.size = 1)
    {A : Option Addr} {n c hi' : Nat} (k' : IntKind) (h2 : hi' ≤ n) (h3 : n ≤ c) :
    ∃ A', (∀ w, (Instr.slice t (.slice A n c) none (some (.int k' (hi' : Int))) none).run P w = .ok (.slice A' hi' c) w) ∧
      ∀ {w : World} {B : Nat} {l : List UInt8}, Reads w B 1 A n (bys l) → Reads w B 1 A' hi' (bys (l.take hi')) := by
  refine ⟨_, fun w => slice_run0 ht hi hs A n c hi' k' (by omega) w, ?_⟩
  intro w B l hr
  refine ⟨by have := hr.1; simp [bys] at this ⊢; omega, fun hn => ?_⟩
  obtain ⟨ad, rfl, hb, hcell⟩ := hr.2 (by omega)
  rw [if_neg (by omega)]
  refine ⟨ad.add 0, rfl, by rw [block_of_add]; exact hb, fun j u hu => ?_⟩
  rw [add_of_add, Nat.zero_add]
  refine hcell j u ?_
  by_cases hj : j < hi'
  · rw [← hu]
    simp only [bys, List.map_take, List.getElem?_take]
    rw [if_pos hj]
  · rw [List.getElem?_eq_none (by rw [bys_length, List.length_take]; omega)] at hu
    cases hu

/-- 'string(b)'. -/
theorem string_run {P : Program} {src dst e : TypeId} (hs : P.underlying src = some (.slice e)) (he : P.underlying e = some (.int .u8)) (hd : P.underlying dst = some .string)
    {A : Option Addr} {n c B : Nat} {l : List UInt8} {w : World} (h : Reads w B 1 A n (bys l)) : (convert src dst (.slice A n c)).run P w = .ok (.string ⟨l.toArray⟩) w := by
  have hl := h.len
  subst hl
  rcases A with _ | ad
  · have h0 : l = [] := by
      rcases Nat.eq_zero_or_pos l.length with h0 | h0
      · exact List.eq_nil_of_length_eq_zero h0
      · obtain ⟨ad, hh, _⟩ := h.2 h0
        cases hh
    subst h0
    exact run_convert_bytes_nil (P := P) w src e hs he _ c dst hd
  · refine run_convert_bytes_back (P := P) w src dst e ad c l hs he hd ?_
    intro j hj
    obtain ⟨ad', hA, _, hc⟩ := h.2 (by omega)
    injection hA with hA
    subst hA
    exact hc j _ (bys_get (List.getElem?_eq_getElem hj))

end Go.Proofs.Ytgdhhhibkhfdlaa

namespace Go.Proofs.Ytgdhhhibkhfdlaa
open Go.RowKit

theorem Try.info8 : (Try.prog.info? 5).map (fun i => (i.zero, i.size, i.bytes)) = some (some (.int .u8 0), 1, 1) := by kernel_rfl

theorem take_snoc_get {l : List UInt8} {k : Nat} {u : UInt8} (h : l[k]? = some u) : l.take (k + 1) = l.take k ++ [u] := by
  rw [List.take_add_one, h]; rfl

/-- What the row holds when the first k bytes have been copied. -/
def half (l : List UInt8) (k : Nat) : List UInt8 := l.take k ++ List.replicate (l.length - k) 0

theorem half_length {l : List UInt8} {k : Nat} (h : k ≤ l.length) : (half l k).length = l.length := by
  simp [half]; omega
theorem half_zero (l : List UInt8) : half l 0 = List.replicate l.length 0 := by simp [half]
theorem half_all (l : List UInt8) : half l l.length = l := by simp [half]
theorem half_get {l : List UInt8} {k : Nat} (h : k < l.length) : (half l k)[k]? = some 0 := by
  unfold half
  rw [List.getElem?_append_right (by simp; omega)]
  simp [List.getElem?_replicate]
  omega
theorem half_set {l : List UInt8} {k : Nat} {u : UInt8} (h : l[k]? = some u) : (bys (half l k)).set k (.int .u8 (u.toNat : Int)) = bys (half l (k + 1)) := by
  have hk : k < l.length := by
    rcases Nat.lt_or_ge k l.length with h' | h'
    · exact h'
    · rw [List.getElem?_eq_none h'] at h; cases h
  have e : l.length - k = (l.length - (k + 1)) + 1 := by omega
  unfold half bys
  rw [take_snoc_get h, e, List.replicate_succ]
  simp only [List.map_append, List.map_cons, List.append_assoc, List.cons_append, List.nil_append]
  rw [List.set_append_right _ _ (by simp; omega)]
  have : k - (List.map (fun b : UInt8 => Value.int .u8 (b.toNat : Int)) (l.take k)).length = 0 := by simp; omega
  rw [this]
  rfl

theorem bys_zeros (n : Nat) : bys (List.replicate n 0) = (madeCells (Value.int .u8 0).cells (n * 1)).toList := by
  rw [Nat.mul_one]
  have : (Value.int .u8 0).cells = #[Value.int .u8 0] := rfl
  rw [this, toList_madeCells_one]
  simp [bys]

set_option maxHeartbeats 400000 in
theorem toByteS_any (A : Option Addr) (c : Nat) (l : List UInt8) (w : World) (h : Reads w w.heap.size 1 A l.length (bys l)) (hn : l.length ≤ 140737488351232) :
    Calls Try.prog 62 #[.slice A l.length c] w fun e w' => ∃ v, e = .returned v ∧ Owns w' w.heap.size 5 v l ∧ Below w.heap.size w w' := by
  obtain ⟨i0, hi0, hz0, hz1, hz2⟩ := info_parts Try.info8
  go_enter Try.func62, Try.ntmps62
  go_wp2_with (at_make; refine wpList_make_full _ rfl _ _ _ rfl w.heap.size 5 i0 _ 1 Try.underlying22 hi0 hz0 hz1 _ _ _ _ l.length rfl rfl rfl rfl (by rw [hz2]; omega) (by simp only [maxLen]; omega) (Nat.le_refl _) ?_; intro w1 hown1 hg1)
  have hb1 : Below w.heap.size w w1 := (Below.refl _ _).grown hg1 (Nat.le_refl _) (fun _ hk => by cases hk)
  have hh : (madeCells (Value.int .u8 0).cells (l.length * 1)).toList = bys (half l 0) := by rw [half_zero, bys_zeros]
  rw [hh] at hown1
  clear hh
  go_loopw [4] (fun i wr => ∃ k : Nat, k ≤ l.length ∧ i = .int .i64 k ∧ Below w.heap.size w wr ∧ wr.ownsRow w.heap.size 5 1 (.slice (some ⟨w.heap.size, 0, none⟩) l.length l.length) l.length (bys (half l k))) (fun i _ => l.length - (intOf i).toNat)
  case atStart => exact ⟨0, by omega, rfl, hb1, hown1⟩
  case round =>
    obtain ⟨k, hk, rfl, hb, hown⟩ := hrel
    clear hown1 hg1 hb1
    by_cases hlt : k < l.length
    · obtain ⟨b, off, u, rfl, hbl, hu, hcell⟩ := (h.below hb).byte hlt
      have hdst : wr.cell? ⟨w.heap.size, k, none⟩ = some (.int .u8 0) := by
        rw [hown.cellAt k (by omega), bys_get (half_get hlt)]; rfl
      have hfr := hown.frozenAt k
      go_wp2
      go_roundw
      case rel =>
        have hst := hown.stored k (.int .u8 (u.toNat : Int))
        rw [half_set hu] at hst
        exact ⟨k + 1, by omega, by go_num, hb.setCell (by exact Nat.le_refl _) _, hst.1⟩
      case measure => simp [intOf]; omega
    · have he : k = l.length := by omega
      subst he
      rw [half_all] at hown
      go_wp2
      go_ret
      exact ⟨_, rfl, hown, hb⟩

set_option maxHeartbeats 400000 in
/-- Two slices that hold the same bytes are equal. -/
theorem eqByteS_same (A B : Option Addr) (c d : Nat) (l : List UInt8) (w : World) (h : Reads w w.heap.size 1 A l.length (bys l)) (h' : Reads w w.heap.size 1 B l.length (bys l)) (hn : l.length ≤ 140737488351232) :
    Calls Try.prog 64 #[.slice A l.length c, .slice B l.length d] w fun e w' => e = .returned (.bool true) ∧ ∃ n, w' = w.drewN n := by
  have hnn : ((l.length : Int) != (l.length : Int)) = false := by simp
  go_enter Try.func64, Try.ntmps64
  go_wp2
  go_loopw [5] (fun i wr => ∃ k : Nat, k ≤ l.length ∧ i = .int .i64 k ∧ ∃ n, wr = w.drewN n) (fun i _ => l.length - (intOf i).toNat)
  case atStart => exact ⟨0, by omega, rfl, 0, rfl⟩
  case round =>
    obtain ⟨k, hk, rfl, n, rfl⟩ := hrel
    by_cases hlt : k < l.length
    · obtain ⟨b, off, u, rfl, hbl, hu, hcell⟩ := h.byte hlt
      obtain ⟨b', off', u', rfl, hbl', hu', hcell'⟩ := h'.byte hlt
      have huu : u' = u := by rw [hu] at hu'; injection hu' with hu'; exact hu'.symm
      subst huu
      clear hu hu'
      have hne : (((u'.toNat : Nat) : Int) != ((u'.toNat : Nat) : Int)) = false := by simp
      have h0 : (0 : Int) ≤ (k : Int) := by omega
      have hki : (k : Int) < (l.length : Int) := by omega
      go_wp2
      go_quiet (fail)
      go_wp2
      go_roundw
      case rel => exact ⟨k + 1, by omega, by go_num, _, rfl⟩
      case measure => simp [intOf]; omega
    · have he : k = l.length := by omega
      subst he
      go_wp2
      go_ret
      exact ⟨rfl, n, rfl⟩

/-- The marks k, k+1, .. -/
def marks (k n : Nat) : List UInt8 := (List.range n).map fun j => UInt8.ofNat (k + j)
theorem marks_length (k n : Nat) : (marks k n).length = n := by simp [marks]
theorem marks_succ (k n : Nat) : marks k (n + 1) = marks k n ++ [UInt8.ofNat (k + n)] := by simp [marks, List.range_succ]
theorem marks_get {k n j : Nat} (h : j < n) : (marks k n)[j]? = some (UInt8.ofNat (k + j)) := by simp [marks, h]

def marked (k : Nat) (l : List UInt8) (j : Nat) : List UInt8 := marks k j ++ l.drop j
theorem mark_cell (k j : Nat) : (((UInt8.ofNat (k + j)).toNat : Nat) : Int) = ((k : Int) + (j : Int)) % 256 := by
  simp
theorem drop_cons {l : List UInt8} {j : Nat} (h : j < l.length) : l.drop j = l[j] :: l.drop (j + 1) := List.drop_eq_getElem_cons h
theorem marked_get {k j : Nat} {l : List UInt8} (h : j < l.length) : (bys (marked k l j))[j]? = some (.int .u8 ((l[j]).toNat : Int)) := by
  apply bys_get
  unfold marked
  rw [List.getElem?_append_right (by rw [marks_length]; omega), marks_length]
  simp [h]
theorem marked_set {k j : Nat} {l : List UInt8} (h : j < l.length) : (bys (marked k l j)).set j (Value.int .u8 (((k : Int) + (j : Int)) % 256)) = bys (marked k l (j + 1)) := by
  unfold marked
  rw [drop_cons h, marks_succ, ← mark_cell]
  unfold bys
  simp only [List.map_append, List.map_cons, List.append_assoc, List.cons_append, List.nil_append]
  rw [List.set_append_right _ _ (by simp [marks_length])]
  have : j - (List.map (fun b : UInt8 => Value.int .u8 (b.toNat : Int)) (marks k j)).length = 0 := by simp [marks_length]
  rw [this]
  rfl
theorem marked_zero (k : Nat) (l : List UInt8) : marked k l 0 = l := by simp [marked, marks]
theorem marked_all (k : Nat) (l : List UInt8) : marked k l l.length = marks k l.length := by simp [marked]

end Go.Proofs.Ytgdhhhibkhfdlaa

namespace Go.Proofs.Ytgdhhhibkhfdlaa
open Go.RowKit

/-- A slice of integers that came in: it is nil; or it leads to a row of 'cap' cells, the numbers 'zs' (the first 'len' are its elements, the rest its spare room), each fitting its kind. -/
def IsRow (k : IntKind) (w : World) (a : Option Addr) (len cap : Nat) (zs : List Int) : Prop :=
  (a = none ∧ len = 0 ∧ cap = 0 ∧ zs = []) ∨
  ∃ x, a = some x ∧ len ≤ cap ∧ cap ≤ maxLen ∧ zs.length = cap ∧ (∀ i, i < zs.length → w.cell? (x.add i) = some (.int k (zs.getD i 0))) ∧ ∀ n ∈ zs, (Lit.int k n).wf = true

theorem u8_of_wf {z : Int} (h : (Lit.int .u8 z).wf = true) : (((UInt8.ofNat z.toNat).toNat : Nat) : Int) = z := by
  have h' : 0 ≤ z ∧ z < 256 := by
    have h1 := of_decide_eq_true (by simpa [Lit.wf] using h : decide (IntKind.u8.min ≤ z ∧ z ≤ IntKind.u8.max) = true)
    have e1 : IntKind.u8.min = 0 := by decide
    have e2 : IntKind.u8.max = 255 := by decide
    omega
  simp
  omega

theorem IsRow.reads {w : World} {a : Option Addr} {len cap : Nat} {zs : List Int} (h : IsRow .u8 w a len cap zs) :
    ∃ l : List UInt8, l.length = len ∧ len ≤ cap ∧ Reads w w.heap.size 1 a l.length (bys l) := by
  rcases h with ⟨rfl, rfl, rfl, rfl⟩ | ⟨x, rfl, hl, hm, hz, hcell, hwz⟩
  · exact ⟨[], rfl, Nat.le_refl _, Reads.none_⟩
  · refine ⟨(zs.take len).map fun z => UInt8.ofNat z.toNat, by simp; omega, hl, ⟨by simp [bys], fun hn => ⟨x, rfl, ?_, ?_⟩⟩⟩
    · have h0 := hcell 0 (by simp at hn; omega)
      have := World.block_lt_of_cell? w _ h0
      rwa [block_of_add] at this
    · intro j u hu
      simp only [bys, List.map_map, List.getElem?_map, List.getElem?_take] at hu
      split at hu
      · rename_i hj
        have hjz : j < zs.length := by omega
        rw [List.getElem?_eq_getElem hjz] at hu
        simp only [Option.map_some, Function.comp] at hu
        injection hu with hu
        rw [u8_of_wf (hwz _ (List.getElem_mem hjz))] at hu
        subst hu
        rw [hcell j hjz, List.getD_eq_getElem?_getD, List.getElem?_eq_getElem hjz]
        rfl
      · cases hu

/-- A row that is owned reads, at whatever later world it is still owned. -/
theorem Owns.reads {w : World} {base : Nat} {e : TypeId} {A : Option Addr} {c : Nat} {l : List UInt8} (h : Owns w base e (.slice A l.length c) l) : Reads w w.heap.size 1 A l.length (bys l) := Reads.of_own h
theorem Owns.keep {w w' : World} {base : Nat} {e : TypeId} {v : Value} {l : List UInt8} (h : Owns w base e v l) (hb : Below w.heap.size w w') : Owns w' base e v l := ownsRow_below h hb (Nat.le_refl _)
theorem Owns.drewN {w : World} {base : Nat} {e : TypeId} {v : Value} {l : List UInt8} (h : Owns w base e v l) (n : Nat) : Owns (w.drewN n) base e v l := h
/-- It stays owned while another row is written that lies elsewhere. -/
theorem Owns.apart {w w' : World} {base base' : Nat} {e e' : TypeId} {v v' : Value} {l : List UInt8} {n' : Nat} {xs : List Value} {size : Nat} (h : Owns w base e v l) (_h' : w.ownsRow base' e' size v' n' xs) (hg : w.grownBy w' v'.ownBlock)
    (hne : ∀ k k', v.ownBlock = some k → v'.ownBlock = some k' → k ≠ k') : Owns w' base e v l := by
  refine World.ownsRow.kept h hg ?_
  rcases hv : v.ownBlock with _ | k
  · exact .inl rfl
  · rcases hv' : v'.ownBlock with _ | k'
    · exact .inr (by simp)
    · exact .inr (by simpa using hne k k' hv hv')
/-- Of two rows the later one lies in a later block. -/
theorem own_apart {w w' : World} {base base' : Nat} {e e' : TypeId} {v v' : Value} {l l' : List UInt8} (h : Owns w base e v l) (h' : Owns w' base' e' v' l') (hb : w.heap.size ≤ base') :
    ∀ k k', v.ownBlock = some k → v'.ownBlock = some k' → k ≠ k' := by
  intro k k' hk hk'
  have h1 := (h.lt k hk).2
  have h2 := (h'.lt k' hk').1
  omega
theorem own_apart' {w w' : World} {base base' : Nat} {e e' : TypeId} {v v' : Value} {l l' : List UInt8} (h : Owns w base e v l) (h' : Owns w' base' e' v' l') (hb : w.heap.size ≤ base') :
    ∀ k k', v'.ownBlock = some k → v.ownBlock = some k' → k ≠ k' := fun k k' hk hk' => (own_apart h h' hb k' k hk' hk).symm
theorem own_from {w w0 : World} {base : Nat} {e : TypeId} {v : Value} {l : List UInt8} (h : Owns w base e v l) (hb : w0.heap.size ≤ base) : ∀ k, v.ownBlock = some k → w0.heap.size ≤ k := fun k hk => Nat.le_trans hb (h.lt k hk).1
/-- Marks read. -/
theorem marks_read {w : World} {base : Nat} {e : TypeId} {A : Option Addr} {c k n : Nat} (h : Owns w base e (.slice A n c) (marks k n)) : Reads w w.heap.size 1 A n (bys (marks k n)) := by
  unfold Owns at h
  rw [marks_length] at h
  exact Reads.of_own h
theorem belowD {B : Nat} {a w : World} (h : Below B a w) (n : Nat) : Below B a (w.drewN n) := ⟨h.os, h.tape, h.output, h.size, h.block⟩

end Go.Proofs.Ytgdhhhibkhfdlaa
