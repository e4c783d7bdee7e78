/- What the theorem needs, out of many texts. -/
import Derived.WalkKit
import Derived.Below
import Derived.Laws.OwnMore
import Derived.Deep.Draws
import Derived.Maps.AppendAt
import Derived.Deep.AppendLies
import Derived.RegionTactic
import Derived.OwnWalk
import Derived.Laws.IdiomStrings
import Derived.Laws.BytesArg
import Derived.Laws.Slices
import Derived.BigQuiet
import Derived.Deep.QuietTactic
import Derived.Lib.Hide
import Derived.KernelRfl
import Derived.Outline
import Derived.Test.YtaigdioimldknaaProg
import Derived.StillTailTactics
import Derived.WalkSmall
import Derived.Deep.DeepMust
import Derived.Lib.QuoteBits
import Derived.Laws.RangeAny
import Derived.Maps.RangeWalk
import Derived.WalkSpells
namespace Go.Proofs.Ytaigdioimldknaa
open Go.RowKit
theorem block_of_add (a : Addr) (n : Nat) : (a.add n).block = a.block := by unfold Addr.add; split <;> rfl
theorem add_of_add (a : Addr) (i j : Nat) : (a.add i).add j = a.add (i + j) := by
  unfold Addr.add
  by_cases hi : i = 0 <;> by_cases hj : j = 0 <;> simp [hi, hj, Nat.add_assoc]
/-- The slice value '.slice A n c' holds the cells xs; its block lies below B. -/
def Reads (w : World) (B size : Nat) (A : Option Addr) (n : Nat) (xs : List Value) : Prop :=
  xs.length = n * size ∧ (0 < n → ∃ ad, A = some ad ∧ ad.block < B ∧ ∀ j u, xs[j]? = some u → w.cell? (ad.add j) = some u)
section
variable {w w' : World} {B B' size n : Nat} {A : Option Addr} {xs : List Value}
theorem Reads.none_ : Reads w B size A 0 [] := ⟨by simp, fun h => absurd h (by omega)⟩
theorem Reads.at_ {k : Nat} (h : Reads w B 1 A n xs) (hk : k < n) : ∃ ad u, A = some ad ∧ ad.block < B ∧ xs[k]? = some u ∧ w.cell? (ad.add k) = some u := by
  obtain ⟨ad, e, hb, hc⟩ := h.2 (by omega)
  have hl : k < xs.length := by have := h.1; omega
  exact ⟨ad, xs[k], e, hb, List.getElem?_eq_getElem hl, hc k _ (List.getElem?_eq_getElem hl)⟩
theorem Reads.keep (h : Reads w B size A n xs) (hk : ∀ p : Addr, p.block < B → w'.cell? p = w.cell? p) : Reads w' B size A n xs :=
  ⟨h.1, fun hn => by
    obtain ⟨ad, e, hb, hc⟩ := h.2 hn
    exact ⟨ad, e, hb, fun j u hu => (hk _ (by rw [block_of_add]; exact hb)).trans (hc j u hu)⟩⟩
theorem Reads.more (h : Reads w B size A n xs) (hB : B ≤ B') : Reads w B' size A n xs :=
  ⟨h.1, fun hn => by
    obtain ⟨ad, e, hb, hc⟩ := h.2 hn
    exact ⟨ad, e, by omega, hc⟩⟩
theorem Reads.below (h : Reads w B size A n xs) (hb : Below B w w') : Reads w' B size A n xs := h.keep fun _ hp => hb.cell hp
theorem Reads.drew (h : Reads w B size A n xs) : Reads w.drew B size A n xs := h
theorem Reads.drewN (h : Reads w B size A n xs) (k : Nat) : Reads (w.drewN k) B size A n xs := h
theorem Reads.alloc (h : Reads w B size A n xs) (hB : B ≤ w.heap.size) (o : Obj) : Reads (w.alloc o) B size A n xs := h.keep fun p hp => World.cell?_alloc_lt w o p (by omega)
theorem Reads.setCell (h : Reads w B size A n xs) {p : Addr} (hB : B ≤ p.block) (u : Value) : Reads (w.setCell p u) B size A n xs :=
  h.keep fun q hq => World.cell?_setCell_other w p q u (fun e => by subst e; omega)
theorem Reads.grown (h : Reads w B size A n xs) {row : Option Nat} (hg : w.grownBy w' row) (hB : B ≤ w.heap.size) (hr : ∀ g, row = some g → B ≤ g) : Reads w' B size A n xs :=
  h.keep fun p hp => World.cell?_of_block (hg.block p.block (by omega) (fun e => by have := hr _ e.symm; omega))
theorem Reads.cut (h : Reads w B size A n xs) {k cap : Nat} (hk : k ≤ n) (hc : n ≤ cap) :
    Reads w B size (if cap = k then A else A.map (·.add (k * size))) (n - k) (xs.drop (k * size)) := by
  refine ⟨by rw [List.length_drop, h.1, Nat.sub_mul], fun hn => ?_⟩
  obtain ⟨ad, rfl, hb, hcell⟩ := h.2 (by omega)
  rw [if_neg (by omega)]
  refine ⟨ad.add (k * size), rfl, by rw [block_of_add]; exact hb, fun j u hu => ?_⟩
  rw [add_of_add]
  exact hcell _ u (by rw [← hu, List.getElem?_drop])
theorem Reads.of_own {base : Nat} {e : TypeId} {c : Nat} (h : w.ownsRow base e size (.slice A n c) n xs) : Reads w w.heap.size size A n xs := by
  refine ⟨h.1, fun hn => ?_⟩
  obtain ⟨g, cap, hv, _, hlt⟩ := h.form hn
  have hA : A = some ⟨g, 0, none⟩ := by injection hv
  subst hA
  exact ⟨_, rfl, hlt, h.cells (g := g) rfl⟩
end
section
variable {P : Program} (w : World)
theorem run_append_of_nil (base : Nat) (t ty e : TypeId) (i : TypeInfo) (size : Nat) (ht : P.underlying t = some (.slice e)) (hi : P.info? e = some i)
    (v : Value) (n : Nat) (xs : List Value) (hown : w.ownsRow base e size v n xs) (c : Nat) : (Builtin.append_ #[t, t] ty #[v, .slice none 0 c]).run P w = .ok v w := by
  rcases hown.2 with ⟨rfl, rfl⟩ | ⟨g, cap, cur, rfl, _, _, hnc, _⟩
  · simp [Builtin.append_, run_underlying ht, sizeOf, typeInfo, hi, Builtin.lenOf, Builtin.firstCells]
  · simp [Builtin.append_, run_underlying ht, sizeOf, typeInfo, hi, Builtin.lenOf, Builtin.firstCells, hnc, storeCells]
theorem run_append_any (base : Nat) (t ty e : TypeId) (i : TypeInfo) (z : Value) (size bytes : Nat) (ht : P.underlying t = some (.slice e)) (hi : P.info? e = some i) (hz : i.zero = some z)
    (hsize : i.size = size) (hby : i.bytes = bytes) (hzs : z.cells.size = size) (hsz : 0 < size)
    (v : Value) (n : Nat) (xs : List Value) (hown : w.ownsRow base e size v n xs)
    (B : Nat) (A : Option Addr) (m c : Nat) (news : List Value) (hr : Reads w B size A m news) (h1 : ∀ u ∈ news, u.oneCell' = true)
    (h63 : n + m ≤ maxLen) (hbytes : (n + m) * bytes ≤ 140737488355328) (hbase : base ≤ w.heap.size) :
    ∃ v' w', (Builtin.append_ #[t, t] ty #[v, .slice A m c]).run P w = .ok v' w' ∧ w'.ownsRow base e size v' (n + m) (xs ++ news) ∧ w.grownBy w' v.ownBlock ∧
      (v'.ownBlock = v.ownBlock ∨ v'.ownBlock = some w.heap.size) := by
  rcases A with _ | ad
  · have hm : m = 0 := by
      rcases Nat.eq_zero_or_pos m with h0 | h0
      · exact h0
      · obtain ⟨ad, h, _⟩ := hr.2 h0
        cases h
    subst hm
    have hn : news = [] := List.eq_nil_of_length_eq_zero (by simpa using hr.1)
    subst hn
    exact ⟨v, w, run_append_of_nil w base t ty e i size ht hi v n xs hown c, by simpa using hown, World.grownBy.refl w _, .inl rfl⟩
  · have hcells : ∀ j u, news[j]? = some u → w.cell? (ad.add j) = some u := by
      intro j u hu
      rcases Nat.eq_zero_or_pos m with h0 | h0
      · subst h0
        have hn : news = [] := List.eq_nil_of_length_eq_zero (by simpa using hr.1)
        subst hn
        simp at hu
      · obtain ⟨ad', h, _, hc⟩ := hr.2 h0
        injection h with h
        subst h
        exact hc j u hu
    obtain ⟨v', w', hrun, h2, h3, _, h5⟩ := run_append_own_at (P := P) w base t ty e i z size bytes ht hi hz hsize hby hzs hsz v n xs hown ad m c news hr.1 hcells h1 h63 hbytes hbase
    exact ⟨v', w', hrun, h2, h3, h5⟩
theorem wp_append_any {o : Oper} {a : Act} {K : Act → World → Prop} {Q : Exit → Act → World → Prop} (s x : Operand) (t : TypeId)
    (ho : o.op = .call { callee := .builtin .append, args := #[s, x], argTypes := #[t, t] })
    (base : Nat) (e : TypeId) (i : TypeInfo) (z : Value) (size bytes : Nat) (ht : P.underlying t = some (.slice e)) (hi : P.info? e = some i) (hz : i.zero = some z)
    (hsize : i.size = size) (hby : i.bytes = bytes) (hzs : z.cells.size = size) (hsz : 0 < size)
    (v : Value) (n : Nat) (xs : List Value) (hs : a.eval s = v) (hown : w.ownsRow base e size v n xs)
    (B : Nat) (A : Option Addr) (m c : Nat) (news : List Value) (hx : a.eval x = .slice A m c) (hr : Reads w B size A m news) (h1 : ∀ u ∈ news, u.oneCell' = true)
    (h63 : n + m ≤ maxLen) (hbytes : (n + m) * bytes ≤ 140737488355328) (hbase : base ≤ w.heap.size)
    (h : ∀ v' w', w'.ownsRow base e size v' (n + m) (xs ++ news) → w.grownBy w' v.ownBlock → (v'.ownBlock = v.ownBlock ∨ v'.ownBlock = some w.heap.size) → K (a.put o.dst v') w') : o.wp P a w K Q := by
  obtain ⟨v', w', hrun, h2, h3, h4⟩ := run_append_any (P := P) w base t o.type e i z size bytes ht hi hz hsize hby hzs hsz v n xs hown B A m c news hr h1 h63 hbytes hbase
  unfold Oper.wp execOp
  simp only [ho, resolve, invoke, builtin, Sem.run_bind, Sem.run_pure, Result.andThen_ok, List.map_toArray, List.map_cons, List.map_nil, hs, hx, hrun]
  exact h v' w' h2 h3 h4
theorem wpList_append_any {ops : Array Oper} {rest : List Oper} {o : Oper} {a : Act} {Q : Exit → Act → World → Prop} (hgd : o.guard = none) (s x : Operand) (t : TypeId)
    (ho : o.op = .call { callee := .builtin .append, args := #[s, x], argTypes := #[t, t] })
    (base : Nat) (e : TypeId) (i : TypeInfo) (z : Value) (size bytes : Nat) (ht : P.underlying t = some (.slice e)) (hi : P.info? e = some i) (hz : i.zero = some z)
    (hsize : i.size = size) (hby : i.bytes = bytes) (hzs : z.cells.size = size) (hsz : 0 < size)
    (v : Value) (n : Nat) (xs : List Value) (hs : a.eval s = v) (hown : w.ownsRow base e size v n xs)
    (B : Nat) (A : Option Addr) (m c : Nat) (news : List Value) (hx : a.eval x = .slice A m c) (hr : Reads w B size A m news) (h1 : ∀ u ∈ news, u.oneCell' = true)
    (h63 : n + m ≤ maxLen) (hbytes : (n + m) * bytes ≤ 140737488355328) (hbase : base ≤ w.heap.size)
    (h : ∀ v' w', w'.ownsRow base e size v' (n + m) (xs ++ news) → w.grownBy w' v.ownBlock → (v'.ownBlock = v.ownBlock ∨ v'.ownBlock = some w.heap.size) → wpList P ops Q rest (a.put o.dst v') w') : wpList P ops Q (o :: rest) a w :=
  wpList_plain hgd fun _ hK => wp_append_any w s x t ho base e i z size bytes ht hi hz hsize hby hzs hsz v n xs hs hown B A m c news hx hr h1 h63 hbytes hbase fun v' w' h2 h3 h4 => hK _ _ (h v' w' h2 h3 h4)
theorem step_append_any {ops : Array Oper} {o : Oper} {a : Act} {K : Act → World → Prop} {Q : Exit → Act → World → Prop} {E : Prop} (hgd : o.guard = none) (s x : Operand) (t : TypeId)
    (ho : o.op = .call { callee := .builtin .append, args := #[s, x], argTypes := #[t, t] })
    (base : Nat) (e : TypeId) (i : TypeInfo) (z : Value) (size bytes : Nat) (ht : P.underlying t = some (.slice e)) (hi : P.info? e = some i) (hz : i.zero = some z)
    (hsize : i.size = size) (hby : i.bytes = bytes) (hzs : z.cells.size = size) (hsz : 0 < size)
    (v : Value) (n : Nat) (xs : List Value) (hs : a.eval s = v) (hown : w.ownsRow base e size v n xs)
    (B : Nat) (A : Option Addr) (m c : Nat) (news : List Value) (hx : a.eval x = .slice A m c) (hr : Reads w B size A m news) (h1 : ∀ u ∈ news, u.oneCell' = true)
    (h63 : n + m ≤ maxLen) (hbytes : (n + m) * bytes ≤ 140737488355328) (hbase : base ≤ w.heap.size)
    (h : ∀ v' w', w'.ownsRow base e size v' (n + m) (xs ++ news) → w.grownBy w' v.ownBlock → (v'.ownBlock = v.ownBlock ∨ v'.ownBlock = some w.heap.size) → K (a.put o.dst v') w') :
    if Region.wanted o (yielded ops a.tmps) = true then Oper.wp P o a w K Q else E := by
  have hw : Region.wanted o (yielded ops a.tmps) = true := by simp [Region.wanted, hgd]
  rw [if_pos hw]
  exact wp_append_any w s x t ho base e i z size bytes ht hi hz hsize hby hzs hsz v n xs hs hown B A m c news hx hr h1 h63 hbytes hbase h
end
/-- The cells of a list of bytes. -/
def bys (l : List UInt8) : List Value := l.map fun b => Value.int .u8 (b.toNat : Int)
theorem bys_length (l : List UInt8) : (bys l).length = l.length := by simp [bys]
theorem bys_append (l l' : List UInt8) : bys (l ++ l') = bys l ++ bys l' := by simp [bys]
theorem bys_get {l : List UInt8} {k : Nat} {b : UInt8} (h : l[k]? = some b) : (bys l)[k]? = some (.int .u8 (b.toNat : Int)) := by simp [bys, h]
theorem bys_one (l : List UInt8) : ∀ u ∈ bys l, u.oneCell' = true := by
  intro u hu
  simp only [bys, List.mem_map] at hu
  obtain ⟨b, _, rfl⟩ := hu
  rfl
/-- A byte of a slice that is read, in the walk's own form. -/
theorem Reads.byte {w : World} {B n k : Nat} {A : Option Addr} {l : List UInt8} (h : Reads w B 1 A n (bys l)) (hk : k < n) :
    ∃ b off u, A = some ⟨b, off, none⟩ ∧ b < B ∧ l[k]? = some u ∧ w.cell? ⟨b, off + k, none⟩ = some (.int .u8 (u.toNat : Int)) := by
  obtain ⟨ad, v0, hA, hb, _, hc0⟩ := h.at_ (k := 0) (by omega)
  obtain ⟨ad', v, hA', _, hx, hc⟩ := h.at_ hk
  have hl : k < l.length := by have := h.1; rw [bys_length] at this; omega
  have hv : v = .int .u8 (l[k].toNat : Int) := by
    have := bys_get (List.getElem?_eq_getElem hl); rw [this] at hx; injection hx with hx; exact hx.symm
  obtain ⟨b, off, spot⟩ := ad
  have hs : spot = none := by simpa [Addr.add] using World.cell?_spot hc0
  have hd : ad' = ⟨b, off, spot⟩ := by rw [hA] at hA'; injection hA' with hA'; exact hA'.symm
  subst hd
  subst hs
  refine ⟨b, off, l[k], hA, hb, List.getElem?_eq_getElem hl, ?_⟩
  have e : (⟨b, off, none⟩ : Addr).add k = ⟨b, off + k, none⟩ := by
    unfold Addr.add
    split <;> simp_all
  rw [← e, hc, hv]
theorem Reads.len {w : World} {B n : Nat} {A : Option Addr} {l : List UInt8} (h : Reads w B 1 A n (bys l)) : l.length = n := by
  have := h.1; rw [bys_length] at this; omega
/-- The value v is a slice of the call's own, of bytes l, in a block from base on ('e': the number of the type uint8). -/
abbrev Owns (w : World) (base : Nat) (e : TypeId) (v : Value) (l : List UInt8) : Prop := w.ownsRow base e 1 v l.length (bys l)
theorem Owns.shape {w : World} {base : Nat} {e : TypeId} {v : Value} {l : List UInt8} (h : Owns w base e v l) :
    ∃ A c, v = .slice A l.length c ∧ l.length ≤ c ∧ c ≤ maxLen ∧ Reads w w.heap.size 1 A l.length (bys l) ∧ (∀ a, A = some a → ∃ g, a = ⟨g, 0, none⟩ ∧ base ≤ g ∧ g < w.heap.size) := by
  have h' := h
  rcases h.2 with ⟨rfl, h0⟩ | ⟨g, cap, cur, rfl, hb, hg, hnc, hcm, _, _⟩
  · rw [h0]
    have hl : l = [] := List.eq_nil_of_length_eq_zero h0
    subst hl
    exact ⟨none, 0, rfl, Nat.le_refl _, by simp, Reads.none_, fun a ha => by cases ha⟩
  · refine ⟨_, cap, rfl, hnc, hcm, Reads.of_own h', fun a ha => ?_⟩
    injection ha with ha
    exact ⟨g, ha.symm, hb, (Array.getElem?_eq_some_iff.1 hg).1⟩
theorem ownsRow_mono {w : World} {base base' : Nat} {e : TypeId} {size n : Nat} {v : Value} {xs : List Value} (h : w.ownsRow base e size v n xs) (hb : base' ≤ base) : w.ownsRow base' e size v n xs := by
  refine ⟨h.1, ?_⟩
  rcases h.2 with h2 | ⟨g, cap, cur, hv, hg, r⟩
  · exact .inl h2
  · exact .inr ⟨g, cap, cur, hv, Nat.le_trans hb hg, r⟩
/-- A row that is owned stays owned while what lies below another number turns not. -/
theorem ownsRow_below {w w' : World} {base B : Nat} {e : TypeId} {size n : Nat} {v : Value} {xs : List Value} (h : w.ownsRow base e size v n xs) (hb : Below B w w') (hB : w.heap.size ≤ B) : w'.ownsRow base e size v n xs := by
  refine ⟨h.1, ?_⟩
  rcases h.2 with h2 | ⟨g, cap, cur, hv, hg, hh, r⟩
  · exact .inl h2
  · refine .inr ⟨g, cap, cur, hv, hg, ?_, r⟩
    rw [hb.block g (Nat.lt_of_lt_of_le (Array.getElem?_eq_some_iff.1 hh).1 hB)]
    exact hh
theorem sizeOf_run {P : Program} {e : TypeId} {i : TypeInfo} (w : World) (hi : P.info? e = some i) : (sizeOf e).run P w = .ok i.size w := by simp [sizeOf, typeInfo, hi, go_sem]
/-- 's[lo:hi]' of a slice of bytes. -/
theorem slice_run {P : Program} {t e : TypeId} {i : TypeInfo} (ht : P.underlying t = some (.slice e)) (hi : P.info? e = some i) (hs : i.size = 1)
    (A : Option Addr) (n c lo hi' : Nat) (k k' : IntKind) (h1 : lo ≤ hi') (h2 : hi' ≤ c) (w : World) :
    (Instr.slice t (.slice A n c) (some (.int k (lo : Int))) (some (.int k' (hi' : Int))) none).run P w = .ok (.slice (if c = lo then A else A.map (·.add lo)) (hi' - lo) (c - lo)) w := by
  have a1 : (0 : Int) ≤ hi' := by omega
  have a2 : (hi' : Int) ≤ c := by omega
  have a3 : (0 : Int) ≤ lo := by omega
  have a4 : (lo : Int) ≤ hi' := by omega
  have hz := sizeOf_run (P := P) (e := e) w hi
  simp [Instr.slice, run_underlying ht, Instr.sliceBounds, Instr.sliceBound, asIntOf, h1, h2, hz, hs, go_sem]
/-- It reads as the part of the list. -/
theorem slice_reads {P : Program} {t e : TypeId} {i : TypeInfo} (ht : P.underlying t = some (.slice e)) (hi : P.info? e = some i) (hs : i.size = 1)
    {A : Option Addr} {n c lo hi' : Nat} (k k' : IntKind) (h1 : lo ≤ hi') (h2 : hi' ≤ n) (h3 : n ≤ c) :
    ∃ A', (∀ w, (Instr.slice t (.slice A n c) (some (.int k (lo : Int))) (some (.int k' (hi' : Int))) none).run P w = .ok (.slice A' (hi' - lo) (c - lo)) w) ∧
      ∀ {w : World} {B : Nat} {l : List UInt8}, Reads w B 1 A n (bys l) → Reads w B 1 A' (hi' - lo) (bys ((l.drop lo).take (hi' - lo))) := by
  refine ⟨_, fun w => slice_run ht hi hs A n c lo hi' k k' h1 (by omega) w, ?_⟩
  intro w B l hr
  have hc := hr.cut (k := lo) (cap := c) (by omega) h3
  simp only [Nat.mul_one] at hc
  refine ⟨by have := hr.1; simp [bys] at this ⊢; omega, fun hn => ?_⟩
  obtain ⟨ad, he, hb, hcell⟩ := hc.2 (by omega)
  refine ⟨ad, he, hb, fun j u hu => hcell j u ?_⟩
  by_cases hj : j < hi' - lo
  · rw [← hu]
    simp only [bys, List.map_take, List.map_drop, List.getElem?_take]
    rw [if_pos hj]
  · rw [List.getElem?_eq_none (by rw [bys_length, List.length_take]; omega)] at hu
    cases hu
/-- 's[:hi]' of a slice of bytes. -/
theorem slice_run0 {P : Program} {t e : TypeId} {i : TypeInfo} (ht : P.underlying t = some (.slice e)) (hi : P.info? e = some i) (hs : i.size = 1)
    (A : Option Addr) (n c hi' : Nat) (k' : IntKind) (h2 : hi' ≤ c) (w : World) :
    (Instr.slice t (.slice A n c) none (some (.int k' (hi' : Int))) none).run P w = .ok (.slice (if c = 0 then A else A.map (·.add 0)) hi' c) w := by
  have a1 : (0 : Int) ≤ hi' := by omega
  have a2 : (hi' : Int) ≤ c := by omega
  have hz := sizeOf_run (P := P) (e := e) w hi
  simp [Instr.slice, run_underlying ht, Instr.sliceBounds, Instr.sliceBound, asIntOf, h2, hz, hs, go_sem]
theorem slice_reads0 {P : Program} {t e : TypeId} {i : TypeInfo} (ht : P.underlying t = some (.slice e)) (hi : P.info? e = some i) (hs : i.size = 1)
    {A : Option Addr} {n c hi' : Nat} (k' : IntKind) (h2 : hi' ≤ n) (h3 : n ≤ c) :
    ∃ A', (∀ w, (Instr.slice t (.slice A n c) none (some (.int k' (hi' : Int))) none).run P w = .ok (.slice A' hi' c) w) ∧
      ∀ {w : World} {B : Nat} {l : List UInt8}, Reads w B 1 A n (bys l) → Reads w B 1 A' hi' (bys (l.take hi')) := by
  refine ⟨_, fun w => slice_run0 ht hi hs A n c hi' k' (by omega) w, ?_⟩
  intro w B l hr
  refine ⟨by have := hr.1; simp [bys] at this ⊢; omega, fun hn => ?_⟩
  obtain ⟨ad, rfl, hb, hcell⟩ := hr.2 (by omega)
  rw [if_neg (by omega)]
  refine ⟨ad.add 0, rfl, by rw [block_of_add]; exact hb, fun j u hu => ?_⟩
  rw [add_of_add, Nat.zero_add]
  refine hcell j u ?_
  by_cases hj : j < hi'
  · rw [← hu]
    simp only [bys, List.map_take, List.getElem?_take]
    rw [if_pos hj]
  · rw [List.getElem?_eq_none (by rw [bys_length, List.length_take]; omega)] at hu
    cases hu
/-- 'string(b)'. -/
theorem string_run {P : Program} {src dst e : TypeId} (hs : P.underlying src = some (.slice e)) (he : P.underlying e = some (.int .u8)) (hd : P.underlying dst = some .string)
    {A : Option Addr} {n c B : Nat} {l : List UInt8} {w : World} (h : Reads w B 1 A n (bys l)) : (convert src dst (.slice A n c)).run P w = .ok (.string ⟨l.toArray⟩) w := by
  have hl := h.len
  subst hl
  rcases A with _ | ad
  · have h0 : l = [] := by
      rcases Nat.eq_zero_or_pos l.length with h0 | h0
      · exact List.eq_nil_of_length_eq_zero h0
      · obtain ⟨ad, hh, _⟩ := h.2 h0
        cases hh
    subst h0
    exact run_convert_bytes_nil (P := P) w src e hs he _ c dst hd
  · refine run_convert_bytes_back (P := P) w src dst e ad c l hs he hd ?_
    intro j hj
    obtain ⟨ad', hA, _, hc⟩ := h.2 (by omega)
    injection hA with hA
    subst hA
    exact hc j _ (bys_get (List.getElem?_eq_getElem hj))
theorem Try.info8 : (Try.prog.info? 5).map (fun i => (i.zero, i.size, i.bytes)) = some (some (.int .u8 0), 1, 1) := by kernel_rfl
theorem take_snoc_get {l : List UInt8} {k : Nat} {u : UInt8} (h : l[k]? = some u) : l.take (k + 1) = l.take k ++ [u] := by
  rw [List.take_add_one, h]; rfl
/-- What the row holds when the first k bytes have been copied. -/
def half (l : List UInt8) (k : Nat) : List UInt8 := l.take k ++ List.replicate (l.length - k) 0
theorem half_length {l : List UInt8} {k : Nat} (h : k ≤ l.length) : (half l k).length = l.length := by
  simp [half]; omega
theorem half_zero (l : List UInt8) : half l 0 = List.replicate l.length 0 := by simp [half]
theorem half_all (l : List UInt8) : half l l.length = l := by simp [half]
theorem half_get {l : List UInt8} {k : Nat} (h : k < l.length) : (half l k)[k]? = some 0 := by
  unfold half
  rw [List.getElem?_append_right (by simp; omega)]
  simp [List.getElem?_replicate]
  omega
theorem half_set {l : List UInt8} {k : Nat} {u : UInt8} (h : l[k]? = some u) : (bys (half l k)).set k (.int .u8 (u.toNat : Int)) = bys (half l (k + 1)) := by
  have hk : k < l.length := by
    rcases Nat.lt_or_ge k l.length with h' | h'
    · exact h'
    · rw [List.getElem?_eq_none h'] at h; cases h
  have e : l.length - k = (l.length - (k + 1)) + 1 := by omega
  unfold half bys
  rw [take_snoc_get h, e, List.replicate_succ]
  simp only [List.map_append, List.map_cons, List.append_assoc, List.cons_append, List.nil_append]
  rw [List.set_append_right _ _ (by simp; omega)]
  have : k - (List.map (fun b : UInt8 => Value.int .u8 (b.toNat : Int)) (l.take k)).length = 0 := by simp; omega
  rw [this]
  rfl
theorem bys_zeros (n : Nat) : bys (List.replicate n 0) = (madeCells (Value.int .u8 0).cells (n * 1)).toList := by
  rw [Nat.mul_one]
  have : (Value.int .u8 0).cells = #[Value.int .u8 0] := rfl
  rw [this, toList_madeCells_one]
  simp [bys]
set_option maxHeartbeats 400000 in
theorem toByteS_any (A : Option Addr) (c : Nat) (l : List UInt8) (w : World) (h : Reads w w.heap.size 1 A l.length (bys l)) (hn : l.length ≤ 140737488351232) :
    Calls Try.prog 71 #[.slice A l.length c] w fun e w' => ∃ v, e = .returned v ∧ Owns w' w.heap.size 5 v l ∧ Below w.heap.size w w' := by
  obtain ⟨i0, hi0, hz0, hz1, hz2⟩ := info_parts Try.info8
  go_enter Try.func71, Try.ntmps71
  go_wp2_with (at_make; refine wpList_make_full _ rfl _ _ _ rfl w.heap.size 5 i0 _ 1 Try.underlying22 hi0 hz0 hz1 _ _ _ _ l.length rfl rfl rfl rfl (by rw [hz2]; omega) (by simp only [maxLen]; omega) (Nat.le_refl _) ?_; intro w1 hown1 hg1)
  have hb1 : Below w.heap.size w w1 := (Below.refl _ _).grown hg1 (Nat.le_refl _) (fun _ hk => by cases hk)
  have hh : (madeCells (Value.int .u8 0).cells (l.length * 1)).toList = bys (half l 0) := by rw [half_zero, bys_zeros]
  rw [hh] at hown1
  clear hh
  go_loopw [4] (fun i wr => ∃ k : Nat, k ≤ l.length ∧ i = .int .i64 k ∧ Below w.heap.size w wr ∧ wr.ownsRow w.heap.size 5 1 (.slice (some ⟨w.heap.size, 0, none⟩) l.length l.length) l.length (bys (half l k))) (fun i _ => l.length - (intOf i).toNat)
  case atStart => exact ⟨0, by omega, rfl, hb1, hown1⟩
  case round =>
    obtain ⟨k, hk, rfl, hb, hown⟩ := hrel
    clear hown1 hg1 hb1
    by_cases hlt : k < l.length
    · obtain ⟨b, off, u, rfl, hbl, hu, hcell⟩ := (h.below hb).byte hlt
      have hdst : wr.cell? ⟨w.heap.size, k, none⟩ = some (.int .u8 0) := by
        rw [hown.cellAt k (by omega), bys_get (half_get hlt)]; rfl
      have hfr := hown.frozenAt k
      go_wp2
      go_roundw
      case rel =>
        have hst := hown.stored k (.int .u8 (u.toNat : Int))
        rw [half_set hu] at hst
        exact ⟨k + 1, by omega, by go_num, hb.setCell (by exact Nat.le_refl _) _, hst.1⟩
      case measure => simp [intOf]; omega
    · have he : k = l.length := by omega
      subst he
      rw [half_all] at hown
      go_wp2
      go_ret
      exact ⟨_, rfl, hown, hb⟩
set_option maxHeartbeats 400000 in
/-- Two slices that hold the same bytes are equal. -/
theorem eqByteS_same (A B : Option Addr) (c d : Nat) (l : List UInt8) (w : World) (h : Reads w w.heap.size 1 A l.length (bys l)) (h' : Reads w w.heap.size 1 B l.length (bys l)) (hn : l.length ≤ 140737488351232) :
    Calls Try.prog 68 #[.slice A l.length c, .slice B l.length d] w fun e w' => e = .returned (.bool true) ∧ ∃ n, w' = w.drewN n := by
  have hnn : ((l.length : Int) != (l.length : Int)) = false := by simp
  go_enter Try.func68, Try.ntmps68
  go_wp2
  go_loopw [5] (fun i wr => ∃ k : Nat, k ≤ l.length ∧ i = .int .i64 k ∧ ∃ n, wr = w.drewN n) (fun i _ => l.length - (intOf i).toNat)
  case atStart => exact ⟨0, by omega, rfl, 0, rfl⟩
  case round =>
    obtain ⟨k, hk, rfl, n, rfl⟩ := hrel
    by_cases hlt : k < l.length
    · obtain ⟨b, off, u, rfl, hbl, hu, hcell⟩ := h.byte hlt
      obtain ⟨b', off', u', rfl, hbl', hu', hcell'⟩ := h'.byte hlt
      have huu : u' = u := by rw [hu] at hu'; injection hu' with hu'; exact hu'.symm
      subst huu
      clear hu hu'
      have hne : (((u'.toNat : Nat) : Int) != ((u'.toNat : Nat) : Int)) = false := by simp
      have h0 : (0 : Int) ≤ (k : Int) := by omega
      have hki : (k : Int) < (l.length : Int) := by omega
      go_wp2
      go_quiet (fail)
      go_wp2
      go_roundw
      case rel => exact ⟨k + 1, by omega, by go_num, _, rfl⟩
      case measure => simp [intOf]; omega
    · have he : k = l.length := by omega
      subst he
      go_wp2
      go_ret
      exact ⟨rfl, n, rfl⟩
/-- The marks k, k+1, .. -/
def marks (k n : Nat) : List UInt8 := (List.range n).map fun j => UInt8.ofNat (k + j)
theorem marks_length (k n : Nat) : (marks k n).length = n := by simp [marks]
theorem marks_succ (k n : Nat) : marks k (n + 1) = marks k n ++ [UInt8.ofNat (k + n)] := by simp [marks, List.range_succ]
theorem marks_get {k n j : Nat} (h : j < n) : (marks k n)[j]? = some (UInt8.ofNat (k + j)) := by simp [marks, h]
def marked (k : Nat) (l : List UInt8) (j : Nat) : List UInt8 := marks k j ++ l.drop j
theorem mark_cell (k j : Nat) : (((UInt8.ofNat (k + j)).toNat : Nat) : Int) = ((k : Int) + (j : Int)) % 256 := by
  simp
theorem drop_cons {l : List UInt8} {j : Nat} (h : j < l.length) : l.drop j = l[j] :: l.drop (j + 1) := List.drop_eq_getElem_cons h
theorem marked_get {k j : Nat} {l : List UInt8} (h : j < l.length) : (bys (marked k l j))[j]? = some (.int .u8 ((l[j]).toNat : Int)) := by
  apply bys_get
  unfold marked
  rw [List.getElem?_append_right (by rw [marks_length]; omega), marks_length]
  simp [h]
theorem marked_set {k j : Nat} {l : List UInt8} (h : j < l.length) : (bys (marked k l j)).set j (Value.int .u8 (((k : Int) + (j : Int)) % 256)) = bys (marked k l (j + 1)) := by
  unfold marked
  rw [drop_cons h, marks_succ, ← mark_cell]
  unfold bys
  simp only [List.map_append, List.map_cons, List.append_assoc, List.cons_append, List.nil_append]
  rw [List.set_append_right _ _ (by simp [marks_length])]
  have : j - (List.map (fun b : UInt8 => Value.int .u8 (b.toNat : Int)) (marks k j)).length = 0 := by simp [marks_length]
  rw [this]
  rfl
theorem marked_zero (k : Nat) (l : List UInt8) : marked k l 0 = l := by simp [marked, marks]
theorem marked_all (k : Nat) (l : List UInt8) : marked k l l.length = marks k l.length := by simp [marked]
set_option maxHeartbeats 400000 in
/-- Marks are written over all the bytes of a row of the caller's own. -/
theorem markByteS_row (g c k0 : Nat) (l : List UInt8) (w : World) (base : Nat) (h : Owns w base 5 (.slice (some ⟨g, 0, none⟩) l.length c) l) (hn : l.length ≤ 140737488351232) (hk : k0 ≤ 140737488351232) :
    Calls Try.prog 69 #[.slice (some ⟨g, 0, none⟩) l.length c, .int .i64 k0] w fun e w' => e = .returned (.int .i64 (k0 + l.length : Nat)) ∧ Owns w' base 5 (.slice (some ⟨g, 0, none⟩) l.length c) (marks k0 l.length) ∧ w.grownBy w' (some g) := by
  go_enter Try.func69, Try.ntmps69
  go_wp2
  go_loopw [1, 5] (fun q i wr => ∃ k : Nat, k ≤ l.length ∧ i = .int .i64 k ∧ q = .int .i64 (k0 + k : Nat) ∧ w.grownBy wr (some g) ∧ wr.ownsRow base 5 1 (.slice (some ⟨g, 0, none⟩) l.length c) l.length (bys (marked k0 l k))) (fun _ i _ => l.length - (intOf i).toNat)
  case atStart => exact ⟨0, by omega, rfl, by simp, World.grownBy.refl _ _, by rw [marked_zero]; exact h⟩
  case round =>
    obtain ⟨k, hk, rfl, rfl, hg, hown⟩ := hrel
    clear h
    by_cases hlt : k < l.length
    · have hdst : wr.cell? ⟨g, k, none⟩ = some (.int .u8 ((l[k]).toNat : Int)) := (hown.cellAt k (by omega)).trans (marked_get hlt)
      have hfr := hown.frozenAt k
      go_wp2
      go_roundw
      case rel =>
        have hst := hown.stored k (.int .u8 (((k0 : Int) + (k : Int)) % 256))
        rw [marked_set hlt] at hst
        exact ⟨k + 1, by omega, by go_num, by go_num, hg.trans hst.2, hst.1⟩
      case measure => simp [intOf]; omega
    · have he : k = l.length := by omega
      subst he
      rw [marked_all] at hown
      go_wp2
      go_ret
      exact ⟨by go_num, by unfold Owns; rw [marks_length]; exact hown, hg⟩
set_option maxHeartbeats 400000 in
theorem markByteS_any (v : Value) (k0 : Nat) (l : List UInt8) (w : World) (base : Nat) (h : Owns w base 5 v l) (hn : l.length ≤ 140737488351232) (hk : k0 ≤ 140737488351232) :
    Calls Try.prog 69 #[v, .int .i64 k0] w fun e w' => e = .returned (.int .i64 (k0 + l.length : Nat)) ∧ Owns w' base 5 v (marks k0 l.length) ∧ w.grownBy w' v.ownBlock := by
  rcases h.2 with ⟨rfl, h0⟩ | ⟨g, cap, cur, rfl, _⟩
  · have hl : l = [] := List.eq_nil_of_length_eq_zero h0
    subst hl
    clear h0
    have hown : Owns w base 5 (.slice none 0 0) (marks k0 0) := by simpa [Owns, marks] using h
    clear h
    go_enter Try.func69, Try.ntmps69
    go_wp2
    refine wp_loop_rounds 1 ?_
    rw [rounds_succ]
    go_wp2
    go_ret
    exact ⟨by simp, hown, World.grownBy.refl _ _⟩
  · exact markByteS_row g cap k0 l w base h hn hk
set_option maxHeartbeats 400000 in
/-- Marks that lie there are found. -/
theorem heldByteS_any (A : Option Addr) (c k0 n : Nat) (w : World) (h : Reads w w.heap.size 1 A n (bys (marks k0 n))) (hn : n ≤ 140737488351232) (hk : k0 ≤ 140737488351232) :
    Calls Try.prog 70 #[.slice A n c, .int .i64 k0] w fun e w' => e = .returned (.int .i64 (k0 + n : Nat)) ∧ w = w' := by
  go_enter Try.func70, Try.ntmps70
  go_wp2
  go_loop [1, 5] (fun q i => ∃ k : Nat, k ≤ n ∧ i = .int .i64 k ∧ q = .int .i64 (k0 + k : Nat)) (fun _ i => n - (intOf i).toNat)
  case atStart => exact ⟨0, by omega, rfl, by simp⟩
  case round =>
    obtain ⟨k, hk, rfl, rfl⟩ := hrel
    by_cases hlt : k < n
    · obtain ⟨b, off, u, rfl, hbl, hu, hcell⟩ := h.byte hlt
      rw [marks_get hlt] at hu
      injection hu with hu
      subst hu
      rw [mark_cell] at hcell
      have hne : (((k0 : Int) + (k : Int)) % 256 != ((k0 : Int) + (k : Int)) % 256) = false := by simp
      go_wp2
      go_round
      case rel => exact ⟨k + 1, by omega, by go_num, by go_num⟩
      case measure => simp [intOf]; omega
    · have he : k = n := by omega
      subst he
      go_wp2
      go_ret
      exact ⟨by go_num, rfl⟩
/-- A slice of integers that came in: it is nil; or it leads to a row of 'cap' cells, the numbers 'zs' (the first 'len' are its elements, the rest its spare room), each fitting its kind. -/
def IsRow (k : IntKind) (w : World) (a : Option Addr) (len cap : Nat) (zs : List Int) : Prop :=
  (a = none ∧ len = 0 ∧ cap = 0 ∧ zs = []) ∨
  ∃ x, a = some x ∧ len ≤ cap ∧ cap ≤ maxLen ∧ zs.length = cap ∧ (∀ i, i < zs.length → w.cell? (x.add i) = some (.int k (zs.getD i 0))) ∧ ∀ n ∈ zs, (Lit.int k n).wf = true
theorem u8_of_wf {z : Int} (h : (Lit.int .u8 z).wf = true) : (((UInt8.ofNat z.toNat).toNat : Nat) : Int) = z := by
  have h' : 0 ≤ z ∧ z < 256 := by
    have h1 := of_decide_eq_true (by simpa [Lit.wf] using h : decide (IntKind.u8.min ≤ z ∧ z ≤ IntKind.u8.max) = true)
    have e1 : IntKind.u8.min = 0 := by decide
    have e2 : IntKind.u8.max = 255 := by decide
    omega
  simp
  omega
theorem IsRow.reads {w : World} {a : Option Addr} {len cap : Nat} {zs : List Int} (h : IsRow .u8 w a len cap zs) :
    ∃ l : List UInt8, l.length = len ∧ len ≤ cap ∧ Reads w w.heap.size 1 a l.length (bys l) := by
  rcases h with ⟨rfl, rfl, rfl, rfl⟩ | ⟨x, rfl, hl, hm, hz, hcell, hwz⟩
  · exact ⟨[], rfl, Nat.le_refl _, Reads.none_⟩
  · refine ⟨(zs.take len).map fun z => UInt8.ofNat z.toNat, by simp; omega, hl, ⟨by simp [bys], fun hn => ⟨x, rfl, ?_, ?_⟩⟩⟩
    · have h0 := hcell 0 (by simp at hn; omega)
      have := World.block_lt_of_cell? w _ h0
      rwa [block_of_add] at this
    · intro j u hu
      simp only [bys, List.map_map, List.getElem?_map, List.getElem?_take] at hu
      split at hu
      · rename_i hj
        have hjz : j < zs.length := by omega
        rw [List.getElem?_eq_getElem hjz] at hu
        simp only [Option.map_some, Function.comp] at hu
        injection hu with hu
        rw [u8_of_wf (hwz _ (List.getElem_mem hjz))] at hu
        subst hu
        rw [hcell j hjz, List.getD_eq_getElem?_getD, List.getElem?_eq_getElem hjz]
        rfl
      · cases hu
/-- A row that is owned reads, at whatever later world it is still owned. -/
theorem Owns.reads {w : World} {base : Nat} {e : TypeId} {A : Option Addr} {c : Nat} {l : List UInt8} (h : Owns w base e (.slice A l.length c) l) : Reads w w.heap.size 1 A l.length (bys l) := Reads.of_own h
theorem Owns.keep {w w' : World} {base : Nat} {e : TypeId} {v : Value} {l : List UInt8} (h : Owns w base e v l) (hb : Below w.heap.size w w') : Owns w' base e v l := ownsRow_below h hb (Nat.le_refl _)
theorem Owns.drewN {w : World} {base : Nat} {e : TypeId} {v : Value} {l : List UInt8} (h : Owns w base e v l) (n : Nat) : Owns (w.drewN n) base e v l := h
/-- It stays owned while another row is written that lies elsewhere. -/
theorem Owns.apart {w w' : World} {base base' : Nat} {e e' : TypeId} {v v' : Value} {l : List UInt8} {n' : Nat} {xs : List Value} {size : Nat} (h : Owns w base e v l) (_h' : w.ownsRow base' e' size v' n' xs) (hg : w.grownBy w' v'.ownBlock)
    (hne : ∀ k k', v.ownBlock = some k → v'.ownBlock = some k' → k ≠ k') : Owns w' base e v l := by
  refine World.ownsRow.kept h hg ?_
  rcases hv : v.ownBlock with _ | k
  · exact .inl rfl
  · rcases hv' : v'.ownBlock with _ | k'
    · exact .inr (by simp)
    · exact .inr (by simpa using hne k k' hv hv')
/-- Of two rows the later one lies in a later block. -/
theorem own_apart {w w' : World} {base base' : Nat} {e e' : TypeId} {v v' : Value} {l l' : List UInt8} (h : Owns w base e v l) (h' : Owns w' base' e' v' l') (hb : w.heap.size ≤ base') :
    ∀ k k', v.ownBlock = some k → v'.ownBlock = some k' → k ≠ k' := by
  intro k k' hk hk'
  have h1 := (h.lt k hk).2
  have h2 := (h'.lt k' hk').1
  omega
theorem own_apart' {w w' : World} {base base' : Nat} {e e' : TypeId} {v v' : Value} {l l' : List UInt8} (h : Owns w base e v l) (h' : Owns w' base' e' v' l') (hb : w.heap.size ≤ base') :
    ∀ k k', v'.ownBlock = some k → v.ownBlock = some k' → k ≠ k' := fun k k' hk hk' => (own_apart h h' hb k' k hk' hk).symm
theorem own_from {w w0 : World} {base : Nat} {e : TypeId} {v : Value} {l : List UInt8} (h : Owns w base e v l) (hb : w0.heap.size ≤ base) : ∀ k, v.ownBlock = some k → w0.heap.size ≤ k := fun k hk => Nat.le_trans hb (h.lt k hk).1
/-- Marks read. -/
theorem marks_read {w : World} {base : Nat} {e : TypeId} {A : Option Addr} {c k n : Nat} (h : Owns w base e (.slice A n c) (marks k n)) : Reads w w.heap.size 1 A n (bys (marks k n)) := by
  unfold Owns at h
  rw [marks_length] at h
  exact Reads.of_own h
theorem belowD {B : Nat} {a w : World} (h : Below B a w) (n : Nat) : Below B a (w.drewN n) := ⟨h.os, h.tape, h.output, h.size, h.block⟩
end Go.Proofs.Ytaigdioimldknaa
namespace Go.Proofs.Ytaigdioimldknaa
open Go.RowKit
set_option linter.unusedVariables false
/-- 'at_ w B cs x': the cells cs hold x, what they lead to lies below block B. 'own w base cs x fp': they hold x, and what they lead to are whole blocks of the call's own, from base on: the blocks fp. 'mark k x': x, marked from k on; 'cnt x': how many marks. -/
structure Rep (α : Type) where
  size : Nat
  at_ : World → Nat → List Value → α → Prop
  own : World → Nat → List Value → α → List Nat → Prop
  mark : Nat → α → α
  cnt : α → Nat
  len : ∀ {w : World} {B : Nat} {cs : List Value} {x : α}, at_ w B cs x → cs.length = size
  keep : ∀ {w w' : World} {B : Nat} {cs : List Value} {x : α}, at_ w B cs x → (∀ p : Addr, p.block < B → w'.cell? p = w.cell? p) → at_ w' B cs x
  more : ∀ {w : World} {B B' : Nat} {cs : List Value} {x : α}, at_ w B cs x → B ≤ B' → at_ w B' cs x
  reads : ∀ {w : World} {base : Nat} {cs : List Value} {x : α} {fp : List Nat}, own w base cs x fp → at_ w w.heap.size cs x
  kept : ∀ {w w' : World} {base : Nat} {cs : List Value} {x : α} {fp : List Nat}, own w base cs x fp → (∀ g, g ∈ fp → w'.heap[g]? = w.heap[g]?) → own w' base cs x fp
  low : ∀ {w : World} {base base' : Nat} {cs : List Value} {x : α} {fp : List Nat}, own w base cs x fp → base' ≤ base → own w base' cs x fp
  lt : ∀ {w : World} {base : Nat} {cs : List Value} {x : α} {fp : List Nat}, own w base cs x fp → ∀ g, g ∈ fp → base ≤ g ∧ g < w.heap.size
  nodup : ∀ {w : World} {base : Nat} {cs : List Value} {x : α} {fp : List Nat}, own w base cs x fp → fp.Nodup
namespace Rep
variable {α β : Type}
/-- A type whose values are single cells without memory of their own. -/
def leaf (f : α → Value) (m : Nat → α → α) : Rep α where
  size := 1
  at_ := fun _ _ cs x => cs = [f x]
  own := fun _ _ cs x fp => cs = [f x] ∧ fp = []
  mark := m
  cnt := fun _ => 1
  len := fun h => by rw [h]; rfl
  keep := fun h _ => h
  more := fun h _ => h
  reads := fun h => h.1
  kept := fun h _ => h
  low := fun h _ => h
  lt := fun h g hg => by rw [h.2] at hg; cases hg
  nodup := fun h => by rw [h.2]; exact List.nodup_nil
def int : Rep Int := leaf (fun n => .int .i64 n) (fun k _ => (k : Int))
def bool : Rep Bool := leaf (fun b => .bool b) (fun k _ => k % 3 == 0)
theorem owned_reads {w : World} {base : Nat} {e : TypeId} {v : Value} {l : List UInt8} (h : Owns w base e v l) : ∃ A c, v = .slice A l.length c ∧ l.length ≤ c ∧ c ≤ maxLen ∧ Reads w w.heap.size 1 A l.length (bys l) := by
  obtain ⟨A, c, hv, hc, hm, hr, _⟩ := h.shape
  exact ⟨A, c, hv, hc, hm, hr⟩
theorem ownsRow_block {w w' : World} {base : Nat} {e : TypeId} {size n : Nat} {v : Value} {xs : List Value} (h : w.ownsRow base e size v n xs) (hb : ∀ g, g ∈ v.ownBlock.toList → w'.heap[g]? = w.heap[g]?) : w'.ownsRow base e size v n xs := by
  refine ⟨h.1, ?_⟩
  rcases h.2 with h2 | ⟨g, cap, cur, hv, hg, hh, r⟩
  · exact .inl h2
  · refine .inr ⟨g, cap, cur, hv, hg, ?_, r⟩
    rw [hb g (by rw [hv]; simp [Value.ownBlock])]
    exact hh
theorem nodup_toList (o : Option Nat) : o.toList.Nodup := by cases o <;> simp
def bytes (e : TypeId) : Rep (List UInt8) where
  size := 1
  at_ := fun w B cs l => ∃ A c, cs = [.slice A l.length c] ∧ (l.length ≤ c ∧ c ≤ maxLen) ∧ Reads w B 1 A l.length (bys l)
  own := fun w base cs l fp => ∃ v, cs = [v] ∧ Owns w base e v l ∧ fp = v.ownBlock.toList
  mark := fun k l => marks k l.length
  cnt := fun l => l.length
  len := fun ⟨_, _, h, _⟩ => by rw [h]; rfl
  keep := fun ⟨A, c, h, hc, hr⟩ hk => ⟨A, c, h, hc, hr.keep hk⟩
  more := fun ⟨A, c, h, hc, hr⟩ hB => ⟨A, c, h, hc, hr.more hB⟩
  reads := fun ⟨v, h, ho, _⟩ => by
    obtain ⟨A, c, rfl, hc, hm, hr⟩ := owned_reads ho
    exact ⟨A, c, h, ⟨hc, hm⟩, hr⟩
  kept := fun ⟨v, h, ho, hf⟩ hb => ⟨v, h, ownsRow_block ho (fun g hg => hb g (by rw [hf]; exact hg)), hf⟩
  low := fun ⟨v, h, ho, hf⟩ hb => ⟨v, h, ownsRow_mono ho hb, hf⟩
  lt := fun ⟨v, h, ho, hf⟩ g hg => by
    rw [hf] at hg
    exact ho.lt g (by simpa using hg)
  nodup := fun ⟨v, h, ho, hf⟩ => by rw [hf]; exact nodup_toList _
def pair (R : Rep α) (S : Rep β) : Rep (α × β) where
  size := R.size + S.size
  at_ := fun w B cs x => R.at_ w B (cs.take R.size) x.1 ∧ S.at_ w B (cs.drop R.size) x.2
  own := fun w base cs x fp => ∃ f g, R.own w base (cs.take R.size) x.1 f ∧ S.own w base (cs.drop R.size) x.2 g ∧ fp = f ++ g ∧ fp.Nodup
  mark := fun k x => (R.mark k x.1, S.mark (k + R.cnt x.1) x.2)
  cnt := fun x => R.cnt x.1 + S.cnt x.2
  len := fun {w B cs x} h => by
    have h1 := R.len h.1
    have h2 := S.len h.2
    rw [List.length_take] at h1
    rw [List.length_drop] at h2
    omega
  keep := fun h hk => ⟨R.keep h.1 hk, S.keep h.2 hk⟩
  more := fun h hk => ⟨R.more h.1 hk, S.more h.2 hk⟩
  reads := fun ⟨f, g, h1, h2, _⟩ => ⟨R.reads h1, S.reads h2⟩
  kept := fun ⟨f, g, h1, h2, hf, hn⟩ hb => ⟨f, g, R.kept h1 (fun a ha => hb a (by rw [hf]; simp [ha])), S.kept h2 (fun a ha => hb a (by rw [hf]; simp [ha])), hf, hn⟩
  low := fun ⟨f, g, h1, h2, hf⟩ hb => ⟨f, g, R.low h1 hb, S.low h2 hb, hf⟩
  lt := fun ⟨f, g, h1, h2, hf, _⟩ a ha => by
    rw [hf, List.mem_append] at ha
    rcases ha with ha | ha
    · exact R.lt h1 a ha
    · exact S.lt h2 a ha
  nodup := fun ⟨_, _, _, _, _, hn⟩ => hn
/-- A structure, as what it is made of. -/
def iso (R : Rep α) (g : β → α) (f : α → β) : Rep β where
  size := R.size
  at_ := fun w B cs y => R.at_ w B cs (g y)
  own := fun w base cs y fp => R.own w base cs (g y) fp
  mark := fun k y => f (R.mark k (g y))
  cnt := fun y => R.cnt (g y)
  len := fun h => R.len h
  keep := fun h hk => R.keep h hk
  more := fun h hk => R.more h hk
  reads := fun h => R.reads h
  kept := fun h hb => R.kept h hb
  low := fun h hb => R.low h hb
  lt := fun h => R.lt h
  nodup := fun h => R.nodup h
/-- The i-th element's cells. -/
def seg (size i : Nat) (cells : List Value) : List Value := (cells.drop (i * size)).take size
theorem seg_get {size i j : Nat} {cells : List Value} (hj : j < size) : (seg size i cells)[j]? = cells[i * size + j]? := by
  unfold seg
  rw [List.getElem?_take, if_pos hj, List.getElem?_drop]
theorem seg_length {size i n : Nat} {cells : List Value} (h : cells.length = n * size) (hi : i < n) : (seg size i cells).length = size := by
  unfold seg
  rw [List.length_take, List.length_drop, h]
  have : (i + 1) * size ≤ n * size := Nat.mul_le_mul_right _ hi
  rw [Nat.add_mul] at this
  omega
theorem seg_ext {size i n : Nat} {cells c : List Value} (h : cells.length = n * size) (hi : i < n) (hc : c.length = size) (hj : ∀ j, j < size → cells[i * size + j]? = c[j]?) : seg size i cells = c := by
  apply List.ext_getElem?
  intro j
  by_cases hlt : j < size
  · rw [seg_get hlt, hj j hlt]
  · rw [List.getElem?_eq_none (by rw [seg_length h hi]; omega), List.getElem?_eq_none (by omega)]
theorem seg_other_of {size i k : Nat} {cells cells' : List Value} (hk : k ≠ i) (hj : ∀ j, ¬ (i * size ≤ j ∧ j < (i + 1) * size) → cells'[j]? = cells[j]?) : seg size k cells' = seg size k cells := by
  apply List.ext_getElem?
  intro j
  by_cases hlt : j < size
  · rw [seg_get hlt, seg_get hlt]
    refine hj _ ?_
    rintro ⟨h1, h2⟩
    rcases Nat.lt_or_gt_of_ne hk with h | h
    · have h3 : (k + 1) * size ≤ i * size := Nat.mul_le_mul_right size h
      rw [Nat.add_mul, Nat.one_mul] at h3
      omega
    · have h3 : (i + 1) * size ≤ k * size := Nat.mul_le_mul_right size h
      omega
  · rw [List.getElem?_eq_none (by unfold seg; rw [List.length_take]; omega), List.getElem?_eq_none (by unfold seg; rw [List.length_take]; omega)]
/-- The slice '.slice A n c' holds the data xs. -/
def RowsAt (R : Rep α) (w : World) (B : Nat) (A : Option Addr) (n : Nat) (xs : List α) : Prop :=
  xs.length = n ∧ ∃ cells : List Value, Reads w B R.size A n cells ∧ ∀ i x, xs[i]? = some x → R.at_ w B (seg R.size i cells) x
/-- The slice value v holds the data xs; it and what it leads to are whole blocks of the call's own: the blocks fp. -/
def OwnRows (R : Rep α) (e : TypeId) (w : World) (base : Nat) (v : Value) (xs : List α) (fp : List Nat) : Prop :=
  ∃ (cells : List Value) (fps : List (List Nat)), w.ownsRow base e R.size v xs.length cells ∧ fps.length = xs.length ∧ (∀ (i : Nat) (x : α) (f : List Nat), xs[i]? = some x → fps[i]? = some f → R.own w base (seg R.size i cells) x f) ∧ fp = v.ownBlock.toList ++ fps.flatten ∧ fp.Nodup
theorem RowsAt.keep {R : Rep α} {w w' : World} {B n : Nat} {A : Option Addr} {xs : List α} (h : RowsAt R w B A n xs) (hk : ∀ p : Addr, p.block < B → w'.cell? p = w.cell? p) : RowsAt R w' B A n xs := by
  obtain ⟨hl, cells, hr, he⟩ := h
  exact ⟨hl, cells, hr.keep hk, fun i x hx => R.keep (he i x hx) hk⟩
theorem RowsAt.more {R : Rep α} {w : World} {B B' n : Nat} {A : Option Addr} {xs : List α} (h : RowsAt R w B A n xs) (hB : B ≤ B') : RowsAt R w B' A n xs := by
  obtain ⟨hl, cells, hr, he⟩ := h
  exact ⟨hl, cells, hr.more hB, fun i x hx => R.more (he i x hx) hB⟩
theorem mem_flatten_of {fps : List (List Nat)} {i g : Nat} {f : List Nat} (h : fps[i]? = some f) (hg : g ∈ f) : g ∈ fps.flatten := List.mem_flatten.2 ⟨f, List.mem_of_getElem? h, hg⟩
theorem OwnRows.kept {R : Rep α} {e : TypeId} {w w' : World} {base : Nat} {v : Value} {xs : List α} {fp : List Nat} (h : OwnRows R e w base v xs fp) (hb : ∀ g, g ∈ fp → w'.heap[g]? = w.heap[g]?) : OwnRows R e w' base v xs fp := by
  obtain ⟨cells, fps, ho, hl, he, hf, hn⟩ := h
  refine ⟨cells, fps, ownsRow_block ho (fun g hg => hb g (by rw [hf]; exact List.mem_append_left _ hg)), hl, fun i x f hx hfi => ?_, hf, hn⟩
  exact R.kept (he i x f hx hfi) fun g hg => hb g (by rw [hf]; exact List.mem_append_right _ (mem_flatten_of hfi hg))
theorem OwnRows.reads {R : Rep α} {e : TypeId} {w : World} {base : Nat} {v : Value} {xs : List α} {fp : List Nat} (h : OwnRows R e w base v xs fp) : ∃ A c, v = .slice A xs.length c ∧ xs.length ≤ c ∧ c ≤ maxLen ∧ RowsAt R w w.heap.size A xs.length xs := by
  obtain ⟨cells, fps, ho, hl, he, hf, hn⟩ := h
  have hat : ∀ i x, xs[i]? = some x → R.at_ w w.heap.size (seg R.size i cells) x := fun i x hx => by
    have hi : i < xs.length := (List.getElem?_eq_some_iff.1 hx).1
    exact R.reads (he i x _ hx (List.getElem?_eq_getElem (by omega)))
  have ho' := ho
  rcases ho.2 with ⟨rfl, h0⟩ | ⟨g, cap, cur, rfl, hb, hg, hnc, hcm, _, _⟩
  · refine ⟨none, 0, by rw [h0], by omega, by simp [maxLen], rfl, cells, ?_, hat⟩
    have hc0 : cells = [] := List.eq_nil_of_length_eq_zero (by rw [ho.1, h0, Nat.zero_mul])
    subst hc0
    rw [h0]
    exact ⟨by simp, fun h => absurd h (by omega)⟩
  · exact ⟨_, cap, rfl, hnc, hcm, rfl, cells, Reads.of_own ho', hat⟩
theorem OwnRows.low {R : Rep α} {e : TypeId} {w : World} {base base' : Nat} {v : Value} {xs : List α} {fp : List Nat} (h : OwnRows R e w base v xs fp) (hb : base' ≤ base) : OwnRows R e w base' v xs fp := by
  obtain ⟨cells, fps, ho, hl, he, hf⟩ := h
  exact ⟨cells, fps, ownsRow_mono ho hb, hl, fun i x f hx hfi => R.low (he i x f hx hfi) hb, hf⟩
theorem OwnRows.lt {R : Rep α} {e : TypeId} {w : World} {base : Nat} {v : Value} {xs : List α} {fp : List Nat} (h : OwnRows R e w base v xs fp) : ∀ g, g ∈ fp → base ≤ g ∧ g < w.heap.size := by
  obtain ⟨cells, fps, ho, hl, he, hf, hn⟩ := h
  intro g hg
  rw [hf, List.mem_append] at hg
  rcases hg with hg | hg
  · exact ho.lt g (by simpa using hg)
  · obtain ⟨f, hfm, hgf⟩ := List.mem_flatten.1 hg
    obtain ⟨i, hi, rfl⟩ := List.mem_iff_getElem.1 hfm
    exact R.lt (he i _ _ (List.getElem?_eq_getElem (by omega)) (List.getElem?_eq_getElem hi)) g hgf
/-- The marks of a list, element by element. -/
def mkL (R : Rep α) : Nat → List α → List α
  | _, [] => []
  | k, x :: xs => R.mark k x :: mkL R (k + R.cnt x) xs
def cntL (R : Rep α) : List α → Nat
  | [] => 0
  | x :: xs => R.cnt x + cntL R xs
theorem take_get {i : Nat} {xs : List α} {x : α} (h : xs[i]? = some x) : xs.take (i + 1) = xs.take i ++ [x] := by rw [List.take_add_one, h]; rfl
def rows (e : TypeId) (R : Rep α) : Rep (List α) where
  size := 1
  at_ := fun w B cs xs => ∃ A c, cs = [.slice A xs.length c] ∧ (xs.length ≤ c ∧ c ≤ maxLen) ∧ RowsAt R w B A xs.length xs
  own := fun w base cs xs fp => ∃ v, cs = [v] ∧ OwnRows R e w base v xs fp
  mark := mkL R
  cnt := cntL R
  len := fun ⟨_, _, h, _⟩ => by rw [h]; rfl
  keep := fun ⟨A, c, h, hc, hr⟩ hk => ⟨A, c, h, hc, hr.keep hk⟩
  more := fun ⟨A, c, h, hc, hr⟩ hB => ⟨A, c, h, hc, hr.more hB⟩
  reads := fun ⟨v, h, ho⟩ => by
    obtain ⟨A, c, rfl, hc, hm, hr⟩ := ho.reads
    exact ⟨A, c, h, ⟨hc, hm⟩, hr⟩
  kept := fun ⟨v, h, ho⟩ hb => ⟨v, h, ho.kept hb⟩
  low := fun ⟨v, h, ho⟩ hb => ⟨v, h, ho.low hb⟩
  lt := fun ⟨v, h, ho⟩ => ho.lt
  nodup := fun ⟨v, h, ho⟩ => by obtain ⟨_, _, _, _, _, _, hn⟩ := ho; exact hn
section
variable {R : Rep α} {w w' : World} {B base : Nat} {cs : List Value} {x : α} {fp : List Nat}
theorem at_below (h : R.at_ w B cs x) (hb : Below B w w') : R.at_ w' B cs x := R.keep h fun _ hp => hb.cell hp
theorem own_below (h : R.own w base cs x fp) (hb : Below w.heap.size w w') : R.own w' base cs x fp := R.kept h fun g hg => hb.block g (R.lt h g hg).2
end
end Rep
theorem reads_lit (w : World) (cs : Array Value) (size n : Nat) (e : TypeId) {g : Nat} (hg : g = w.heap.size) (hs : cs.size = n * size) (hm : n ≤ maxLen) : Reads (w.alloc (.cells cs e)) (w.alloc (.cells cs e)).heap.size size (some ⟨g, 0, none⟩) n cs.toList := by
  subst hg
  exact Reads.of_own (World.ownsRow_lit (base := 0) (e := e) (size := size) w cs n (Nat.zero_le _) hm hs)
namespace Rep
variable {α β : Type}
theorem flatten_set {fps : List (List Nat)} {k : Nat} {f : List Nat} (hk : k < fps.length) : (fps.set k f).flatten = (fps.take k).flatten ++ (f ++ (fps.drop (k + 1)).flatten) := by
  rw [List.set_eq_take_append_cons_drop, if_pos hk, List.flatten_append, List.flatten_cons]
theorem flatten_split {fps : List (List Nat)} {k : Nat} (hk : k < fps.length) : fps.flatten = (fps.take k).flatten ++ (fps[k] ++ (fps.drop (k + 1)).flatten) := by
  conv => lhs; rw [← List.take_append_drop k fps, List.flatten_append, List.drop_eq_getElem_cons hk, List.flatten_cons]
theorem nodup_put {a b c d f : List Nat} (h : (a ++ (b ++ (c ++ d))).Nodup) (hf : f.Nodup) (hd : ∀ g, g ∈ f → g ∉ a ∧ g ∉ b ∧ g ∉ d) : (a ++ (b ++ (f ++ d))).Nodup := by
  simp only [List.nodup_append, List.mem_append] at h ⊢
  obtain ⟨ha, ⟨hb, ⟨hc, hdn, hcd⟩, hbcd⟩, habcd⟩ := h
  refine ⟨ha, ⟨hb, ⟨hf, hdn, fun x hx y hy e => (hd x hx).2.2 (e ▸ hy)⟩, ?_⟩, ?_⟩
  · rintro x hx y (hy | hy) e
    · exact (hd y hy).2.1 (e ▸ hx)
    · exact hbcd x hx y (.inr hy) e
  · rintro x hx y (hy | hy | hy) e
    · exact habcd x hx y (.inl hy) e
    · exact (hd y hy).1 (e ▸ hx)
    · exact habcd x hx y (.inr (.inr hy)) e
/-- The cells of a row of the call's own are turned so that one element is another, whose blocks are others than the row's. -/
theorem OwnRows.put {R : Rep α} {e : TypeId} {w w' : World} {base k : Nat} {v : Value} {xs : List α} {fp : List Nat} (h : OwnRows R e w base v xs fp) {x : α} {c : List Value} {f : List Nat} (hk : k < xs.length)
    (hrow : ∀ cells, w.ownsRow base e R.size v xs.length cells → ∃ cells', w'.ownsRow base e R.size v xs.length cells' ∧ seg R.size k cells' = c ∧ ∀ i, i ≠ k → seg R.size i cells' = seg R.size i cells)
    (hx : R.own w' base c x f) (hf : ∀ g, g ∈ f → g ∉ fp) (hb : ∀ g, g ∈ fp → some g ≠ v.ownBlock → w'.heap[g]? = w.heap[g]?) :
    ∃ fp', OwnRows R e w' base v (xs.set k x) fp' ∧ ∀ g, g ∈ fp' → g ∈ fp ∨ g ∈ f := by
  obtain ⟨cells, fps, ho, hl, he, hfp, hn⟩ := h
  obtain ⟨cells', ho', hs, hs'⟩ := hrow cells ho
  have hkf : k < fps.length := by omega
  refine ⟨v.ownBlock.toList ++ (fps.set k f).flatten, ⟨cells', fps.set k f, by simpa using ho', by simpa using hl, ?_, rfl, ?_⟩, ?_⟩
  · intro i y fy hy hfy
    by_cases hik : k = i
    · subst hik
      rw [List.getElem?_set_self hk] at hy
      rw [List.getElem?_set_self hkf] at hfy
      injection hy with hy
      injection hfy with hfy
      subst hy hfy
      rw [hs]
      exact hx
    · rw [List.getElem?_set_ne hik] at hy hfy
      rw [hs' i (fun e => hik e.symm)]
      refine R.kept (he i y fy hy hfy) fun g hg => hb g ?_ ?_
      · rw [hfp]; exact List.mem_append_right _ (mem_flatten_of hfy hg)
      · intro hg'
        rw [hfp] at hn
        exact (List.nodup_append.1 hn).2.2 g (by rw [← hg']; simp) g (mem_flatten_of hfy hg) rfl
  · rw [flatten_set hkf, List.nodup_append]
    rw [hfp, flatten_split hkf] at hn
    have := nodup_put (a := []) (b := v.ownBlock.toList ++ (fps.take k).flatten) (c := fps[k]) (d := (fps.drop (k + 1)).flatten) (f := f) (by simpa using hn) (R.nodup hx) (by
      intro g hg
      have h1 := hf g hg
      rw [hfp, flatten_split hkf] at h1
      simp only [List.mem_append, not_or] at h1
      exact ⟨by simp, by simp only [List.mem_append, not_or]; exact ⟨h1.1, h1.2.1⟩, h1.2.2.2⟩)
    have h2 : (v.ownBlock.toList ++ ((fps.take k).flatten ++ (f ++ (fps.drop (k + 1)).flatten))).Nodup := by simpa using this
    exact List.nodup_append.1 h2
  · intro g hg
    rw [flatten_set hkf] at hg
    simp only [List.mem_append] at hg
    rw [hfp, flatten_split hkf]
    simp only [List.mem_append]
    rcases hg with hg | hg | hg | hg
    · exact .inl (.inl hg)
    · exact .inl (.inr (.inl hg))
    · exact .inr hg
    · exact .inl (.inr (.inr (.inr hg)))
/-- The row's own cells: each is there and may be written. -/
theorem OwnRows.there {R : Rep α} {e : TypeId} {w : World} {base g n c : Nat} {xs : List α} {fp : List Nat} (h : OwnRows R e w base (.slice (some ⟨g, 0, none⟩) n c) xs fp) (j : Nat) (hj : j < xs.length * R.size) :
    (∃ u, w.cell? ⟨g, j, none⟩ = some u) ∧ w.frozen? ⟨g, j, none⟩ = false ∧ g ∈ fp ∧ g < w.heap.size := by
  obtain ⟨cells, fps, ho, hl, he, hfp, hn⟩ := h
  have hv : n = xs.length := by
    rcases ho.2 with ⟨hv, _⟩ | ⟨_, _, _, hv, _⟩
    · cases hv
    · injection hv
  subst hv
  have hc := ho.cellAt j hj
  have hlen := ho.1
  rw [List.getElem?_eq_getElem (by omega)] at hc
  exact ⟨⟨_, hc⟩, ho.frozenAt j, by rw [hfp]; simp [Value.ownBlock], (ho.lt g rfl).2⟩
/-- The cells cs written from place o on. -/
def setRow (w : World) (g o : Nat) : List Value → World
  | [] => w
  | u :: us => setRow (w.setCell ⟨g, o, none⟩ u) g (o + 1) us
theorem setRow_heap (w : World) (g o k : Nat) (cs : List Value) (hk : k ≠ g) : (setRow w g o cs).heap[k]? = w.heap[k]? := by
  induction cs generalizing w o with
  | nil => rfl
  | cons u us ih => rw [setRow, ih, heap_setCell_other _ _ _ _ hk]
/-- The list with cs written from place o on. -/
def setL (l : List Value) (o : Nat) : List Value → List Value
  | [] => l
  | u :: us => setL (l.set o u) (o + 1) us
theorem setL_length (l : List Value) (o : Nat) (cs : List Value) : (setL l o cs).length = l.length := by
  induction cs generalizing l o with
  | nil => rfl
  | cons u us ih => rw [setL, ih, List.length_set]
theorem setL_get (l : List Value) (o : Nat) (cs : List Value) (h : o + cs.length ≤ l.length) (j : Nat) : (setL l o cs)[j]? = if o ≤ j ∧ j < o + cs.length then cs[j - o]? else l[j]? := by
  induction cs generalizing l o with
  | nil => simp [setL]; omega
  | cons u us ih =>
    simp only [List.length_cons] at h
    rw [setL, ih _ _ (by rw [List.length_set]; omega)]
    simp only [List.length_cons]
    by_cases h1 : o + 1 ≤ j ∧ j < o + 1 + us.length
    · rw [if_pos h1, if_pos ⟨by omega, by omega⟩, show j - o = (j - (o + 1)) + 1 by omega, List.getElem?_cons_succ]
    · rw [if_neg h1, List.getElem?_set]
      by_cases h2 : o = j
      · subst h2
        rw [if_pos rfl, if_pos (by omega), if_pos ⟨by omega, by omega⟩]
        simp
      · rw [if_neg h2, if_neg (by omega)]
theorem setRow_owns {w : World} {base e size n g c : Nat} {cells : List Value} (o : Nat) (cs : List Value) (h : w.ownsRow base e size (.slice (some ⟨g, 0, none⟩) n c) n cells) :
    (setRow w g o cs).ownsRow base e size (.slice (some ⟨g, 0, none⟩) n c) n (setL cells o cs) := by
  induction cs generalizing w cells o with
  | nil => exact h
  | cons u us ih => exact ih (o + 1) (h.stored o u).1
theorem setRow_put {w : World} {base e size n k g c : Nat} {cells : List Value} (cs : List Value) (h : w.ownsRow base e size (.slice (some ⟨g, 0, none⟩) n c) n cells) (hk : k < n) (hc : cs.length = size) :
    ∃ cells', (setRow w g (k * size) cs).ownsRow base e size (.slice (some ⟨g, 0, none⟩) n c) n cells' ∧ seg size k cells' = cs ∧ ∀ i, i ≠ k → seg size i cells' = seg size i cells := by
  have hlen := h.1
  have h1 : (k + 1) * size ≤ n * size := Nat.mul_le_mul_right _ hk
  have h2 : (k + 1) * size = k * size + size := by rw [Nat.add_mul, Nat.one_mul]
  have hget := setL_get cells (k * size) cs (by omega)
  refine ⟨_, setRow_owns (k * size) cs h, ?_, fun i hi => ?_⟩
  · refine seg_ext (n := n) (by rw [setL_length]; exact hlen) hk hc fun j hj => ?_
    rw [hget, if_pos ⟨by omega, by omega⟩]
    congr 1
    omega
  · refine seg_other_of hi fun j hj => ?_
    rw [hget, if_neg (by omega)]
/-- An element that has just been made is stored. -/
theorem OwnRows.store {R : Rep α} {e : TypeId} {w : World} {base g k n c B : Nat} {xs : List α} {fp : List Nat} (h : OwnRows R e w base (.slice (some ⟨g, 0, none⟩) n c) xs fp) {x : α} (cs : List Value) {f : List Nat} (hn : xs.length = n) (hk : k < n)
    (hc : cs.length = R.size) (hx : R.own w B cs x f) (hB : base ≤ B) (hf : ∀ g', g' ∈ fp → g' < B) :
    ∃ fp', OwnRows R e (setRow w g (k * R.size) cs) base (.slice (some ⟨g, 0, none⟩) n c) (xs.set k x) fp' := by
  subst hn
  have hg : g ∈ fp := by
    obtain ⟨_, _, _, _, _, hfp, _⟩ := h
    rw [hfp]
    simp [Value.ownBlock]
  obtain ⟨fp', h1, _⟩ := h.put (k := k) (x := x) (c := cs) (f := f) (w' := setRow w g (k * R.size) cs) hk (fun cells ho => setRow_put cs ho hk hc)
    (R.low (R.kept hx fun a ha => setRow_heap _ _ _ _ _ (fun e => by have := (R.lt hx a ha).1; have := hf g hg; omega)) hB)
    (fun a ha ha' => by have := (R.lt hx a ha).1; have := hf a ha'; omega)
    (fun a ha hne => setRow_heap _ _ _ _ _ (fun e => hne (by rw [e]; rfl)))
  exact ⟨fp', h1⟩
/-- Only the blocks fp have turned, and what is new. -/
structure Only (w w' : World) (fp : List Nat) : Prop where
  os : w'.os = w.os
  tape : w'.tape = w.tape
  output : w'.output = w.output
  size : w.heap.size ≤ w'.heap.size
  block : ∀ k, k < w.heap.size → k ∉ fp → w'.heap[k]? = w.heap[k]?
theorem Only.refl (w : World) (fp : List Nat) : Only w w fp := ⟨rfl, rfl, rfl, Nat.le_refl _, fun _ _ _ => rfl⟩
theorem Only.trans {w w1 w2 : World} {fp : List Nat} (h : Only w w1 fp) (h2 : Only w1 w2 fp) : Only w w2 fp :=
  ⟨h2.os.trans h.os, h2.tape.trans h.tape, h2.output.trans h.output, Nat.le_trans h.size h2.size, fun k hk hn => (h2.block k (Nat.lt_of_lt_of_le hk h.size) hn).trans (h.block k hk hn)⟩
theorem Only.of_grown {w w' : World} {fp : List Nat} {row : Option Nat} (h : w.grownBy w' row) (hr : ∀ g, row = some g → g ∈ fp) : Only w w' fp :=
  ⟨h.os, h.tape, h.output, h.size, fun k hk hn => h.block k hk (fun e => hn (hr k e.symm))⟩
theorem Only.mono {w w' : World} {fp fp' : List Nat} (h : Only w w' fp) (hs : ∀ a, a ∈ fp → a ∈ fp') : Only w w' fp' := ⟨h.os, h.tape, h.output, h.size, fun k hk hn => h.block k hk (fun e => hn (hs k e))⟩
theorem Only.setCell (w : World) {fp : List Nat} {p : Addr} (hp : p.block ∈ fp) (u : Value) : Only w (w.setCell p u) fp :=
  ⟨rfl, rfl, rfl, by simp, fun k _ hn => heap_setCell_other w p k u (fun e => hn (e ▸ hp))⟩
theorem Only.below {B : Nat} {w0 w w' : World} {fp : List Nat} (hb : Below B w0 w) (h : Only w w' fp) (hB : B ≤ w.heap.size) (hf : ∀ g, g ∈ fp → B ≤ g) : Below B w0 w' :=
  ⟨h.os.trans hb.os, h.tape.trans hb.tape, h.output.trans hb.output, Nat.le_trans hb.size h.size, fun k hk => (h.block k (by omega) (fun e => by have := hf k e; omega)).trans (hb.block k hk)⟩
theorem setLow {R : Rep α} {w : World} {base : Nat} {cs : List Value} {x : α} {fp : List Nat} (h : R.own w base cs x fp) {p : Addr} (hp : p.block < base) (u : Value) : R.own (w.setCell p u) base cs x fp :=
  R.kept h fun g hg => heap_setCell_other _ _ _ _ (by have := (R.lt h g hg).1; omega)
theorem OwnRows.alloc {R : Rep α} {e : TypeId} {w : World} {base : Nat} {v : Value} {xs : List α} {fp : List Nat} (h : OwnRows R e w base v xs fp) (o : Obj) : OwnRows R e (w.alloc o) base v xs fp := h.kept fun g hg => Below.heap_alloc w o g (h.lt g hg).2
theorem OwnRows.setLow {R : Rep α} {e : TypeId} {w : World} {base : Nat} {v : Value} {xs : List α} {fp : List Nat} (h : OwnRows R e w base v xs fp) {p : Addr} (hp : p.block < base) (u : Value) : OwnRows R e (w.setCell p u) base v xs fp :=
  h.kept fun g hg => heap_setCell_other _ _ _ _ (by have := (h.lt g hg).1; omega)
/-- The new empty slice of bytes, as a row of the call's own. -/
theorem lit_empty (w : World) (e : TypeId) (size : Nat) {g : Nat} (hg : g = w.heap.size) : (w.alloc (.cells #[] e)).ownsRow w.heap.size e size (.slice (some ⟨g, 0, none⟩) 0 0) 0 [] := by
  subst hg
  exact World.ownsRow_lit w #[] 0 (Nat.le_refl _) (by simp) (by simp)
/-- 'append([]byte{}, b...)': bytes of the call's own. -/
theorem wpList_bytes {P : Program} (w w0 : World) {ops : Array Oper} {rest : List Oper} {o : Oper} {a : Act} {Q : Exit → Act → World → Prop} (hgd : o.guard = none) (s x : Operand) (t : TypeId)
    (ho : o.op = .call { callee := .builtin .append, args := #[s, x], argTypes := #[t, t] })
    (e : TypeId) (i : TypeInfo) (ht : P.underlying t = some (.slice e)) (hi : P.info? e = some i) (hz : i.zero = some (.int .u8 0)) (hsize : i.size = 1) (hby : i.bytes = 1)
    (v : Value) (hs : a.eval s = v) (base : Nat) (hown : w.ownsRow base e 1 v 0 []) (hbase : base ≤ w.heap.size)
    (B : Nat) (A : Option Addr) (c : Nat) (l : List UInt8) (hx : a.eval x = .slice A l.length c) (hr : Reads w B 1 A l.length (bys l)) (hl : l.length ≤ 1048576)
    (h : ∀ A' c' w', Owns w' base e (.slice A' l.length c') l → w.grownBy w' v.ownBlock → (∀ k, v.ownBlock = some k → base ≤ k) → wpList P ops Q rest (a.put o.dst (.slice A' l.length c')) w') : wpList P ops Q (o :: rest) a w := by
  refine wpList_append_any w hgd s x t ho base e i (.int .u8 0) 1 1 ht hi hz hsize hby rfl (by omega) v 0 [] hs hown B A l.length c (bys l) hx hr (bys_one l) (by simp only [maxLen]; omega) (by omega) hbase ?_
  intro v' w' hrow hg hat
  have h2 : Owns w' base e v' l := by unfold Owns; simpa using hrow
  obtain ⟨A', c', rfl, _⟩ := h2.shape
  exact h A' c' w' h2 hg (fun k hk => (hown.lt k hk).1)
end Rep
theorem bcell {W w1 : World} (hb : Below W.heap.size W w1) : (∀ b o, b < W.heap.size → w1.cell? ⟨b, o, none⟩ = W.cell? ⟨b, o, none⟩) ∧ (∀ b o, b < W.heap.size → w1.frozen? ⟨b, o, none⟩ = W.frozen? ⟨b, o, none⟩) :=
  ⟨fun b o h => hb.cell (p := ⟨b, o, none⟩) h, fun b o h => hb.frozen (p := ⟨b, o, none⟩) h⟩
theorem Owns.setLow {w : World} {base : Nat} {e : TypeId} {v : Value} {l : List UInt8} (h : Owns w base e v l) {p : Addr} (hp : p.block < base) (u : Value) : Owns (w.setCell p u) base e v l :=
  Rep.ownsRow_block h fun g hg => heap_setCell_other _ _ _ _ (by have := (h.lt g (by simpa using hg)).1; omega)
theorem var_cell {w : World} {g t : Nat} {cs : Array Value} (h : w.heap[g]? = some (.cells cs t (0, 0))) (i : Nat) : w.cell? ⟨g, i, none⟩ = cs[i]? := cell_of_row w g i cs t (0, 0) h
theorem var_frozen {w : World} {g t : Nat} {cs : Array Value} (h : w.heap[g]? = some (.cells cs t (0, 0))) (i : Nat) : w.frozen? ⟨g, i, none⟩ = false := by simp [World.frozen?, h]
theorem var_set {w : World} {g t : Nat} {cs : Array Value} (h : w.heap[g]? = some (.cells cs t (0, 0))) (i : Nat) (u : Value) : (w.setCell ⟨g, i, none⟩ u).heap[g]? = some (.cells (cs.setIfInBounds i u) t (0, 0)) := by
  simp [World.setCell, Array.getElem?_modify, h]
theorem heap_alloc_new' (w : World) (o : Obj) {n : Nat} (h : n = w.heap.size) : (w.alloc o).heap[n]? = some o := by subst h; exact heap_alloc_new w o
theorem l1In_yes {x lo hi : Int} (w : World) (h1 : lo ≤ x) (h2 : x ≤ hi) : Calls Try.prog 85 #[.int .i64 x, .int .i64 lo, .int .i64 hi] w fun e w' => e = .returned (.bool true) ∧ w = w' := by
  go_enter Try.func85, Try.ntmps85
  go_wp2
  go_ret
  exact ⟨rfl, rfl⟩
theorem l1In_no {x lo hi : Int} (w : World) (h : ¬ (lo ≤ x ∧ x ≤ hi)) : Calls Try.prog 85 #[.int .i64 x, .int .i64 lo, .int .i64 hi] w fun e w' => e = .returned (.bool false) ∧ w = w' := by
  by_cases h1 : lo ≤ x
  · have h2 : ¬ x ≤ hi := fun h2 => h ⟨h1, h2⟩
    clear h
    go_enter Try.func85, Try.ntmps85
    go_wp2
    go_ret
    exact ⟨rfl, rfl⟩
  · clear h
    go_enter Try.func85, Try.ntmps85
    go_wp2
    go_ret
    exact ⟨rfl, rfl⟩
/-- A bool comes back; what was there is as it was. -/
def RetBool (w : World) (b : Bool) (e : Ending) (w' : World) : Prop := e = .returned (.bool b) ∧ Below w.heap.size w w'
theorem Rep.only_of_below {w w' : World} (h : Below w.heap.size w w') : Rep.Only w w' [] := ⟨h.os, h.tape, h.output, h.size, fun k hk _ => h.block k hk⟩
theorem Rep.only_drew (w : World) : Rep.Only w w.drew [] := ⟨rfl, rfl, rfl, Nat.le_refl _, fun _ _ _ => rfl⟩
theorem Rep.only_alloc (w : World) (o : Obj) : Rep.Only w (w.alloc o) [] := Rep.only_of_below ((Below.refl _ _).alloc (Nat.le_refl _) o)
theorem Rep.var_only {w w' : World} {g : Nat} {o : Obj} {fp : List Nat} (h : Hid (w.heap[g]? = some o)) (ho : Rep.Only w w' fp) (hg : g < w.heap.size) (hn : g ∉ fp) : Hid (w'.heap[g]? = some o) := Lib.hid ((ho.block g hg hn).trans h.out)
theorem Rep.Only.then {w w1 w2 : World} {fp fp2 : List Nat} (h : Rep.Only w w1 fp) (h2 : Rep.Only w1 w2 fp2) (hf : ∀ a, a ∈ fp2 → a ∈ fp ∨ w.heap.size ≤ a) : Rep.Only w w2 fp :=
  ⟨h2.os.trans h.os, h2.tape.trans h.tape, h2.output.trans h.output, Nat.le_trans h.size h2.size, fun k hk hn => (h2.block k (Nat.lt_of_lt_of_le hk h.size) (fun e => by rcases hf k e with h3 | h3; (exact hn h3); omega)).trans (h.block k hk hn)⟩
theorem Rep.Only.cell {w w' : World} {fp : List Nat} (h : Rep.Only w w' fp) {b o : Nat} (hb : b < w.heap.size) (hn : b ∉ fp) : w'.cell? ⟨b, o, none⟩ = w.cell? ⟨b, o, none⟩ := World.cell?_of_block (h.block b hb hn)
/-- Nothing that was there has turned. -/
def Later (w w' : World) : Prop := Below w.heap.size w w'
theorem Later.trans {w w1 w2 : World} (h : Later w w1) (h2 : Later w1 w2) : Later w w2 := Below.trans h (Below.mono h2 h.size)
theorem Later.drew (w : World) : Later w w.drew := belowD (Below.refl _ _) 1
theorem Later.drewN (w : World) (n : Nat) : Later w (w.drewN n) := belowD (Below.refl _ _) n
theorem Later.alloc (w : World) (o : Obj) : Later w (w.alloc o) := (Below.refl _ _).alloc (Nat.le_refl _) o
theorem Later.refl (w : World) : Later w w := Below.refl _ _
theorem Later.of {w w' : World} (h : Below w.heap.size w w') : Later w w' := h
class Keeps (F : World → Prop) : Prop where
  keeps : ∀ {w w' : World}, Later w w' → F w → F w'
instance Keeps.and {F G : World → Prop} [Keeps F] [Keeps G] : Keeps (fun w => F w ∧ G w) := ⟨fun h x => ⟨Keeps.keeps h x.1, Keeps.keeps h x.2⟩⟩
instance Keeps.hid {F : World → Prop} [Keeps F] : Keeps (fun w => Hid (F w)) := ⟨fun h x => Lib.hid (Keeps.keeps (F := F) h x.out)⟩
instance Keeps.at_ {α : Type} (R : Rep α) (cs : List Value) (x : α) : Keeps (fun w => R.at_ w w.heap.size cs x) := ⟨fun h x => R.more (Rep.at_below x h) h.size⟩
instance Keeps.reads (size n : Nat) (A : Option Addr) (xs : List Value) : Keeps (fun w => Reads w w.heap.size size A n xs) := ⟨fun h x => (x.below h).more h.size⟩
instance Keeps.own {α : Type} (R : Rep α) (base : Nat) (cs : List Value) (x : α) (fp : List Nat) : Keeps (fun w => R.own w base cs x fp) := ⟨fun h x => Rep.own_below x h⟩
instance Keeps.block (g : Nat) (o : Obj) : Keeps (fun w => w.heap[g]? = some o) := ⟨fun h x => (h.block g (Array.getElem?_eq_some_iff.1 x).1).trans x⟩
instance Keeps.cell (p : Addr) (v : Value) : Keeps (fun w => w.cell? p = some v) := ⟨fun h x => (h.cell (World.block_lt_of_cell? _ _ x)).trans x⟩
instance Keeps.lt (n : Nat) : Keeps (fun w => n < w.heap.size) := ⟨fun h x => Nat.lt_of_lt_of_le x h.size⟩
instance Keeps.le (n : Nat) : Keeps (fun w => n ≤ w.heap.size) := ⟨fun h x => Nat.le_trans x h.size⟩
instance Keeps.below (w0 : World) : Keeps (fun w => Below w0.heap.size w0 w) := ⟨fun h x => Later.trans x h⟩
instance Keeps.pure (p : Prop) : Keeps (fun _ => p) := ⟨fun _ x => x⟩
/-- All that is known of the memory. -/
structure All (F : World → Prop) (w : World) : Prop where
  out : F w
theorem All.later {F : World → Prop} [Keeps F] {w w' : World} (h : All F w) (hb : Below w.heap.size w w') : All F w' := ⟨Keeps.keeps hb h.out⟩
theorem All.drew {F : World → Prop} [Keeps F] {w : World} (h : All F w) : All F w.drew := h.later (Later.drew w)
theorem All.alloc {F : World → Prop} [Keeps F] {w : World} (h : All F w) (o : Obj) : All F (w.alloc o) := h.later (Later.alloc w o)
end Go.Proofs.Ytaigdioimldknaa
namespace Go.Proofs.Ytaigdioimldknaa
open Go.Lib
theorem i64_and255 (n : Int) : bits .and .i64 n 255 = n % 256 := by
  have hm : (BitVec.ofInt 64 255).toNat = 2 ^ 8 - 1 := by decide
  have key : (BitVec.ofInt 64 n &&& BitVec.ofInt 64 255).toNat = (n % ((2 ^ 64 : Nat) : Int)).toNat % 2 ^ 8 := by
    rw [BitVec.toNat_and, BitVec.toNat_ofInt, hm, Nat.and_two_pow_sub_one_eq_mod]
  show IntKind.i64.wrap ((BitVec.ofInt 64 n &&& BitVec.ofInt 64 255).toNat : Nat) = n % 256
  rw [key, IntKind.wrap_i64]
  omega
theorem i64_and30 (n : Int) : bits .and .i64 n 1073741823 = n % 1073741824 := by
  have hm : (BitVec.ofInt 64 1073741823).toNat = 2 ^ 30 - 1 := by decide
  have key : (BitVec.ofInt 64 n &&& BitVec.ofInt 64 1073741823).toNat = (n % ((2 ^ 64 : Nat) : Int)).toNat % 2 ^ 30 := by
    rw [BitVec.toNat_and, BitVec.toNat_ofInt, hm, Nat.and_two_pow_sub_one_eq_mod]
  show IntKind.i64.wrap ((BitVec.ofInt 64 n &&& BitVec.ofInt 64 1073741823).toNat : Nat) = n % 1073741824
  rw [key, IntKind.wrap_i64]
  omega
end Go.Proofs.Ytaigdioimldknaa
namespace Go.Proofs.Ytaigdioimldknaa
open Go.RowKit
set_option maxHeartbeats 400000 in
/-- A copy with more bytes behind it. -/
theorem joined_any (A B : Option Addr) (c d : Nat) (l l' : List UInt8) (w : World) (h : Reads w w.heap.size 1 A l.length (bys l)) (h' : Reads w w.heap.size 1 B l'.length (bys l')) (hn : l.length ≤ 1000000000) (hn' : l'.length ≤ 1000000000) :
    Calls Try.prog 87 #[.slice A l.length c, .slice B l'.length d] w fun e w' => ∃ v, e = .returned v ∧ Owns w' w.heap.size 5 v (l ++ l') ∧ Below w.heap.size w w' := by
  obtain ⟨i0, hi0, hz0, hz1, hz2⟩ := info_parts Try.info8
  go_enter Try.func87, Try.ntmps87
  go_wp2_with (first
    | (at_make; refine wpList_make_own _ rfl _ _ _ rfl w.heap.size 5 i0 _ 1 Try.underlying22 hi0 hz0 hz1 _ _ _ (l.length + l'.length) rfl rfl (by omega) (by rw [hz2]; omega) (by simp only [maxLen]; omega) (Nat.le_refl _) ?_; intro w1 hown1 hg1
       have hb1 : Below w.heap.size w w1 := (Below.refl _ _).grown hg1 (Nat.le_refl _) (fun _ hk => by cases hk))
    | (at_builtin
       refine wpList_append_any _ rfl (.tmp 12) (.tmp 13) _ rfl w.heap.size 5 i0 _ 1 1 Try.underlying22 hi0 hz0 hz1 hz2 rfl (by omega) _ 0 [] rfl hown1 w.heap.size A l.length c (bys l) rfl (h.below hb1) (bys_one l) (by simp only [maxLen]; omega) (by omega) hb1.size ?_
       intro v2 w2 hown2 hg2 hat2
       have hb2 : Below w.heap.size w w2 := hb1.grown hg2 hb1.size (fun k hk => (hown1.lt k hk).1))
    | (at_builtin
       refine wpList_append_any _ rfl (.tmp 15) (.tmp 16) _ rfl w.heap.size 5 i0 _ 1 1 Try.underlying22 hi0 hz0 hz1 hz2 rfl (by omega) v2 (0 + l.length) ([] ++ bys l) rfl hown2 w.heap.size B l'.length d (bys l') rfl (h'.below hb2) (bys_one l') (by simp only [maxLen]; omega) (by omega) hb2.size ?_
       intro v3 w3 hown3 hg3 hat3))
  go_ret
  refine ⟨v3, rfl, ?_, hb2.grown hg3 hb2.size (fun k hk => (hown2.lt k hk).1)⟩
  unfold Owns
  rw [bys_append, List.length_append]
  simpa using hown3
/-- The byte that an integer is cut to. -/
def u8 (n : Int) : UInt8 := UInt8.ofNat (n % 256).toNat
theorem u8_cell (n : Int) : (((u8 n).toNat : Nat) : Int) = n % 256 := by
  unfold u8
  simp
  omega
theorem reads_new (w : World) (cs : Array Value) (n : Nat) (e : TypeId) (hs : cs.size = n) (hm : n ≤ maxLen) : Reads (w.alloc (.cells cs e)) (w.alloc (.cells cs e)).heap.size 1 (some ⟨w.heap.size, 0, none⟩) n cs.toList :=
  Reads.of_own (World.ownsRow_lit (base := 0) (e := e) (size := 1) w cs n (Nat.zero_le _) hm (by omega))
end Go.Proofs.Ytaigdioimldknaa
namespace Go.Proofs.Ytaigdioimldknaa
open Go.RowKit
set_option linter.unusedVariables false
def inI (x lo hi : Int) : Bool := decide (lo ≤ x ∧ x ≤ hi)
theorem l1In_b {x lo hi : Int} {b : Bool} (h : inI x lo hi = b) (w : World) : Calls Try.prog 85 #[.int .i64 x, .int .i64 lo, .int .i64 hi] w fun e w' => e = .returned (.bool b) ∧ w = w' := by
  unfold inI at h
  cases b
  · exact l1In_no w (of_decide_eq_false h)
  · have := of_decide_eq_true h
    exact l1In_yes w this.1 this.2
set_option maxHeartbeats 1000000 in
theorem within_b {x lo hi : Int} {b : Bool} (h : inI x lo hi = b) (w : World) : Calls Try.prog 84 #[.int .i64 x, .int .i64 lo, .int .i64 hi] w fun e w' => e = .returned (.bool b) ∧ w = w' := by
  unfold inI at h
  by_cases h1 : lo ≤ x
  · by_cases h2 : x ≤ hi
    · obtain rfl : b = true := by rw [← h]; simp; omega
      clear h
      go_enter Try.func84, Try.ntmps84
      go_wp2
      go_ret
      exact ⟨rfl, rfl⟩
    · obtain rfl : b = false := by rw [← h]; simp; omega
      clear h
      go_enter Try.func84, Try.ntmps84
      go_wp2
      go_ret
      exact ⟨rfl, rfl⟩
  · obtain rfl : b = false := by rw [← h]; simp; omega
    clear h
    go_enter Try.func84, Try.ntmps84
    go_wp2
    go_ret
    exact ⟨rfl, rfl⟩
def RetOwn (w : World) (l : List UInt8) (e : Ending) (w' : World) : Prop := ∃ v, e = .returned v ∧ Owns w' w.heap.size 5 v l ∧ Below w.heap.size w w'
theorem own_empty (w : World) (base : Nat) (hb : base ≤ w.heap.size) : Owns (w.alloc (.cells #[] 5)) base 5 (.slice (some ⟨w.heap.size, 0, none⟩) 0 0) [] :=
  World.ownsRow_lit w #[] 0 hb (by simp) rfl
theorem one_u8 (w : World) (n : Int) : Reads (w.alloc (.cells #[.int .u8 (n % 256)] 5)) (w.alloc (.cells #[.int .u8 (n % 256)] 5)).heap.size 1 (some ⟨w.heap.size, 0, none⟩) 1 (bys [u8 n]) := by
  have h := reads_new w #[.int .u8 (n % 256)] 1 5 rfl (by simp [maxLen])
  have e : bys [u8 n] = [.int .u8 (n % 256)] := by simp [bys, u8_cell]
  rw [e]
  exact h
def lowB (b : UInt8) : Bool := decide (97 ≤ b.toNat ∧ b.toNat ≤ 122)
def nameB (l : List UInt8) : Bool := decide (1 ≤ l.length ∧ l.length ≤ 8) && l.all lowB
theorem strc_get (s : ByteArray) (k : Nat) (hk : k < s.size) : s.data.toList[k]? = some s[k] := by
  have h' : k < s.data.toList.length := by simpa using hk
  rw [List.getElem?_eq_getElem h']
  simp
  rfl
theorem nameB_bad {s : ByteArray} {k : Nat} (hk : k < s.size) (h : ¬ (97 ≤ s[k].toNat ∧ s[k].toNat ≤ 122)) : nameB s.data.toList = false := by
  unfold nameB
  rw [Bool.and_eq_false_iff]
  refine .inr ?_
  rw [List.all_eq_false]
  exact ⟨s[k], List.mem_of_getElem? (strc_get s k hk), by simp [lowB]; omega⟩
theorem nameB_len {s : ByteArray} (h : ¬ (1 ≤ s.size ∧ s.size ≤ 8)) : nameB s.data.toList = false := by
  unfold nameB
  rw [Bool.and_eq_false_iff]
  refine .inl (decide_eq_false ?_)
  simpa using h
def lowTo (s : ByteArray) (k : Nat) : Prop := ∀ b, b ∈ s.data.toList.take k → lowB b = true
theorem lowTo_zero (s : ByteArray) : lowTo s 0 := by intro b hb; simp at hb
theorem lowTo_succ {s : ByteArray} {k : Nat} (hk : k < s.size) (h : lowTo s k) (hb : 97 ≤ s[k].toNat ∧ s[k].toNat ≤ 122) : lowTo s (k + 1) := by
  intro b hm
  rw [Rep.take_get (strc_get s k hk), List.mem_append] at hm
  rcases hm with hm | hm
  · exact h b hm
  · simp at hm
    subst hm
    simp [lowB]
    omega
theorem nameB_low {s : ByteArray} (h : lowTo s s.size) : nameB s.data.toList = inI (s.size : Int) 1 8 := by
  unfold nameB inI
  have h2 : s.data.toList.all lowB = true := List.all_eq_true.2 fun b hb => h b (by rw [List.take_of_length_le (by simp)]; exact hb)
  rw [h2, Bool.and_true]
  have : s.data.toList.length = s.size := by simp
  rw [this]
  apply decide_eq_decide.2
  omega
set_option maxHeartbeats 1000000 in
theorem l1Name_b {s : ByteArray} {b : Bool} (hb : nameB s.data.toList = b) (w : World) (hs : s.size ≤ 1048576) : Calls Try.prog 120 #[.string s] w fun e w' => e = .returned (.bool b) ∧ w = w' := by
  have HB := Lib.hid hb
  clear hb
  go_enter Try.func120, Try.ntmps120
  go_wp2
  go_loop [3] (fun i => ∃ k : Nat, k ≤ s.size ∧ i = .int .i64 k ∧ Hid (lowTo s k)) (fun i => s.size - (intOf i).toNat)
  case atStart => exact ⟨0, by omega, rfl, Lib.hid (lowTo_zero s)⟩
  case round =>
    obtain ⟨k, hk, rfl, hl⟩ := hrel
    by_cases hlt : k < s.size
    · by_cases h1 : (s[k].toNat : Int) < 97
      · obtain rfl : b = false := by rw [← HB.out, nameB_bad hlt (by omega)]
        go_wp2
        go_ret
        exact ⟨rfl, rfl⟩
      · by_cases h2 : (122 : Int) < s[k].toNat
        · obtain rfl : b = false := by rw [← HB.out, nameB_bad hlt (by omega)]
          go_wp2
          go_ret
          exact ⟨rfl, rfl⟩
        · have HN := Lib.hid (lowTo_succ hlt hl.out (by omega))
          go_wp2
          go_round
          case rel => exact ⟨k + 1, by omega, by go_num, HN⟩
          case measure => simp [intOf]; omega
    · have he : k = s.size := by omega
      subst he
      have HE := Lib.hid (nameB_low hl.out)
      go_wp2_with (go_at_call 85; refine (l1In_b (b := b) (by rw [← HE.out, HB.out]) _).mono ?_; rintro e w' ⟨rfl, rfl⟩)
      go_ret
      exact ⟨rfl, rfl⟩
set_option maxHeartbeats 2000000 in
theorem nameOk_b {s : ByteArray} {b : Bool} (hb : nameB s.data.toList = b) (w : World) (hs : s.size ≤ 1048576) : Calls Try.prog 117 #[.string s] w (RetBool w b) := by
  have HB := Lib.hid hb
  clear hb
  unfold RetBool
  by_cases hl : 1 ≤ s.size ∧ s.size ≤ 8
  · have hin : inI (s.size : Int) 1 8 = true := decide_eq_true (by omega)
    obtain ⟨l1, l2⟩ := hl
    go_enter Try.func117, Try.ntmps117
    go_wp2_with (go_at_call 84; refine (within_b hin _).mono ?_; rintro e w' ⟨rfl, rfl⟩)
    clear hin
    go_loopw [] (fun wr => ∃ k : Nat, k ≤ s.size ∧ wr = w.iter s k ∧ Hid (lowTo s k)) (fun wr => s.size - wr.iterPos w.heap.size)
    case atStart => exact ⟨0, by omega, rfl, Lib.hid (lowTo_zero s)⟩
    case round =>
      obtain ⟨k, hk, rfl, hto⟩ := hrel
      by_cases hlt : k < s.size
      · by_cases ha : s[k].toNat < 128
        · have hnx := fun ty => run_next_ascii (P := Try.prog) w s k ty hlt ha
          by_cases h1 : (s[k].toNat : Int) < 97
          · obtain rfl : b = false := by rw [← HB.out, nameB_bad hlt (by omega)]
            go_wp2
            go_ret
            exact ⟨rfl, (Below.refl _ _).alloc (Nat.le_refl _) _⟩
          · by_cases h2 : (122 : Int) < s[k].toNat
            · obtain rfl : b = false := by rw [← HB.out, nameB_bad hlt (by omega)]
              go_wp2
              go_ret
              exact ⟨rfl, (Below.refl _ _).alloc (Nat.le_refl _) _⟩
            · have HN := Lib.hid (lowTo_succ hlt hto.out (by omega))
              go_wp2
              go_roundw
              case rel => exact ⟨k + 1, by omega, rfl, HN⟩
              case measure => simp; omega
        · have hnx := fun ty => run_next_any (P := Try.prog) w s k ty hlt
          have hhi := (decode_high s k hlt (by omega)).1
          have hle := decode_le s k
          obtain rfl : b = false := by rw [← HB.out, nameB_bad hlt (by omega)]
          obtain ⟨r, hr⟩ : ∃ r, (Utf8.decode s k).1 = r := ⟨_, rfl⟩
          rw [hr] at hhi hle hnx
          clear hr
          have c1 : ¬ (r : Int) < 97 := by omega
          have c2 : (122 : Int) < (r : Int) := by omega
          go_wp2
          go_ret
          exact ⟨rfl, (Below.refl _ _).alloc (Nat.le_refl _) _⟩
      · have he : k = s.size := by omega
        subst he
        have hnx := fun ty => run_next_end (P := Try.prog) w s s.size ty (by omega)
        obtain rfl : b = true := by
          rw [← HB.out, nameB_low hto.out]
          exact decide_eq_true (by omega)
        go_wp2
        go_ret
        exact ⟨rfl, (Below.refl _ _).alloc (Nat.le_refl _) _⟩
  · have hin : inI (s.size : Int) 1 8 = false := decide_eq_false (by omega)
    obtain rfl : b = false := by rw [← HB.out, nameB_len hl]
    clear hl
    go_enter Try.func117, Try.ntmps117
    go_wp2_with (go_at_call 84; refine (within_b hin _).mono ?_; rintro e w' ⟨rfl, rfl⟩)
    go_ret
    exact ⟨rfl, Below.refl _ _⟩
theorem ret_bool {c c' : Bool} (h : c = c') : Ending.returned (.bool c) = .returned (.bool c') := by rw [h]
theorem byte_lt (u : UInt8) : u.toNat < 256 := u.toNat_lt
/-- Is the byte one that a text may hold? -/
def inB (b : UInt8) : Bool := decide (32 ≤ b.toNat) && decide (b.toNat ≤ 126)
/-- May the bytes stand in a text? -/
def okB (l : List UInt8) : Bool := decide (l.length ≤ 100) && l.all inB
/-- The first k bytes may. -/
def okTo (l : List UInt8) (k : Nat) : Prop := (l.take k).all inB = true
theorem okTo_zero (l : List UInt8) : okTo l 0 := by simp [okTo]
theorem okTo_succ {l : List UInt8} {k : Nat} {b : UInt8} (h : okTo l k) (hb : l[k]? = some b) (hi : inB b = true) : okTo l (k + 1) := by
  unfold okTo at *
  rw [take_snoc_get hb, List.all_append, h]
  simp [hi]
theorem inB_yes {b : UInt8} (h1 : ¬ (b.toNat : Int) < 32) (h2 : ¬ 126 < (b.toNat : Int)) : inB b = true := by
  unfold inB; rw [decide_eq_true (by omega), decide_eq_true (by omega)]; rfl
theorem inB_no {b : UInt8} (h : (b.toNat : Int) < 32 ∨ 126 < (b.toNat : Int)) : inB b = false := by
  unfold inB
  rcases h with h | h
  · rw [decide_eq_false (by omega)]; rfl
  · rw [decide_eq_false (p := b.toNat ≤ 126) (by omega), Bool.and_false]
theorem okB_bad {l : List UInt8} {k : Nat} {b : UInt8} (hb : l[k]? = some b) (hi : inB b = false) : okB l = false := by
  have hm : b ∈ l := List.mem_of_getElem? hb
  unfold okB
  have : l.all inB = false := by
    rw [List.all_eq_false]
    exact ⟨b, hm, by simp [hi]⟩
  rw [this, Bool.and_false]
theorem okB_long {l : List UInt8} (h : 100 < l.length) : okB l = false := by
  unfold okB; rw [decide_eq_false (by omega)]; rfl
theorem okB_all {l : List UInt8} (h : okTo l l.length) (h1 : l.length ≤ 100) : okB l = true := by
  unfold okTo at h
  rw [List.take_length] at h
  unfold okB
  rw [decide_eq_true h1, h]; rfl
theorem str_get (s : ByteArray) (k : Nat) (hk : k < s.size) : s.data.toList[k]? = some s[k] := by
  have h' : k < s.data.toList.length := by simpa using hk
  rw [List.getElem?_eq_getElem h']
  simp
  rfl
set_option maxHeartbeats 400000 in
theorem textOk_any (s : ByteArray) (w : World) (hs : s.size ≤ 140737488351232) :
    Calls Try.prog 119 #[.string s] w fun e w' => e = .returned (.bool (okB s.data.toList)) ∧ w = w' := by
  by_cases hb : 100 < s.size
  · have E := Lib.hid (okB_long (l := s.data.toList) (by simpa using hb))
    go_enter Try.func119, Try.ntmps119
    go_wp2
    go_ret
    exact ⟨ret_bool E.out.symm, rfl⟩
  · go_enter Try.func119, Try.ntmps119
    go_wp2
    go_loop [9] (fun i => ∃ k : Nat, k ≤ s.size ∧ i = .int .i64 k ∧ okTo s.data.toList k) (fun i => s.size - (intOf i).toNat)
    case atStart => exact ⟨0, by omega, rfl, okTo_zero _⟩
    case round =>
      obtain ⟨k, hk, rfl, hok⟩ := hrel
      by_cases hlt : k < s.size
      · have HG := Lib.hid (str_get s k hlt)
        have H := Lib.hid hok
        clear hok
        by_cases h1 : (s[k].toNat : Int) < 32
        · have E := Lib.hid (okB_bad HG.out (inB_no (.inl h1)))
          go_wp2
          go_ret
          exact ⟨ret_bool E.out.symm, rfl⟩
        · by_cases h2 : 126 < (s[k].toNat : Int)
          · have E := Lib.hid (okB_bad HG.out (inB_no (.inr h2)))
            go_wp2
            go_ret
            exact ⟨ret_bool E.out.symm, rfl⟩
          · have E := Lib.hid (okTo_succ H.out HG.out (inB_yes h1 h2))
            go_wp2
            go_round
            case rel => exact ⟨k + 1, by omega, by go_num, E.out⟩
            case measure => simp [intOf]; omega
      · have he : k = s.size := by omega
        subst he
        have E := Lib.hid (okB_all (l := s.data.toList) (by simpa using hok) (by simp; omega))
        clear hok
        go_wp2
        go_ret
        exact ⟨ret_bool E.out.symm, rfl⟩
set_option maxHeartbeats 400000 in
theorem textOkS_any (s : ByteArray) (w : World) (hs : s.size ≤ 140737488351232) :
    Calls Try.prog 122 #[.string s] w fun e w' => e = .returned (.bool (okB s.data.toList)) ∧ w = w' := by
  go_enter Try.func122, Try.ntmps122
  go_wp2
  go_loop [3] (fun i => ∃ k : Nat, k ≤ s.size ∧ k ≤ 101 ∧ i = .int .i64 k ∧ okTo s.data.toList k) (fun i => s.size - (intOf i).toNat)
  case atStart => exact ⟨0, by omega, by omega, rfl, okTo_zero _⟩
  case round =>
    obtain ⟨k, hk, hk1, rfl, hok⟩ := hrel
    by_cases hlt : k < s.size
    · by_cases hle : k ≤ 100
      · have HG := Lib.hid (str_get s k hlt)
        have H := Lib.hid hok
        clear hok
        by_cases h1 : (s[k].toNat : Int) < 32
        · have E := Lib.hid (okB_bad HG.out (inB_no (.inl h1)))
          go_wp2
          go_ret
          exact ⟨ret_bool E.out.symm, rfl⟩
        · by_cases h2 : 126 < (s[k].toNat : Int)
          · have E := Lib.hid (okB_bad HG.out (inB_no (.inr h2)))
            go_wp2
            go_ret
            exact ⟨ret_bool E.out.symm, rfl⟩
          · have E := Lib.hid (okTo_succ H.out HG.out (inB_yes h1 h2))
            go_wp2
            go_round
            case rel => exact ⟨k + 1, by omega, by omega, by go_num, E.out⟩
            case measure => simp [intOf]; omega
      · have hsz : 100 < s.size := by omega
        have E := Lib.hid (okB_long (l := s.data.toList) (by simpa using hsz))
        clear hok
        go_wp2
        go_ret
        exact ⟨ret_bool (by rw [E.out]; simp; omega), rfl⟩
    · have he : k = s.size := by omega
      subst he
      by_cases hle : s.size ≤ 100
      · have E := Lib.hid (okB_all (l := s.data.toList) (by simpa using hok) (by simpa using hle))
        clear hok
        go_wp2
        go_ret
        exact ⟨ret_bool (by rw [E.out]; simp; omega), rfl⟩
      · have E := Lib.hid (okB_long (l := s.data.toList) (by simp; omega))
        clear hok
        go_wp2
        go_ret
        exact ⟨ret_bool (by rw [E.out]; simp; omega), rfl⟩
end Go.Proofs.Ytaigdioimldknaa
