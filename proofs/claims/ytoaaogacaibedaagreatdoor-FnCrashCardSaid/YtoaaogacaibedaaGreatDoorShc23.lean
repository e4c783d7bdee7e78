/- What the theorem needs, out of many texts. -/
import Derived.Test.YtoaaogacaibedaaGreatDoorShc22
namespace Go.Proofs.YtoaaogacaibedaaGreatDoor
open Go.RowKit
set_option maxRecDepth 100000
set_option linter.unusedVariables false
theorem rec_parts {r : Rec} (h : recB r = true) : (1 ≤ r.n ∧ r.n ≤ 60000) ∧ (1 ≤ r.kind ∧ r.kind ≤ 3) ∧ (0 ≤ r.owner ∧ r.owner ≤ 1) ∧ okB r.text.data.toList = true := by
 have hnil : nilB r.text = true → okB r.text.data.toList = true := fun h => by rw [(nilB_iff _).1 h]; exact okB_nil
 have htxt : txtB r.text = true → okB r.text.data.toList = true := fun h => by
  unfold txtB at h
  exact parse_ok (xs := (parseS r.text.data.toList).1) (by rw [← h])
 unfold recB at h
 rw [Bool.and_eq_true] at h
 obtain ⟨h0, h⟩ := h
 refine ⟨of_decide_eq_true h0, ?_⟩
 split at h
 ·rename_i hk
  rw [Bool.and_eq_true] at h
  have ho := of_decide_eq_true h.1
  exact ⟨by omega, by omega, htxt h.2⟩
 ·split at h
  ·rename_i hk
   rw [Bool.and_eq_true] at h
   have ho := of_decide_eq_true h.1
   exact ⟨by omega, by omega, hnil h.2⟩
  ·rw [Bool.and_eq_true, Bool.and_eq_true] at h
   have hk := of_decide_eq_true h.1
   have ho := of_decide_eq_true h.2.1
   exact ⟨by omega, by omega, hnil h.2.2⟩
theorem putR_yes {g p : Int} {r : Rec} (hr : recB r = true) (hg : 0 ≤ g ∧ g ≤ 65535) (hp : 0 ≤ p ∧ p ≤ 65535) : putR g p r = withSum (recBody g p r) := if_pos ⟨hr, hg, hp⟩
theorem word_at {l : List UInt8} {k : Nat} {n : Int} (h0 : 0 ≤ n) (h1 : n ≤ 65535) (hl : k + 2 ≤ l.length) (hx : l[k]? = some (u8 (n / 256))) (hy : l[k + 1]? = some (u8 n)) : gwVal l k = n := by
 rw [(gw_yes hl hx hy).2.1, u8_cell, u8_cell]
 omega
theorem rec_round {g p : Int} {r : Rec} (hr : recB r = true) (hg : 0 ≤ g ∧ g ≤ 65535) (hp : 0 ≤ p ∧ p ≤ 65535) :
  getOk (putR g p r) = true ∧ gwVal (putR g p r) 0 = g ∧ gwVal (putR g p r) 2 = p ∧ recAt (putR g p r) = r ∧ 11 ≤ (putR g p r).length := by
 obtain ⟨hn, hk, ho, ht⟩ := rec_parts hr
 have e : putR g p r = u8 (g / 256) :: u8 g :: u8 (p / 256) :: u8 p :: u8 r.kind :: u8 (r.n / 256) :: u8 r.n :: u8 r.owner :: u8 (r.text.data.toList.length : Int) :: (r.text.data.toList ++ wordBytes (crc (recBody g p r))) := by
  rw [putR_yes hr hg hp]
  unfold withSum
  conv => lhs; arg 1; unfold recBody ptB
  rw [if_pos ht]
  simp [wordBytes]
 have hlen : 11 ≤ (putR g p r).length := by rw [e]; simp [wordBytes]
 have w0 : gwVal (putR g p r) 0 = g := word_at (k := 0) hg.1 hg.2 (by omega) (by rw [e]; rfl) (by rw [e]; rfl)
 have w2 : gwVal (putR g p r) 2 = p := word_at (k := 2) hp.1 hp.2 (by omega) (by rw [e]; rfl) (by rw [e]; rfl)
 have w5 : gwVal (putR g p r) 5 = r.n := word_at (k := 5) (by omega) (by omega) (by omega) (by rw [e]; rfl) (by rw [e]; rfl)
 have hgt : gtS (putR g p r) 8 = r.text := by
  have hm := gt_mid (l := [u8 (g / 256), u8 g, u8 (p / 256), u8 p, u8 r.kind, u8 (r.n / 256), u8 r.n, u8 r.owner]) (t := wordBytes (crc (recBody g p r))) ht
  have e2 : ptB [u8 (g / 256), u8 g, u8 (p / 256), u8 p, u8 r.kind, u8 (r.n / 256), u8 r.n, u8 r.owner] r.text.data.toList ++ wordBytes (crc (recBody g p r)) = putR g p r := by
   rw [e]
   unfold ptB
   rw [if_pos ht]
   simp
  rw [e2] at hm
  have h8 := (gt_some (p := 8) hm).1
  rw [h8]
 have hrec : recAt (putR g p r) = r := by
  unfold recAt
  rw [w5, hgt, getD_of (k := 4) (u := u8 r.kind) (by rw [e]; rfl), getD_of (k := 7) (u := u8 r.owner) (by rw [e]; rfl), u8_cell, u8_cell]
  obtain ⟨a, b, c, d⟩ := r
  have h1 : a % 256 = a := by simp at hk; omega
  have h2 : c % 256 = c := by simp at ho; omega
  show (⟨a % 256, b, c % 256, d⟩ : Rec) = ⟨a, b, c, d⟩
  rw [h1, h2]
 refine ⟨?_, w0, w2, hrec, hlen⟩
 rw [getOk_long hlen, w0, w2, hrec]
 simp
theorem four {α : Type} {g : Field → α} {fs : List Field} {a b c d : α} (h : fs.map g = [a, b, c, d]) : ∃ f1 f2 f3 f4, fs = [f1, f2, f3, f4] ∧ g f1 = a ∧ g f2 = b ∧ g f3 = c ∧ g f4 = d := by
 match fs, h with
 | [f1, f2, f3, f4], h =>
  simp only [List.map_cons, List.map_nil, List.cons.injEq, and_true] at h
  exact ⟨f1, f2, f3, f4, rfl, h⟩
end Go.Proofs.YtoaaogacaibedaaGreatDoor
namespace Go.Proofs.YtoaaogacaibedaaGreatDoor
set_option linter.unusedVariables false
section
variable {P : Program} {ops : Array Oper} {Q : Exit → Act → World → Prop} {md : Region.Mode} {S : World → Prop} {z : Nat}
end
end Go.Proofs.YtoaaogacaibedaaGreatDoor
namespace Go.Proofs.YtoaaogacaibedaaGreatDoor
open Go.RowKit
set_option linter.unusedVariables false
structure V4 (w : World) (lo g : Nat) (A : Option Addr) (n c : Nat) (code : List UInt8) (D : Nat) (r : Rec) (wr : World) : Prop where
 zero : wr.heap[w.heap.size]? = some (.cells (recC zeroRec).toArray 29 (0, 0))
 var : wr.heap[D]? = some (.cells (recC r).toArray 29 (0, 0))
 cur : Cur wr lo g A n c code
 only : Rep.Only w wr [g]
 hD : w.heap.size < D
 lt : g < w.heap.size
 from_ : lo ≤ g
theorem V4.step {w w1 w2 : World} {lo g : Nat} {A : Option Addr} {n c : Nat} {code : List UInt8} {D : Nat} {r : Rec} (h : V4 w lo g A n c code D r w1) (hc : Cur w2 lo g A n c code) (ho : Rep.Only w1 w2 [g]) : V4 w lo g A n c code D r w2 :=
 ⟨(ho.block _ (Array.getElem?_eq_some_iff.1 h.zero).1 (by have := h.lt; simp; omega)).trans h.zero, (ho.block _ (Array.getElem?_eq_some_iff.1 h.var).1 (by have := h.lt; have := h.hD; simp; omega)).trans h.var, hc, h.only.then ho (fun a ha => .inl ha), h.hD, h.lt, h.from_⟩
theorem V4.later {w w1 w2 : World} {lo g : Nat} {A : Option Addr} {n c : Nat} {code : List UInt8} {D : Nat} {r : Rec} (h : V4 w lo g A n c code D r w1) (hb : Below w1.heap.size w1 w2) : V4 w lo g A n c code D r w2 :=
 have ho := Rep.only_of_below hb
 h.step (h.cur.only ho (by simp) (fun a ha => by cases ha)) (ho.mono (by simp))
theorem V4.set {w w1 : World} {lo g : Nat} {A : Option Addr} {n c : Nat} {code : List UInt8} {D : Nat} {r : Rec} (h : V4 w lo g A n c code D r w1) (i : Nat) (u : Value) (r' : Rec) (hr : (recC r).toArray.setIfInBounds i u = (recC r').toArray) : V4 w lo g A n c code D r' (w1.setCell ⟨D, i, none⟩ u) := by
 have ho := Rep.Only.setCell w1 (p := ⟨D, i, none⟩) (fp := [D]) (by simp) u
 have h1 := h.hD
 have h2 := h.lt
 have h3 := h.from_
 exact ⟨(ho.block _ (Array.getElem?_eq_some_iff.1 h.zero).1 (by simp; omega)).trans h.zero, by rw [← hr]; exact var_set h.var i u, h.cur.only ho (by simp; omega) (fun a ha => by simp at ha; omega), h.only.then ho (fun a ha => .inr (by simp at ha; omega)), h1, h2, h3⟩
def RetRec4 (w : World) (lo g : Nat) (A : Option Addr) (n c : Nat) (code : List UInt8) (e : Ending) (w' : World) : Prop :=
 ∃ r : Rec, e = .returned (.agg #[.int .i64 r.kind, .int .i64 r.n, .int .i64 r.owner, .string r.text]) ∧ r.text.size ≤ 100 ∧ Cur w' lo g A n c code ∧ Rep.Only w w' [g]
theorem V4.ret {w w1 : World} {lo g : Nat} {A : Option Addr} {n c : Nat} {code : List UInt8} {D : Nat} {k m o : Int} {t : ByteArray} (h : V4 w lo g A n c code D ⟨k, m, o, t⟩ w1) (ht : t.size ≤ 100) :
  RetRec4 w lo g A n c code (.returned (.agg #[.int .i64 k, .int .i64 m, .int .i64 o, .string t])) ((((w1.setCell ⟨w.heap.size, 0, none⟩ (.int .i64 k)).setCell ⟨w.heap.size, 1, none⟩ (.int .i64 m)).setCell ⟨w.heap.size, 2, none⟩ (.int .i64 o)).setCell ⟨w.heap.size, 3, none⟩ (.string t)) := by
 have ho := putR4_only w1 w.heap.size (.int .i64 k) (.int .i64 m) (.int .i64 o) (.string t)
 have h2 := h.lt
 have h3 := h.from_
 exact ⟨⟨k, m, o, t⟩, rfl, ht, h.cur.only ho (by simp; omega) (fun a ha => by simp at ha; omega), h.only.then ho (fun a ha => .inr (by simp at ha; omega))⟩
theorem V4.facts {w w1 : World} {lo g : Nat} {A : Option Addr} {n c : Nat} {code : List UInt8} {D : Nat} {k m o : Int} {t : ByteArray} (h : V4 w lo g A n c code D ⟨k, m, o, t⟩ w1) :
  (w1.cell? ⟨D, 0, none⟩ = some (.int .i64 k) ∧ w1.cell? ⟨D, 1, none⟩ = some (.int .i64 m) ∧ w1.cell? ⟨D, 2, none⟩ = some (.int .i64 o) ∧ w1.cell? ⟨D, 3, none⟩ = some (.string t)) ∧ (∀ i, w1.frozen? ⟨D, i, none⟩ = false) ∧
  (w1.cell? ⟨w.heap.size, 0, none⟩ = some (.int .i64 0) ∧ w1.cell? ⟨w.heap.size, 1, none⟩ = some (.int .i64 0) ∧ w1.cell? ⟨w.heap.size, 2, none⟩ = some (.int .i64 0) ∧ w1.cell? ⟨w.heap.size, 3, none⟩ = some (.string ⟨#[]⟩)) ∧ (∀ i, w1.frozen? ⟨w.heap.size, i, none⟩ = false) :=
 ⟨rec_box h.var, var_frozen h.var, rec_box h.zero, var_frozen h.zero⟩
end Go.Proofs.YtoaaogacaibedaaGreatDoor
namespace Go.Proofs.YtoaaogacaibedaaGreatDoor
open Go.RowKit
set_option maxRecDepth 100000
set_option linter.unusedVariables false
noncomputable def formatP : Disk := syncDisk (writeSec (diskNew 38) 1 (headL 1 0))
abbrev Cont := Int → List UInt8
def upd (C : Cont) (s : Int) (b : List UInt8) : Cont := fun i => if s = i then b else C i
theorem upd_at (C : Cont) (s : Int) (b : List UInt8) : upd C s b s = b := if_pos rfl
theorem upd_ne {C : Cont} {s i : Int} {b : List UInt8} (h : s ≠ i) : upd C s b i = C i := if_neg h
def At (C : Cont) (g : Int) (i : Nat) (x : Int) : Prop := (getP (C (atP g i))).2 = true ∧ (getP (C (atP g i))).1.1 = x
theorem atP_ne {g h : Int} {i j : Nat} (hi : i < 18) (hj : j < 18) (hn : g % 2 ≠ h % 2 ∨ i ≠ j) : atP g i ≠ atP h j := by unfold atP; omega
theorem atP_odd {g : Int} {i j : Nat} (hi : i < 18) (hj : j < 18) : atP (g + 1) i ≠ atP g j := atP_ne hi hj (.inl (by omega))
theorem atP_head {g h : Int} {i : Nat} : h % 2 ≠ atP g i := by unfold atP; omega
theorem atP_in {g : Int} {i : Nat} (hi : i < 18) : 0 ≤ atP g i ∧ atP g i < 38 := by unfold atP; omega
theorem At.of_eq {C C' : Cont} {g q x : Int} {i j : Nat} (h : At C g i x) (e : C' (atP q j) = C (atP g i)) : At C' q j x := by unfold At; rw [e]; exact h
theorem head_at {g n : Int} (hg : 1 ≤ g ∧ g ≤ 60000) (hn : 0 ≤ n ∧ n ≤ 18) : getHeadP (headL g n) = ((g, n), true) := by
 have e : headL g n = u8 (g / 256) :: u8 g :: u8 (n / 256) :: u8 n :: wordBytes (crc (headBody g n)) := by
  rw [headL_yes (by unfold inI; simp; omega) (by unfold inI; simp; omega)]
  simp [withSum, headBody, wordBytes]
 have hl : (headL g n).length = 6 := by rw [e]; simp [wordBytes]
 have w0 : gwVal (headL g n) 0 = g := word_at (k := 0) (by omega) (by omega) (by omega) (by rw [e]; rfl) (by rw [e]; rfl)
 have w2 : gwVal (headL g n) 2 = n := word_at (k := 2) (by omega) (by omega) (by omega) (by rw [e]; rfl) (by rw [e]; rfl)
 rw [getHeadP_yes hl (by rw [w0, w2]), w0, w2]
theorem put_get {g p : Int} {r : Rec} (hr : recB r = true) (hg : 0 ≤ g ∧ g ≤ 65535) (hp : 0 ≤ p ∧ p ≤ 65535) : getP (putR g p r) = ((g, p, r), true) := by
 obtain ⟨h1, h2, h3, h4, _⟩ := rec_round hr hg hp
 unfold getP
 rw [if_pos h1, h2, h3, h4]
theorem get_nil : (getP []).2 = false := by
 unfold getP
 rw [if_neg]
 intro h
 have := getOk_text h
 cases this
theorem head_nil : (getHeadP []).2 = false := by
 rw [getHeadP_no]
 intro h
 cases h.1
theorem chain_good : ∀ (rs : List Rec) {k k' : Known}, KG k → chainP k rs = some k' → KG k' := by
 intro rs
 induction rs with
 | nil => intro k k' h e; injection e with e; subst e; exact h
 | cons r rs ih => intro k k' h e; exact ih (apply_good h) (chain_cons e).2.2
theorem chain_recB : ∀ (rs : List Rec) {k k' : Known}, chainP k rs = some k' → ∀ (i : Nat) r, rs[i]? = some r → recB r = true := by
 intro rs
 induction rs with
 | nil => intro k k' e i r hr; cases hr
 | cons x rs ih =>
  intro k k' e i r hr
  obtain ⟨_, h2, h3⟩ := chain_cons e
  cases i with
  | zero => injection hr with hr; subst hr; exact h2
  | succ i => exact ih h3 i r hr
structure JI (C : Cont) (k : Known) (g : Int) (p : Nat) : Prop where
 g1 : 1 ≤ g
 g2 : g ≤ 60000
 p18 : p ≤ 18
 head : ∃ n : Nat, n ≤ p ∧ C (g % 2) = headL g n
 recs : ∃ rs : List Rec, rs.length = p ∧ chainP knownZero rs = some k ∧ ∀ (i : Nat) r, rs[i]? = some r → C (atP g i) = putR g i r
 own : ∀ i : Nat, i < 18 → p ≤ i → ¬ At C g i g
 old : ∀ (i : Nat) x, i < 18 → At C g i x → x ≤ g
 oth : ∀ (i : Nat) x, i < 18 → At C (g + 1) i x → x ≤ g + 1
 nxt : ∀ i : Nat, i < 18 → At C (g + 1) i (g + 1) → p = 18 ∧ i < (recsL k).length
 head2 : ∀ x n, getHeadP (C ((g + 1) % 2)) = ((x, n), true) → x < g
theorem JI.good {C : Cont} {k : Known} {g : Int} {p : Nat} (h : JI C k g p) : KG k := by
 obtain ⟨rs, _, h2, _⟩ := h.recs
 exact chain_good rs zero_good h2
theorem replay_chain {d : Disk} {g : Int} (hg : 1 ≤ g ∧ g ≤ 60000) : ∀ (rs : List Rec) (i n : Nat) (k k' : Known), (∀ (j : Nat) r, rs[j]? = some r → readSec d (atP g ((i + j : Nat) : Int)) = putR g ((i + j : Nat) : Int) r) → chainP k rs = some k' → rs.length ≤ n → i + n ≤ 18 → replayFrom d g n i k = replayFrom d g (n - rs.length) (i + rs.length) k' := by
 intro rs
 induction rs with
 | nil => intro i n k k' _ h _ _; injection h with h; subst h; rfl
 | cons r rs ih =>
  intro i n k k' hs h hn h18
  obtain ⟨m, rfl⟩ : ∃ m, n = m + 1 := ⟨n - 1, by simp at hn; omega⟩
  obtain ⟨h1, h2, h3⟩ := chain_cons h
  have h0 := hs 0 r rfl
  rw [Nat.add_zero] at h0
  have hget := put_get (g := g) (p := (i : Int)) h2 (by omega) (by omega)
  have e1 : stepB d g i = true := by unfold stepB; rw [h0, hget]; simp
  have e2 : stepRec d g i = r := by unfold stepRec; rw [h0, hget]
  rw [replay_go e1 (by rw [e2]; exact h1), e2, ih (i + 1) m _ k' (fun j x hx => by have := hs (j + 1) x hx; rw [show i + 1 + j = i + (j + 1) by omega]; exact this) h3 (by simp at hn; omega) (by omega)]
  simp
  rw [show i + 1 + rs.length = i + (rs.length + 1) by omega]
theorem replay_JI {d : Disk} {k : Known} {g : Int} {p : Nat} (h : JI (readSec d) k g p) : replayP d g = (k, p) := by
 obtain ⟨rs, h1, h2, h3⟩ := h.recs
 have hg := h.g1
 have hg2 := h.g2
 have hp := h.p18
 unfold replayP
 rw [if_pos (by unfold inI; simp; omega), replay_chain ⟨hg, hg2⟩ rs 0 18 knownZero k (fun j r hr => by rw [Nat.zero_add]; exact h3 j r hr) h2 (by omega) (by omega), h1, Nat.zero_add]
 by_cases he : p = 18
 ·subst he
  rfl
 ·obtain ⟨m, hm⟩ : ∃ m, 18 - p = m + 1 := ⟨17 - p, by omega⟩
  rw [hm, replay_no]
  cases hs : stepB d g p with
  | false => rfl
  | true =>
   unfold stepB at hs
   simp only [Bool.and_eq_true, beq_iff_eq] at hs
   exact absurd (show At (readSec d) g p g from ⟨hs.1, hs.2.1⟩) (h.own p (by omega) (Nat.le_refl _))
theorem stepJ_less {d : Disk} {b : Jour} {i : Nat} {g : Int} (hb : b.g < g) (hx : ∀ x n, getHeadP (readSec d (i : Int)) = ((x, n), true) → x < g) : (stepJ d b i).g < g := by
 obtain ⟨⟨⟨x, y⟩, ok⟩, hg⟩ : ∃ p, getHeadP (readSec d (i : Int)) = p := ⟨_, rfl⟩
 by_cases hc : ok = true ∧ x % 2 = (i : Int) ∧ b.g < x ∧ y ≤ ((replayP d x).2 : Int)
 ·obtain ⟨rfl, h2, h3, h4⟩ := hc
  rw [stepJ_yes hg (Prod.eta _).symm h2 h3 h4]
  exact hx x y hg
 ·rw [stepJ_no hg hc]
  exact hb
theorem stepJ_stay {d : Disk} {b : Jour} {i : Nat} (hx : ∀ x n, getHeadP (readSec d (i : Int)) = ((x, n), true) → x < b.g) : stepJ d b i = b := by
 obtain ⟨⟨⟨x, y⟩, ok⟩, hg⟩ : ∃ p, getHeadP (readSec d (i : Int)) = p := ⟨_, rfl⟩
 refine stepJ_no hg (fun h => ?_)
 obtain ⟨rfl, _, h3, _⟩ := h
 have := hx x y hg
 omega
theorem stepJ_JI {d : Disk} {k : Known} {g : Int} {p i : Nat} {b : Jour} (h : JI (readSec d) k g p) (hi : g % 2 = (i : Int)) (hb : b.g < g) : stepJ d b i = ⟨k, g, p⟩ := by
 obtain ⟨n, hn, he⟩ := h.head
 have hp := h.p18
 rw [hi] at he
 exact stepJ_yes (x := g) (y := n) (by rw [he]; exact head_at ⟨h.g1, h.g2⟩ (by omega)) (replay_JI h) hi hb (by omega)
theorem open_JI {d : Disk} {k : Known} {g : Int} {p : Nat} (hd : DiskGood d) (h38 : d.secs.length = 38) (h : JI (readSec d) k g p) : openP d = (⟨k, g, p⟩, true) := by
 have hg := h.g1
 have e : bestJ d 2 = ⟨k, g, p⟩ := by
  show stepJ d (stepJ d jourZero 0) 1 = _
  rcases (show g % 2 = 0 ∨ g % 2 = 1 by omega) with h0 | h1
  ·rw [stepJ_JI (i := 0) h (by omega) (by show (0 : Int) < g; omega)]
   refine stepJ_stay (fun x n hx => ?_)
   exact h.head2 x n (by rw [show (g + 1) % 2 = ((1 : Nat) : Int) by omega]; exact hx)
  ·refine stepJ_JI (i := 1) h (by omega) (stepJ_less (by show (0 : Int) < g; omega) (fun x n hx => ?_))
   exact h.head2 x n (by rw [show (g + 1) % 2 = ((0 : Nat) : Int) by omega]; exact hx)
 unfold openP
 rw [if_pos ⟨diskOk_yes hd, h38⟩, e]
 simp
 omega
theorem JI.lay {C : Cont} {k : Known} {g : Int} {i : Nat} {r : Rec} (h : JI C k g 18) (hr : (recsL k)[i]? = some r) : JI (upd C (atP (g + 1) i) (putR (g + 1) i r)) k g 18 := by
 have hg := h.g1
 have hg2 := h.g2
 have hl := recsL_len k
 have hi := (List.getElem?_eq_some_iff.1 hr).1
 have hrb := chain_recB _ (recs_chain h.good) i r hr
 have hget := put_get (g := g + 1) (p := (i : Int)) hrb (by omega) (by omega)
 have hne : ∀ j : Nat, j < 18 → atP (g + 1) (i : Int) ≠ atP g (j : Int) := fun j hj => atP_odd (by omega) hj
 refine ⟨hg, hg2, h.p18, ?_, ?_, ?_, ?_, ?_, ?_, ?_⟩
 ·obtain ⟨n, h1, h2⟩ := h.head
  exact ⟨n, h1, by rw [upd_ne (Ne.symm atP_head)]; exact h2⟩
 ·obtain ⟨rs, h1, h2, h3⟩ := h.recs
  refine ⟨rs, h1, h2, fun j x hx => ?_⟩
  have := (List.getElem?_eq_some_iff.1 hx).1
  rw [upd_ne (hne j (by omega))]
  exact h3 j x hx
 ·intro j h1 h2 ha
  omega
 ·intro j x h1 ha
  exact h.old j x h1 (ha.of_eq (upd_ne (hne j h1)).symm)
 ·intro j x h1 ha
  by_cases hj : i = j
  ·subst hj
   unfold At at ha
   rw [upd_at, hget] at ha
   have := ha.2
   replace this : g + 1 = x := this
   omega
  ·exact h.oth j x h1 (ha.of_eq (upd_ne (atP_ne (by omega) h1 (.inr hj))).symm)
 ·intro j h1 ha
  by_cases hj : i = j
  ·subst hj
   exact ⟨rfl, hi⟩
  ·exact h.nxt j h1 (ha.of_eq (upd_ne (atP_ne (by omega) h1 (.inr hj))).symm)
 ·intro x n hx
  rw [upd_ne (Ne.symm atP_head)] at hx
  exact h.head2 x n hx
theorem JI.turn {C : Cont} {k : Known} {g : Int} (h : JI C k g 18) (hg3 : g + 1 ≤ 60000) (hall : ∀ (i : Nat) r, (recsL k)[i]? = some r → C (atP (g + 1) i) = putR (g + 1) i r) : JI (upd C ((g + 1) % 2) (headL (g + 1) ((recsL k).length : Int))) k (g + 1) (recsL k).length := by
 have hg := h.g1
 have hl := recsL_len k
 have e2 : ∀ i : Nat, atP (g + 1 + 1) (i : Int) = atP g (i : Int) := fun i => by unfold atP; omega
 have hs : ∀ (q : Int) (i : Nat), (upd C ((g + 1) % 2) (headL (g + 1) ((recsL k).length : Int))) (atP q i) = C (atP q i) := fun q i => upd_ne atP_head
 refine ⟨by omega, hg3, by omega, ⟨_, Nat.le_refl _, upd_at _ _ _⟩, ⟨recsL k, rfl, recs_chain h.good, fun i r hr => by rw [hs]; exact hall i r hr⟩, ?_, ?_, ?_, ?_, ?_⟩
 ·intro i h1 h2 ha
  have := (h.nxt i h1 (ha.of_eq (hs _ _).symm)).2
  omega
 ·intro i x h1 ha
  exact h.oth i x h1 (ha.of_eq (hs _ _).symm)
 ·intro i x h1 ha
  have := h.old i x h1 (ha.of_eq (C' := C) (q := g) (j := i) (by rw [hs, e2]))
  omega
 ·intro i h1 ha
  have := h.old i _ h1 (ha.of_eq (C' := C) (q := g) (j := i) (by rw [hs, e2]))
  omega
 ·intro x n hx
  obtain ⟨m, hm, he⟩ := h.head
  rw [upd_ne (by omega), show (g + 1 + 1) % 2 = g % 2 by omega, he, head_at ⟨hg, h.g2⟩ (by omega)] at hx
  injection hx with hx _
  injection hx with hx _
  omega
theorem JI.add {C : Cont} {k k' : Known} {g : Int} {p : Nat} {r : Rec} (h : JI C k g p) (hp : p < 18) (ha : applyP k r = (k', true)) : JI (upd C (atP g p) (putR g p r)) k' g (p + 1) := by
 have hg := h.g1
 have hg2 := h.g2
 have hrb := (apply_yes ha).2.1
 have hget := put_get (g := g) (p := (p : Int)) hrb (by omega) (by omega)
 have ho : ∀ j : Nat, j < 18 → atP g (p : Int) ≠ atP (g + 1) (j : Int) := fun j hj => (atP_odd hj hp).symm
 refine ⟨hg, hg2, by omega, ?_, ?_, ?_, ?_, ?_, ?_, ?_⟩
 ·obtain ⟨n, h1, h2⟩ := h.head
  exact ⟨n, by omega, by rw [upd_ne (Ne.symm atP_head)]; exact h2⟩
 ·obtain ⟨rs, h1, h2, h3⟩ := h.recs
  refine ⟨rs ++ [r], by simp [h1], by rw [chain_append _ _ _ _ h2]; exact chain_step ha hrb rfl, fun j x hx => ?_⟩
  by_cases hj : j < p
  ·rw [List.getElem?_append_left (by omega)] at hx
   rw [upd_ne (atP_ne hp (by omega) (.inr (by omega)))]
   exact h3 j x hx
  ·have hlt := (List.getElem?_eq_some_iff.1 hx).1
   simp at hlt
   have hjp : j = p := by omega
   subst hjp
   rw [List.getElem?_append_right (by omega), h1, Nat.sub_self] at hx
   injection hx with hx
   subst hx
   exact upd_at _ _ _
 ·intro j h1 h2 hat
  exact h.own j h1 (by omega) (hat.of_eq (upd_ne (atP_ne hp h1 (.inr (by omega)))).symm)
 ·intro j x h1 hat
  by_cases hj : p = j
  ·subst hj
   unfold At at hat
   rw [upd_at, hget] at hat
   have := hat.2
   replace this : g = x := this
   omega
  ·exact h.old j x h1 (hat.of_eq (upd_ne (atP_ne hp h1 (.inr hj))).symm)
 ·intro j x h1 hat
  exact h.oth j x h1 (hat.of_eq (upd_ne (ho j h1)).symm)
 ·intro j h1 hat
  have := (h.nxt j h1 (hat.of_eq (upd_ne (ho j h1)).symm)).1
  omega
 ·intro x n hx
  rw [upd_ne (Ne.symm atP_head)] at hx
  exact h.head2 x n hx
theorem read_out {d : Disk} {i : Int} (h : ¬ InSec d i) : readSec d i = [] := readSec_no (fun h9 => h h9.2)
theorem fall_read {d : Disk} (hd : DiskGood d) (keep : Int) {i : Nat} (hi : i < d.secs.length) : readSec (fallDisk d keep) (i : Int) = secAt d (idxC (keyB d.cache (keepOf keep)) d.cache.length) i := by
 have hg := good_fallDisk hd keep
 rw [fallDisk_go keep hd] at hg ⊢
 rw [readSec_yes hg ⟨by omega, by show (i : Int) < ((flushSecs d _).length : Int); rw [flushSecs_length]; omega⟩]
 show readTo (⟨flushSecs d (idxC (keyB d.cache (keepOf keep)) d.cache.length), [], -1, false⟩ : Disk) (i : Int) 0 = _
 rw [readTo_nil _ _ _ _ _ rfl]
 show (flushSecs d _).getD ((i : Int).toNat) [] = _
 rw [show ((i : Int).toNat) = i by simp, flush_get hi]
theorem fall_len {d : Disk} (keep : Int) : (fallDisk d keep).secs.length = d.secs.length := by
 by_cases hd : DiskGood d
 ·rw [fallDisk_go keep hd]; exact flushSecs_length _ _
 ·rw [fallDisk_no keep hd]
theorem keyB_push {cache : List Wr} {x : Wr} {kb : Int} {k : Nat} (hk : k < cache.length) (i : Int) : keyB (cache ++ [x]) kb k i = keyB cache kb k i := by
 unfold keyB
 rw [key_push hk]
theorem idxB_push {cache : List Wr} {x : Wr} {kb : Int} (i : Int) : ∀ k, k ≤ cache.length → idxC (keyB (cache ++ [x]) kb) k i = idxC (keyB cache kb) k i := by
 intro k
 induction k with
 | zero => intro _; rfl
 | succ k ih =>
  intro hk
  show (if keyB (cache ++ [x]) kb k i = true then some k else idxC (keyB (cache ++ [x]) kb) k i) = (if keyB cache kb k i = true then some k else idxC (keyB cache kb) k i)
  rw [keyB_push (by omega), ih (by omega)]
theorem fall_push {d : Disk} {s : Int} {b : List UInt8} (hg : WriteGood d s b) (h0 : d.fuse ≠ 0) (keep : Int) : readSec (fallDisk (writeSec d s b) keep) = upd (readSec (fallDisk d keep)) s b ∨ readSec (fallDisk (writeSec d s b) keep) = readSec (fallDisk d keep) := by
 have hgw := good_write hg
 have key : ∀ i : Nat, i < d.secs.length → readSec (fallDisk (writeSec d s b) keep) (i : Int) = if bitOf (keepOf keep) d.cache.length = true ∧ s = (i : Int) then b else readSec (fallDisk d keep) (i : Int) := by
  intro i hi
  rw [fall_read hgw keep (by rw [writeSec_go hg h0]; exact hi), fall_read hg.1 keep hi, writeSec_go hg h0]
  unfold secAt
  show (match idxC (keyB (d.cache ++ [(⟨s, b⟩ : Wr)]) (keepOf keep)) (d.cache ++ [(⟨s, b⟩ : Wr)]).length (i : Int) with | some j => ((d.cache ++ [(⟨s, b⟩ : Wr)]).getD j ⟨0, []⟩).b | none => d.secs.getD i []) = _
  rw [show (d.cache ++ [(⟨s, b⟩ : Wr)]).length = d.cache.length + 1 by simp]
  have hstep : idxC (keyB (d.cache ++ [(⟨s, b⟩ : Wr)]) (keepOf keep)) (d.cache.length + 1) (i : Int) = if bitOf (keepOf keep) d.cache.length = true ∧ s = (i : Int) then some d.cache.length else idxC (keyB d.cache (keepOf keep)) d.cache.length (i : Int) := by
   show (if keyB (d.cache ++ [(⟨s, b⟩ : Wr)]) (keepOf keep) d.cache.length (i : Int) = true then some d.cache.length else idxC (keyB (d.cache ++ [(⟨s, b⟩ : Wr)]) (keepOf keep)) d.cache.length (i : Int)) = _
   rw [idxB_push _ _ (Nat.le_refl _)]
   have : keyB (d.cache ++ [(⟨s, b⟩ : Wr)]) (keepOf keep) d.cache.length (i : Int) = true ↔ (bitOf (keepOf keep) d.cache.length = true ∧ s = (i : Int)) := by
    unfold keyB
    rw [key_eq (x := ⟨s, b⟩) (by simp)]
    simp
   by_cases h : bitOf (keepOf keep) d.cache.length = true ∧ s = (i : Int)
   ·rw [if_pos h, if_pos (this.2 h)]
   ·rw [if_neg h, if_neg (fun h9 => h (this.1 h9))]
  rw [hstep]
  by_cases h : bitOf (keepOf keep) d.cache.length = true ∧ s = (i : Int)
  ·rw [if_pos h, if_pos h]
   show ((d.cache ++ [(⟨s, b⟩ : Wr)]).getD d.cache.length ⟨0, []⟩).b = b
   rw [List.getD_eq_getElem?_getD]
   simp
  ·rw [if_neg h, if_neg h]
   rcases he : idxC (keyB d.cache (keepOf keep)) d.cache.length (i : Int) with _ | j
   ·rfl
   ·have hj := (idxC_lt he).1
    show ((d.cache ++ [(⟨s, b⟩ : Wr)]).getD j ⟨0, []⟩).b = (d.cache.getD j ⟨0, []⟩).b
    rw [List.getD_eq_getElem?_getD, List.getD_eq_getElem?_getD, List.getElem?_append_left hj]
 have hlen : (fallDisk (writeSec d s b) keep).secs.length = d.secs.length := by rw [fall_len, writeSec_go hg h0]
 have hout : ∀ i : Int, ¬ InSec d i → readSec (fallDisk (writeSec d s b) keep) i = [] ∧ readSec (fallDisk d keep) i = [] := by
  intro i hi
  exact ⟨read_out (fun h => hi ⟨h.1, by have := h.2; rw [hlen] at this; exact this⟩), read_out (fun h => hi ⟨h.1, by have := h.2; rw [fall_len] at this; exact this⟩)⟩
 by_cases hb : bitOf (keepOf keep) d.cache.length = true
 ·refine .inl (funext fun i => ?_)
  by_cases hi : InSec d i
  ·obtain ⟨m, rfl⟩ := Int.eq_ofNat_of_zero_le hi.1
   have hm : m < d.secs.length := by have := hi.2; omega
   rw [key m hm]
   unfold upd
   by_cases hs : s = (m : Int)
   ·rw [if_pos ⟨hb, hs⟩, if_pos hs]
   ·rw [if_neg (fun h9 => hs h9.2), if_neg hs]
  ·rw [(hout i hi).1, upd_ne (fun e => hi (by rw [← e]; exact hg.2.2.1)), (hout i hi).2]
 ·refine .inr (funext fun i => ?_)
  by_cases hi : InSec d i
  ·obtain ⟨m, rfl⟩ := Int.eq_ofNat_of_zero_le hi.1
   have hm : m < d.secs.length := by have := hi.2; omega
   rw [key m hm, if_neg (fun h9 => hb h9.1)]
  ·rw [(hout i hi).1, (hout i hi).2]
structure Up (d : Disk) (C : Cont) (n : Nat) (F : Cont → Prop) (f : Int) : Prop where
 good : DiskGood d
 len : d.secs.length = 38
 up : d.down = false
 cache : d.cache.length ≤ n
 rd : readSec d = C
 fall : ∀ keep, F (readSec (fallDisk d keep))
 fuse : d.fuse = f
structure Dn (d : Disk) (F : Cont → Prop) : Prop where
 good : DiskGood d
 len : d.secs.length = 38
 dn : d.down = true
 fall : ∀ keep, F (readSec (fallDisk d keep))
theorem Dn.mono {d : Disk} {F G : Cont → Prop} (h : Dn d F) (hs : ∀ c, F c → G c) : Dn d G := ⟨h.good, h.len, h.dn, fun k => hs _ (h.fall k)⟩
theorem Dn.write {d : Disk} {F : Cont → Prop} (h : Dn d F) (s : Int) (b : List UInt8) : writeSec d s b = d := writeSec_no (fun h9 => by have := h9.2.1; rw [h.dn] at this; cases this)
theorem Dn.sync {d : Disk} {F : Cont → Prop} (h : Dn d F) : syncDisk d = d := syncDisk_no (fun h9 => by have := h9.2; rw [h.dn] at this; cases this)
theorem up_write {d : Disk} {C : Cont} {n : Nat} {F G : Cont → Prop} {f s : Int} {b : List UInt8} (h : Up d C n F f) (hn : n < 30) (hs : 0 ≤ s ∧ s < 38) (hb : b.length ≤ 160) (h1 : ∀ c, F c → G c) (h2 : ∀ c, F c → G (upd c s b)) :
  (f ≠ 0 ∧ Up (writeSec d s b) (upd C s b) (n + 1) G (fuseAfter f)) ∨ (f = 0 ∧ Dn (writeSec d s b) F) := by
 have hc := h.cache
 have hw : WriteGood d s b := ⟨h.good, h.up, ⟨hs.1, by rw [h.len]; exact hs.2⟩, hb, by omega⟩
 by_cases h0 : f = 0
 ·refine .inr ⟨h0, ?_⟩
  have hgw := good_write hw
  rw [writeSec_zero hw (by rw [h.fuse]; exact h0)] at hgw ⊢
  refine ⟨hgw, h.len, rfl, fun keep => ?_⟩
  have e : fallDisk (⟨d.secs, d.cache, -1, true⟩ : Disk) keep = fallDisk d keep := by
   rw [fallDisk_go keep hgw, fallDisk_go keep h.good]
   rfl
  rw [e]
  exact h.fall keep
 ·have h0' : d.fuse ≠ 0 := by rw [h.fuse]; exact h0
  refine .inl ⟨h0, ⟨good_write hw, by rw [writeSec_go hw h0']; exact h.len, by rw [writeSec_go hw h0']; exact h.up, by rw [writeSec_go hw h0']; show (d.cache ++ [_]).length ≤ n + 1; simp; omega, ?_, fun keep => ?_, by rw [writeSec_go hw h0', ← h.fuse]⟩⟩
  ·funext i
   by_cases hi : InSec d i
   ·rw [readSec_push hw h0' i hi, ← h.rd]
    rfl
   ·rw [read_out (fun h9 => hi ⟨h9.1, by have := h9.2; rw [writeSec_go hw h0'] at this; exact this⟩), upd_ne (fun e => hi (by rw [← e]; exact hw.2.2.1)), ← h.rd, read_out hi]
  ·rcases fall_push hw h0' keep with e | e <;> rw [e]
   ·exact h2 _ (h.fall keep)
   ·exact h1 _ (h.fall keep)
theorem up_sync {d : Disk} {C : Cont} {n : Nat} {F : Cont → Prop} {f : Int} (h : Up d C n F f) :
  (f ≠ 0 ∧ Up (syncDisk d) C 0 (fun c => c = C) (fuseAfter f)) ∨ (f = 0 ∧ Dn (syncDisk d) F) := by
 have hw : SyncGood d := ⟨h.good, h.up⟩
 have hgs := good_syncDisk h.good
 by_cases h0 : f = 0
 ·refine .inr ⟨h0, ?_⟩
  rw [syncDisk_zero hw (by rw [h.fuse]; exact h0)] at hgs ⊢
  refine ⟨hgs, h.len, rfl, fun keep => ?_⟩
  have e : fallDisk (⟨d.secs, d.cache, -1, true⟩ : Disk) keep = fallDisk d keep := by
   rw [fallDisk_go keep hgs, fallDisk_go keep h.good]
   rfl
  rw [e]
  exact h.fall keep
 ·have h0' : d.fuse ≠ 0 := by rw [h.fuse]; exact h0
  have hlen : (syncDisk d).secs.length = d.secs.length := by rw [syncDisk_go hw h0']; exact flushSecs_length _ _
  have hcn : (syncDisk d).cache = [] := by rw [syncDisk_go hw h0']
  have hf0 : fallDisk (syncDisk d) 0 = ⟨flushSecs d (idxC (key d.cache) d.cache.length), [], -1, false⟩ := fall_synced h.good h.up h0'
  have hfk : ∀ keep, fallDisk (syncDisk d) keep = fallDisk (syncDisk d) 0 := by
   intro keep
   rw [hf0, fallDisk_go keep hgs, syncDisk_go hw h0']
   congr 1
   exact flush_nil _ _ _ _
  have hrd : readSec (fallDisk (syncDisk d) 0) = C := by
   funext i
   by_cases hi : InSec d i
   ·rw [readSec_synced h.good h.up h0' i hi, h.rd]
   ·rw [read_out (fun h9 => hi ⟨h9.1, by have := h9.2; rw [fall_len, hlen] at this; exact this⟩), ← h.rd, read_out hi]
  refine .inl ⟨h0, ⟨hgs, by rw [hlen]; exact h.len, by rw [syncDisk_go hw h0']; exact h.up, by rw [hcn]; exact Nat.le_refl _, ?_, fun keep => by rw [hfk, hrd], by rw [syncDisk_go hw h0', ← h.fuse]⟩⟩
  funext i
  by_cases hi : InSec d i
  ·have hgf := good_fallDisk hgs 0
   rw [← hrd, hf0]
   rw [hf0] at hgf
   have hin : InSec (⟨flushSecs d (idxC (key d.cache) d.cache.length), [], -1, false⟩ : Disk) i := ⟨hi.1, by show i < ((flushSecs d _).length : Int); rw [flushSecs_length]; exact hi.2⟩
   have := readSec_same (⟨flushSecs d (idxC (key d.cache) d.cache.length), [], -1, false⟩ : Disk) (fuseAfter d.fuse) d.down hgf (by have := h.good.2.2.2; unfold fuseAfter; split <;> omega) (by have := h.good.2.2.2; unfold fuseAfter; split <;> omega) i hin
   rw [syncDisk_go hw h0']
   exact this
  ·rw [read_out (fun h9 => hi ⟨h9.1, by have := h9.2; rw [hlen] at this; exact this⟩), ← h.rd, read_out hi]
theorem after_one {f : Int} (h : f = -1) : fuseAfter f = -1 := by subst h; rfl
theorem putR_small (g p : Int) (r : Rec) : (putR g p r).length ≤ 160 := by have := putR_len g p r; omega
theorem lay_up {d : Disk} {C : Cont} {k : Known} {g f : Int} (h : Up d C 0 (fun c => c = C) f) (hj : JI C k g 18) : ∀ i, i ≤ (recsL k).length →
  (∃ C' f', Up (layTo d (g + 1) (recsL k) i) C' i (fun c => JI c k g 18) f' ∧ JI C' k g 18 ∧ (∀ (j : Nat) r, j < i → (recsL k)[j]? = some r → C' (atP (g + 1) j) = putR (g + 1) j r) ∧ (f = -1 → f' = -1)) ∨ (f ≠ -1 ∧ Dn (layTo d (g + 1) (recsL k) i) (fun c => JI c k g 18)) := by
 intro i
 have hl := recsL_len k
 induction i with
 | zero =>
  intro _
  exact .inl ⟨C, f, ⟨h.good, h.len, h.up, h.cache, h.rd, fun keep => by have e : readSec (fallDisk d keep) = C := h.fall keep; show JI (readSec (fallDisk d keep)) k g 18; rw [e]; exact hj, h.fuse⟩, hj, fun j r hj2 => absurd hj2 (Nat.not_lt_zero _), id⟩
 | succ i ih =>
  intro hi
  obtain ⟨r, hr⟩ : ∃ r, (recsL k)[i]? = some r := ⟨_, List.getElem?_eq_getElem (by omega)⟩
  rw [layTo_go hr]
  rcases ih (by omega) with ⟨C', f', hu, hji, hall, hf⟩ | ⟨hf, hdn⟩
  ·rcases up_write (G := fun c => JI c k g 18) (s := atP (g + 1) i) (b := putR (g + 1) i r) hu (by omega) (atP_in (by omega)) (putR_small _ _ _) (fun c hc => hc) (fun c hc => hc.lay hr) with ⟨h0, hu2⟩ | ⟨h0, hdn⟩
   ·refine .inl ⟨_, _, hu2, hji.lay hr, fun j x hj2 hx => ?_, fun h9 => after_one (hf h9)⟩
    by_cases hji2 : i = j
    ·subst hji2
     rw [hr] at hx
     injection hx with hx
     subst hx
     exact upd_at _ _ _
    ·rw [upd_ne (atP_ne (by omega) (by omega) (.inr hji2))]
     exact hall j x (by omega) hx
   ·exact .inr ⟨fun h9 => (by have := hf h9; omega), hdn⟩
  ·rw [hdn.write]
   exact .inr ⟨hf, hdn⟩
theorem layP_up {d : Disk} {C : Cont} {k : Known} {g f : Int} (h : Up d C 0 (fun c => c = C) f) (hj : JI C k g 18) (hg : g + 1 ≤ 60000) :
  (∃ C' f', Up (layP d ⟨k, g, 18⟩) C' 0 (fun c => c = C') f' ∧ JI C' k (g + 1) (recsL k).length ∧ (f = -1 → f' = -1)) ∨ (f ≠ -1 ∧ Dn (layP d ⟨k, g, 18⟩) (fun c => JI c k g 18 ∨ JI c k (g + 1) (recsL k).length)) := by
 unfold layP
 show (∃ C' f', Up (syncDisk (writeSec (syncDisk (layTo d (g + 1) (recsL k) (recsL k).length)) ((g + 1) % 2) (headL (g + 1) ((recsL k).length : Int)))) C' 0 (fun c => c = C') f' ∧ _) ∨ (_ ∧ Dn (syncDisk (writeSec (syncDisk (layTo d (g + 1) (recsL k) (recsL k).length)) ((g + 1) % 2) (headL (g + 1) ((recsL k).length : Int)))) _)
 have hhl := headL_len (g + 1) ((recsL k).length : Int)
 rcases lay_up h hj _ (Nat.le_refl _) with ⟨C1, f1, hu1, hj1, hall, hf1⟩ | ⟨hf, hdn⟩
 ·have hall' : ∀ (j : Nat) r, (recsL k)[j]? = some r → C1 (atP (g + 1) j) = putR (g + 1) j r := fun j r hr => hall j r (List.getElem?_eq_some_iff.1 hr).1 hr
  have hj2 := hj1.turn hg hall'
  rcases up_sync hu1 with ⟨h0, hu2⟩ | ⟨h0, hdn⟩
  ·rcases up_write (G := fun c => c = C1 ∨ c = upd C1 ((g + 1) % 2) (headL (g + 1) ((recsL k).length : Int))) (s := (g + 1) % 2) (b := headL (g + 1) ((recsL k).length : Int)) hu2 (by omega) (by omega) (by omega) (fun c hc => .inl hc) (fun c hc => .inr (by rw [hc])) with ⟨h3, hu3⟩ | ⟨h3, hdn⟩
   ·rcases up_sync hu3 with ⟨h4, hu4⟩ | ⟨h4, hdn⟩
    ·exact .inl ⟨_, _, hu4, hj2, fun h9 => after_one (after_one (after_one (hf1 h9)))⟩
    ·refine .inr ⟨fun h9 => (by rw [after_one (after_one (hf1 h9))] at h4; cases h4), hdn.mono fun c hc => ?_⟩
     rcases hc with rfl | rfl
     ·exact .inl hj1
     ·exact .inr hj2
   ·rw [hdn.sync]
    exact .inr ⟨fun h9 => (by rw [after_one (hf1 h9)] at h3; cases h3), hdn.mono fun c hc => .inl (by rw [hc]; exact hj1)⟩
  ·rw [hdn.write, hdn.sync]
   exact .inr ⟨fun h9 => (by rw [hf1 h9] at h0; cases h0), hdn.mono fun c hc => .inl hc⟩
 ·rw [hdn.sync, hdn.write, hdn.sync]
  exact .inr ⟨hf, hdn.mono fun c hc => .inl hc⟩
theorem last_up {d : Disk} {C : Cont} {k k' : Known} {g f : Int} {p : Nat} {r : Rec} (h : Up d C 0 (fun c => c = C) f) (hj : JI C k g p) (hp : p < 18) (ha : applyP k r = (k', true)) :
  (∃ C' f', Up (putLast d g p r) C' 0 (fun c => c = C') f' ∧ JI C' k' g (p + 1) ∧ (f = -1 → f' = -1)) ∨ (f ≠ -1 ∧ Dn (putLast d g p r) (fun c => JI c k g p ∨ JI c k' g (p + 1))) := by
 unfold putLast
 have hj2 := hj.add hp ha
 rcases up_write (G := fun c => c = C ∨ c = upd C (atP g p) (putR g p r)) (s := atP g p) (b := putR g p r) h (by omega) (atP_in hp) (putR_small _ _ _) (fun c hc => .inl hc) (fun c hc => .inr (by rw [hc])) with ⟨h3, hu3⟩ | ⟨h3, hdn⟩
 ·rcases up_sync hu3 with ⟨h4, hu4⟩ | ⟨h4, hdn⟩
  ·exact .inl ⟨_, _, hu4, hj2, fun h9 => after_one (after_one h9)⟩
  ·refine .inr ⟨fun h9 => (by rw [after_one h9] at h4; cases h4), hdn.mono fun c hc => ?_⟩
   rcases hc with rfl | rfl
   ·exact .inl hj
   ·exact .inr hj2
 ·rw [hdn.sync]
  exact .inr ⟨fun h9 => (by rw [h9] at h3; cases h3), hdn.mono fun c hc => .inl (by rw [hc]; exact hj)⟩
theorem add_up {d : Disk} {C : Cont} {k k' : Known} {g f : Int} {p : Nat} {r : Rec} (h : Up d C 0 (fun c => c = C) f) (hj : JI C k g p) (hg : g + 1 ≤ 60000) (ha : applyP k r = (k', true)) :
  ((addP d r).2 = true ∧ ∃ C' f' g' p', Up (addP d r).1 C' 0 (fun c => c = C') f' ∧ JI C' k' g' p' ∧ ((g' = g ∧ p' = p + 1) ∨ g' = g + 1) ∧ (f = -1 → f' = -1)) ∨
  ((addP d r).2 = false ∧ f ≠ -1 ∧ Dn (addP d r).1 (fun c => ∃ k2 g2 p2, JI c k2 g2 p2 ∧ (k2 = k ∨ k2 = k') ∧ g2 ≤ g + 1)) := by
 have hop : openP d = (⟨k, g, p⟩, true) := open_JI h.good h.len (by rw [h.rd]; exact hj)
 have hp := hj.p18
 by_cases h18 : p = 18
 ·subst h18
  rw [addP_new hop ha h.up rfl (by show g ≠ 60000; omega)]
  have hl := recsL_len k
  rcases layP_up h hj hg with ⟨C1, f1, hu1, hj1, hf1⟩ | ⟨hf, hdn⟩
  ·rcases last_up hu1 hj1 (by omega) ha with ⟨C2, f2, hu2, hj2, hf2⟩ | ⟨hf, hdn⟩
   ·refine .inl ⟨?_, C2, f2, g + 1, _, hu2, hj2, .inr rfl, fun h9 => hf2 (hf1 h9)⟩
    show (!(putLast (layP d ⟨k, g, 18⟩) (g + 1) ((recsL k).length : Int) r).down) = true
    rw [hu2.up]
    rfl
   ·refine .inr ⟨?_, fun h9 => hf (hf1 h9), hdn.mono fun c hc => ?_⟩
    ·show (!(putLast (layP d ⟨k, g, 18⟩) (g + 1) ((recsL k).length : Int) r).down) = false
     rw [hdn.dn]
     rfl
    ·rcases hc with hc | hc
     ·exact ⟨_, _, _, hc, .inl rfl, Int.le_refl _⟩
     ·exact ⟨_, _, _, hc, .inr rfl, Int.le_refl _⟩
  ·have e : putLast (layP d ⟨k, g, 18⟩) (g + 1) ((recsL k).length : Int) r = layP d ⟨k, g, 18⟩ := by
    unfold putLast
    rw [hdn.write, hdn.sync]
   refine .inr ⟨?_, hf, ?_⟩
   ·show (!(putLast (layP d ⟨k, g, 18⟩) (g + 1) ((recsL k).length : Int) r).down) = false
    rw [e, hdn.dn]
    rfl
   ·show Dn (putLast (layP d ⟨k, g, 18⟩) (g + 1) ((recsL k).length : Int) r) _
    rw [e]
    refine hdn.mono fun c hc => ?_
    rcases hc with hc | hc
    ·exact ⟨_, _, _, hc, .inl rfl, by omega⟩
    ·exact ⟨_, _, _, hc, .inl rfl, Int.le_refl _⟩
 ·rw [addP_last hop ha h.up (by show (p : Int) ≠ 18; omega)]
  rcases last_up h hj (by omega) ha with ⟨C2, f2, hu2, hj2, hf2⟩ | ⟨hf, hdn⟩
  ·refine .inl ⟨?_, C2, f2, g, _, hu2, hj2, .inl ⟨rfl, rfl⟩, hf2⟩
   show (!(putLast _ _ _ _).down) = true
   rw [hu2.up]
   rfl
  ·refine .inr ⟨?_, hf, hdn.mono fun c hc => ?_⟩
   ·show (!(putLast _ _ _ _).down) = false
    rw [hdn.dn]
    rfl
   ·rcases hc with hc | hc
    ·exact ⟨_, _, _, hc, .inl rfl, by omega⟩
    ·exact ⟨_, _, _, hc, .inr rfl, by omega⟩
theorem up_fall {d : Disk} (hd : DiskGood d) (h38 : d.secs.length = 38) (keep : Int) : Up (fallDisk d keep) (readSec (fallDisk d keep)) 0 (fun c => c = readSec (fallDisk d keep)) (-1) := by
 have hg := good_fallDisk hd keep
 have hlen := fall_len (d := d) keep
 have e : ∀ keep2, fallDisk (fallDisk d keep) keep2 = fallDisk d keep := by
  intro keep2
  rw [fallDisk_go keep2 hg, fallDisk_go keep hd]
  congr 1
  exact flush_nil _ _ _ _
 refine ⟨hg, by rw [hlen]; exact h38, by rw [fallDisk_go keep hd], by rw [fallDisk_go keep hd]; exact Nat.le_refl _, rfl, fun keep2 => by rw [e], by rw [fallDisk_go keep hd]⟩
theorem up_fuse {d : Disk} {C : Cont} {f0 f : Int} (h : Up d C 0 (fun c => c = C) f0) (hf1 : -1 ≤ f) (hf2 : f ≤ 1000) : Up ⟨d.secs, d.cache, f, d.down⟩ C 0 (fun c => c = C) f := by
 have hg : DiskGood (⟨d.secs, d.cache, f, d.down⟩ : Disk) := ⟨h.good.1, h.good.2.1, h.good.2.2.1, hf1, hf2⟩
 refine ⟨hg, h.len, h.up, h.cache, ?_, fun keep => ?_, rfl⟩
 ·funext i
  by_cases hi : InSec d i
  ·rw [readSec_same d f d.down h.good hf1 hf2 i hi, h.rd]
  ·rw [read_out (d := ⟨d.secs, d.cache, f, d.down⟩) hi, ← h.rd, read_out hi]
 ·have e : fallDisk (⟨d.secs, d.cache, f, d.down⟩ : Disk) keep = fallDisk d keep := by
   rw [fallDisk_go keep hg, fallDisk_go keep h.good]
   rfl
  rw [e]
  exact h.fall keep
theorem new_up : Up (diskNew 38) (fun _ => []) 0 (fun c => c = fun _ => []) (-1) := by
 have hg := good_diskNew (n := 38) (by decide) (by decide)
 have e : diskNew 38 = ⟨List.replicate 38 [], [], -1, false⟩ := rfl
 have hr : ∀ i, readSec (diskNew 38) i = [] := by
  intro i
  by_cases hi : InSec (diskNew 38) i
  ·rw [readSec_yes hg hi, e]
   show readTo (⟨List.replicate 38 [], [], -1, false⟩ : Disk) i 0 = []
   rw [readTo_nil _ _ _ _ _ rfl, List.getD_eq_getElem?_getD]
   by_cases h : i.toNat < 38
   ·rw [List.getElem?_replicate, if_pos h]; rfl
   ·rw [List.getElem?_replicate, if_neg h]; rfl
  ·exact read_out hi
 refine ⟨hg, by rw [e]; rfl, by rw [e], by rw [e]; exact Nat.le_refl _, funext hr, fun keep => ?_, by rw [e]⟩
 have e2 : fallDisk (diskNew 38) keep = diskNew 38 := by
  rw [fallDisk_go keep hg, e]
  congr 1
 rw [e2]
 exact funext hr
theorem format_up : ∃ C, Up formatP C 0 (fun c => c = C) (-1) ∧ JI C knownZero 1 0 := by
 have hhl := headL_len 1 0
 have hat : ∀ (g : Int) (i : Nat) x, ¬ At (upd (fun _ => []) 1 (headL 1 0)) g i x := by
  intro g i x h
  have h1 := h.1
  rw [upd_ne (by unfold atP; omega)] at h1
  rw [get_nil] at h1
  cases h1
 refine ⟨upd (fun _ => []) 1 (headL 1 0), ?_, ⟨by omega, by omega, by omega, ⟨0, Nat.le_refl _, upd_at _ _ _⟩, ⟨[], rfl, rfl, fun i r h => by cases h⟩, fun i _ _ h => hat _ _ _ h, fun i x _ h => absurd h (hat _ _ _), fun i x _ h => absurd h (hat _ _ _), fun i _ h => absurd h (hat _ _ _), fun x n hx => ?_⟩⟩
 ·unfold formatP
  rcases up_write (G := fun _ => True) (s := 1) (b := headL 1 0) new_up (by omega) (by omega) (by omega) (fun _ _ => trivial) (fun _ _ => trivial) with ⟨_, h2⟩ | ⟨h2, _⟩
  ·rcases up_sync h2 with ⟨_, h3⟩ | ⟨h3, _⟩
   ·exact h3
   ·cases h3
  ·cases h2
 ·rw [upd_ne (by decide)] at hx
  have := head_nil
  rw [hx] at this
  cases this
end Go.Proofs.YtoaaogacaibedaaGreatDoor
