/- What the theorem needs, out of many texts. -/
import Derived.Test.YtoaaogacaibedaaGreatDoorShx2
import Derived.Test.YtoaaogacaibedaaGreatDoorShx3
import Derived.Deep.Slices
import Derived.ChangeArms
import Derived.ChangeOld
import Derived.WideShapes
import Derived.BigQuiet
import Derived.Deep.QuietTactic
import Derived.Lib.ItoaNum
namespace Go.Proofs.YtoaaogacaibedaaGreatDoor
open Go.RowKit
set_option maxRecDepth 100000
set_option linter.unusedVariables false
def headBody (g n : Int) : List UInt8 := [] ++ wordBytes g ++ wordBytes n
def headL (g n : Int) : List UInt8 := if inI g 1 60000 = true ∧ inI n 0 18 = true then withSum (headBody g n) else []
theorem headL_len (g n : Int) : (headL g n).length ≤ 6 := by
 unfold headL
 split
 ·simp [withSum, headBody, wordBytes]
 ·simp
theorem headL_no {g n : Int} (h : inI g 1 60000 = false ∨ inI n 0 18 = false) : headL g n = [] := by
 unfold headL
 rw [if_neg]
 rintro ⟨h1, h2⟩
 rcases h with h | h
 ·rw [h] at h1; cases h1
 ·rw [h] at h2; cases h2
theorem headL_yes {g n : Int} (h : inI g 1 60000 = true) (h2 : inI n 0 18 = true) : headL g n = withSum (headBody g n) := if_pos ⟨h, h2⟩
def getHeadP (l : List UInt8) : (Int × Int) × Bool := if l.length = 6 ∧ headL (gwVal l 0) (gwVal l 2) = l then ((gwVal l 0, gwVal l 2), true) else ((0, 0), false)
def RetHead (w : World) (p : (Int × Int) × Bool) (e : Ending) (w' : World) : Prop := e = .returned (.tuple #[.int .i64 p.1.1, .int .i64 p.1.2, .bool p.2]) ∧ Below w.heap.size w w'
theorem getHeadP_no {l : List UInt8} (h : ¬ (l.length = 6 ∧ headL (gwVal l 0) (gwVal l 2) = l)) : getHeadP l = ((0, 0), false) := if_neg h
theorem getHeadP_yes {l : List UInt8} (h : l.length = 6) (h2 : headL (gwVal l 0) (gwVal l 2) = l) : getHeadP l = ((gwVal l 0, gwVal l 2), true) := if_pos ⟨h, h2⟩
set_option maxHeartbeats 1000000 in
theorem headOfS_any (g n : Int) (w : World) : Calls Tryz.prog 80 #[.int .i64 g, .int .i64 n] w (RetOwn w (headL g n)) := by
 obtain ⟨b1, h1⟩ : ∃ b, inI g 1 60000 = b := ⟨_, rfl⟩
 obtain ⟨b2, h2⟩ : ∃ b, inI n 0 18 = b := ⟨_, rfl⟩
 unfold RetOwn
 cases b1
 ·rw [headL_no (.inl h1)]
  go_enter Tryz.func80, Tryz.ntmps80
  go_wp2_with (go_at_call 67; refine (l1In_b (by assumption) _).mono ?_; rintro e w' ⟨rfl, rfl⟩)
  go_ret
  exact ⟨_, rfl, own_empty w _ (Nat.le_refl _), Later.alloc w _⟩
 ·cases b2
  ·rw [headL_no (.inr h2)]
   go_enter Tryz.func80, Tryz.ntmps80
   go_wp2_with (go_at_call 67; refine (l1In_b (by assumption) _).mono ?_; rintro e w' ⟨rfl, rfl⟩)
   go_ret
   exact ⟨_, rfl, own_empty w _ (Nat.le_refl _), Later.alloc w _⟩
  ·rw [headL_yes h1 h2]
   go_enter Tryz.func80, Tryz.ntmps80
   go_wp2_with (go_at_call 67; refine (l1In_b (by assumption) _).mono ?_; rintro e w' ⟨rfl, rfl⟩)
   clear h1 h2
   have S : All (fun w' => Below w.heap.size w w') (w.alloc (.cells #[] 5)) := ⟨Later.alloc w _⟩
   have o0 := own_empty w w.heap.size (Nat.le_refl _)
   generalize w.alloc (.cells #[] 5) = W1 at S o0 ⊢
   refine (putWordS_any (some ⟨w.heap.size, 0, none⟩) 0 g [] W1 (Owns.reads o0) (by simp)).mono ?_
   rintro e W2 ⟨v2, rfl, o2, hb⟩
   replace S := S.later hb
   obtain ⟨A2, c2, rfl, _, _, r2, _⟩ := o2.shape
   clear hb o2 o0
   go_wp2_with fail
   refine (putWordS_any A2 c2 n _ W2 r2 (by simp [wordBytes])).mono ?_
   rintro e W3 ⟨v3, rfl, o3, hb⟩
   replace S := S.later hb
   obtain ⟨A3, c3, rfl, _, _, r3, _⟩ := o3.shape
   have L3 := Lib.hid (show ([] ++ wordBytes g ++ wordBytes n).length = 4 by simp [wordBytes])
   obtain ⟨l3, hl3⟩ : ∃ l3, [] ++ wordBytes g ++ wordBytes n = l3 := ⟨_, rfl⟩
   rw [hl3] at r3 L3 ⊢
   have HL3 := Lib.hid hl3
   clear hl3
   clear hb o3 r2
   go_wp2_with fail
   refine (sumS_any A3 c3 l3 W3 r3 (by have := L3.out; omega)).mono ?_
   rintro e W4 ⟨rfl, rfl⟩
   go_wp2_with fail
   refine (putWordS_any A3 c3 (crc l3) l3 W3 r3 (by have := L3.out; omega)).mono ?_
   rintro e W5 ⟨v5, rfl, o5, hb⟩
   go_wp2_with fail
   go_ret
   exact ⟨_, rfl, by unfold withSum headBody; rw [HL3.out]; exact ownsRow_mono o5 S.out.size, Later.trans S.out hb⟩
set_option maxHeartbeats 1000000 in
theorem getHeadS_any (A : Option Addr) (c : Nat) (l : List UInt8) (w : World) (h : Reads w w.heap.size 1 A l.length (bys l)) (hn : l.length ≤ 100000000) : Calls Tryz.prog 48 #[.slice A l.length c] w (RetHead w (getHeadP l)) := by
 obtain ⟨p, hp⟩ : ∃ p, getHeadP l = p := ⟨_, rfl⟩
 rw [hp]
 have HP := Lib.hid hp
 clear hp
 unfold RetHead
 go_enter Tryz.func48, Tryz.ntmps48
 go_wp2_with fail
 refine (getWordS_any A c 0 l w h hn).mono ?_
 rintro e W1 ⟨rfl, n1, rfl⟩
 go_wp2_with fail
 refine (getWordS_any A c 2 l _ (h.drewN n1) hn).mono ?_
 rintro e W2 ⟨rfl, n2, rfl⟩
 have R2 := (h.drewN n1).drewN n2
 have B2 := belowD (belowD (Below.refl w.heap.size w) n1) n2
 generalize (w.drewN n1).drewN n2 = W2 at R2 B2 ⊢
 by_cases hl : l.length = 6
 ·have hok : gwOk l 2 = true := by unfold gwOk; rw [hl]; rfl
  have h6 : ((l.length : Int) != 6) = false := by rw [hl]; rfl
  have HL6 := Lib.hid hl
  rw [hok]
  clear hl hok
  go_wp2_with fail
  refine (headOfS_any (gwVal l 0) (gwVal l 2) W2).mono ?_
  rintro e W3 ⟨v3, rfl, o3, hb⟩
  obtain ⟨A3, c3, rfl, _, _, r3, _⟩ := o3.shape
  replace R2 := (R2.below (hb.mono (Nat.le_refl _) |>.mono B2.size)).more (Nat.le_trans B2.size hb.size)
  replace B2 := Later.trans B2 hb
  have HE := Lib.hid (show (headL (gwVal l 0) (gwVal l 2) == l) = true ↔ headL (gwVal l 0) (gwVal l 2) = l by simp)
  clear hb o3
  go_wp2_with fail
  refine (l1Same_any A3 A c3 c _ _ _ l W3 r3 R2).mono ?_
  obtain ⟨y, hy⟩ : ∃ y, (headL (gwVal l 0) (gwVal l 2) == l) = y := ⟨_, rfl⟩
  rw [hy]
  have HY := Lib.hid hy
  clear hy
  rintro e W4 ⟨rfl, rfl⟩
  cases y
  ·have hq := getHeadP_no (l := l) (fun h9 => by have h8 := HE.out.2 h9.2; rw [HY.out] at h8; cases h8)
   rw [HP.out] at hq
   subst hq
   go_wp2_with fail
   go_ret3
   exact ⟨rfl, B2⟩
  ·have hq := getHeadP_yes HL6.out (HE.out.1 HY.out)
   rw [HP.out] at hq
   subst hq
   go_wp2_with fail
   go_ret3
   exact ⟨rfl, B2⟩
 ·have hq := getHeadP_no (l := l) (fun h9 => hl h9.1)
  rw [HP.out] at hq
  subst hq
  have h6 : ((l.length : Int) != 6) = true := by simp; omega
  clear hl
  obtain ⟨ok, hok⟩ : ∃ ok, gwOk l 2 = ok := ⟨_, rfl⟩
  rw [hok]
  cases ok
  ·go_wp2_with fail
   go_ret3
   exact ⟨rfl, B2⟩
  ·go_wp2_with fail
   go_ret3
   exact ⟨rfl, B2⟩
theorem withSum_len (b : List UInt8) : (withSum b).length = b.length + 2 := by simp [withSum, wordBytes]
end Go.Proofs.YtoaaogacaibedaaGreatDoor
namespace Go.Proofs.YtoaaogacaibedaaGreatDoor
open Go.RowKit Go.ChangeShapes Go.WideShapes Go.Deep
set_option maxRecDepth 100000
set_option linter.unusedVariables false
namespace Rep
variable {α : Type}
def Opens (P : Program) (t : TypeId) (R : Rep α) (ok : α → Prop) : Prop :=
 ∀ (H : Type) (enc : TypeId × Value → H) (w : World) (base : Nat) (spare : Nat → Bool) (held : Bool) (fuel : Nat) (cs : List Value) (x : DataW H × List MemPlace), DataW.trod enc P w base spare held fuel t cs = some x → ∃ y, R.at_ w w.heap.size cs y ∧ ok y
theorem Opens.int {P : Program} {t : TypeId} (ht : P.underlying t = some (.int .i64)) : Opens P t Rep.int (fun n => (Lit.int .i64 n).wf = true) := by
 intro H enc w base spare held fuel cs x h
 obtain ⟨n, rfl, _, hw⟩ := DataW.trod_int ht h
 exact ⟨n, rfl, hw⟩
theorem Opens.bool {P : Program} {t : TypeId} (ht : P.underlying t = some .bool) : Opens P t Rep.bool (fun _ => True) := by
 intro H enc w base spare held fuel cs x h
 obtain ⟨b, rfl, _⟩ := DataW.trod_bool ht h
 exact ⟨b, rfl, trivial⟩
theorem list_of {P : Nat → α → Prop} (n : Nat) (h : ∀ i, i < n → ∃ y, P i y) : ∃ xs : List α, xs.length = n ∧ ∀ i y, xs[i]? = some y → P i y := by
 induction n with
 | zero => exact ⟨[], rfl, fun i y hy => by simp at hy⟩
 | succ n ih =>
  obtain ⟨xs, hl, hx⟩ := ih fun i hi => h i (by omega)
  obtain ⟨y, hy⟩ := h n (by omega)
  refine ⟨xs ++ [y], by simp [hl], fun i z hz => ?_⟩
  by_cases hi : i < n
  ·rw [List.getElem?_append_left (by omega)] at hz
   exact hx i z hz
  ·rw [List.getElem?_append_right (by omega)] at hz
   have hin : i = n := by
    have := (List.getElem?_eq_some_iff.1 hz).1
    simp at this
    omega
   subst hin
   simp [hl] at hz
   subst hz
   exact hy
theorem Opens.row {P : Program} {t e : TypeId} {R : Rep α} {ok : α → Prop} (ht : P.underlying t = some (.slice e)) (hC : P.cellsOf e = R.size) (hs : 0 < R.size) (he : Opens P e R ok)
  (H : Type) (enc : TypeId × Value → H) (w : World) (base : Nat) (spare : Nat → Bool) (held : Bool) (fuel : Nat) (cs : List Value) (x : DataW H × List MemPlace) (h : DataW.trod enc P w base spare held fuel t cs = some x) :
  ∃ (A : Option Addr) (len cap : Nat) (xs : List α), cs = [.slice A len cap] ∧ xs.length = len ∧ (len ≤ cap ∧ cap ≤ maxLen) ∧ RowsAt R w w.heap.size A len xs ∧ ∀ y, y ∈ xs → ok y := by
 rcases open_slice ht h with ⟨rfl, _⟩ | ⟨a, len, cap, m, n, D, Pl, rfl, hb, hl, hm, hmm, hx, hi⟩
 ·exact ⟨none, 0, 0, [], rfl, rfl, ⟨Nat.le_refl _, by simp [maxLen]⟩, ⟨rfl, [], ⟨by simp, fun h => absurd h (by omega)⟩, fun i x hx => by simp at hx⟩, fun y hy => by simp at hy⟩
 ·rw [hC] at hi
  have hlm : len ≤ m := by rw [hmm]; split <;> omega
  have hall : ∀ i, i < len → ∃ (y : α) (cs' : List Value), cs'.length = R.size ∧ (∀ r, r < R.size → w.cell? ((a.add (i * R.size)).add r) = cs'[r]?) ∧ R.at_ w w.heap.size cs' y ∧ ok y := by
   intro i hil
   obtain ⟨cs', hc, ht'⟩ := hi i (by omega)
   obtain ⟨_, hlen, hcell⟩ := World.cells?_some hc
   obtain ⟨y, hy, hok⟩ := he H enc w base spare held n cs' _ ht'
   exact ⟨y, cs', hlen, hcell, hy, hok⟩
  have hcells : ∀ j, j < len * R.size → ∃ u, w.cell? (a.add j) = some u := by
   intro j hj
   have hd : j / R.size < len := (Nat.div_lt_iff_lt_mul hs).2 hj
   obtain ⟨y, cs', hlen, hcell, _⟩ := hall (j / R.size) hd
   have hr := Nat.mod_lt j hs
   have := hcell (j % R.size) hr
   rw [Go.Proofs.YtoaaogacaibedaaGreatDoor.add_of_add, Nat.mul_comm, Nat.div_add_mod, List.getElem?_eq_getElem (by omega)] at this
   exact ⟨_, this⟩
  obtain ⟨xs, hxl, hxs⟩ := list_of len hall
  refine ⟨some a, len, cap, xs, rfl, hxl, ⟨hl, hm⟩, ⟨hxl, (List.range (len * R.size)).map (fun j => (w.cell? (a.add j)).getD undef), ⟨by simp, ?_⟩, ?_⟩, ?_⟩
  ·intro hn
   obtain ⟨u, hu⟩ := hcells 0 (Nat.mul_pos hn hs)
   refine ⟨a, rfl, ?_, ?_⟩
   ·have := World.block_lt_of_cell? w _ hu
    rwa [Go.Proofs.YtoaaogacaibedaaGreatDoor.block_of_add] at this
   ·intro j v hv
    rw [List.getElem?_map] at hv
    by_cases hj : j < len * R.size
    ·rw [List.getElem?_range hj] at hv
     obtain ⟨u', hu'⟩ := hcells j hj
     simp only [Option.map_some, hu', Option.getD_some] at hv
     rw [hu']
     exact hv
    ·rw [List.getElem?_eq_none (by simpa using Nat.le_of_not_lt hj)] at hv
     cases hv
  ·intro i y hy
   have hil : i < len := by have := (List.getElem?_eq_some_iff.1 hy).1; omega
   obtain ⟨cs', hlen, hcell, hat, hok⟩ := hxs i y hy
   have : seg R.size i ((List.range (len * R.size)).map (fun j => (w.cell? (a.add j)).getD undef)) = cs' := by
    refine seg_ext (n := len) (by simp) hil hlen fun j hj => ?_
    have h1 : (i + 1) * R.size ≤ len * R.size := Nat.mul_le_mul_right _ hil
    rw [Nat.add_mul, Nat.one_mul] at h1
    have h2 := hcell j hj
    rw [Go.Proofs.YtoaaogacaibedaaGreatDoor.add_of_add] at h2
    rw [List.getElem?_map, List.getElem?_range (by omega), Option.map_some, h2, List.getElem?_eq_getElem (by omega)]
    rfl
   rw [this]
   exact hat
  ·intro y hy
   obtain ⟨i, hi, rfl⟩ := List.mem_iff_getElem.1 hy
   obtain ⟨cs', _, _, _, hok⟩ := hxs i _ (List.getElem?_eq_getElem hi)
   exact hok
theorem Opens.rows {P : Program} {t e e' : TypeId} {R : Rep α} {ok : α → Prop} (ht : P.underlying t = some (.slice e)) (hC : P.cellsOf e = R.size) (hs : 0 < R.size) (he : Opens P e R ok) : Opens P t (Rep.rows e' R) (fun xs => ∀ y, y ∈ xs → ok y) := by
 intro H enc w base spare held fuel cs x h
 obtain ⟨A, len, cap, xs, rfl, rfl, hc, hr, hok⟩ := Opens.row ht hC hs he H enc w base spare held fuel cs x h
 exact ⟨xs, ⟨A, cap, rfl, hc, hr⟩, hok⟩
def u8R : Rep UInt8 := leaf (fun b => .int .u8 (b.toNat : Int)) (fun k _ => UInt8.ofNat k)
theorem Opens.u8 {P : Program} {t : TypeId} (ht : P.underlying t = some (.int .u8)) : Opens P t u8R (fun _ => True) := by
 intro H enc w base spare held fuel cs x h
 obtain ⟨n, rfl, _, hw⟩ := DataW.trod_int ht h
 exact ⟨UInt8.ofNat n.toNat, by show [Value.int .u8 n] = [Value.int .u8 (((UInt8.ofNat n.toNat).toNat : Nat) : Int)]; rw [u8_of_wf hw], trivial⟩
theorem Opens.bytes {P : Program} {t e e' : TypeId} (ht : P.underlying t = some (.slice e)) (he : P.underlying e = some (.int .u8)) (hC : P.cellsOf e = 1) : Opens P t (Rep.bytes e') (fun _ => True) := by
 intro H enc w base spare held fuel cs x h
 obtain ⟨A, len, cap, xs, rfl, rfl, hc, ⟨_, cells, hr, hel⟩, hok⟩ := Opens.row (R := u8R) ht hC (by show 0 < 1; omega) (Opens.u8 he) H enc w base spare held fuel cs x h
 refine ⟨xs, ⟨A, cap, rfl, hc, ?_⟩, trivial⟩
 have hcl : cells = bys xs := by
  apply List.ext_getElem?
  intro j
  have hlen := hr.1
  rw [show u8R.size = 1 from rfl, Nat.mul_one] at hlen
  by_cases hj : j < xs.length
  ·have h1 := hel j _ (List.getElem?_eq_getElem hj)
   have h2 := seg_get (size := 1) (i := j) (j := 0) (cells := cells) (by omega)
   rw [show seg 1 j cells = [.int .u8 (xs[j].toNat : Int)] from h1] at h2
   rw [bys_get (List.getElem?_eq_getElem hj)]
   simpa using h2.symm
  ·rw [List.getElem?_eq_none (by omega), List.getElem?_eq_none (by rw [bys_length]; omega)]
 rw [← hcl]
 exact hr
theorem Opens.field {P : Program} {t : TypeId} {R : Rep α} {ok : α → Prop} {H : Type} {enc : TypeId × Value → H} {w : World} {base : Nat} {spare : Nat → Bool} {held : Bool} {n off sz i : Nat} {cs : List Value} {xs : List (DataW H × List MemPlace)}
  (h : Opens P t R ok) (hf : DataW.trod enc P w base spare held n t ((cs.drop off).take (P.cellsOf t)) = xs[i]?) (hi : i < xs.length) (hC : P.cellsOf t = sz) : ∃ y, R.at_ w w.heap.size ((cs.drop off).take sz) y ∧ ok y := by
 rw [List.getElem?_eq_getElem hi, hC] at hf
 exact h H enc w base spare held n _ _ hf
end Rep
end Go.Proofs.YtoaaogacaibedaaGreatDoor
namespace Go.Proofs.YtoaaogacaibedaaGreatDoor
open Go.RowKit
set_option maxRecDepth 100000
set_option linter.unusedVariables false
structure Db where
 name : ByteArray
 size : Int
 queue : Int
 wait : Int
 idle : Int
def strR (m : Nat → ByteArray) : Rep ByteArray := Rep.leaf (fun s => .string s) (fun k _ => m k)
def digF : Nat → Nat → List UInt8
 | 0, _ => []
 | f + 1, k => if k = 0 then [] else digF f (k / 10) ++ [UInt8.ofNat (48 + k % 10)]
def markText (k : Nat) : ByteArray := ⟨(109 :: (if k = 0 then [48] else digF k k)).toArray⟩
def dbR : Rep Db := ((strR markText).pair (Rep.int.pair (Rep.int.pair (Rep.int.pair Rep.int)))).iso (fun d => (d.name, d.size, d.queue, d.wait, d.idle)) (fun p => ⟨p.1, p.2.1, p.2.2.1, p.2.2.2.1, p.2.2.2.2⟩)
def dbC (d : Db) : List Value := [.string d.name, .int .i64 d.size, .int .i64 d.queue, .int .i64 d.wait, .int .i64 d.idle]
def dbsR : Rep (List Db) := Rep.rows 159 dbR
theorem db_cells {w : World} {B : Nat} {cs : List Value} {d : Db} (h : dbR.at_ w B cs d) : cs = dbC d := by
 have hl : cs.length = 5 := Rep.len dbR h
 obtain ⟨h0, h1, h2, h3, h4⟩ := h
 match cs, hl with
 | [a, b, c, e, f], _ =>
  replace h0 : [a] = [.string d.name] := h0
  replace h1 : [b] = [.int .i64 d.size] := h1
  replace h2 : [c] = [.int .i64 d.queue] := h2
  replace h3 : [e] = [.int .i64 d.wait] := h3
  replace h4 : [f] = [.int .i64 d.idle] := h4
  injection h0 with h0
  injection h1 with h1
  injection h2 with h2
  injection h3 with h3
  injection h4 with h4
  subst h0 h1 h2 h3 h4
  rfl
theorem db_own (w : World) (base : Nat) (d : Db) : dbR.own w base (dbC d) d [] :=
 ⟨[], [], ⟨rfl, rfl⟩, ⟨[], [], ⟨rfl, rfl⟩, ⟨[], [], ⟨rfl, rfl⟩, ⟨[], [], ⟨rfl, rfl⟩, ⟨rfl, rfl⟩, rfl, by simp⟩, rfl, by simp⟩, rfl, by simp⟩, rfl, by simp⟩
theorem db_elem {w : World} {B n k : Nat} {A : Option Addr} {xs : List Db} (h : Rep.RowsAt dbR w B A n xs) (hk : k < n) :
  ∃ b off x, A = some ⟨b, off, none⟩ ∧ b < B ∧ xs[k]? = some x ∧ w.cell? ⟨b, off + k * 5, none⟩ = some (.string x.name) ∧ w.cell? ⟨b, off + k * 5 + 1, none⟩ = some (.int .i64 x.size) ∧ w.cell? ⟨b, off + k * 5 + 2, none⟩ = some (.int .i64 x.queue) ∧ w.cell? ⟨b, off + k * 5 + 3, none⟩ = some (.int .i64 x.wait) ∧ w.cell? ⟨b, off + k * 5 + 4, none⟩ = some (.int .i64 x.idle) := by
 obtain ⟨b, off, c, x, hA, hb, hx, h2, hcell⟩ := h.elem hk (show 0 < 5 by omega)
 obtain rfl := db_cells h2
 have e : dbR.size = 5 := rfl
 rw [e] at hcell
 refine ⟨b, off, x, hA, hb, hx, by simpa using hcell 0 _ rfl, ?_, ?_, ?_, ?_⟩
 ·have := hcell 1 _ rfl; rwa [← Nat.add_assoc] at this
 ·have := hcell 2 _ rfl; rwa [← Nat.add_assoc] at this
 ·have := hcell 3 _ rfl; rwa [← Nat.add_assoc] at this
 ·have := hcell 4 _ rfl; rwa [← Nat.add_assoc] at this
def FitsDbs (xs : List Db) : Prop := xs.length ≤ 1048576 ∧ ∀ x, x ∈ xs → x.name.size ≤ 1048576
open Go.ChangeShapes Go.WideShapes Go.Deep in
theorem Rep.Opens.str {P : Program} {t : TypeId} (m : Nat → ByteArray) (ht : P.underlying t = some .string) : Rep.Opens P t (strR m) (fun s => s.size ≤ maxLen) := by
 intro H enc w base spare held fuel cs x h
 obtain ⟨s, rfl, _, hs⟩ := DataW.trod_string ht h
 exact ⟨s, rfl, hs⟩
theorem Tryz.infoDb : (Tryz.prog.info? 159).map (fun i => (i.zero, i.size, i.bytes)) = some (some (.agg #[.string ⟨#[]⟩, .int .i64 0, .int .i64 0, .int .i64 0, .int .i64 0]), 5, 48) := by kernel_rfl
end Go.Proofs.YtoaaogacaibedaaGreatDoor
namespace Go.Proofs.YtoaaogacaibedaaGreatDoor
open Go.RowKit
set_option maxRecDepth 100000
set_option linter.unusedVariables false
structure Rec where
 kind : Int
 n : Int
 owner : Int
 text : ByteArray
def recC (r : Rec) : List Value := [.int .i64 r.kind, .int .i64 r.n, .int .i64 r.owner, .string r.text]
def recR : Rep Rec := (Rep.int.pair (Rep.int.pair (Rep.int.pair (strR markText)))).iso (fun r => (r.kind, r.n, r.owner, r.text)) (fun p => ⟨p.1, p.2.1, p.2.2.1, p.2.2.2⟩)
theorem rec_cells {w : World} {B : Nat} {cs : List Value} {r : Rec} (h : recR.at_ w B cs r) : cs = recC r := by
 have hl : cs.length = 4 := Rep.len recR h
 obtain ⟨h0, h1, h2, h3⟩ := h
 match cs, hl with
 | [c0, c1, c2, c3], _ =>
  replace h0 : [c0] = [.int .i64 r.kind] := h0
  replace h1 : [c1] = [.int .i64 r.n] := h1
  replace h2 : [c2] = [.int .i64 r.owner] := h2
  replace h3 : [c3] = [.string r.text] := h3
  injection h0 with h0
  injection h1 with h1
  injection h2 with h2
  injection h3 with h3
  subst h0 h1 h2 h3
  rfl
theorem rec_box {w : World} {g t : Nat} {r : Rec} (h : w.heap[g]? = some (.cells (recC r).toArray t (0, 0))) : w.cell? ⟨g, 0, none⟩ = some (.int .i64 r.kind) ∧ w.cell? ⟨g, 1, none⟩ = some (.int .i64 r.n) ∧ w.cell? ⟨g, 2, none⟩ = some (.int .i64 r.owner) ∧ w.cell? ⟨g, 3, none⟩ = some (.string r.text) := ⟨var_cell h 0, var_cell h 1, var_cell h 2, var_cell h 3⟩
def OkRec (r : Rec) : Prop := (Lit.int .i64 r.kind).wf = true ∧ (Lit.int .i64 r.n).wf = true ∧ (Lit.int .i64 r.owner).wf = true ∧ r.text.size ≤ maxLen
open Go.ChangeShapes Go.WideShapes Go.Deep in
theorem rec_opens : Rep.Opens Tryz.prog 59 recR OkRec := by
 intro H enc w base spare held fuel cs x h
 obtain ⟨xs, n, rfl, _, hl, hxl, hf⟩ := DataW.trod_struct Tryz.underlying59 h
 have hl' : cs.length = 4 := hl.trans (by kernel_rfl)
 obtain ⟨y0, h0, k0⟩ := (Rep.Opens.int Tryz.underlying3).field (hf 0 _ rfl) (by rw [hxl]; decide) (sz := 1) (by kernel_rfl)
 obtain ⟨y1, h1, k1⟩ := (Rep.Opens.int Tryz.underlying3).field (hf 1 _ rfl) (by rw [hxl]; decide) (sz := 1) (by kernel_rfl)
 obtain ⟨y2, h2, k2⟩ := (Rep.Opens.int Tryz.underlying3).field (hf 2 _ rfl) (by rw [hxl]; decide) (sz := 1) (by kernel_rfl)
 obtain ⟨y3, h3, k3⟩ := (Rep.Opens.str markText Tryz.underlying9).field (hf 3 _ rfl) (by rw [hxl]; decide) (sz := 1) (by kernel_rfl)
 match cs, hl' with
 | [c0, c1, c2, c3], _ => exact ⟨⟨y0, y1, y2, y3⟩, ⟨h0, h1, h2, h3⟩, k0, k1, k2, k3⟩
set_option maxHeartbeats 1000000 in
theorem szRec_room (r : Rec) (left : Nat) (w : World) (g0 : r.text.size ≤ maxLen) (hl : left ≤ 1048576) :
  Calls Tryz.prog 27 #[.agg (recC r).toArray, .int .i64 left] w (RoomB (r.text.size ≤ 1048576) left w) := by
 unfold maxLen at g0
 by_cases h0 : r.text.size ≤ left
 ·have h0' : ¬ ((left : Int) - (r.text.size : Int) < 0) := by omega
  unfold recC
  go_enter Tryz.func27, Tryz.ntmps27
  go_wp2
  go_ret
  exact ⟨.inl ⟨left - r.text.size, by omega, by omega, by go_num⟩, (Below.refl _ _).alloc (Nat.le_refl _) _⟩
 ·have h0' : (left : Int) - (r.text.size : Int) < 0 := by omega
  unfold recC
  go_enter Tryz.func27, Tryz.ntmps27
  go_wp2
  go_ret
  exact ⟨.inr rfl, (Below.refl _ _).alloc (Nat.le_refl _) _⟩
set_option maxHeartbeats 1000000 in
theorem toRec_any (r : Rec) (w : World) : Calls Tryz.prog 28 #[.agg (recC r).toArray] w fun e w' => e = .returned (.agg (recC r).toArray) ∧ Below w.heap.size w w' := by
 unfold recC
 go_enter Tryz.func28, Tryz.ntmps28
 go_wp2
 refine bodyPost_ret (v := .agg (recC r).toArray) (by simp [results, Tryz.results28, go_sem, recC]) rfl ⟨rfl, ?_⟩
 repeat (refine Below.setCell ?_ (by first | (simp; done) | (simp; omega)) _)
 exact (((Below.refl _ _).alloc (Nat.le_refl _) _).alloc (by simp) _).alloc (by simp; omega) _
structure Known where
 gen : Int
 text : ByteArray
 pGen : Int
 pText : ByteArray
 epoch : Int
 owner : Int
def knownC (r : Known) : List Value := [.int .i64 r.gen, .string r.text, .int .i64 r.pGen, .string r.pText, .int .i64 r.epoch, .int .i64 r.owner]
theorem known_box {w : World} {g t : Nat} {r : Known} (h : w.heap[g]? = some (.cells (knownC r).toArray t (0, 0))) : w.cell? ⟨g, 0, none⟩ = some (.int .i64 r.gen) ∧ w.cell? ⟨g, 1, none⟩ = some (.string r.text) ∧ w.cell? ⟨g, 2, none⟩ = some (.int .i64 r.pGen) ∧ w.cell? ⟨g, 3, none⟩ = some (.string r.pText) ∧ w.cell? ⟨g, 4, none⟩ = some (.int .i64 r.epoch) ∧ w.cell? ⟨g, 5, none⟩ = some (.int .i64 r.owner) := ⟨var_cell h 0, var_cell h 1, var_cell h 2, var_cell h 3, var_cell h 4, var_cell h 5⟩
def knownZero : Known := ⟨0, ⟨#[]⟩, 0, ⟨#[]⟩, 0, 0⟩
set_option maxHeartbeats 1000000 in
theorem eqKnown_same (r : Known) (w : World) : Calls Tryz.prog 24 #[.agg (knownC r).toArray, .agg (knownC r).toArray] w fun e w' => e = .returned (.bool true) ∧ Below w.heap.size w w' := by
 have h0 : (r.gen != r.gen) = false := by simp
 have h1 : (r.text.toList != r.text.toList) = false := by simp
 have h2 : (r.pGen != r.pGen) = false := by simp
 have h3 : (r.pText.toList != r.pText.toList) = false := by simp
 have h4 : (r.epoch != r.epoch) = false := by simp
 have h5 : (r.owner != r.owner) = false := by simp
 unfold knownC
 go_enter Tryz.func24, Tryz.ntmps24
 go_wp2
 go_ret
 exact ⟨rfl, ((Below.refl _ _).alloc (Nat.le_refl _) _).alloc (by simp) _⟩
def dbZero : Db := ⟨⟨#[]⟩, 0, 0, 0, 0⟩
def lowB (b : UInt8) : Bool := decide (97 ≤ b.toNat ∧ b.toNat ≤ 122)
def nameB (l : List UInt8) : Bool := decide (1 ≤ l.length ∧ l.length ≤ 8) && l.all lowB
def dbB (d : Db) : Bool := nameB d.name.data.toList && inI d.size 1 3 && inI d.queue 0 4 && inI d.wait 1 20 && inI d.idle 1 20
def ConfTo (xs : List Db) (k : Nat) : Prop :=
 (∀ i x, i < k → xs[i]? = some x → dbB x = true) ∧ (∀ i j x y, j < i → i < k → xs[i]? = some x → xs[j]? = some y → y.name ≠ x.name)
def ConfGood (xs : List Db) : Prop := (1 ≤ xs.length ∧ xs.length ≤ 3) ∧ ConfTo xs xs.length
noncomputable def confB (xs : List Db) : Bool := @decide (ConfGood xs) (Classical.propDecidable _)
theorem confB_yes {xs : List Db} (h : ConfGood xs) : confB xs = true := by unfold confB; exact @decide_eq_true _ (Classical.propDecidable _) h
theorem confB_no {xs : List Db} (h : ¬ ConfGood xs) : confB xs = false := by unfold confB; exact @decide_eq_false _ (Classical.propDecidable _) h
theorem confB_good {xs : List Db} (h : confB xs = true) : ConfGood xs := by unfold confB at h; exact @of_decide_eq_true _ (Classical.propDecidable _) h
theorem ConfTo.zero (xs : List Db) : ConfTo xs 0 := ⟨fun i x h => absurd h (by omega), fun i j x y _ h => absurd h (by omega)⟩
theorem ConfTo.succ {xs : List Db} {k : Nat} {x : Db} (h : ConfTo xs k) (hx : xs[k]? = some x) (hd : dbB x = true) (hn : ∀ j y, j < k → xs[j]? = some y → y.name ≠ x.name) : ConfTo xs (k + 1) := by
 refine ⟨fun i y hi hy => ?_, fun i j y z hj hi hy hz => ?_⟩
 ·by_cases hk : i < k
  ·exact h.1 i y hk hy
  ·obtain rfl : i = k := by omega
   rw [hx] at hy
   injection hy with hy
   subst hy
   exact hd
 ·by_cases hk : i < k
  ·exact h.2 i j y z hj hk hy hz
  ·obtain rfl : i = k := by omega
   rw [hx] at hy
   injection hy with hy
   subst hy
   exact hn j z hj hz
theorem conf_bad_db {xs : List Db} {k : Nat} {x : Db} (hx : xs[k]? = some x) (hd : dbB x = false) : confB xs = false := confB_no fun h => by
 have := h.2.1 k x (List.getElem?_eq_some_iff.1 hx).1 hx
 rw [hd] at this
 cases this
theorem conf_bad_twice {xs : List Db} {k j : Nat} {x y : Db} (hx : xs[k]? = some x) (hy : xs[j]? = some y) (hj : j < k) (hn : y.name = x.name) : confB xs = false := confB_no fun h => h.2.2 k j x y hj (List.getElem?_eq_some_iff.1 hx).1 hx hy hn
theorem conf_bad_len {xs : List Db} (h : ¬ (1 ≤ xs.length ∧ xs.length ≤ 3)) : confB xs = false := confB_no fun h' => h h'.1
theorem strc_get (s : ByteArray) (k : Nat) (hk : k < s.size) : s.data.toList[k]? = some s[k] := by
 have h' : k < s.data.toList.length := by simpa using hk
 rw [List.getElem?_eq_getElem h']
 simp
 rfl
theorem nameB_bad {s : ByteArray} {k : Nat} (hk : k < s.size) (h : ¬ (97 ≤ s[k].toNat ∧ s[k].toNat ≤ 122)) : nameB s.data.toList = false := by
 unfold nameB
 rw [Bool.and_eq_false_iff]
 refine .inr ?_
 rw [List.all_eq_false]
 exact ⟨s[k], List.mem_of_getElem? (strc_get s k hk), by simp [lowB]; omega⟩
theorem nameB_len {s : ByteArray} (h : ¬ (1 ≤ s.size ∧ s.size ≤ 8)) : nameB s.data.toList = false := by
 unfold nameB
 rw [Bool.and_eq_false_iff]
 refine .inl (decide_eq_false ?_)
 simpa using h
def lowTo (s : ByteArray) (k : Nat) : Prop := ∀ b, b ∈ s.data.toList.take k → lowB b = true
theorem lowTo_zero (s : ByteArray) : lowTo s 0 := by intro b hb; simp at hb
theorem lowTo_succ {s : ByteArray} {k : Nat} (hk : k < s.size) (h : lowTo s k) (hb : 97 ≤ s[k].toNat ∧ s[k].toNat ≤ 122) : lowTo s (k + 1) := by
 intro b hm
 rw [Rep.take_get (strc_get s k hk), List.mem_append] at hm
 rcases hm with hm | hm
 ·exact h b hm
 ·simp at hm
  subst hm
  simp [lowB]
  omega
theorem nameB_low {s : ByteArray} (h : lowTo s s.size) : nameB s.data.toList = inI (s.size : Int) 1 8 := by
 unfold nameB inI
 have h2 : s.data.toList.all lowB = true := List.all_eq_true.2 fun b hb => h b (by rw [List.take_of_length_le (by simp)]; exact hb)
 rw [h2, Bool.and_true]
 have : s.data.toList.length = s.size := by simp
 rw [this]
 apply decide_eq_decide.2
 omega
set_option maxHeartbeats 1000000 in
theorem l1Name_b {s : ByteArray} {b : Bool} (hb : nameB s.data.toList = b) (w : World) (hs : s.size ≤ 1048576) : Calls Tryz.prog 155 #[.string s] w fun e w' => e = .returned (.bool b) ∧ w = w' := by
 have HB := Lib.hid hb
 clear hb
 go_enter Tryz.func155, Tryz.ntmps155
 go_wp2
 go_loop [3] (fun i => ∃ k : Nat, k ≤ s.size ∧ i = .int .i64 k ∧ Hid (lowTo s k)) (fun i => s.size - (intOf i).toNat)
 case atStart => exact ⟨0, by omega, rfl, Lib.hid (lowTo_zero s)⟩
 case round =>
  obtain ⟨k, hk, rfl, hl⟩ := hrel
  by_cases hlt : k < s.size
  ·by_cases h1 : (s[k].toNat : Int) < 97
   ·obtain rfl : b = false := by rw [← HB.out, nameB_bad hlt (by omega)]
    go_wp2
    go_ret
    exact ⟨rfl, rfl⟩
   ·by_cases h2 : (122 : Int) < s[k].toNat
    ·obtain rfl : b = false := by rw [← HB.out, nameB_bad hlt (by omega)]
     go_wp2
     go_ret
     exact ⟨rfl, rfl⟩
    ·have HN := Lib.hid (lowTo_succ hlt hl.out (by omega))
     go_wp2
     go_round
     case rel => exact ⟨k + 1, by omega, by go_num, HN⟩
     case measure => simp [intOf]; omega
  ·have he : k = s.size := by omega
   subst he
   have HE := Lib.hid (nameB_low hl.out)
   go_wp2_with (go_at_call 67; refine (l1In_b (b := b) (by rw [← HE.out, HB.out]) _).mono ?_; rintro e w' ⟨rfl, rfl⟩)
   go_ret
   exact ⟨rfl, rfl⟩
set_option maxHeartbeats 2000000 in
theorem l3Db_b (d : Db) (w : World) (hd : d.name.size ≤ 1048576) : Calls Tryz.prog 148 #[.agg (dbC d).toArray] w (RetBool w (dbB d)) := by
 obtain ⟨b0, h0⟩ : ∃ b, nameB d.name.data.toList = b := ⟨_, rfl⟩
 obtain ⟨b1, h1⟩ : ∃ b, inI d.size 1 3 = b := ⟨_, rfl⟩
 obtain ⟨b2, h2⟩ : ∃ b, inI d.queue 0 4 = b := ⟨_, rfl⟩
 obtain ⟨b3, h3⟩ : ∃ b, inI d.wait 1 20 = b := ⟨_, rfl⟩
 obtain ⟨b4, h4⟩ : ∃ b, inI d.idle 1 20 = b := ⟨_, rfl⟩
 have HC := Lib.hid (show dbB d = (b0 && b1 && b2 && b3 && b4) by unfold dbB; rw [h0, h1, h2, h3, h4])
 unfold dbC RetBool
 cases b0
 rotate_left
 cases b1
 rotate_left
 cases b2
 rotate_left
 cases b3
 rotate_left
 cases b4
 all_goals
  go_enter Tryz.func148, Tryz.ntmps148
  go_wp2_with (first
   | (go_at_call 155; refine (l1Name_b h0 _ hd).mono ?_; rintro e w' ⟨rfl, rfl⟩)
   | (go_at_call 67; refine (l1In_b (by assumption) _).mono ?_; rintro e w' ⟨rfl, rfl⟩))
  go_ret
  exact ⟨by rw [HC.out]; simp, (Below.refl _ _).alloc (Nat.le_refl _) _⟩
theorem str_ne {a b : ByteArray} (h : (a.toList == b.toList) = false) : a ≠ b := by
 intro e
 subst e
 simp at h
theorem str_eq {a b : ByteArray} (h : (a.toList == b.toList) = true) : a = b := by
 have h1 : a.toList = b.toList := by simpa using h
 obtain ⟨⟨l⟩⟩ := a
 obtain ⟨⟨m⟩⟩ := b
 rw [ByteArray.toList_mk, ByteArray.toList_mk] at h1
 rw [h1]
set_option maxRecDepth 100000 in
set_option maxHeartbeats 4000000 in
theorem confOkS_any (A : Option Addr) (c : Nat) (xs : List Db) (w : World) (h : Rep.RowsAt dbR w w.heap.size A xs.length xs) (hf : FitsDbs xs) :
  Calls Tryz.prog 140 #[.slice A xs.length c] w (RetBool w (confB xs)) := by
 have hn := hf.1
 have HF := Lib.hid hf.2
 clear hf
 unfold RetBool
 go_enter Tryz.func140, Tryz.ntmps140
 go_wp2
 go_loopw [3] (fun i wr => ∃ k : Nat, k ≤ xs.length ∧ i = .int .i64 k ∧ Hid (ConfTo xs k) ∧ Below w.heap.size w wr) (fun i _ => xs.length - (intOf i).toNat)
 case atStart => exact ⟨0, by omega, rfl, Lib.hid (ConfTo.zero xs), Below.refl _ _⟩
 case round =>
  obtain ⟨k, hk, rfl, hto, hb⟩ := hrel
  by_cases hlt : k < xs.length
  ·obtain ⟨b, off, x, rfl, hbl, hx, c0, c1, c2, c3, c4⟩ := db_elem (h.keep fun p hp => hb.cell hp) hlt
   have HX := Lib.hid hx
   have hxs := HF.out x (List.mem_of_getElem? hx)
   clear hx
   have i1 : (0 : Int) ≤ (k : Int) := by omega
   have i2 : (k : Int) < (xs.length : Int) := by omega
   obtain ⟨y, hy⟩ : ∃ y, dbB x = y := ⟨_, rfl⟩
   have HY := Lib.hid hy
   clear hy
   go_wp2_with fail
   refine (l3Db_b x wr hxs).mono ?_
   rintro e w2 ⟨rfl, hb2⟩
   rw [HY.out]
   have hb3 := hb.trans (hb2.mono hb.size)
   clear hb2 c0 c1 c2 c3 c4
   cases y
   ·have HE := Lib.hid (conf_bad_db HX.out HY.out)
    go_wp2_with fail
    go_ret
    exact ⟨by rw [HE.out]; rfl, hb3⟩
   ·obtain ⟨wo, hwo⟩ : ∃ wo : World, wo = wr := ⟨_, rfl⟩
    clear hb hwo
    go_wp2_with fail
    go_loopw [4] (fun i wr => ∃ j : Nat, j ≤ k ∧ i = .int .i64 j ∧ Hid (∀ i y, i < j → xs[i]? = some y → y.name ≠ x.name) ∧ Below w.heap.size w wr) (fun i _ => k - (intOf i).toNat)
    case atStart => exact ⟨0, by omega, rfl, Lib.hid (fun i y h => absurd h (by omega)), hb3⟩
    case round =>
     clear hb3
     obtain ⟨j, hj, rfl, hnot, hb⟩ := hrel
     by_cases hjk : j < k
     ·have hrows := h.keep fun p hp => hb.cell hp
      obtain ⟨b1, off1, x1, hA, hbl1, hx1, c0, c1, c2, c3, c4⟩ := db_elem hrows hlt
      obtain ⟨b2, off2, y, hA2, hbl2, hy, d0, d1, d2, d3, d4⟩ := db_elem hrows (show j < xs.length by omega)
      injection hA with hA
      injection hA with e1 e2 _
      injection hA2 with hA2
      injection hA2 with e3 e4 _
      subst e1 e2 e3 e4
      obtain rfl : x = x1 := by have := HX.out; rw [hx1] at this; injection this with this; exact this.symm
      have HYJ := Lib.hid hy
      clear hx1 hy
      have i3 : (0 : Int) ≤ (j : Int) := by omega
      have i4 : (j : Int) < (xs.length : Int) := by omega
      have i5 : (j : Int) < (k : Int) := by omega
      obtain ⟨q, hq⟩ : ∃ q, (y.name.toList == x.name.toList) = q := ⟨_, rfl⟩
      cases q
      ·have HN := Lib.hid (show ∀ i z, i < j + 1 → xs[i]? = some z → z.name ≠ x.name from fun i z hi hz => by
        by_cases h2 : i < j
        ·exact hnot.out i z h2 hz
        ·obtain rfl : i = j := by omega
         have := HYJ.out
         rw [hz] at this
         injection this with this
         subst this
         exact str_ne hq)
       go_wp2
       go_quiet (fail)
       go_wp2
       go_roundw
       case rel => exact ⟨j + 1, by omega, by go_num, HN, belowD hb _⟩
       case measure => simp [intOf]; omega
      ·have HE := Lib.hid (conf_bad_twice HX.out HYJ.out hjk (str_eq hq))
       go_wp2
       go_quiet (fail)
       go_wp2
       go_ret
       exact ⟨by rw [HE.out]; rfl, belowD hb _⟩
     ·obtain rfl : j = k := by omega
      have HN := Lib.hid (hto.out.succ HX.out HY.out (fun i y hi hy => hnot.out i y hi hy))
      go_wp2
      go_roundw
      case rel => exact ⟨j + 1, by omega, by go_num, HN, hb⟩
      case measure => simp [intOf]; omega
  ·have he : k = xs.length := by omega
   subst he
   obtain ⟨y, hy⟩ : ∃ y, inI (xs.length : Int) 1 3 = y := ⟨_, rfl⟩
   have HE := Lib.hid (show confB xs = y by
    unfold inI at hy
    cases y
    ·exact conf_bad_len fun h => of_decide_eq_false hy (by omega)
    ·have := of_decide_eq_true hy
     exact confB_yes ⟨by omega, hto.out⟩)
   go_wp2_with (go_at_call 67; refine (l1In_b hy _).mono ?_; rintro e w' ⟨rfl, rfl⟩)
   go_ret
   exact ⟨by rw [HE.out]; rfl, hb⟩
end Go.Proofs.YtoaaogacaibedaaGreatDoor
namespace Go.Proofs.YtoaaogacaibedaaGreatDoor
set_option maxRecDepth 100000
def isDg (b : UInt8) : Bool := decide (48 ≤ b.toNat) && decide (b.toNat ≤ 57)
def dgVal (b : UInt8) : Nat := b.toNat - 48
def pnAcc (l : List UInt8) : Nat := l.foldl (fun a b => a * 10 + dgVal b) 0
def pnTo (l : List UInt8) (k : Nat) : Nat := pnAcc (l.take k)
def dgTo (l : List UInt8) (k : Nat) : Prop := (l.take k).all isDg = true
theorem isDg_bd {b : UInt8} (h : isDg b = true) : 48 ≤ b.toNat ∧ b.toNat ≤ 57 := by
 unfold isDg at h
 rw [Bool.and_eq_true] at h
 exact ⟨of_decide_eq_true h.1, of_decide_eq_true h.2⟩
theorem isDg_yes {b : UInt8} (h1 : 48 ≤ b.toNat) (h2 : b.toNat ≤ 57) : isDg b = true := by
 unfold isDg; rw [decide_eq_true h1, decide_eq_true h2]; rfl
theorem isDg_no {b : UInt8} (h : b.toNat < 48 ∨ 57 < b.toNat) : isDg b = false := by
 unfold isDg
 rcases h with h | h
 ·rw [decide_eq_false (by omega)]; rfl
 ·rw [decide_eq_false (p := b.toNat ≤ 57) (by omega), Bool.and_false]
theorem dgVal_lt {b : UInt8} (h : isDg b = true) : dgVal b < 10 := by have := isDg_bd h; unfold dgVal; omega
theorem dg_back {b : UInt8} (h : isDg b = true) : UInt8.ofNat (48 + dgVal b) = b := by
 have := isDg_bd h
 unfold dgVal
 rw [show 48 + (b.toNat - 48) = b.toNat by omega]
 simp
theorem pnAcc_snoc (l : List UInt8) (b : UInt8) : pnAcc (l ++ [b]) = pnAcc l * 10 + dgVal b := by simp [pnAcc, List.foldl_append]
theorem pnTo_succ {l : List UInt8} {k : Nat} {b : UInt8} (h : l[k]? = some b) : pnTo l (k + 1) = pnTo l k * 10 + dgVal b := by
 unfold pnTo
 rw [List.take_add_one, h]
 exact pnAcc_snoc _ _
theorem pnTo_all (l : List UInt8) : pnTo l l.length = pnAcc l := by unfold pnTo; rw [List.take_length]
theorem dgTo_zero (l : List UInt8) : dgTo l 0 := by simp [dgTo]
theorem dgTo_succ {l : List UInt8} {k : Nat} {b : UInt8} (h : dgTo l k) (hb : l[k]? = some b) (hd : isDg b = true) : dgTo l (k + 1) := by
 unfold dgTo at *
 rw [List.take_add_one, hb, List.all_append, h]
 simp [hd]
theorem dgTo_all {l : List UInt8} (h : dgTo l l.length) : l.all isDg = true := by unfold dgTo at h; rwa [List.take_length] at h
theorem dg_bad {l : List UInt8} {k : Nat} {b : UInt8} (hb : l[k]? = some b) (hd : isDg b = false) : l.all isDg = false := by
 rw [List.all_eq_false]
 exact ⟨b, List.mem_of_getElem? hb, by simp [hd]⟩
theorem pnTo_lt (l : List UInt8) (h : l.all isDg = true) : pnAcc l < 10 ^ l.length := by
 induction hl : l.length generalizing l with
 | zero =>
  have : l = [] := List.eq_nil_of_length_eq_zero hl
  subst this
  decide
 | succ n ih =>
  obtain ⟨l', b, rfl⟩ : ∃ l' b, l = l' ++ [b] := by
   rcases List.eq_nil_or_concat l with h0 | ⟨l', b, h0⟩
   ·subst h0; simp at hl
   ·exact ⟨l', b, by simpa using h0⟩
  rw [List.all_append, Bool.and_eq_true] at h
  have hb : isDg b = true := by simpa using h.2
  have h1 := ih l' h.1 (by simpa using hl)
  have h2 := dgVal_lt hb
  rw [pnAcc_snoc, Nat.pow_succ]
  omega
theorem dgTo_lt {l : List UInt8} {k : Nat} (h : dgTo l k) (hk : k ≤ l.length) : pnTo l k < 10 ^ k := by
 have := pnTo_lt (l.take k) h
 rwa [List.length_take, Nat.min_eq_left hk] at this
theorem dec_back (l : List UInt8) (h : l.all isDg = true) (hne : l ≠ []) (hz : l.length = 1 ∨ l[0]? ≠ some 48) : Lib.decDigits (pnAcc l) = l ∧ (l[0]? ≠ some 48 → 1 ≤ pnAcc l) := by
 induction hl : l.length generalizing l with
 | zero => exact absurd (List.eq_nil_of_length_eq_zero hl) hne
 | succ n ih =>
  obtain ⟨l', b, rfl⟩ : ∃ l' b, l = l' ++ [b] := by
   rcases List.eq_nil_or_concat l with h0 | ⟨l', b, h0⟩
   ·exact absurd h0 hne
   ·exact ⟨l', b, by simpa using h0⟩
  rw [List.all_append, Bool.and_eq_true] at h
  have hb : isDg b = true := by simpa using h.2
  have hbd := isDg_bd hb
  have hv := dgVal_lt hb
  rcases l' with _ | ⟨x, t⟩
  ·refine ⟨?_, ?_⟩
   ·rw [pnAcc_snoc, show pnAcc [] = 0 from rfl, Nat.zero_mul, Nat.zero_add]
    rw [Lib.decDigits, dif_pos hv, dg_back hb]
    rfl
   ·intro h0
    rw [pnAcc_snoc, show pnAcc [] = 0 from rfl]
    have hb48 : b ≠ 48 := by simpa using h0
    have : b.toNat ≠ 48 := fun e => hb48 (by rw [← UInt8.toNat_inj, e]; rfl)
    unfold dgVal
    omega
  ·have hz' : (x :: t)[0]? ≠ some 48 := by
    rcases hz with h1 | h1
    ·simp at h1
    ·simpa using h1
   have hn : (x :: t).length = n := by simpa using hl
   obtain ⟨h1, h2⟩ := ih (x :: t) h.1 (by simp) (.inr hz') hn
   have h3 := h2 hz'
   refine ⟨?_, fun _ => by rw [pnAcc_snoc]; omega⟩
   rw [pnAcc_snoc, Lib.decDigits, dif_neg (by omega)]
   rw [show (pnAcc (x :: t) * 10 + dgVal b) / 10 = pnAcc (x :: t) by omega, show (pnAcc (x :: t) * 10 + dgVal b) % 10 = dgVal b by omega, h1, dg_back hb]
theorem dec_ne_nil (u : Nat) : Lib.decDigits u ≠ [] := by
 intro h
 have := Lib.decDigits_length u
 rw [h] at this
 have hp := Lib.nDigits_pos u
 simp at this
 omega
theorem dec_head (u : Nat) (h : 1 ≤ u) : (Lib.decDigits u)[0]? ≠ some 48 := by
 induction u using Nat.strongRecOn with
 | ind u ih =>
  rw [Lib.decDigits]
  by_cases h10 : u < 10
  ·rw [dif_pos h10]
   intro e
   have e' : UInt8.ofNat (48 + u) = 48 := by simpa using e
   have := congrArg UInt8.toNat e'
   simp at this
   omega
  ·rw [dif_neg h10]
   have h1 := ih (u / 10) (by omega) (by omega)
   have hne := dec_ne_nil (u / 10)
   rw [List.getElem?_append_left (List.length_pos_iff.2 hne)]
   exact h1
theorem dec_no {l : List UInt8} (h1 : 1 < l.length) (h0 : l[0]? = some 48) (n : Nat) : Lib.decDigits n ≠ l := by
 intro e
 rcases Nat.eq_zero_or_pos n with hn | hn
 ·subst hn
  rw [Lib.decDigits_one (by omega)] at e
  rw [← e] at h1
  simp at h1
 ·have := dec_head n hn
  rw [e] at this
  exact this h0
def pnOk (l : List UInt8) (most : Int) : Bool := decide (1 ≤ l.length ∧ l.length ≤ 5 ∧ most ≤ 65535 ∧ (l.length = 1 ∨ l[0]? ≠ some 48) ∧ l.all isDg = true ∧ (pnAcc l : Int) ≤ most)
def pnVal (l : List UInt8) (most : Int) : Int := if pnOk l most then (pnAcc l : Nat) else 0
theorem pn_no {l : List UInt8} {most : Int} (h : ¬ (1 ≤ l.length ∧ l.length ≤ 5 ∧ most ≤ 65535 ∧ (l.length = 1 ∨ l[0]? ≠ some 48) ∧ l.all isDg = true ∧ (pnAcc l : Int) ≤ most)) : pnOk l most = false ∧ pnVal l most = 0 := by
 have e : pnOk l most = false := decide_eq_false h
 exact ⟨e, by unfold pnVal; rw [e]; rfl⟩
theorem pn_lead {l : List UInt8} {most : Int} (h1 : 1 < l.length) (h0 : l[0]? = some 48) : pnOk l most = false ∧ pnVal l most = 0 :=
 pn_no fun h => by
  rcases h.2.2.2.1 with h2 | h2
  ·omega
  ·exact h2 h0
theorem pn_digit {l : List UInt8} {most : Int} {k : Nat} {b : UInt8} (hb : l[k]? = some b) (hd : isDg b = false) : pnOk l most = false ∧ pnVal l most = 0 :=
 pn_no fun h => by
  rw [dg_bad hb hd] at h
  exact absurd h.2.2.2.2.1 (by simp)
theorem pn_yes {l : List UInt8} {most : Int} (h : 1 ≤ l.length ∧ l.length ≤ 5 ∧ most ≤ 65535 ∧ (l.length = 1 ∨ l[0]? ≠ some 48) ∧ l.all isDg = true ∧ (pnAcc l : Int) ≤ most) : pnOk l most = true ∧ pnVal l most = (pnAcc l : Nat) := by
 have e : pnOk l most = true := decide_eq_true h
 exact ⟨e, by unfold pnVal; rw [e]; rfl⟩
end Go.Proofs.YtoaaogacaibedaaGreatDoor
