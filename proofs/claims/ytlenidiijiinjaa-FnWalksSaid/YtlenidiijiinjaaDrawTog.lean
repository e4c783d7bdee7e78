/- Chapter 7: queries that are drawn. -/
import Derived.Test.YtlenidiijiinjaaStrs
import Derived.Test.YtlenidiijiinjaaCur
import Derived.Test.YtlenidiijiinjaaDrawText
import Derived.Test.YtlenidiijiinjaaDrawSum
import Derived.Test.YtlenidiijiinjaaLexG
import Derived.Deep.Cut
namespace Go.Proofs.Ytlenidiijiinjaa
open Go.RowKit
set_option maxRecDepth 100000
set_option linter.unusedVariables false

def queries : List ByteArray := [⟨#[98, 101, 103, 105, 110]⟩, ⟨#[98, 101, 103, 105, 110]⟩, ⟨#[99, 111, 109, 109, 105, 116]⟩, ⟨#[99, 111, 109, 109, 105, 116]⟩, ⟨#[114, 111, 108, 108, 98, 97, 99, 107]⟩, ⟨#[102, 97, 105, 108]⟩, ⟨#[111, 110, 101]⟩, ⟨#[116, 119, 111]⟩, ⟨#[116, 104, 114, 101, 101]⟩]
theorem queries_small : ∀ q ∈ queries, q.size ≤ 101 := by
  intro q hq
  simp only [queries, List.mem_cons, List.not_mem_nil, or_false] at hq
  rcases hq with rfl | rfl | rfl | rfl | rfl | rfl | rfl | rfl | rfl <;> decide

/-- A text that is drawn. -/
def RetText (w : World) (lo g : Nat) (A : Option Addr) (n c : Nat) (code : List UInt8) (e : Ending) (w' : World) : Prop :=
  ∃ z : ByteArray, z.size ≤ 101 ∧ e = .returned (.string z) ∧ Cur w' lo g A n c code ∧ Rep.Only w w' [g]

set_option maxHeartbeats 1000000 in
theorem l7Query_any (lo g : Nat) (A : Option Addr) (n c : Nat) (code : List UInt8) (w : World) (h : Cur w lo g A n c code) (hn : n ≤ 140737488351232) :
    Calls Try.prog 33 #[.pointer (some ⟨g, 0, none⟩)] w (RetText w lo g A n c code) := by
  go_enter Try.func33, Try.ntmps33
  go_wp2_with fail
  refine (draw_str lo g A n c code queries w h hn (by decide) (by decide)).mono ?_
  rintro e w2 ⟨s, hs, rfl, hc, ho⟩
  have hsz := queries_small s hs
  clear hs h
  go_wp2_with fail
  go_ret
  exact ⟨s, hsz, rfl, hc, ho⟩

set_option maxHeartbeats 2000000 in
theorem drawAnswerTo_any (A : Option Addr) (c : Nat) (code : List UInt8) (w : World) (h : Reads w w.heap.size 1 A code.length (bys code)) (hn : code.length ≤ 1048576) :
    Calls Try.prog 12 #[.slice A code.length c] w fun e w' => ∃ (z : Int) (q : ByteArray), q.size ≤ 101 ∧ e = .returned (.tuple #[.int .i64 z, .string q]) ∧ Below w.heap.size w w' := by
  go_enter Try.func12, Try.ntmps12
  go_wp2_with fail
  refine (l1New_any A c code w h hn).mono ?_
  rintro e W1 ⟨g, rfl, hcur, hb1⟩
  have R := CB.of_new hcur hb1
  clear hcur hb1 h
  go_wp2_with fail
  refine (draw_int w.heap.size g A code.length c code [0, 1, 2, 0, 1, 2, 3, -1] W1 R.cur (by omega) (by decide) (by decide)).mono ?_
  rintro e W2 ⟨z, hz, rfl, hc, ho⟩
  replace R := R.step hc ho
  clear hc ho hz
  go_wp2_with fail
  refine (l1Once_any w.heap.size g A code.length c code 8 W2 R.cur (by omega) (by omega) (by omega)).mono ?_
  rintro e W3 ⟨y, rfl, hc, hg⟩
  replace R := R.step hc (only_g hg)
  clear hc hg
  cases y
  · go_wp2_with fail
    refine (l7Query_any w.heap.size g A code.length c code W3 R.cur (by omega)).mono ?_
    rintro e W4 ⟨q, hq, rfl, hc, ho⟩
    replace R := R.step hc ho
    have hfin := R.below
    clear hc ho R
    go_wp2_with fail
    go_ret2
    exact ⟨z, q, hq, rfl, hfin⟩
  · go_wp2_with fail
    refine (l1Text_any w.heap.size g A code.length c code W3 R.cur (by omega)).mono ?_
    rintro e W4 ⟨q, hq, rfl, hc, hg⟩
    replace R := R.step hc (only_g hg)
    have hfin := R.below
    clear hc hg R
    go_wp2_with fail
    go_ret2
    exact ⟨z, q, hq, rfl, hfin⟩

set_option maxHeartbeats 2000000 in
theorem drawNextSt_any (A : Option Addr) (c : Nat) (code : List UInt8) (w : World) (h : Reads w w.heap.size 1 A code.length (bys code)) (hn : code.length ≤ 1048576) :
    Calls Try.prog 14 #[.slice A code.length c] w fun e w' => ∃ (z y : Int), e = .returned (.tuple #[.int .i64 z, .int .i64 y]) ∧ Below w.heap.size w w' := by
  go_enter Try.func14, Try.ntmps14
  go_wp2_with fail
  refine (l1New_any A c code w h hn).mono ?_
  rintro e W1 ⟨g, rfl, hcur, hb1⟩
  have R := CB.of_new hcur hb1
  clear hcur hb1 h
  go_wp2_with fail
  refine (l1Below_any w.heap.size g A code.length c code 5 W1 R.cur (by omega) (by omega) (by omega)).mono ?_
  rintro e W2 ⟨x, hx, rfl, hc, hg⟩
  replace R := R.step hc (only_g hg)
  clear hc hg
  go_wp2_with fail
  refine (l1Below_any w.heap.size g A code.length c code 7 W2 R.cur (by omega) (by omega) (by omega)).mono ?_
  rintro e W3 ⟨y, hy, rfl, hc, hg⟩
  replace R := R.step hc (only_g hg)
  have hfin := R.below
  clear hc hg R
  go_wp2_with fail
  go_ret2
  exact ⟨_, _, rfl, hfin⟩

theorem row_step {w w' : World} {base g size n : Nat} {e : TypeId} {v : Value} {cells : List Value} (h : w.ownsRow base e size v n cells) (ho : Rep.Only w w' [g]) (hg : g < base) : w'.ownsRow base e size v n cells :=
  Rep.ownsRow_block h (fun k hk => ho.block k (h.lt k (by simpa using hk)).2 (by have := (h.lt k (by simpa using hk)).1; simp; omega))

/-- Queries come back. -/
def RetWalk (w : World) (e : Ending) (w' : World) : Prop :=
  ∃ (st : Int) (A2 : Option Addr) (c2 : Nat) (l : List ByteArray), e = .returned (.tuple #[.int .i64 st, .slice A2 l.length c2]) ∧ l.length ≤ 14 ∧ l.length ≤ c2 ∧ StrAt w' A2 l ∧ Below w.heap.size w w'

set_option maxHeartbeats 8000000 in
theorem drawWalk_any (A : Option Addr) (c : Nat) (code : List UInt8) (w : World) (h : Reads w w.heap.size 1 A code.length (bys code)) (hn : code.length ≤ 1048576) :
    Calls Try.prog 9 #[.slice A code.length c] w (RetWalk w) := by
  obtain ⟨j0, hj0, jz0, jz1, jz2⟩ := info_parts Try.infoStrs
  go_enter Try.func9, Try.ntmps9
  go_wp2_with fail
  refine (l1New_any A c code w h hn).mono ?_
  rintro e W1 ⟨g, rfl, hcur, hb1⟩
  have R := CB.of_new hcur hb1
  have hg1 : g < W1.heap.size := hcur.lt
  clear hcur hb1 h
  have o1 : (W1.alloc (.cells #[] 9)).ownsRow W1.heap.size 9 1 (.slice (some ⟨W1.heap.size, 0, none⟩) 0 0) 0 (strV []) := World.ownsRow_lit W1 #[] 0 (Nat.le_refl _) (by simp [maxLen]) rfl
  replace R := R.alloc (.cells #[] 9)
  have hs1 : W1.heap.size ≤ (W1.alloc (.cells #[] 9)).heap.size := by simp
  go_upto_region 3 with (fail)
  generalize W1.alloc (.cells #[] 9) = W2 at R o1 hs1 ⊢
  go_wp2_with fail
  refine (draw_int w.heap.size g A code.length c code [0, 0, 1, 2, 3] W2 R.cur (by omega) (by decide) (by decide)).mono ?_
  rintro e W3 ⟨st, hst, rfl, hc, ho⟩
  replace R := R.step hc ho
  replace o1 := row_step o1 ho hg1
  replace hs1 := Nat.le_trans hs1 ho.size
  clear hc ho hst
  go_wp2_with fail
  refine (l1Size_any A code.length c 14 W3 (by omega) (by omega) (by omega)).mono ?_
  rintro e W4 ⟨m, hm3, hm14, rfl, rfl⟩
  go_wp2_with fail
  refine (l1Below_any w.heap.size g A code.length c code m W3 R.cur (by omega) (by omega) (by omega)).mono ?_
  rintro e W4 ⟨x, hx, rfl, hc, hg⟩
  replace R := R.step hc (only_g hg)
  replace o1 := row_step o1 (only_g hg) hg1
  replace hs1 := Nat.le_trans hs1 hg.size
  clear hc hg
  go_wp2_with fail
  go_loopw [5, 7] (fun q i wr => ∃ (v : Value) (k : Nat) (l : List ByteArray), k ≤ x ∧ i = .int .i64 k ∧ v = q ∧ Hid (l.length = x - k) ∧ wr.ownsRow W1.heap.size 9 1 v l.length (strV l) ∧ CB w w.heap.size g A code.length c code wr ∧ W1.heap.size ≤ wr.heap.size) (fun _ i _ => (intOf i).toNat)
  case atStart => exact ⟨_, x, [], Nat.le_refl _, rfl, rfl, Lib.hid (by simp), o1, R, hs1⟩
  case round =>
    obtain ⟨v, k, l, hk, rfl, rfl, hll, o, R2, hs2⟩ := hrel
    clear R o1 hs1
    have hl14 : l.length ≤ 14 := by have := hll.out; omega
    by_cases h0 : k = 0
    · subst h0
      have hlow := R2.below
      have hshape : ∃ A2 c2, v = .slice A2 l.length c2 ∧ l.length ≤ c2 := by
        rcases o.2 with ⟨rfl, h0⟩ | ⟨G, cap, cur, rfl, _, _, hc, _⟩
        · exact ⟨none, 0, by rw [h0], by omega⟩
        · exact ⟨_, _, rfl, hc⟩
      obtain ⟨A2, c2, rfl, hc2⟩ := hshape
      have hat : StrAt wr A2 l := strs_own_at o
      clear o R2 hk
      go_wp2_with fail
      go_ret2
      exact ⟨st, A2, c2, l, rfl, hl14, hc2, hat, hlow⟩
    · have i1 : (0 : Int) < (k : Int) := by omega
      go_wp2_with fail
      refine (l7Query_any w.heap.size g A code.length c code wr R2.cur (by omega)).mono ?_
      rintro e W5 ⟨q, hq, rfl, hc, ho⟩
      replace R2 := R2.step hc ho
      replace o := row_step o ho hg1
      replace hs2 := Nat.le_trans hs2 ho.size
      clear hc ho hq
      have hnew := reads_new W5 #[.string q] 1 9 rfl (by simp [maxLen])
      have hnewE : Reads (W5.alloc (.cells #[.string q] 9)) (W5.alloc (.cells #[.string q] 9)).heap.size 1 (some ⟨W5.heap.size, 0, none⟩) 1 (strV [q]) := hnew
      have oA : (W5.alloc (.cells #[.string q] 9)).ownsRow W1.heap.size 9 1 v l.length (strV l) := row_step o (Rep.only_alloc W5 _ |>.mono (by simp)) hg1
      have hs5 : W1.heap.size ≤ (W5.alloc (.cells #[.string q] 9)).heap.size := Nat.le_trans hs2 (by simp)
      have RA := Lib.hid (R2.alloc (.cells #[.string q] 9))
      have HLL : Hid ((l ++ [q]).length = x - (k - 1)) := Lib.hid (by have := hll.out; simp; omega)
      clear hnew o R2 hs2
      go_wp2_with (at_builtin
                   go_must (refine wpList_append_any _ rfl (.tmp 22) (.tmp 25) _ rfl W1.heap.size 9 j0 _ 1 16 Try.underlying24 hj0 jz0 jz1 jz2 rfl (by omega) v l.length (strV l) rfl oA _ _ 1 _ (strV [q]) rfl hnewE (one_strV _) (by simp only [maxLen]; omega) (by omega) hs5 ?_)
                   intro v6 W6 own6 hg6 _
                   have o6 : W6.ownsRow W1.heap.size 9 1 v6 (l ++ [q]).length (strV (l ++ [q])) := by rw [strV_append, List.length_append]; exact own6
                   have hs6 := Nat.le_trans hs5 hg6.size
                   have R6 := RA.out.row hg6 (fun k hk => Nat.lt_of_lt_of_le hg1 (oA.lt k hk).1)
                   clear own6 hg6 oA hnewE RA)
      go_roundw
      case rel => exact ⟨_, k - 1, l ++ [q], by omega, by go_num, rfl, HLL, o6, R6, hs6⟩
      case measure => simp [intOf]; omega

end Go.Proofs.Ytlenidiijiinjaa
