/- Bytes bent by a draw. -/
import Derived.Test.YtlhmdjaplcopoaaCur
import Derived.Test.YtlhmdjaplcopoaaLex
import Derived.Test.YtlhmdjaplcopoaaRet
import Derived.Deep.Cut
import Derived.Deep.CutBlock
import Derived.Maps.RangeWalk
import Derived.Deep.DeepMust
import Derived.Laws.IdiomStrings
import Derived.Lib.ConvBytes
namespace Go.Proofs.Ytlhmdjaplcopoaa
open Go.RowKit
set_option linter.unusedVariables false

/-- Bytes come back, hardly more than were given; they are the call's own. -/
def RetBendO (w : World) (lo g : Nat) (A : Option Addr) (n c : Nat) (code l : List UInt8) (e : Ending) (w' : World) : Prop :=
  ∃ A2 c2 l', e = .returned (.slice A2 l'.length c2) ∧ l'.length ≤ l.length + 1 ∧ l'.length ≤ c2 ∧ Owns w' w.heap.size 5 (.slice A2 l'.length c2) l' ∧ Cur w' lo g A n c code ∧ Rep.Only w w' [g]
/-- Bytes come back, hardly more than were given. -/
def RetBend (w : World) (lo g : Nat) (A : Option Addr) (n c : Nat) (code l : List UInt8) (e : Ending) (w' : World) : Prop :=
  ∃ A2 c2 l', e = .returned (.slice A2 l'.length c2) ∧ l'.length ≤ l.length + 1 ∧ l'.length ≤ c2 ∧ Reads w' w'.heap.size 1 A2 l'.length (bys l') ∧ Cur w' lo g A n c code ∧ Rep.Only w w' [g]

theorem reads_take {w : World} {B n k : Nat} {A : Option Addr} {l : List UInt8} (h : Reads w B 1 A n (bys l)) (hn : l.length = n) (hk : k ≤ n) : Reads w B 1 A (l.take k).length (bys (l.take k)) := by
  refine ⟨by simp [bys], fun h0 => ?_⟩
  have hk2 : (l.take k).length = k := by simp; omega
  rw [hk2] at h0
  obtain ⟨ad, hA, hb, hc⟩ := h.2 (by omega)
  refine ⟨ad, hA, hb, fun j u hu => hc j u ?_⟩
  have hu2 : (bys l)[j]? = some u := by
    unfold bys at hu ⊢
    rw [List.getElem?_map, List.getElem?_take] at hu
    rw [List.getElem?_map]
    split at hu
    · exact hu
    · cases hu
  exact hu2

theorem owns_take {w : World} {base : Nat} {e : TypeId} {A : Option Addr} {c : Nat} {l : List UInt8} (h : Owns w base e (.slice A l.length c) l) {k : Nat} (hk : k ≤ l.length) : Owns w base e (.slice A (l.take k).length c) (l.take k) := by
  obtain ⟨h1, h2⟩ := h
  have hl : (l.take k).length = k := by simp; omega
  refine ⟨by simp [bys], ?_⟩
  rcases h2 with ⟨hv, h0⟩ | ⟨g, cap, cur, hv, hb, hg, hnc, hcm, hcs, hx⟩
  · left
    rw [hl]
    have hk0 : k = 0 := by omega
    subst hk0
    rw [h0] at hv
    exact ⟨hv, rfl⟩
  · right
    injection hv with hv1 hv2 hv3
    subst hv1 hv3
    refine ⟨g, c, cur, by rw [hl], hb, hg, by omega, hcm, hcs, ?_⟩
    rw [hl, Nat.mul_one, show bys (l.take k) = (bys l).take k by simp [bys, List.map_take], ← hx, List.take_take]
    congr 1
    omega

set_option maxRecDepth 100000 in
set_option maxHeartbeats 4000000 in
theorem l1BendO_any (lo g : Nat) (A B : Option Addr) (n c d : Nat) (code l : List UInt8) (w : World) (h : Cur w lo g A n c code) (hn : n ≤ 140737488351232) (h' : Reads w w.heap.size 1 B l.length (bys l)) (hl : l.length ≤ 1000) :
    Calls Try.prog 60 #[.pointer (some ⟨g, 0, none⟩), .slice B l.length d] w (RetBendO w lo g A n c code l) := by
  obtain ⟨i0, hi0, hz0, hz1, hz2⟩ := info_parts Try.info8
  have hglt := h.lt
  have hlg := h.from_
  have hb0 : Below w.heap.size w (w.alloc (.cells #[] 5)) := (Below.refl _ _).alloc (Nat.le_refl _) _
  have hown0 : (w.alloc (.cells #[] 5)).ownsRow w.heap.size 5 1 (.slice (some ⟨w.heap.size, 0, none⟩) 0 0) 0 [] := World.ownsRow_lit w #[] 0 (Nat.le_refl _) (by simp) rfl
  go_enter Try.func60, Try.ntmps60
  go_wp2_with (first
     | (at_builtin
        refine wpList_append_any _ rfl (.tmp 7) (.tmp 8) _ rfl w.heap.size 5 i0 _ 1 1 Try.underlying22 hi0 hz0 hz1 hz2 rfl (by omega) _ 0 [] rfl hown0 w.heap.size B l.length d (bys l) rfl (h'.below hb0) (bys_one l) (by simp only [maxLen]; omega) (by omega) hb0.size ?_
        intro v2 w2 hown2 hg2 hat2
        have hb2 : Below w.heap.size w w2 := hb0.grown hg2 hb0.size (fun k hk => (hown0.lt k hk).1)
        clear hown0 hg2 hat2
        have hown3 : Owns w2 w.heap.size 5 v2 l := by simpa [Owns] using hown2
        clear hown2
        obtain ⟨A2, c2, rfl, hlc, hcm, _, hA2⟩ := hown3.shape)
     | fail)
  have ho2 : Rep.Only w w2 [g] := (Rep.only_of_below hb2).mono (by simp)
  have hc2 := h.only (Rep.only_of_below hb2) (by simp) (fun a ha => by cases ha)
  clear h h' hb0 hb2
  refine (l1Below_any lo g A n c code 8 w2 hc2 hn (by omega) (by omega)).mono ?_
  rintro e W3 ⟨k, hk, rfl, hc3, hg3⟩
  have hne : ∀ W W' : World, (hO : Owns W w.heap.size 5 (.slice A2 l.length c2) l) → (ho : W.grownBy W' (some g)) → Owns W' w.heap.size 5 (.slice A2 l.length c2) l := fun W W' hO ho => World.ownsRow.kept hO ho (.inr fun e => by have := (hO.lt g e).1; omega)
  have hown4 := hne _ _ hown3 hg3
  have ho3 := ho2.trans (only_g hg3)
  clear hc2 ho2 hg3 hown3
  have HN := Lib.hid hne
  clear hne
  have split : (k = 0 ∧ 0 < l.length) ∨ (k = 0 ∧ l.length = 0) ∨ (k = 1 ∧ 0 < l.length) ∨ (k = 1 ∧ l.length = 0) ∨ k = 2 ∨ 3 ≤ k := by omega
  rcases split with ⟨rfl, hl0⟩ | ⟨rfl, hl0⟩ | ⟨rfl, hl0⟩ | ⟨rfl, hl0⟩ | rfl | h3
  · have i0' : (0 : Int) < (l.length : Int) := by omega
    go_wp2_with fail
    refine (l1Below_any lo g A n c code l.length W3 hc3 hn (by omega) hl0).mono ?_
    rintro e W4 ⟨p, hp, rfl, hc4, hg4⟩
    have hown5 := HN.out _ _ hown4 hg4
    have ho4 := ho3.trans (only_g hg4)
    clear hc3 ho3 hg4 hown4
    obtain ⟨ad, hA, _⟩ := (hown5.reads).2 hl0
    obtain ⟨G, hG, hG1, hG2⟩ := hA2 ad hA
    obtain rfl : A2 = some ⟨G, 0, none⟩ := by rw [hA, hG]
    have hlp : l[p]? = some l[p] := List.getElem?_eq_getElem hp
    have hcell : W4.cell? ⟨G, p, none⟩ = some (.int .u8 ((l[p]).toNat : Int)) := (hown5.cellAt p (by omega)).trans (bys_get hlp)
    have hb256 : (l[p]).toNat < 256 := (l[p]).toNat_lt
    have j0 : (0 : Int) ≤ (p : Int) := by omega
    have j1 : (p : Int) < (l.length : Int) := by omega
    have HG := Lib.hid (show g ≠ G ∧ G < W4.heap.size ∧ w.heap.size ≤ G from ⟨by omega, by have := World.block_lt_of_cell? _ _ hcell; exact this, hG1⟩)
    have HLP := Lib.hid hlp
    clear hlp hA hG hG1 hG2 hA2
    have hGg : G ≠ g := fun e => HG.out.1 e.symm
    have hGl := HG.out.2.1
    go_wp2_with fail
    refine wp_region_lex' 12 [0, 1, 2, 3, 4, 5, 6] [7, 8, 9, 10, 11, 12] (fun w' => w'.cell? ⟨G, p, none⟩ = some (.int .u8 ((l[p]).toNat : Int))) (by kernel_rfl) (by kernel_rfl) hcell ?_
    iterate 7 (refine LexR.cons rfl ?_ (fun w' hw => ?_) ?_; rotate_left; focus (go_simp; (try exact rfl)); (try go_frame))
    refine LexR.nil (LexW.cons rfl ?_)
    try go_frame
    go_wp2_with fail
    refine (l1Below_any lo g A n c code 255 _ hc4.drew hn (by omega) (by omega)).mono ?_
    rintro e W5 ⟨z, hz, rfl, hc5, hg5⟩
    have hown6 := HN.out _ _ (hown5.drewN 1) hg5
    have hcell5 : W5.cell? ⟨G, p, none⟩ = some (.int .u8 ((l[p]).toNat : Int)) := ((only_g hg5).cell (b := G) (o := p) hGl (by simpa using hGg)).trans hcell
    have ho5 : Rep.Only w W5 [g] := (ho4.then (Rep.only_drew W4) (fun a ha => by cases ha)).trans (only_g hg5)
    have hfr := hown6.frozenAt p
    have hGl5 : G < W5.heap.size := Nat.lt_of_lt_of_le hGl hg5.size
    clear hc4 hg5 hown5 ho4
    go_wp2_with fail
    refine ⟨fun _ => hcell5, LexW.cons rfl ?_⟩
    try go_frame
    go_wp2_with fail
    refine ⟨fun _ => hcell5, LexW.cons rfl ?_⟩
    try go_frame
    go_wp2_with fail
    refine ⟨fun _ => hcell5, LexW.cons rfl ?_⟩
    try go_frame
    go_wp2_with fail
    refine ⟨fun _ => hcell5, LexW.cons rfl ?_⟩
    try go_frame
    go_wp2_with fail
    refine ⟨fun _ => hcell5, LexW.cons rfl ?_⟩
    try go_frame
    go_wp2_with fail
    refine ⟨fun h => absurd rfl h, LexW.nil ?_⟩
    go_wp2_with fail
    have hx : bits .xor .u8 ((l[p]).toNat : Int) (1 + (z : Int)) = (((UInt8.ofNat ((l[p]).toNat ^^^ (1 + z))).toNat : Nat) : Int) := by
      have e1 : (1 + (z : Int)) = ((1 + z : Nat) : Int) := by omega
      have e2 : (l[p]).toNat ^^^ (1 + z) < 2 ^ 8 := Nat.xor_lt_two_pow (by omega) (by omega)
      rw [e1, u8_xor_nat _ _ hb256 (by omega), UInt8.toNat_ofNat', Nat.mod_eq_of_lt (by omega)]
    rw [hx]
    generalize UInt8.ofNat ((l[p]).toNat ^^^ (1 + z)) = b'
    have hst := (hown6.stored p (.int .u8 (b'.toNat : Int))).1
    rw [show (bys l).set p (.int .u8 (b'.toNat : Int)) = bys (l.set p b') by simp [bys, List.map_set]] at hst
    have hO : Owns (W5.setCell ⟨G, p, none⟩ (.int .u8 (b'.toNat : Int))) w.heap.size 5 (.slice (some ⟨G, 0, none⟩) (l.set p b').length c2) (l.set p b') := by
      unfold Owns
      rw [List.length_set]
      exact hst
    have os := Rep.Only.setCell W5 (p := ⟨G, p, none⟩) (fp := [G]) (by simp) (.int .u8 (b'.toNat : Int))
    obtain ⟨hg1, hg2, hg3⟩ := HG.out
    go_ret
    exact ⟨some ⟨G, 0, none⟩, c2, l.set p b', by rw [List.length_set]; rfl, by simp, by simpa using hlc, hO, hc5.only os (by simpa using hg1) (fun a ha => by simp at ha; omega), ho5.then os (fun a ha => .inr (by simp at ha; omega))⟩
  · obtain rfl : l = [] := List.eq_nil_of_length_eq_zero hl0
    clear hl0
    go_wp2_with fail
    go_ret
    exact ⟨A2, c2, [], rfl, by simp, Nat.zero_le _, hown4, hc3, ho3⟩
  · have i0' : (0 : Int) < (l.length : Int) := by omega
    go_wp2_with fail
    refine (l1Below_any lo g A n c code l.length W3 hc3 hn (by omega) hl0).mono ?_
    rintro e W4 ⟨p, hp, rfl, hc4, hg4⟩
    have hown5 := HN.out _ _ hown4 hg4
    have ho4 := ho3.trans (only_g hg4)
    have j0 : (0 : Int) ≤ (p : Int) := by omega
    have j1 : (p : Int) ≤ (c2 : Int) := by omega
    have hr := owns_take hown5 (k := p) (by omega)
    have hlen : (l.take p).length = p := by simp; omega
    clear hc3 ho3 hg4 hown4
    go_wp2_with fail
    go_ret
    exact ⟨A2, c2, l.take p, by rw [hlen]; rfl, by omega, by omega, hr, hc4, ho4⟩
  · obtain rfl : l = [] := List.eq_nil_of_length_eq_zero hl0
    clear hl0
    go_wp2_with fail
    go_ret
    exact ⟨A2, c2, [], rfl, by simp, Nat.zero_le _, hown4, hc3, ho3⟩
  · go_wp2_with fail
    refine (l1Byte_any lo g A n c code W3 hc3 hn).mono ?_
    rintro e W4 ⟨x, hx0, hx1, rfl, hc4, hg4⟩
    have hown5 := HN.out _ _ hown4 hg4
    have ho4 := ho3.trans (only_g hg4)
    have hx256 : x < 256 := by omega
    clear hc3 ho3 hg4 hown4
    go_wp2_with (at_builtin
                 have hnew := Reads.of_own (World.ownsRow_lit (base := 0) (e := 5) (size := 1) W4 #[.int .u8 x] 1 (Nat.zero_le _) (by simp [maxLen]) rfl)
                 go_must (refine wpList_append_any _ rfl (.tmp 46) (.tmp 50) _ rfl w.heap.size 5 i0 _ 1 1 Try.underlying22 hi0 hz0 hz1 hz2 rfl (by omega) (.slice A2 l.length c2) l.length (bys l) rfl (hown5.alloc _) _ _ 1 _ _ rfl hnew (by simp; rfl) (by simp only [maxLen]; omega) (by omega) (Nat.le_trans ho4.size (by simp)) ?_)
                 clear hnew
                 intro v2 w5 hown6 hg6 hat6)
    have hown7 : Owns w5 w.heap.size 5 v2 (l ++ [UInt8.ofNat x.toNat]) := by
      unfold Owns
      rw [bys_append, List.length_append, show bys [UInt8.ofNat x.toNat] = [.int .u8 x] by simp only [bys, List.map_cons, List.map_nil]; rw [← byte_back hx0 hx1]]
      exact hown6
    obtain ⟨A7, c7, rfl, hlc7, _, _, _⟩ := hown7.shape
    have hoA := Rep.only_alloc W4 (.cells #[.int .u8 x] 5)
    have hrow : ∀ j, (Value.slice A2 l.length c2).ownBlock = some j → w.heap.size ≤ j := fun j hj => (hown5.lt j hj).1
    have hoB : Rep.Only (W4.alloc (.cells #[.int .u8 x] 5)) w5 ((Value.slice A2 l.length c2).ownBlock.toList) := Rep.Only.of_grown hg6 (fun k hk => by rw [hk]; simp)
    have hmem : ∀ a, a ∈ (Value.slice A2 l.length c2).ownBlock.toList → w.heap.size ≤ a := fun a ha => hrow a (by simpa using ha)
    have hcF := (hc4.only hoA (by simp) (fun a ha => by cases ha)).only hoB (fun hm => by have := hmem _ hm; omega) (fun a ha => by have := hmem _ ha; omega)
    have hoF : Rep.Only w w5 [g] := (ho4.then hoA (fun a ha => by cases ha)).then hoB (fun a ha => .inr (hmem a ha))
    clear hown6 hg6 hat6 hoA hoB hown5 hc4 ho4
    go_wp2_with fail
    go_ret
    exact ⟨A7, c7, _, rfl, by simp, hlc7, hown7, hcF, hoF⟩
  · have b0 : ((k : Int) == 0) = false := by simp; omega
    have b1 : ((k : Int) == 1) = false := by simp; omega
    have b2 : ((k : Int) == 2) = false := by simp; omega
    go_wp2_with fail
    go_ret
    exact ⟨A2, c2, l, rfl, by omega, hlc, hown4, hc3, ho3⟩
theorem l1Bend_any (lo g : Nat) (A B : Option Addr) (n c d : Nat) (code l : List UInt8) (w : World) (h : Cur w lo g A n c code) (hn : n ≤ 140737488351232) (h' : Reads w w.heap.size 1 B l.length (bys l)) (hl : l.length ≤ 1000) :
    Calls Try.prog 60 #[.pointer (some ⟨g, 0, none⟩), .slice B l.length d] w (RetBend w lo g A n c code l) :=
  (l1BendO_any lo g A B n c d code l w h hn h' hl).mono fun _ _ ⟨A2, c2, l', h1, h2, h3, h4, h5⟩ => ⟨A2, c2, l', h1, h2, h3, h4.reads, h5⟩

end Go.Proofs.Ytlhmdjaplcopoaa
