/- l3Split of the model. -/
import Derived.Test.YtdapnhahccpebaaDoorParseEq
import Derived.Test.YtdapnhahccpebaaDoorConfTextI
import Derived.Test.YtdapnhahccpebaaDoorParseNum
namespace Go.Proofs.YtdapnhahccpebaaDoor
open Go.RowKit
set_option maxRecDepth 100000
set_option linter.unusedVariables false

def SplitTo (c : UInt8) (l : List UInt8) (k f : Nat) (L : List (List UInt8)) : Prop :=
  f ≤ k ∧ splitB c [] l = if k ≤ l.length then L ++ splitB c ((l.drop f).take (k - f)) (l.drop k) else L
theorem SplitTo.zero (c : UInt8) (l : List UInt8) : SplitTo c l 0 0 [] := ⟨Nat.le_refl _, by simp⟩
theorem SplitTo.cut {c : UInt8} {l : List UInt8} {k f : Nat} {L : List (List UInt8)} (h : SplitTo c l k f L) (hk : l[k]? = some c) : SplitTo c l (k + 1) (k + 1) (L ++ [(l.drop f).take (k - f)]) := by
  have hlt := (List.getElem?_eq_some_iff.1 hk).1
  obtain ⟨h1, h2⟩ := h
  refine ⟨Nat.le_refl _, ?_⟩
  rw [if_pos (by omega)] at h2 ⊢
  have e : l.drop k = c :: l.drop (k + 1) := by
    rw [List.drop_eq_getElem_cons hlt, (List.getElem?_eq_some_iff.1 hk).2]
  rw [h2, e, splitB_cons, if_pos rfl]
  simp
theorem SplitTo.skip {c b : UInt8} {l : List UInt8} {k f : Nat} {L : List (List UInt8)} (h : SplitTo c l k f L) (hk : l[k]? = some b) (hb : b ≠ c) : SplitTo c l (k + 1) f L := by
  have hlt := (List.getElem?_eq_some_iff.1 hk).1
  obtain ⟨h1, h2⟩ := h
  refine ⟨by omega, ?_⟩
  rw [if_pos (by omega)] at h2 ⊢
  have e : l.drop k = b :: l.drop (k + 1) := by
    rw [List.drop_eq_getElem_cons hlt, (List.getElem?_eq_some_iff.1 hk).2]
  rw [h2, e, splitB_cons, if_neg hb]
  have e2 : (l.drop f).take (k + 1 - f) = (l.drop f).take (k - f) ++ [b] := by
    rw [show k + 1 - f = (k - f) + 1 by omega, List.take_add_one, List.getElem?_drop, show f + (k - f) = k by omega, hk]
    rfl
  rw [e2]
theorem SplitTo.last {c : UInt8} {l : List UInt8} {f : Nat} {L : List (List UInt8)} (h : SplitTo c l l.length f L) : SplitTo c l (l.length + 1) (l.length + 1) (L ++ [(l.drop f).take (l.length - f)]) := by
  obtain ⟨h1, h2⟩ := h
  refine ⟨by omega, ?_⟩
  rw [if_pos (Nat.le_refl _)] at h2
  rw [if_neg (by omega), h2]
  simp [splitB]
theorem extract_list (s : ByteArray) (a b : Nat) : (s.extract a b).data.toList = (s.data.toList.drop a).take (b - a) := by
  rw [ByteArray.data_extract, Array.toList_extract, List.extract_eq_take_drop]

theorem own_block_ge {α : Type} {R : Rep α} {e : TypeId} {w : World} {base : Nat} {A : Option Addr} {n c : Nat} {xs : List α} {fp : List Nat} (h : Rep.OwnRows R e w base (.slice A n c) xs fp) : ∀ b off, A = some ⟨b, off, none⟩ → base ≤ b := by
  obtain ⟨cells, fps, ho, hl, he, hf, hn⟩ := h
  intro b off hA
  rcases ho.2 with ⟨h1, h0⟩ | ⟨g, cap, cur, h1, hb, hg, hnc, hcm, _, _⟩
  · injection h1 with h1 _ _
    rw [h1] at hA
    cases hA
  · injection h1 with h1 _ _
    rw [h1] at hA
    injection hA with hA
    injection hA with hA _ _
    omega
/-- Strings of the call's own: the parts of a split. -/
def RetStrs (w : World) (l : List (List UInt8)) (e : Ending) (w' : World) : Prop :=
  ∃ A c xs, e = .returned (.slice A xs.length c) ∧ xs.map (fun x => x.data.toList) = l ∧ Rep.RowsAt stR w' w'.heap.size A xs.length xs ∧ xs.length ≤ maxLen ∧ (∀ b off, A = some ⟨b, off, none⟩ → w.heap.size ≤ b) ∧ Below w.heap.size w w'

theorem rows_lit {α : Type} (w : World) (e : TypeId) (R : Rep α) (h0 : 0 < R.size) : Rep.OwnRows R e (w.alloc (.cells #[] e)) w.heap.size (.slice (some ⟨w.heap.size, 0, none⟩) 0 0) [] [w.heap.size] :=
  ⟨[], [], by simpa using Rep.lit_empty w e R.size rfl, rfl, fun i x f hx => by simp at hx, rfl, by simp⟩

set_option maxHeartbeats 4000000 in
theorem l3Split_any (s : ByteArray) (by' : UInt8) (w : World) (hs : s.size ≤ 1000000) :
    Calls Tryd.prog 58 #[.string s, .int .u8 by'.toNat] w (RetStrs w (splitB by' [] s.data.toList)) := by
  obtain ⟨i0, hi0, hz0, hz1, hz2⟩ := info_parts Tryd.infoStr
  have hsl : s.data.toList.length = s.size := by simp
  have HL := Lib.hid hsl
  clear hsl
  obtain ⟨tg, htg⟩ : ∃ tg, splitB by' [] s.data.toList = tg := ⟨_, rfl⟩
  have HTG := Lib.hid htg
  rw [htg]
  clear htg
  go_enter Tryd.func58, Tryd.ntmps58
  go_wp2
  have hb0 : Below w.heap.size w (w.alloc (.cells #[] 9)) := (Below.refl _ _).alloc (Nat.le_refl _) _
  go_loopw [5, 6, 7] (fun v fr i wr => ∃ (k f : Nat) (xs : List ByteArray) (fp : List Nat), k ≤ s.size + 1 ∧ f ≤ k ∧ xs.length ≤ k ∧ i = .int .i64 k ∧ fr = .int .i64 f ∧ Rep.OwnRows stR 9 wr w.heap.size v xs fp ∧ Below w.heap.size w wr ∧ Hid (SplitTo by' s.data.toList k f (xs.map (fun x => x.data.toList)))) (fun _ _ i _ => s.size + 1 - (intOf i).toNat)
  case atStart => exact ⟨0, 0, [], [w.heap.size], by omega, by omega, by simp, rfl, rfl, rows_lit w 9 stR (by decide), hb0, Lib.hid (SplitTo.zero _ _)⟩
  case round =>
    obtain ⟨k, f, xs, fp, hk, hf, hx, rfl, rfl, hown, hb, hst⟩ := hrel
    clear hb0
    by_cases hlt : k < s.size
    · have HG := Lib.hid (str_at s k hlt)
      have i1 : (k : Int) ≤ (s.size : Int) := by omega
      have i2 : ((k : Int) == (s.size : Int)) = false := by simp; omega
      obtain ⟨b, hbb⟩ : ∃ b, s[k] = b := ⟨_, rfl⟩
      rw [hbb] at HG
      by_cases hc : b = by'
      · subst hc
        have HN := Lib.hid (hst.out.cut HG.out)
        have i3 : (f : Int) ≤ (k : Int) := by omega
        go_wp2_with (at_builtin
                     have hnew := reads_lit wr #[.string (s.extract f k)] 1 1 9 (g := wr.heap.size) rfl rfl (by simp [maxLen])
                     have hown4 := hown.alloc (.cells #[.string (s.extract f k)] 9)
                     go_must (refine Rep.wpList_push _ rfl (.tmp 26) (.tmp 31) _ rfl stR w.heap.size 9 i0 _ 16 Tryd.underlying74 hi0 hz0 hz1 hz2 rfl (by decide) _ xs fp rfl hown4 _ 1 _ (s.extract f k) [] rfl hnew (one_of1 rfl) ⟨rfl, rfl⟩ (fun g hg hg' => by cases hg) (by simp only [maxLen]; omega) (by omega) (by simp; have := hb.size; omega) ?_)
                     intro A2 c2 w2 fp2 hown2 hg2 hf2 hv2
                     clear hnew hown4)
        have hbw : Below w.heap.size w w2 := (hb.alloc hb.size _).grown hg2 (by simp; have := hb.size; omega) (fun j hj => (hv2 j hj).1)
        clear hg2 hf2 hv2 hown hst hb
        go_roundw
        case rel => exact ⟨k + 1, k + 1, xs ++ [s.extract f k], fp2, by omega, by omega, by simp; omega, by go_num, by go_num, by simpa using hown2, hbw, Lib.hid (by rw [List.map_append, List.map_cons, List.map_nil, extract_list]; exact HN.out)⟩
        case measure => simp [intOf]; omega
      · have HN := Lib.hid (hst.out.skip HG.out hc)
        have hne : ((b.toNat : Int) == (by'.toNat : Int)) = false := by
          rw [beq_eq_false_iff_ne]
          exact fun e => hc (UInt8.toNat_inj.1 (by omega))
        clear hst
        go_wp2_with fail
        go_roundw
        case rel => exact ⟨k + 1, f, xs, fp, by omega, by omega, by omega, by go_num, by go_num, hown, hb, HN⟩
        case measure => simp [intOf]; omega
    · by_cases he : k = s.size
      · have HN := Lib.hid (show SplitTo by' s.data.toList (s.size + 1) (s.size + 1) (xs.map (fun x => x.data.toList) ++ [(s.data.toList.drop f).take (s.size - f)]) by
          have h9 := hst.out
          rw [he] at h9
          rw [← HL.out] at h9 ⊢
          exact h9.last)
        have i1 : (k : Int) ≤ (s.size : Int) := by omega
        have i2 : ((k : Int) == (s.size : Int)) = true := by simp; omega
        have i3 : (f : Int) ≤ (k : Int) := by omega
        go_wp2_with (at_builtin
                     have hnew := reads_lit wr #[.string (s.extract f s.size)] 1 1 9 (g := wr.heap.size) rfl rfl (by simp [maxLen])
                     have hown4 := hown.alloc (.cells #[.string (s.extract f s.size)] 9)
                     go_must (refine Rep.wpList_push _ rfl (.tmp 26) (.tmp 31) _ rfl stR w.heap.size 9 i0 _ 16 Tryd.underlying74 hi0 hz0 hz1 hz2 rfl (by decide) _ xs fp rfl hown4 _ 1 _ (s.extract f s.size) [] rfl hnew (one_of1 rfl) ⟨rfl, rfl⟩ (fun g hg hg' => by cases hg) (by simp only [maxLen]; omega) (by omega) (by simp; have := hb.size; omega) ?_)
                     intro A2 c2 w2 fp2 hown2 hg2 hf2 hv2
                     clear hnew hown4)
        have hbw : Below w.heap.size w w2 := (hb.alloc hb.size _).grown hg2 (by simp; have := hb.size; omega) (fun j hj => (hv2 j hj).1)
        clear hg2 hf2 hv2 hown hst hb
        go_roundw
        case rel => exact ⟨k + 1, k + 1, xs ++ [s.extract f s.size], fp2, by omega, by omega, by simp; omega, by go_num, by go_num, by simpa using hown2, hbw, Lib.hid (by rw [List.map_append, List.map_cons, List.map_nil, extract_list]; first | exact HN.out | (rw [he]; exact HN.out))⟩
        case measure => simp [intOf]; omega
      · have i1 : ¬ ((k : Int) ≤ (s.size : Int)) := by omega
        have HE := Lib.hid (show xs.map (fun x => x.data.toList) = tg by
          have h9 := hst.out.2
          rw [if_neg (by rw [HL.out]; omega), HTG.out] at h9
          exact h9.symm)
        obtain ⟨A3, c3, rfl, hle, hcm, hrows⟩ := hown.reads
        have HGE := Lib.hid (own_block_ge hown)
        clear hown hst
        go_wp2_with fail
        go_ret
        exact ⟨A3, c3, xs, rfl, HE.out, hrows, by omega, HGE.out, hb⟩
end Go.Proofs.YtdapnhahccpebaaDoor
