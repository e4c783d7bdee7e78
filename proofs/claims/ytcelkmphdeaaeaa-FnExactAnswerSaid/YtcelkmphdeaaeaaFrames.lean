/- Frames: what bytes give one after the other, in plain lists; Frames of the model and of the program. -/
import Derived.Test.YtcelkmphdeaaeaaGetFrameI
import Derived.Test.YtcelkmphdeaaeaaLFrame
namespace Go.Proofs.Ytcelkmphdeaaeaa
open Go.RowKit
set_option maxRecDepth 100000
set_option linter.unusedVariables false

def frsF : Nat → List UInt8 → List Fr × Int
  | 0, _ => ([], 0)
  | k + 1, l => if l.length = 0 then ([], 0) else if (getF l).2.2 ≠ 0 then ([], (getF l).2.2) else ((getF l).1 :: (frsF k (l.drop (getF l).2.1.toNat)).1, (frsF k (l.drop (getF l).2.1.toNat)).2)
def frs (l : List UInt8) : List Fr × Int := frsF l.length l

theorem rdF_ok {l : List UInt8} {n : Nat} (hn1 : 1 ≤ n) (hl : n ≤ l.length) (h5 : gK l = 5 ∨ n ≠ 1 → 2 ≤ n) (hq : lenF l = ((n : Int), 0)) (h : frB (rdF (l.take n)) = true) : putF (rdF (l.take n)) = l.take n := by
  have hl0 : l.length ≠ 0 := by omega
  have hk : ¬ (gK l < 1 ∨ 6 < gK l) := fun hk => by rw [lenF_out hl0 hk] at hq; injection hq with _ h2; cases h2
  obtain ⟨a, t, rfl⟩ : ∃ a t, l = a :: t := by cases l with | nil => exact absurd rfl hl0 | cons a t => exact ⟨a, t, rfl⟩
  have hg : gK (a :: t) = (a.toNat : Int) := rfl
  have ha : u8 (a.toNat : Int) = a := by
    unfold u8
    have := byte_lt a
    rw [Int.emod_eq_of_lt (by omega) (by omega)]
    simp
  by_cases h3 : gK (a :: t) = 3
  · rw [lenF_3 hl0 h3] at hq
    obtain rfl : n = 1 := by injection hq with h1 _; omega
    have e : rdF ((a :: t).take 1) = ⟨3, ⟨#[]⟩, 0⟩ := by
      unfold rdF
      rw [gK_take (Nat.le_refl _), h3, if_neg (by omega), if_neg (by rw [List.length_take]; omega)]
    rw [e, putF_3 rfl rfl]
    show [u8 3] = [a]
    rw [← ha, ← hg, h3]
  by_cases h5' : gK (a :: t) = 5
  · have h2 := h5 (.inl h5')
    rw [lenF_5 hl0 h5'] at hq
    obtain rfl : n = 2 := by injection hq with h1 _; omega
    obtain ⟨b, r, rfl⟩ : ∃ b r, t = b :: r := by cases t with | nil => simp at hl | cons b r => exact ⟨b, r, rfl⟩
    have e : rdF ((a :: b :: r).take 2) = ⟨5, ⟨#[]⟩, (b.toNat : Int)⟩ := by
      unfold rdF
      rw [gK_take (by omega), if_pos h5']
      rfl
    rw [e] at h ⊢
    rw [putF_5 h rfl]
    show [u8 5, u8 (b.toNat : Int)] = [a, b]
    have hb : u8 (b.toNat : Int) = b := by
      unfold u8
      have := byte_lt b
      rw [Int.emod_eq_of_lt (by omega) (by omega)]
      simp
    rw [hb, ← ha, ← hg, h5']
  by_cases hl1 : (a :: t).length = 1
  · rw [lenF_1 hl1 (by omega) h3 h5'] at hq
    injection hq with _ h2; cases h2
  obtain ⟨b, r, rfl⟩ : ∃ b r, t = b :: r := by cases t with | nil => exact absurd rfl hl1 | cons b r => exact ⟨b, r, rfl⟩
  rw [lenF_t (by simp) (by omega) h3 h5'] at hq
  have hgl : gL (a :: b :: r) = b.toNat := rfl
  by_cases hb : 100 < gL (a :: b :: r)
  · rw [if_pos hb] at hq
    injection hq with _ h2; cases h2
  rw [if_neg hb] at hq
  obtain rfl : n = 2 + b.toNat := by injection hq with h1 _; omega
  have htl : ((a :: b :: r).take (2 + b.toNat)) = a :: b :: r.take b.toNat := by rw [Nat.add_comm]; rfl
  have hrl : (r.take b.toNat).length = b.toNat := by rw [List.length_take]; simp at hl; omega
  have e : rdF ((a :: b :: r).take (2 + b.toNat)) = ⟨(a.toNat : Int), ⟨(r.take b.toNat).toArray⟩, 0⟩ := by
    rw [htl]
    unfold rdF
    rw [show gK (a :: b :: r.take b.toNat) = (a.toNat : Int) from rfl, if_neg (by omega), if_pos (by simp)]
    rfl
  rw [e] at h ⊢
  rw [putF_t h (by show (a.toNat : Int) ≠ 5; omega) (by show (a.toNat : Int) ≠ 3; omega), htl]
  have hok := frB_text h
  unfold ptB
  rw [if_pos hok]
  show [u8 (a.toNat : Int)] ++ (u8 ((r.take b.toNat).length : Int) :: r.take b.toNat) = _
  have hbb : u8 (b.toNat : Int) = b := by
    unfold u8
    have := byte_lt b
    rw [Int.emod_eq_of_lt (by omega) (by omega)]
    simp
  rw [ha, hrl, hbb]
  rfl

/-- A frame that is read is right, and its bytes are those that were read. -/
theorem getF_good {l : List UInt8} (h : (getF l).2.2 = 0) : ∃ n : Nat, (getF l).2.1 = (n : Int) ∧ 1 ≤ n ∧ n ≤ l.length ∧ n ≤ 102 ∧ frB (getF l).1 = true ∧ putF (getF l).1 = l.take n := by
  rcases lenF_ways l with ⟨hc, _, _, _, hg⟩ | ⟨n, hq, hn1, hn2, hl0, h5, hshort, hlong⟩
  · rw [hg] at h
    exact absurd h hc
  · by_cases hs : l.length < n
    · rw [hshort hs] at h; cases h
    · have hl := hlong (by omega)
      by_cases hf : frB (rdF (l.take n)) = true
      · rw [if_pos hf] at hl
        rw [hl]
        exact ⟨n, rfl, hn1, by omega, hn2, hf, rdF_ok hn1 (by omega) h5 hq hf⟩
      · rw [if_neg hf] at hl
        rw [hl] at h; cases h
theorem getF_bad {l : List UInt8} (h : (getF l).2.2 ≠ 0) : (getF l).1 = ⟨0, ⟨#[]⟩, 0⟩ ∧ (getF l).2.1 = 0 ∧ ((getF l).2.2 = 1 ∨ (getF l).2.2 = 2) := by
  rcases lenF_ways l with ⟨hc, _, h1, h2, hg⟩ | ⟨n, hq, hn1, hn2, hl0, h5, hshort, hlong⟩
  · rw [hg]
    exact ⟨rfl, rfl, by show (lenF l).2 = 1 ∨ (lenF l).2 = 2; omega⟩
  · by_cases hs : l.length < n
    · rw [hshort hs]; exact ⟨rfl, rfl, .inl rfl⟩
    · have hl := hlong (by omega)
      by_cases hf : frB (rdF (l.take n)) = true
      · rw [if_pos hf] at hl
        rw [hl] at h
        exact absurd rfl h
      · rw [if_neg hf] at hl
        rw [hl]; exact ⟨rfl, rfl, .inr rfl⟩

theorem frsF_more : ∀ (k : Nat) (l : List UInt8), l.length ≤ k → ∀ k', l.length ≤ k' → frsF k l = frsF k' l := by
  intro k
  induction k with
  | zero =>
    intro l h k' h'
    have h0 : l.length = 0 := by omega
    cases k' with
    | zero => rfl
    | succ k' => show ([], 0) = (if l.length = 0 then _ else _); rw [if_pos h0]
  | succ k ih =>
    intro l h k' h'
    by_cases h0 : l.length = 0
    · cases k' with
      | zero => show (if l.length = 0 then _ else _) = ([], 0); rw [if_pos h0]
      | succ k' => show (if l.length = 0 then _ else _) = (if l.length = 0 then _ else _); rw [if_pos h0, if_pos h0]
    · cases k' with
      | zero => omega
      | succ k' =>
        show (if l.length = 0 then _ else _) = (if l.length = 0 then _ else _)
        rw [if_neg h0, if_neg h0]
        by_cases hc : (getF l).2.2 ≠ 0
        · rw [if_pos hc, if_pos hc]
        · rw [if_neg hc, if_neg hc]
          obtain ⟨n, hn, hn1, hn2, _⟩ := getF_good (l := l) (by omega)
          have hd : (l.drop (getF l).2.1.toNat).length < l.length := by rw [hn, List.length_drop]; simp; omega
          rw [ih _ (by omega) k' (by omega)]
theorem frs_nil {l : List UInt8} (h : l.length = 0) : frs l = ([], 0) := by unfold frs; rw [h]; rfl
theorem frs_stop {l : List UInt8} (h : l.length ≠ 0) (hc : (getF l).2.2 ≠ 0) : frs l = ([], (getF l).2.2) := by
  obtain ⟨j, hj⟩ : ∃ j, l.length = j + 1 := ⟨l.length - 1, by omega⟩
  unfold frs
  rw [hj]
  show (if l.length = 0 then _ else _) = _
  rw [if_neg h, if_pos hc]
theorem frs_step {l : List UInt8} {n : Nat} (h : l.length ≠ 0) (hc : (getF l).2.2 = 0) (hn : (getF l).2.1 = (n : Int)) : frs l = ((getF l).1 :: (frs (l.drop n)).1, (frs (l.drop n)).2) := by
  obtain ⟨j, hj⟩ : ∃ j, l.length = j + 1 := ⟨l.length - 1, by omega⟩
  obtain ⟨n', hn', hn1, hn2, _⟩ := getF_good hc
  have e : n' = n := by rw [hn'] at hn; omega
  subst e
  have hd : (l.drop n').length ≤ j := by rw [List.length_drop]; omega
  unfold frs
  rw [hj]
  show (if l.length = 0 then _ else _) = _
  rw [if_neg h, if_neg (by rw [hc]; simp), hn', show ((n' : Int)).toNat = n' from rfl, frsF_more j _ hd _ (Nat.le_refl _)]

/-- A row of frames of the call's own. -/
structure FB (w : World) (v : Value) (xs : List Fr) (W : World) : Prop where
  below : Below w.heap.size w W
  own : W.ownsRow w.heap.size 33 3 v xs.length (flatFr xs)
section
variable {w W W' : World} {v v' : Value} {xs ys : List Fr}
theorem FB.new (w : World) : FB w (.slice (some ⟨w.heap.size, 0, none⟩) 0 0) [] (w.alloc (.cells #[] 33)) := ⟨Later.alloc w _, World.ownsRow_lit w #[] 0 (Nat.le_refl _) (by simp [maxLen]) rfl⟩
theorem FB.later (h : FB w v xs W) (hb : Below W.heap.size W W') : FB w v xs W' := ⟨Later.trans h.below hb, ownsRow_below h.own hb (Nat.le_refl _)⟩
theorem FB.push (h : FB w v xs W) (ho : W'.ownsRow w.heap.size 33 3 v' (xs.length + ys.length) (flatFr xs ++ flatFr ys)) (hg : W.grownBy W' v.ownBlock) : FB w v' (xs ++ ys) W' :=
  ⟨h.below.grown hg h.below.size (fun j hj => (h.own.lt j hj).1), by rw [flatFr_append, List.length_append]; exact ho⟩
theorem FB.shape (h : FB w v xs W) : ∃ A c, v = .slice A xs.length c := by
  rcases h.own.2 with ⟨rfl, h0⟩ | ⟨g, cap, cur, rfl, _⟩
  · exact ⟨none, 0, by rw [h0]⟩
  · exact ⟨_, _, rfl⟩
end
def RetFrs (w : World) (p : List Fr × Int) (e : Ending) (w' : World) : Prop := ∃ A c, e = .returned (.tuple #[.slice A p.1.length c, .int .i64 p.2]) ∧ w'.ownsRow w.heap.size 33 3 (.slice A p.1.length c) p.1.length (flatFr p.1) ∧ Below w.heap.size w w'
theorem FB.ret {w W : World} {v : Value} {xs : List Fr} {code : Int} {p : List Fr × Int} (h : FB w v xs W) (h1 : xs = p.1) (h2 : code = p.2) : RetFrs w p (.returned (.tuple #[v, .int .i64 code])) W := by
  subst h1 h2
  obtain ⟨A, c, rfl⟩ := h.shape
  exact ⟨A, c, rfl, h.own, h.below⟩

def slen : Value → Nat
  | .slice _ n _ => n
  | _ => 0

set_option maxHeartbeats 8000000 in
theorem frames_any (A : Option Addr) (c : Nat) (l : List UInt8) (w : World) (h : Reads w w.heap.size 1 A l.length (bys l)) (hn : l.length ≤ 10000000) (hcap : l.length ≤ c) :
    Calls Try.prog 39 #[.slice A l.length c] w (RetFrs w (frs l)) := by
  obtain ⟨i0, hi0, hz0, hz1, hz2⟩ := info_parts Try.info8
  obtain ⟨j0, hj0, jz0, jz1, jz2⟩ := info_parts Try.infoFrB
  have HRD := Lib.hid h
  clear h
  go_enter Try.func39, Try.ntmps39
  have F0 := FB.new w
  go_wp2_with fail
  go_loopw [0, 4] (fun bq q wr => ∃ (v : Value) (A : Option Addr) (c : Nat) (m : List UInt8) (xs : List Fr), bq = .slice A m.length c ∧ m.length ≤ c ∧ q = v ∧ FB w v xs wr ∧ Hid (Reads w w.heap.size 1 A m.length (bys m)) ∧ Hid (xs.length + m.length ≤ l.length ∧ xs ++ (frs m).1 = (frs l).1 ∧ (frs m).2 = (frs l).2)) (fun bq _ _ => slen bq)
  case atStart => exact ⟨_, A, c, l, [], rfl, hcap, rfl, F0, HRD, Lib.hid ⟨by simp, rfl, rfl⟩⟩
  case round =>
    obtain ⟨v, B, d, m, xs, rfl, hmd, rfl, hF, HR, hinv⟩ := hrel
    clear F0
    have hml : m.length ≤ 10000000 := by have := hinv.out.1; omega
    by_cases hm0 : m.length = 0
    · have i1 : ¬ (0 : Int) < (m.length : Int) := by omega
      rw [frs_nil hm0] at hinv
      clear hm0
      go_wp2_with fail
      go_ret2
      exact hF.ret (by have := hinv.out.2.1; simpa using this) hinv.out.2.2
    · have i1 : (0 : Int) < (m.length : Int) := by omega
      obtain ⟨⟨⟨fk, fs, fst⟩, n, code⟩, hp⟩ : ∃ p, getF m = p := ⟨_, rfl⟩
      have HP := Lib.hid hp
      have HM0 := Lib.hid hm0
      clear hp hm0
      go_wp2_with fail
      refine (getFrame_any B d m wr ((HR.out.below hF.below).more hF.below.size) (by omega) hmd).mono ?_
      rw [HP.out]
      rintro e W1 ⟨h9, hb⟩
      replace h9 : e = .returned (.tuple #[.agg #[.int .i64 fk, .string fs, .int .i64 fst], .int .i64 n, .int .i64 code]) := h9
      subst h9
      replace hF := hF.later hb
      clear hb
      by_cases hc : code = 0
      · subst hc
        obtain ⟨n', hn', hn1, hn2, _⟩ := getF_good (l := m) (by rw [HP.out])
        rw [HP.out] at hn'
        obtain rfl : n = (n' : Int) := hn'
        have hst := frs_step HM0.out (by rw [HP.out]) (by rw [HP.out])
        rw [HP.out] at hst
        have hxm := hinv.out.1
        have HN : Hid ((xs ++ [(⟨fk, fs, fst⟩ : Fr)]).length + (m.drop n').length ≤ l.length ∧ (xs ++ [(⟨fk, fs, fst⟩ : Fr)]) ++ (frs (m.drop n')).1 = (frs l).1 ∧ (frs (m.drop n')).2 = (frs l).2) := by
          have h3 := hinv.out
          rw [hst] at h3
          have h4 : (xs ++ [(⟨fk, fs, fst⟩ : Fr)]).length + (m.drop n').length ≤ l.length := by rw [List.length_append, List.length_singleton, List.length_drop]; have := h3.1; omega
          have h5 : (xs ++ [(⟨fk, fs, fst⟩ : Fr)]) ++ (frs (m.drop n')).1 = (frs l).1 := by rw [← h3.2.1]; simp
          exact Lib.hid ⟨h4, h5, h3.2.2⟩
        have hxl : xs.length ≤ 10000000 := by omega
        clear hst hinv hxm
        have F2 := hF.later (Later.alloc _ (.cells #[.int .i64 fk, .string fs, .int .i64 fst] 33))
        have F3 := F2.later (Later.alloc _ (.cells (flatFr [⟨fk, fs, fst⟩]).toArray 33))
        have hnew := reads_lit (W1.alloc (.cells #[.int .i64 fk, .string fs, .int .i64 fst] 33)) (flatFr [⟨fk, fs, fst⟩]).toArray 3 1 33 (g := W1.heap.size + 1) (by simp) rfl (by simp [maxLen])
        obtain ⟨A', hrun, hrd⟩ := slice_readsF Try.underlying22 hi0 hz1 (A := B) (n := m.length) (c := d) (lo := n') .i64 hn2 hmd
        have HR2 := Lib.hid (hrd HR.out)
        have hdl : (m.drop n').length = m.length - n' := List.length_drop
        clear hF F2 hrd
        have hsl := fun w => hrun w
        clear hrun
        have HDL := Lib.hid hdl
        clear hdl
        go_wp2_with (at_builtin
                     go_must (refine wpList_append_any _ rfl (.tmp 22) (.tmp 24) _ rfl w.heap.size 33 j0 _ 3 32 Try.underlying52 hj0 jz0 jz1 jz2 rfl (by omega) _ xs.length (flatFr xs) rfl F3.own _ _ 1 _ (flatFr [⟨fk, fs, fst⟩]) rfl hnew (one_flatFr _) (by simp only [maxLen]; omega) (by omega) F3.below.size ?_)
                     intro v4 W4 own4 hg4 _
                     have F4 := F3.push (ys := [⟨fk, fs, fst⟩]) own4 hg4
                     clear hnew F3 own4 hg4)
        go_roundw
        case rel => exact ⟨_, A', d - n', m.drop n', _, by rw [HDL.out], by rw [HDL.out]; omega, rfl, F4, Lib.hid (by rw [HDL.out]; exact HR2.out), HN⟩
        case measure => simp [slen]; omega
      · have tc : (code != 0) = true := by simpa using hc
        have hfs := frs_stop HM0.out (by rw [HP.out]; exact hc)
        rw [hfs, HP.out] at hinv
        have HF2 := Lib.hid (hF.later (Later.alloc _ (.cells #[.int .i64 fk, .string fs, .int .i64 fst] 33)))
        clear hfs hc hF
        go_wp2_with fail
        go_ret2
        exact HF2.out.ret (by have := hinv.out.2.1; simpa using this) hinv.out.2.2

end Go.Proofs.Ytcelkmphdeaaeaa
