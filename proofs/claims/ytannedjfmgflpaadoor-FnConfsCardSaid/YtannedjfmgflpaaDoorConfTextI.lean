/- ConfText of the program. -/
import Derived.Test.YtannedjfmgflpaaDoorConfTextS
import Derived.Deep.DeepMust
namespace Go.Proofs.YtannedjfmgflpaaDoor
open Go.RowKit
set_option maxRecDepth 100000
set_option linter.unusedVariables false

theorem lens_le {C : Nat} : ∀ {l : List (List UInt8)}, (∀ x, x ∈ l → x.length ≤ C) → Lib.lens l ≤ C * l.length := by
  intro l
  induction l with
  | nil => intro _; simp [Lib.lens]
  | cons a r ih =>
    intro h
    have h1 := h a (by simp)
    have h2 := ih fun x hx => h x (by simp [hx])
    simp only [Lib.lens, List.map_cons, List.sum_cons, List.length_cons] at h2 ⊢
    rw [Nat.mul_add]
    omega
theorem join_le {C : Nat} {l : List (List UInt8)} (h : ∀ x, x ∈ l → x.length ≤ C) (s : List UInt8) : (Lib.join l s).length ≤ (s.length + C) * l.length := by
  match l, h with
  | [], _ => simp [Lib.join_nil]
  | a :: r, h =>
    have h1 := lens_le h
    rw [Lib.join_length]
    simp only [List.length_cons] at h1 ⊢
    have : s.length * r.length ≤ s.length * (r.length + 1) := Nat.mul_le_mul_left _ (by omega)
    rw [Nat.add_mul]
    omega
theorem dbL_le {d : Db} (h : SmallDb d) : (dbL d).length ≤ 100 := by
  obtain ⟨s0, ⟨s1, s1'⟩, ⟨s2, s2'⟩, ⟨s3, s3'⟩, ⟨s4, s4'⟩⟩ := h
  have n1 := itoa_small s1 s1'
  have n2 := itoa_small s2 s2'
  have n3 := itoa_small s3 s3'
  have n4 := itoa_small s4 s4'
  have e : d.name.data.toList.length = d.name.size := by simp
  simp only [dbL, List.length_append, List.length_cons, List.length_nil]
  omega

theorem Tryd.infoStr : (Tryd.prog.info? 9).map (fun i => (i.zero, i.size, i.bytes)) = some (some (.string ⟨#[]⟩), 1, 16) := by kernel_rfl
def stR : Rep ByteArray := strR markText

theorem str_cells {w : World} {B b off n : Nat} {ts : List ByteArray} (h : Rep.RowsAt stR w B (some ⟨b, off, none⟩) n ts) : ∀ (j : Nat) (x : ByteArray), ts[j]? = some x → w.cell? ⟨b, off + j, none⟩ = some (.string x) ∧ b < B := by
  intro j x hx
  have hl := h.1
  have hj : j < n := by have := (List.getElem?_eq_some_iff.1 hx).1; omega
  obtain ⟨b', off', cs, y, hA, hb, hy, hat, hcell⟩ := h.elem hj (show 0 < 1 by omega)
  injection hA with hA
  injection hA with e1 e2 _
  subst e1 e2
  rw [hx] at hy
  injection hy with hy
  subst hy
  have hat' : cs = [.string x] := hat
  subst hat'
  have h2 := hcell 0 _ rfl
  have e : stR.size = 1 := rfl
  rw [e, Nat.mul_one, Nat.add_zero] at h2
  exact ⟨h2, hb⟩

set_option maxHeartbeats 4000000 in
theorem confText_any (A : Option Addr) (c : Nat) (xs : List Db) (w : World) (h : Rep.RowsAt dbR w w.heap.size A xs.length xs) (hc : xs.length ≤ c) (hf : FitsDbs xs) (ht : Tab w) :
    Calls Tryd.prog 8 #[.slice A xs.length c] w fun e w' => e = .returned (.string (confT xs)) ∧ Below w.heap.size w w' := by
  obtain ⟨y, hy⟩ : ∃ y, confB xs = y := ⟨_, rfl⟩
  have HY := Lib.hid hy
  clear hy
  have HF := Lib.hid hf
  have hn := hf.1
  have HTb := Lib.hid ht
  clear hf ht
  cases y
  · have HT := Lib.hid (show confT xs = ⟨#[]⟩ by unfold confT; rw [HY.out]; rfl)
    go_enter Tryd.func8, Tryd.ntmps8
    go_wp2_with fail
    refine (confOk_any A c xs w h hc HF.out).mono ?_
    rintro e W1 ⟨rfl, hb⟩
    rw [HY.out]
    go_wp2_with fail
    go_ret
    exact ⟨by rw [HT.out]; rfl, hb⟩
  · have HT := Lib.hid (show confT xs = ⟨(Lib.join (xs.map dbL) [59]).toArray⟩ by unfold confT; rw [HY.out]; rfl)
    have hg := confB_good HY.out
    obtain ⟨⟨l1, l2⟩, hto⟩ := hg
    have HO := Lib.hid hto.1
    clear hto
    obtain ⟨i0, hi0, hz0, hz1, hz2⟩ := info_parts Tryd.infoStr
    go_enter Tryd.func8, Tryd.ntmps8
    go_wp2_with fail
    refine (confOk_any A c xs w h hc HF.out).mono ?_
    rintro e W1 ⟨rfl, hb⟩
    rw [HY.out]
    have S0 : All (fun w' => Below w.heap.size w w' ∧ Tab w') W1 := ⟨hb, HTb.out.below hb⟩
    clear hb
    go_wp2_with fail
    go_loopw [3, 11] (fun v i wr => ∃ (k : Nat) (fp : List Nat), k ≤ xs.length ∧ i = .int .i64 k ∧ Rep.OwnRows stR 9 wr w.heap.size v ((xs.take k).map dbT) fp ∧ All (fun w' => Below w.heap.size w w' ∧ Tab w') wr) (fun _ i _ => xs.length - (intOf i).toNat)
    case atStart => exact ⟨0, [], by omega, rfl, ⟨[], [], ⟨by simp, .inl ⟨rfl, rfl⟩⟩, rfl, fun i x f hx => by simp at hx, rfl, by simp⟩, S0⟩
    case round =>
      clear S0
      obtain ⟨k, fp, hk, rfl, hown, S0⟩ := hrel
      have hkl : ((xs.take k).map dbT).length = k := by rw [List.length_map, List.length_take]; omega
      by_cases hlt : k < xs.length
      · have i2 : (k : Int) < (xs.length : Int) := by omega
        have i1 : (0 : Int) ≤ (k : Int) := by omega
        obtain ⟨b, off, x, rfl, hbl, hx, c0, c1, c2, c3, c4⟩ := db_elem (h.keep fun p hp => S0.out.1.cell hp) hlt
        have hdx := HO.out k x hlt hx
        have HX := Lib.hid hx
        have HK := Lib.hid hkl
        clear hx hkl
        go_wp2_with fail
        have hownA := hown.alloc (.cells #[.string x.name, .int .i64 x.size, .int .i64 x.queue, .int .i64 x.wait, .int .i64 x.idle] 35)
        have S1 := S0.alloc (.cells #[.string x.name, .int .i64 x.size, .int .i64 x.queue, .int .i64 x.wait, .int .i64 x.idle] 35)
        generalize hgW : wr.alloc (.cells #[.string x.name, .int .i64 x.size, .int .i64 x.queue, .int .i64 x.wait, .int .i64 x.idle] 35) = W2 at hownA S1 ⊢
        clear hgW S0 hown c0 c1 c2 c3 c4
        refine (dbText_any x hdx W2 S1.out.2).mono ?_
        rintro e W3 ⟨rfl, hb⟩
        replace S1 := S1.later hb
        have hown3 := hownA.of_below hb
        clear hb hownA
        go_wp2_with (at_builtin
                     have hnew := reads_lit W3 #[.string (dbT x)] 1 1 9 (g := W3.heap.size) rfl rfl (by simp [maxLen])
                     have hown4 := hown3.alloc (.cells #[.string (dbT x)] 9)
                     go_must (refine Rep.wpList_push _ rfl (.tmp 15) (.tmp 18) _ rfl stR w.heap.size 9 i0 _ 16 Tryd.underlying54 hi0 hz0 hz1 hz2 rfl (by decide) _ ((xs.take k).map dbT) fp rfl hown4 _ 1 _ (dbT x) [] rfl hnew (one_of1 rfl) ⟨rfl, rfl⟩ (fun g hg hg' => by cases hg) (by rw [HK.out]; simp only [maxLen]; omega) (by rw [HK.out]; omega) (by simp; have := S1.out.1.size; omega) ?_)
                     intro A2 c2 w2 fp2 hown2 hg2 hf2 hv2
                     rw [HK.out] at hown2
                     have hb2 : Below W3.heap.size W3 (W3.alloc (.cells #[.string (dbT x)] 9)) := (Below.refl _ _).alloc (Nat.le_refl _) _
                     clear hnew hown4)
        have hbw : Below w.heap.size w w2 := ((S1.out.1).alloc S1.out.1.size _).grown hg2 (by simp; have := S1.out.1.size; omega) (fun j hj => (hv2 j hj).1)
        have S2 : All (fun w' => Below w.heap.size w w' ∧ Tab w') w2 := ⟨hbw, HTb.out.below hbw⟩
        have HO2 := Lib.hid (show Rep.OwnRows stR 9 w2 w.heap.size (.slice A2 (k + 1) c2) ((xs.take (k + 1)).map dbT) fp2 by rw [Rep.take_get HX.out, List.map_append]; exact hown2)
        clear hbw hg2 hf2 hv2 hb2 hown2 S1 hown3
        go_roundw
        case rel => exact ⟨k + 1, fp2, by omega, by go_num, HO2.out, S2⟩
        case measure => simp [intOf]; omega
      · have he : k = xs.length := by omega
        subst he
        rw [List.take_length] at hown hkl
        obtain ⟨A3, c3, rfl, hle, _, hrows⟩ := hown.reads
        rw [hkl] at hle hrows ⊢
        obtain ⟨b, off, _, _, rfl, _, _, _, _⟩ := hrows.elem (show 0 < xs.length by omega) (show 0 < 1 by omega)
        have hcl := str_cells hrows
        have hbl : b < wr.heap.size := by
          obtain ⟨x, hx⟩ := Rep.getElem?_of_lt hkl (show 0 < xs.length by omega)
          exact (hcl 0 x hx).2
        have hmm : (xs.map dbT).map (fun x => x.data.toList) = xs.map dbL := by
          rw [List.map_map]
          exact List.map_congr_left fun x _ => dbT_list x
        have hjl : (Lib.join (xs.map dbL) [59]).length ≤ 140737488355328 := by
          have h1 := join_le (C := 100) (l := xs.map dbL) (fun x hx => by
            obtain ⟨d, hd, rfl⟩ := List.mem_map.1 hx
            obtain ⟨i, hi, he⟩ := List.mem_iff_getElem.1 hd
            exact dbL_le (small_of (HO.out i d hi (by rw [List.getElem?_eq_getElem hi, he])))) [59]
          rw [List.length_map] at h1
          have h2 : ([59] : List UInt8).length = 1 := rfl
          rw [h2] at h1
          have h3 : (1 + 100) * xs.length ≤ (1 + 100) * 3 := Nat.mul_le_mul_left _ l2
          omega
        have C := Tryd.strings_Join b off c3 (xs.map dbT) ⟨#[59]⟩ wr (fun j x hx => (hcl j x hx).1) hbl (by rw [hkl]; omega) (by rw [hkl]; exact hle) (by rw [hmm]; exact hjl)
        rw [hkl, hmm] at C
        have HE := Lib.hid HT.out
        clear hcl hmm hjl hrows hown
        go_wp2_with fail
        refine C.mono ?_
        rintro e W9 ⟨rfl, hb⟩
        clear C
        have hb9 := S0.out.1.trans (hb.mono S0.out.1.size)
        go_wp2_with fail
        go_ret
        exact ⟨by rw [HE.out]; rfl, hb9⟩

end Go.Proofs.YtannedjfmgflpaaDoor
