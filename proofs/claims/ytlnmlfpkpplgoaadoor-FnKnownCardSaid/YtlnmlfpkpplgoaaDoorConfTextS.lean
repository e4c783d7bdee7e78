/- ConfText of the model. -/
import Derived.Test.YtlnmlfpkpplgoaaDoorConfText
import Derived.Lib.Join
namespace Go.Proofs.YtlnmlfpkpplgoaaDoor
open Go.RowKit
set_option maxRecDepth 100000
set_option linter.unusedVariables false

theorem join_snoc {l : List (List UInt8)} (h : l ≠ []) (y s : List UInt8) : Lib.join (l ++ [y]) s = Lib.join l s ++ s ++ y := by
  match l, h with
  | a :: r, _ =>
    rw [List.cons_append, Lib.join_cons, Lib.join_cons]
    simp [Lib.joinTail, List.append_assoc]
noncomputable def confT (xs : List Db) : ByteArray := if confB xs = true then ⟨(Lib.join (xs.map dbL) [59]).toArray⟩ else ⟨#[]⟩
theorem ba_size (l : List UInt8) : (⟨l.toArray⟩ : ByteArray).size = l.length := by simp [ByteArray.size]
theorem ba_59 : (⟨#[59]⟩ : ByteArray).size = 1 := rfl
theorem ba_58 : (⟨#[58]⟩ : ByteArray).size = 1 := rfl
theorem ba_47 : (⟨#[47]⟩ : ByteArray).size = 1 := rfl
theorem ba_of_list {a : ByteArray} {l : List UInt8} (h : a.data.toList = l) : a = ⟨l.toArray⟩ := by
  subst h
  simp

set_option maxHeartbeats 4000000 in
theorem confTextS_any (A : Option Addr) (c : Nat) (xs : List Db) (w : World) (h : Rep.RowsAt dbR w w.heap.size A xs.length xs) (hf : FitsDbs xs) :
    Calls Tryd.prog 34 #[.slice A xs.length c] w fun e w' => e = .returned (.string (confT xs)) ∧ Below w.heap.size w w' := by
  obtain ⟨y, hy⟩ : ∃ y, confB xs = y := ⟨_, rfl⟩
  have HY := Lib.hid hy
  clear hy
  have HF := Lib.hid hf
  have hn := hf.1
  clear hf
  cases y
  · have HT := Lib.hid (show confT xs = ⟨#[]⟩ by unfold confT; rw [HY.out]; rfl)
    go_enter Tryd.func34, Tryd.ntmps34
    go_wp2
    go_loopw [3, 4] (fun s i wr => s = .string ⟨#[]⟩ ∧ i = .int .i64 (0 : Nat) ∧ wr = w) (fun _ _ _ => 0)
    case atStart => exact ⟨rfl, rfl, rfl⟩
    case round =>
      obtain ⟨rfl, rfl, rfl⟩ := hrel
      by_cases hl : 0 < xs.length
      · have i2 : (0 : Int) < (xs.length : Int) := by omega
        go_wp2_with fail
        refine (confOkS_any A c xs wr h HF.out).mono ?_
        rintro e W1 ⟨rfl, hb⟩
        rw [HY.out]
        go_wp2_with fail
        go_ret
        exact ⟨by rw [HT.out]; rfl, hb⟩
      · have i2 : ¬ ((0 : Int) < (xs.length : Int)) := by omega
        go_wp2_with fail
        go_ret
        exact ⟨by rw [HT.out]; rfl, Below.refl _ _⟩
  · have HT := Lib.hid (show confT xs = ⟨(Lib.join (xs.map dbL) [59]).toArray⟩ by unfold confT; rw [HY.out]; rfl)
    have hg := confB_good HY.out
    obtain ⟨⟨l1, l2⟩, hto⟩ := hg
    have HO := Lib.hid hto.1
    clear hto
    go_enter Tryd.func34, Tryd.ntmps34
    go_wp2
    go_loopw [3, 4] (fun s i wr => ∃ (k : Nat) (T : ByteArray), k ≤ xs.length ∧ i = .int .i64 k ∧ s = .string T ∧ T.size ≤ 100 * k ∧ Hid (T.data.toList = Lib.join ((xs.take k).map dbL) [59]) ∧ All (fun w' => Below w.heap.size w w') wr) (fun _ i _ => xs.length - (intOf i).toNat)
    case atStart => exact ⟨0, ⟨#[]⟩, by omega, rfl, rfl, Nat.zero_le _, Lib.hid rfl, ⟨Below.refl _ _⟩⟩
    case round =>
      obtain ⟨k, T, hk, rfl, rfl, hT, hTL, S0⟩ := hrel
      by_cases hlt : k < xs.length
      · have i2 : (k : Int) < (xs.length : Int) := by omega
        have i1 : (0 : Int) ≤ (k : Int) := by omega
        go_wp2_with fail
        refine (confOkS_any A c xs wr ((h.keep fun p hp => S0.out.cell hp).more S0.out.size) HF.out).mono ?_
        rintro e W1 ⟨rfl, hb⟩
        rw [HY.out]
        replace S0 := S0.later hb
        clear hb
        obtain ⟨b, off, x, rfl, hbl, hx, c0, c1, c2, c3, c4⟩ := db_elem (h.keep fun p hp => S0.out.cell hp) hlt
        have hdx := HO.out k x hlt hx
        obtain ⟨s0, ⟨s1, s1'⟩, ⟨s2, s2'⟩, ⟨s3, s3'⟩, ⟨s4, s4'⟩⟩ := small_of hdx
        have n1 := itoa_small s1 s1'
        have n2 := itoa_small s2 s2'
        have n3 := itoa_small s3 s3'
        have n4 := itoa_small s4 s4'
        have S : All (fun w' => Below w.heap.size w w' ∧ w'.cell? ⟨b, off + k * 5, none⟩ = some (.string x.name) ∧ w'.cell? ⟨b, off + k * 5 + 1, none⟩ = some (.int .i64 x.size) ∧ w'.cell? ⟨b, off + k * 5 + 2, none⟩ = some (.int .i64 x.queue) ∧ w'.cell? ⟨b, off + k * 5 + 3, none⟩ = some (.int .i64 x.wait) ∧ w'.cell? ⟨b, off + k * 5 + 4, none⟩ = some (.int .i64 x.idle)) W1 := ⟨S0.out, c0, c1, c2, c3, c4⟩
        by_cases h0 : k = 0
        · have hk0 : ¬ (0 < (k : Int)) := by omega
          have HJ := Lib.hid (show Lib.join ((xs.take (k + 1)).map dbL) [59] = T.data.toList ++ dbL x by
            rw [Rep.take_get hx, hTL.out, h0]
            simp [Lib.join_one, Lib.join_nil])
          clear h0 hx hdx c0 c1 c2 c3 c4 S0
          go_wp2_with fail
          refine wp_region_open 100 (fun w' => w'.cell? ⟨b, off + k * 5, none⟩ = some (.string x.name) ∧ w'.cell? ⟨b, off + k * 5 + 1, none⟩ = some (.int .i64 x.size) ∧ w'.cell? ⟨b, off + k * 5 + 2, none⟩ = some (.int .i64 x.queue) ∧ w'.cell? ⟨b, off + k * 5 + 3, none⟩ = some (.int .i64 x.wait) ∧ w'.cell? ⟨b, off + k * 5 + 4, none⟩ = some (.int .i64 x.idle)) (by kernel_rfl) ?_
          refine wpAnyL_reads [0, 1, 2, 3, 4, 5, 6, 7, 8, 9, 10, 11, 12, 16, 17, 18, 19, 20, 24, 25, 26, 27, 28, 32, 33, 34, 35, 36] (fuel := 12) (by kernel_rfl) S.out.2 ?_
          iterate 28 (refine LexR.cons rfl ?_ (fun w' hw => ?_) ?_; rotate_left; focus (obtain ⟨e1, e2, e3, e4, e5⟩ := hw; go_simp; (try (rw [if_neg (by (try simp); omega)])); (try exact rfl)); (try go_frame))
          refine LexR.nil ?_
          replace S := S.drew
          refine wpAnyL_one (i := 13) (by kernel_rfl) ?_
          refine lexA_get rfl ?_
          try go_frame
          go_wp2_with fail
          refine (numTextS_any _ (by omega) (by omega) _).mono ?_
          rintro e W13 ⟨rfl, hb⟩
          replace S := S.later hb
          clear hb
          go_wp2_with fail
          refine ⟨fun _ => S.out.2, ?_⟩
          refine wpAnyL_reads [14, 15] (fuel := 9) (by kernel_rfl) S.out.2 ?_
          iterate 2 (refine LexR.cons rfl ?_ (fun w' hw => ?_) ?_; rotate_left; focus (obtain ⟨e1, e2, e3, e4, e5⟩ := hw; go_simp; (try (rw [if_neg (by (try simp); omega)])); (try exact rfl)); (try go_frame))
          refine LexR.nil ?_
          refine wpAnyL_one (i := 21) (by kernel_rfl) ?_
          refine lexA_get rfl ?_
          try go_frame
          go_wp2_with fail
          refine (numTextS_any _ (by omega) (by omega) _).mono ?_
          rintro e W21 ⟨rfl, hb⟩
          replace S := S.later hb
          clear hb
          go_wp2_with fail
          refine ⟨fun _ => S.out.2, ?_⟩
          refine wpAnyL_reads [22, 23] (fuel := 6) (by kernel_rfl) S.out.2 ?_
          iterate 2 (refine LexR.cons rfl ?_ (fun w' hw => ?_) ?_; rotate_left; focus (obtain ⟨e1, e2, e3, e4, e5⟩ := hw; go_simp; (try (rw [if_neg (by (try simp); omega)])); (try exact rfl)); (try go_frame))
          refine LexR.nil ?_
          refine wpAnyL_one (i := 29) (by kernel_rfl) ?_
          refine lexA_get rfl ?_
          try go_frame
          go_wp2_with fail
          refine (numTextS_any _ (by omega) (by omega) _).mono ?_
          rintro e W29 ⟨rfl, hb⟩
          replace S := S.later hb
          clear hb
          go_wp2_with fail
          refine ⟨fun _ => S.out.2, ?_⟩
          refine wpAnyL_reads [30, 31] (fuel := 3) (by kernel_rfl) S.out.2 ?_
          iterate 2 (refine LexR.cons rfl ?_ (fun w' hw => ?_) ?_; rotate_left; focus (obtain ⟨e1, e2, e3, e4, e5⟩ := hw; go_simp; (try (rw [if_neg (by (try simp); omega)])); (try exact rfl)); (try go_frame))
          refine LexR.nil ?_
          refine wpAnyL_one (i := 37) (by kernel_rfl) ?_
          refine lexA_get rfl ?_
          try go_frame
          go_wp2_with fail
          refine (numTextS_any _ (by omega) (by omega) _).mono ?_
          rintro e W37 ⟨rfl, hb⟩
          replace S := S.later hb
          clear hb
          go_wp2_with fail
          refine ⟨fun _ => S.out.2, ?_⟩
          refine wpAnyL_reads [38] (fuel := 1) (by kernel_rfl) S.out.2 ?_
          iterate 1 (refine LexR.cons rfl ?_ (fun w' hw => ?_) ?_; rotate_left; focus (obtain ⟨e1, e2, e3, e4, e5⟩ := hw; go_simp; (try (rw [if_neg (by (try simp); omega)])); (try exact rfl)); (try go_frame))
          refine LexR.nil ?_
          refine wpAnyL_writes [39] (by kernel_rfl) (LexW.cons rfl ?_)
          try go_frame
          go_wp2_with fail
          refine ⟨fun _ => S.out.2, LexW.nil ?_⟩
          go_wp2_with fail
          go_roundw
          case rel => exact ⟨k + 1, _, by omega, by go_num, rfl, (by simp only [ByteArray.size_append, ba_size, List.length_cons, List.length_nil]; omega), Lib.hid (by rw [HJ.out]; simp [dbL]), ⟨S.out.1⟩⟩
          case measure => simp [intOf]; omega
        · have hk0 : 0 < (k : Int) := by omega
          have HJ := Lib.hid (show Lib.join ((xs.take (k + 1)).map dbL) [59] = T.data.toList ++ [59] ++ dbL x by
            rw [Rep.take_get hx, List.map_append, hTL.out]
            exact join_snoc (by intro e; have h9 := congrArg List.length e; rw [List.length_map, List.length_take, List.length_nil] at h9; omega) _ _)
          clear hx hdx c0 c1 c2 c3 c4 S0
          go_wp2_with fail
          refine wp_region_open 100 (fun w' => w'.cell? ⟨b, off + k * 5, none⟩ = some (.string x.name) ∧ w'.cell? ⟨b, off + k * 5 + 1, none⟩ = some (.int .i64 x.size) ∧ w'.cell? ⟨b, off + k * 5 + 2, none⟩ = some (.int .i64 x.queue) ∧ w'.cell? ⟨b, off + k * 5 + 3, none⟩ = some (.int .i64 x.wait) ∧ w'.cell? ⟨b, off + k * 5 + 4, none⟩ = some (.int .i64 x.idle)) (by kernel_rfl) ?_
          refine wpAnyL_reads [0, 1, 2, 3, 4, 5, 6, 7, 8, 9, 10, 11, 12, 16, 17, 18, 19, 20, 24, 25, 26, 27, 28, 32, 33, 34, 35, 36] (fuel := 12) (by kernel_rfl) S.out.2 ?_
          iterate 28 (refine LexR.cons rfl ?_ (fun w' hw => ?_) ?_; rotate_left; focus (obtain ⟨e1, e2, e3, e4, e5⟩ := hw; go_simp; (try (rw [if_neg (by (try simp); omega)])); (try exact rfl)); (try go_frame))
          refine LexR.nil ?_
          replace S := S.drew
          refine wpAnyL_one (i := 13) (by kernel_rfl) ?_
          refine lexA_get rfl ?_
          try go_frame
          go_wp2_with fail
          refine (numTextS_any _ (by omega) (by omega) _).mono ?_
          rintro e W13 ⟨rfl, hb⟩
          replace S := S.later hb
          clear hb
          go_wp2_with fail
          refine ⟨fun _ => S.out.2, ?_⟩
          refine wpAnyL_reads [14, 15] (fuel := 9) (by kernel_rfl) S.out.2 ?_
          iterate 2 (refine LexR.cons rfl ?_ (fun w' hw => ?_) ?_; rotate_left; focus (obtain ⟨e1, e2, e3, e4, e5⟩ := hw; go_simp; (try (rw [if_neg (by (try simp); omega)])); (try exact rfl)); (try go_frame))
          refine LexR.nil ?_
          refine wpAnyL_one (i := 21) (by kernel_rfl) ?_
          refine lexA_get rfl ?_
          try go_frame
          go_wp2_with fail
          refine (numTextS_any _ (by omega) (by omega) _).mono ?_
          rintro e W21 ⟨rfl, hb⟩
          replace S := S.later hb
          clear hb
          go_wp2_with fail
          refine ⟨fun _ => S.out.2, ?_⟩
          refine wpAnyL_reads [22, 23] (fuel := 6) (by kernel_rfl) S.out.2 ?_
          iterate 2 (refine LexR.cons rfl ?_ (fun w' hw => ?_) ?_; rotate_left; focus (obtain ⟨e1, e2, e3, e4, e5⟩ := hw; go_simp; (try (rw [if_neg (by (try simp); omega)])); (try exact rfl)); (try go_frame))
          refine LexR.nil ?_
          refine wpAnyL_one (i := 29) (by kernel_rfl) ?_
          refine lexA_get rfl ?_
          try go_frame
          go_wp2_with fail
          refine (numTextS_any _ (by omega) (by omega) _).mono ?_
          rintro e W29 ⟨rfl, hb⟩
          replace S := S.later hb
          clear hb
          go_wp2_with fail
          refine ⟨fun _ => S.out.2, ?_⟩
          refine wpAnyL_reads [30, 31] (fuel := 3) (by kernel_rfl) S.out.2 ?_
          iterate 2 (refine LexR.cons rfl ?_ (fun w' hw => ?_) ?_; rotate_left; focus (obtain ⟨e1, e2, e3, e4, e5⟩ := hw; go_simp; (try (rw [if_neg (by (try simp); omega)])); (try exact rfl)); (try go_frame))
          refine LexR.nil ?_
          refine wpAnyL_one (i := 37) (by kernel_rfl) ?_
          refine lexA_get rfl ?_
          try go_frame
          go_wp2_with fail
          refine (numTextS_any _ (by omega) (by omega) _).mono ?_
          rintro e W37 ⟨rfl, hb⟩
          replace S := S.later hb
          clear hb
          go_wp2_with fail
          refine ⟨fun _ => S.out.2, ?_⟩
          refine wpAnyL_reads [38] (fuel := 1) (by kernel_rfl) S.out.2 ?_
          iterate 1 (refine LexR.cons rfl ?_ (fun w' hw => ?_) ?_; rotate_left; focus (obtain ⟨e1, e2, e3, e4, e5⟩ := hw; go_simp; (try (rw [if_neg (by (try simp); omega)])); (try exact rfl)); (try go_frame))
          refine LexR.nil ?_
          refine wpAnyL_writes [39] (by kernel_rfl) (LexW.cons rfl ?_)
          try go_frame
          go_wp2_with fail
          refine ⟨fun _ => S.out.2, LexW.nil ?_⟩
          go_wp2_with fail
          go_roundw
          case rel => exact ⟨k + 1, _, by omega, by go_num, rfl, (by simp only [ByteArray.size_append, ba_size, List.length_cons, List.length_nil]; omega), Lib.hid (by rw [HJ.out]; simp [dbL]), ⟨S.out.1⟩⟩
          case measure => simp [intOf]; omega
      · have he : k = xs.length := by omega
        subst he
        have hL := hTL.out
        rw [List.take_length] at hL
        have HE := Lib.hid (show T = confT xs by rw [HT.out]; exact ba_of_list hL)
        clear hL
        have i2 : ¬ ((xs.length : Int) < (xs.length : Int)) := by omega
        go_wp2_with fail
        go_ret
        exact ⟨by rw [← HE.out]; rfl, S0.out⟩

end Go.Proofs.YtlnmlfpkpplgoaaDoor
