/- Journal records: when they are right, of the model and of the program. -/
import Derived.Test.YtdapnhahccpebaaDoorRecPure
import Derived.Test.YtdapnhahccpebaaDoorFnExactParseConf
import Derived.Test.YtdapnhahccpebaaDoorConfOk
namespace Go.Proofs.YtdapnhahccpebaaDoor
open Go.RowKit
set_option maxRecDepth 100000
set_option linter.unusedVariables false

def recC (r : Rec) : List Value := [.int .i64 r.kind, .int .i64 r.n, .int .i64 r.owner, .string r.text]

theorem l4Text_any (s : ByteArray) (w : World) : Calls Tryd.prog 70 #[.string s] w (RetBool w (txtB s)) := by
  obtain ⟨p, hp⟩ : ∃ p, parseS s.data.toList = p := ⟨_, rfl⟩
  have HT := Lib.hid (show txtB s = p.2 by unfold txtB; rw [hp])
  have HP := Lib.hid hp
  clear hp
  unfold RetBool
  go_enter Tryd.func70, Tryd.ntmps70
  go_wp2_with fail
  refine (parseConfS_any s w).mono ?_
  rw [HP.out]
  rintro e W1 ⟨A0, c0, fp0, rfl, O0, hb⟩
  clear O0
  go_wp2_with fail
  go_ret
  exact ⟨by rw [HT.out]; rfl, hb⟩

theorem txtI_any (s : ByteArray) (w : World) (hg : Given w) (hs : s.size ≤ 1048576) {t : Bool} (ht : txtB s = t) : Calls Tryd.prog 67 #[.string s, .bool true] w (RetBool w t) := by
  obtain ⟨p, hp⟩ : ∃ p, parseS s.data.toList = p := ⟨_, rfl⟩
  have HT := Lib.hid (show p.2 = t by rw [← ht]; unfold txtB; rw [hp])
  have HP := Lib.hid hp
  clear hp ht
  unfold RetBool
  go_enter Tryd.func67, Tryd.ntmps67
  go_wp2_with fail
  refine (parseConf_ok s w hg hs).mono ?_
  rw [HP.out]
  rintro e W1 ⟨A0, c0, fp0, rfl, O0, hb⟩
  clear O0
  go_wp2_with fail
  go_ret
  exact ⟨by rw [HT.out]; rfl, hb⟩

/-- Is the string empty? In the walk's spelling. -/
theorem nil_yes {s : ByteArray} (h : nilB s = true) : s = ⟨#[]⟩ := (nilB_iff s).1 h
theorem nil_no {s : ByteArray} (h : nilB s = false) : s.toList.isEmpty = false ∧ (s.toList == []) = false := by
  have h1 : s.toList ≠ [] := fun e => by
    rw [Lib.toList_data] at e
    unfold nilB at h
    rw [e] at h
    cases h
  exact ⟨by simpa using h1, by simpa using h1⟩

theorem noneI_any (s : ByteArray) (w : World) {t : Bool} (ht : nilB s = t) : Calls Tryd.prog 67 #[.string s, .bool false] w (RetBool w t) := by
  unfold RetBool
  cases t
  · obtain ⟨h1, h2⟩ := nil_no ht
    go_enter Tryd.func67, Tryd.ntmps67
    go_wp2_with fail
    go_ret
    exact ⟨rfl, Below.refl _ _⟩
  · obtain rfl := nil_yes ht
    go_enter Tryd.func67, Tryd.ntmps67
    go_wp2_with fail
    go_ret
    exact ⟨rfl, Below.refl _ _⟩

/-! ### RecOk of the model -/
set_option maxHeartbeats 4000000 in
theorem recOkS_any (r : Rec) (w : World) : Calls Tryd.prog 35 #[.agg (recC r).toArray] w (RetBool w (recB r)) := by
  obtain ⟨b0, h0⟩ : ∃ b, inI r.n 1 60000 = b := ⟨_, rfl⟩
  obtain ⟨o0, p0⟩ : ∃ b, (r.owner == 0) = b := ⟨_, rfl⟩
  obtain ⟨o1, p1⟩ : ∃ b, inI r.owner 0 1 = b := ⟨_, rfl⟩
  obtain ⟨t, ht⟩ : ∃ b, txtB r.text = b := ⟨_, rfl⟩
  obtain ⟨n, hn⟩ : ∃ b, nilB r.text = b := ⟨_, rfl⟩
  have HC := Lib.hid (show recB r = (b0 && if r.kind = 1 then o0 && t else if r.kind = 2 then o0 && n else decide (r.kind = 3) && (o1 && n)) by
    unfold recB; rw [ht, hn, ← h0, ← p0, ← p1]; rfl)
  have HT := Lib.hid ht
  clear ht
  unfold recC RetBool
  cases b0
  · go_enter Tryd.func35, Tryd.ntmps35
    go_wp2_with (go_at_call 63; refine (l1In_b (by assumption) _).mono ?_; rintro e w' ⟨rfl, rfl⟩)
    go_ret
    exact ⟨by rw [HC.out]; simp, (Below.refl _ _).alloc (Nat.le_refl _) _⟩
  · by_cases k1 : r.kind = 1
    · have q1 : (r.kind == 1) = true := by simpa using k1
      have HK := Lib.hid k1
      clear k1
      cases o0
      · go_enter Tryd.func35, Tryd.ntmps35
        go_wp2_with (go_at_call 63; refine (l1In_b (by assumption) _).mono ?_; rintro e w' ⟨rfl, rfl⟩)
        go_ret
        exact ⟨by rw [HC.out, HK.out]; simp, (Below.refl _ _).alloc (Nat.le_refl _) _⟩
      · go_enter Tryd.func35, Tryd.ntmps35
        go_wp2_with (first
          | (go_at_call 63; refine (l1In_b (by assumption) _).mono ?_; rintro e w' ⟨rfl, rfl⟩)
          | (go_at_call 70; refine (l4Text_any _ _).mono ?_; rintro e w2 ⟨rfl, hb2⟩))
        go_ret
        exact ⟨by rw [HC.out, HK.out, HT.out]; simp, ((Below.refl _ _).alloc (Nat.le_refl _) _).trans (hb2.mono (by simp))⟩
    · have q1 : (r.kind == 1) = false := by simpa using k1
      have HK1 := Lib.hid k1
      clear k1
      by_cases k2 : r.kind = 2
      · have q2 : (r.kind == 2) = true := by simpa using k2
        have HK := Lib.hid k2
        clear k2
        cases o0
        · go_enter Tryd.func35, Tryd.ntmps35
          go_wp2_with (go_at_call 63; refine (l1In_b (by assumption) _).mono ?_; rintro e w' ⟨rfl, rfl⟩)
          go_ret
          exact ⟨by rw [HC.out, HK.out]; simp, (Below.refl _ _).alloc (Nat.le_refl _) _⟩
        · cases n
          · obtain ⟨e1, e2⟩ := nil_no hn
            go_enter Tryd.func35, Tryd.ntmps35
            go_wp2_with (go_at_call 63; refine (l1In_b (by assumption) _).mono ?_; rintro e w' ⟨rfl, rfl⟩)
            go_ret
            exact ⟨by rw [HC.out, HK.out]; simp, (Below.refl _ _).alloc (Nat.le_refl _) _⟩
          · have HN := nil_yes hn
            rw [HN]
            clear HN
            go_enter Tryd.func35, Tryd.ntmps35
            go_wp2_with (go_at_call 63; refine (l1In_b (by assumption) _).mono ?_; rintro e w' ⟨rfl, rfl⟩)
            go_ret
            exact ⟨by rw [HC.out, HK.out]; simp, (Below.refl _ _).alloc (Nat.le_refl _) _⟩
      · have q2 : (r.kind == 2) = false := by simpa using k2
        have HK2 := Lib.hid k2
        clear k2
        by_cases k3 : r.kind = 3
        · have q3 : (r.kind == 3) = true := by simpa using k3
          have HK := Lib.hid k3
          clear k3
          cases o1
          · go_enter Tryd.func35, Tryd.ntmps35
            go_wp2_with (go_at_call 63; refine (l1In_b (by assumption) _).mono ?_; rintro e w' ⟨rfl, rfl⟩)
            go_ret
            exact ⟨by rw [HC.out, HK.out]; simp, (Below.refl _ _).alloc (Nat.le_refl _) _⟩
          · cases n
            · obtain ⟨e1, e2⟩ := nil_no hn
              go_enter Tryd.func35, Tryd.ntmps35
              go_wp2_with (go_at_call 63; refine (l1In_b (by assumption) _).mono ?_; rintro e w' ⟨rfl, rfl⟩)
              go_ret
              exact ⟨by rw [HC.out, HK.out]; simp, (Below.refl _ _).alloc (Nat.le_refl _) _⟩
            · have HN := nil_yes hn
              rw [HN]
              clear HN
              go_enter Tryd.func35, Tryd.ntmps35
              go_wp2_with (go_at_call 63; refine (l1In_b (by assumption) _).mono ?_; rintro e w' ⟨rfl, rfl⟩)
              go_ret
              exact ⟨by rw [HC.out, HK.out]; simp, (Below.refl _ _).alloc (Nat.le_refl _) _⟩
        · have q3 : (r.kind == 3) = false := by simpa using k3
          have HK3 := Lib.hid k3
          clear k3
          go_enter Tryd.func35, Tryd.ntmps35
          go_wp2_with (go_at_call 63; refine (l1In_b (by assumption) _).mono ?_; rintro e w' ⟨rfl, rfl⟩)
          go_ret
          exact ⟨by rw [HC.out, if_neg HK1.out, if_neg HK2.out, decide_eq_false HK3.out]; simp, (Below.refl _ _).alloc (Nat.le_refl _) _⟩

end Go.Proofs.YtdapnhahccpebaaDoor
