/- The walk of FnNumbers: whatever is drawn. -/
import Derived.Test.YtablcabmdkhccaaDoorDrawNum
import Derived.Test.YtablcabmdkhccaaDoorNumPlain
import Derived.Test.YtablcabmdkhccaaDoorParseNum
import Derived.Test.YtablcabmdkhccaaDoorShut
namespace Go.Proofs.YtablcabmdkhccaaDoor
open Go.RowKit

set_option maxHeartbeats 400000 in
/-- Two slices that hold the same bytes are the same text. -/
theorem same_any (A B : Option Addr) (c d : Nat) (l : List UInt8) (w : World) (h : Reads w w.heap.size 1 A l.length (bys l)) (h' : Reads w w.heap.size 1 B l.length (bys l)) :
    Calls Tryd.prog 17 #[.slice A l.length c, .slice B l.length d] w fun e w' => e = .returned (.bool true) ∧ w = w' := by
  have h1 := string_run (P := Tryd.prog) (src := 22) (dst := 9) Tryd.underlying22 Tryd.underlying5 Tryd.underlying9 (c := c) h
  have h2 := string_run (P := Tryd.prog) (src := 22) (dst := 9) Tryd.underlying22 Tryd.underlying5 Tryd.underlying9 (c := d) h'
  go_enter Tryd.func17, Tryd.ntmps17
  go_wp2
  go_ret
  exact ⟨rfl, rfl⟩

set_option maxRecDepth 100000 in
set_option maxHeartbeats 4000000 in
theorem walk_FnNumbers (a0 : Option Addr) (len0 cap0 : Nat) (z0 : List Int) (w : World) (w0 : IsRow .u8 w a0 len0 cap0 z0) (ht : Tab w) :
    Calls Tryd.prog 3 #[.slice a0 len0 cap0] w fun e w' => e = .returned (.bool true) ∧ Below w.heap.size w w' := by
  obtain ⟨code, rfl, _, hr⟩ := w0.reads
  have HT := Lib.hid ht
  clear w0 ht
  by_cases hbig : (1048576 : Int) < code.length
  · go_enter Tryd.func3, Tryd.ntmps3
    go_wp2
    go_ret
    exact ⟨rfl, Below.refl _ _⟩
  · have hn : code.length ≤ 1048576 := by omega
    obtain ⟨i0, hi0, hz0, hz1, hz2⟩ := info_parts Tryd.info8
    go_enter Tryd.func3, Tryd.ntmps3
    go_wp2_with (first | (go_at_call 4; go_in) | fail)
    -- a word
    refine (drawPutWord_any a0 cap0 code w hr hn).mono ?_
    rintro e w1 ⟨v1, l, n, hl, hn1, hn2, rfl, hown1, hb1⟩
    obtain ⟨A1, c1, rfl, _, _, hr1, _⟩ := hown1.shape
    clear hown1
    go_wp2_with fail
    refine (putWord_any A1 c1 n l w1 hr1 (by omega)).mono ?_
    rintro e w2 ⟨v2, rfl, hown2, hb2⟩
    have hW2 : Below w.heap.size w w2 := hb1.trans (hb2.mono hb1.size)
    obtain ⟨g1, g2, g3⟩ := gw_put l n
    obtain ⟨P, hP, hPl⟩ : ∃ P, l ++ wordBytes n = P ∧ P.length = l.length + 2 := ⟨_, rfl, by simp [wordBytes]⟩
    rw [hP] at hown2 g1 g2 g3
    rw [show (l.length : Int) + 2 = (P.length : Int) by omega] at g3
    have npl : ((P.length : Int) != (P.length : Int)) = false := by simp
    obtain ⟨A2, c2, rfl, _, _, hr2, _⟩ := hown2.shape
    have G1 := Lib.hid g1
    have G2 := Lib.hid g2
    have G3 := Lib.hid g3
    have HPL := Lib.hid hPl
    have hPl5 : P.length ≤ 4 := by omega
    clear g1 g2 g3 hPl hP hown2 hb2 hb1 hr1
    go_wp2_with fail
    refine (getWord_any A2 c2 l.length P w2 hr2 (by omega)).mono ?_
    rw [G1.out, G2.out, G3.out]
    rintro e w3 ⟨rfl, n3, rfl⟩
    replace hW2 := belowD hW2 n3
    clear hr2
    -- a text
    go_wp2_with fail
    refine (drawPutText_any a0 cap0 code _ ((hr.below hW2).more hW2.size) hn).mono ?_
    rintro e w4 ⟨v4, c, s, hcl, hsl, rfl, hown4, hb4⟩
    have hW4 : Below w.heap.size w w4 := hW2.trans (hb4.mono hW2.size)
    obtain ⟨A4, c4, rfl, _, _, hr4, _⟩ := hown4.shape
    clear hb4 hW2
    go_wp2_with fail
    refine (putText_any A4 c4 s c w4 hr4 (by omega) (by omega)).mono ?_
    rintro e w5 ⟨v5, rfl, hown5, hb5⟩
    have hW5 : Below w.heap.size w w5 := hW4.trans (hb5.mono hW4.size)
    replace hown4 := hown4.keep hb5
    obtain ⟨A5, c5, rfl, hc5, _, _, _⟩ := hown5.shape
    have hql := ptB_len c s.data.toList
    obtain ⟨Q, hQ⟩ : ∃ Q, ptB c s.data.toList = Q := ⟨_, rfl⟩
    have HQ := Lib.hid hQ
    rw [hQ] at hown5 hql hc5
    rw [hQ]
    clear hQ hb5 hW4 hr4
    -- a number
    go_wp2_with fail
    refine (drawNumText_any a0 cap0 code _ ((hr.below hW5).more hW5.size) hn).mono ?_
    rintro e w6 ⟨m, hm1, hm2, rfl, hb6⟩
    have hW6 : Below w.heap.size w w6 := hW5.trans (hb6.mono hW5.size)
    replace hown4 := hown4.keep hb6
    replace hown5 := hown5.keep hb6
    have HM1 := Lib.hid hm1
    have HM2 := Lib.hid hm2
    clear hb6 hW5 hm1 hm2
    have hil := itoa_len m HM1.out HM2.out
    rcases pn_ways m with ⟨hm0, hm6, e1, e2⟩ | ⟨hm0, e1, e2⟩ | ⟨hm0, hm6, e1, e2⟩
    all_goals
      have EI := Lib.hid e1
      have EY := Lib.hid e2
      clear e1 e2
      go_wp2_with fail
      refine (numText_any m HM1.out HM2.out w6 (HT.out.below hW6)).mono ?_
      obtain ⟨tm, htm, hts⟩ : ∃ tm : ByteArray, (⟨(Lib.itoa m).toArray⟩ : ByteArray) = tm ∧ tm.size ≤ 21 := ⟨_, rfl, by show (Lib.itoa m).toArray.size ≤ 21; rw [List.size_toArray]; exact hil⟩
      have HTM := Lib.hid htm
      have HTL := Lib.hid (show tm.data.toList = Lib.itoa m by rw [← htm])
      rw [htm]
      clear htm
      rintro e w7 ⟨rfl, hb7⟩
      have hW7 : Below w.heap.size w w7 := hW6.trans (hb7.mono hW6.size)
      replace hown4 := hown4.keep hb7
      replace hown5 := hown5.keep hb7
      clear hb7 hW6 hil
      go_wp2_with fail
      refine (parseNum_any tm 65535 w7 (HT.out.below hW7) (by omega)).mono ?_
      rw [HTL.out, EI.out, EY.out]
      rintro e w8 ⟨rfl, hb8⟩
      have hW8 : Below w.heap.size w w8 := hW7.trans (hb8.mono hW7.size)
      replace hown4 := hown4.keep hb8
      replace hown5 := hown5.keep hb8
      clear hb8 hW7
      -- a text that may be a number
      go_wp2_with fail
      refine (drawParseNum_any a0 cap0 code _ ((hr.below hW8).more hW8.size) hn).mono ?_
      rintro e w9 ⟨u, most, hu, rfl, hb9⟩
      have hW9 : Below w.heap.size w w9 := hW8.trans (hb9.mono hW8.size)
      replace hown4 := hown4.keep hb9
      replace hown5 := hown5.keep hb9
      clear hb9 hW8
      go_wp2_with fail
      refine (parseNum_any u most w9 (HT.out.below hW9) (by omega)).mono ?_
      obtain ⟨z, hz⟩ : ∃ z, pnVal u.data.toList most = z := ⟨_, rfl⟩
      have HZ := Lib.hid hz
      clear hz
      cases hk : pnOk u.data.toList most
      · have HK := Lib.hid hk
        clear hk
        rw [HZ.out]
        rintro e w10 ⟨rfl, hb10⟩
        have hW10 : Below w.heap.size w w10 := hW9.trans (hb10.mono hW9.size)
        replace hown4 := hown4.keep hb10
        replace hown5 := hown5.keep hb10
        clear hb10 hW9
        go_wp2_with fail
        refine (parseNumS_any u most w10 (by omega)).mono ?_
        rw [HZ.out, HK.out]
        rintro e w11 ⟨rfl, rfl⟩
        have hand := i64_and65535 n
        have nn : (n % 65536 != n % 65536) = false := by simp
        have nm : (m != m) = false := by simp
        go_wp2_with fail
        refine (numText_any m HM1.out HM2.out w10 (HT.out.below hW10)).mono ?_
        rw [HTM.out]
        rintro e w12 ⟨rfl, hb12⟩
        have hW12 : Below w.heap.size w w12 := hW10.trans (hb12.mono hW10.size)
        replace hown4 := hown4.keep hb12
        replace hown5 := hown5.keep hb12
        clear hb12 hW10
        go_wp2_with fail
        refine (numTextS_any m HM1.out HM2.out w12).mono ?_
        rw [HTM.out]
        rintro e w13 ⟨rfl, hb13⟩
        have hW13 : Below w.heap.size w w13 := hW12.trans (hb13.mono hW12.size)
        replace hown4 := hown4.keep hb13
        replace hown5 := hown5.keep hb13
        clear hb13 hW12
        go_wp2_with fail
        refine (textOk_any s w13 (by omega)).mono ?_
        cases hok : okB s.data.toList
        · rintro e w14 ⟨rfl, rfl⟩
          have HOK := Lib.hid hok
          obtain rfl : Q = c := by rw [← HQ.out]; unfold ptB; rw [hok]; rfl
          clear hok
          go_wp2_with fail
          refine (same_any A5 A4 c5 c4 _ w13 hown5.reads hown4.reads).mono ?_
          rintro e w14 ⟨rfl, rfl⟩
          go_wp2_with fail
          refine (textOkS_any s w13 (by omega)).mono ?_
          rw [HOK.out]
          rintro e w14 ⟨rfl, rfl⟩
          go_wp2_with fail
          go_ret
          exact ⟨rfl, hW13⟩
        · rintro e w14 ⟨rfl, rfl⟩
          obtain ⟨f1, f2, f3⟩ := gt_some (gt_put (l := c) hok)
          have f4 := (gt_none (gt_cut (l := c) hok)).2.2
          have hlen := ptB_length (l := c) hok
          rw [HQ.out] at f1 f2 f3 f4 hlen
          have fs : (⟨s.data.toList.toArray⟩ : ByteArray) = s := rfl
          rw [show (c.length : Int) + 1 + (s.data.toList.length : Int) = (Q.length : Int) by omega] at f2
          have hQ1 : 1 ≤ Q.length := by omega
          obtain ⟨A', hrun, hrd⟩ := slice_reads0 Tryd.underlying22 hi0 hz1 (A := A5) (n := Q.length) (c := c5) (hi' := Q.length - 1) .i64 (by omega) hc5
          have hrd' := hrd hown5.reads
          obtain ⟨R, hR, hRl⟩ : ∃ R, Q.take (Q.length - 1) = R ∧ R.length = Q.length - 1 := ⟨_, rfl, by simp⟩
          rw [hR] at hrd' f4
          rw [← hRl] at hrd' hrun
          have hsl : ∀ w, (Instr.slice 22 (.slice A5 Q.length c5) none (some (.int .i64 ((Q.length : Int) - 1))) none).run Tryd.prog w = .ok (.slice A' R.length c5) w := by
            intro w
            have := hrun w
            rwa [show ((R.length : Nat) : Int) = (Q.length : Int) - 1 by omega] at this
          have F1 := Lib.hid f1
          have F2 := Lib.hid f2
          have F3 := Lib.hid f3
          have F4 := Lib.hid f4
          have hRc : R.length ≤ c5 := by omega
          have hRn : R.length ≤ 100000 := by omega
          have nq : ((Q.length : Int) == (Q.length : Int)) = true := by simp
          clear f1 f2 f3 f4 fs hlen hrun hrd hR hRl hok
          go_wp2_with fail
          refine (getText_any A5 c5 c.length Q w13 hown5.reads (by omega) hc5).mono ?_
          rw [F1.out, F2.out, F3.out]
          rintro e w14 ⟨rfl, rfl⟩
          go_wp2_with fail
          refine (getText_any A' c5 c.length R w13 hrd' (by omega) hRc).mono ?_
          rw [F4.out]
          rintro e w14 ⟨rfl, rfl⟩
          go_wp2_with fail
          go_ret
          exact ⟨rfl, hW13⟩
      · have HK := Lib.hid hk
        obtain ⟨k1, k2, k3, k4⟩ := pn_back hk
        rw [HZ.out] at k1 k2 k3 k4
        have HZU := Lib.hid (show (⟨(Lib.itoa z).toArray⟩ : ByteArray) = u by rw [k1])
        clear hk k1
        rw [HZ.out]
        rintro e w10 ⟨rfl, hb10⟩
        have hW10 : Below w.heap.size w w10 := hW9.trans (hb10.mono hW9.size)
        replace hown4 := hown4.keep hb10
        replace hown5 := hown5.keep hb10
        clear hb10 hW9
        go_wp2_with fail
        refine (parseNumS_any u most w10 (by omega)).mono ?_
        rw [HZ.out, HK.out]
        rintro e w11 ⟨rfl, rfl⟩
        have hand := i64_and65535 n
        have nn : (n % 65536 != n % 65536) = false := by simp
        have nm : (m != m) = false := by simp
        go_wp2_with fail
        refine (numText_any m HM1.out HM2.out w10 (HT.out.below hW10)).mono ?_
        rw [HTM.out]
        rintro e w12 ⟨rfl, hb12⟩
        have hW12 : Below w.heap.size w w12 := hW10.trans (hb12.mono hW10.size)
        replace hown4 := hown4.keep hb12
        replace hown5 := hown5.keep hb12
        clear hb12 hW10
        go_wp2_with fail
        refine (numTextS_any m HM1.out HM2.out w12).mono ?_
        rw [HTM.out]
        rintro e w11 ⟨rfl, hb11⟩
        have hW11 : Below w.heap.size w w11 := hW12.trans (hb11.mono hW12.size)
        replace hown4 := hown4.keep hb11
        replace hown5 := hown5.keep hb11
        clear hb11 hW12
        go_wp2_with fail
        refine (numText_any z (by omega) (by omega) w11 (HT.out.below hW11)).mono ?_
        rw [HZU.out]
        rintro e w13 ⟨rfl, hb13⟩
        have hW13 : Below w.heap.size w w13 := hW11.trans (hb13.mono hW11.size)
        replace hown4 := hown4.keep hb13
        replace hown5 := hown5.keep hb13
        clear hb13 hW11
        go_wp2_with fail
        refine (textOk_any s w13 (by omega)).mono ?_
        cases hok : okB s.data.toList
        · rintro e w14 ⟨rfl, rfl⟩
          have HOK := Lib.hid hok
          obtain rfl : Q = c := by rw [← HQ.out]; unfold ptB; rw [hok]; rfl
          clear hok
          go_wp2_with fail
          refine (same_any A5 A4 c5 c4 _ w13 hown5.reads hown4.reads).mono ?_
          rintro e w14 ⟨rfl, rfl⟩
          go_wp2_with fail
          refine (textOkS_any s w13 (by omega)).mono ?_
          rw [HOK.out]
          rintro e w14 ⟨rfl, rfl⟩
          go_wp2_with fail
          go_ret
          exact ⟨rfl, hW13⟩
        · rintro e w14 ⟨rfl, rfl⟩
          obtain ⟨f1, f2, f3⟩ := gt_some (gt_put (l := c) hok)
          have f4 := (gt_none (gt_cut (l := c) hok)).2.2
          have hlen := ptB_length (l := c) hok
          rw [HQ.out] at f1 f2 f3 f4 hlen
          have fs : (⟨s.data.toList.toArray⟩ : ByteArray) = s := rfl
          rw [show (c.length : Int) + 1 + (s.data.toList.length : Int) = (Q.length : Int) by omega] at f2
          have hQ1 : 1 ≤ Q.length := by omega
          obtain ⟨A', hrun, hrd⟩ := slice_reads0 Tryd.underlying22 hi0 hz1 (A := A5) (n := Q.length) (c := c5) (hi' := Q.length - 1) .i64 (by omega) hc5
          have hrd' := hrd hown5.reads
          obtain ⟨R, hR, hRl⟩ : ∃ R, Q.take (Q.length - 1) = R ∧ R.length = Q.length - 1 := ⟨_, rfl, by simp⟩
          rw [hR] at hrd' f4
          rw [← hRl] at hrd' hrun
          have hsl : ∀ w, (Instr.slice 22 (.slice A5 Q.length c5) none (some (.int .i64 ((Q.length : Int) - 1))) none).run Tryd.prog w = .ok (.slice A' R.length c5) w := by
            intro w
            have := hrun w
            rwa [show ((R.length : Nat) : Int) = (Q.length : Int) - 1 by omega] at this
          have F1 := Lib.hid f1
          have F2 := Lib.hid f2
          have F3 := Lib.hid f3
          have F4 := Lib.hid f4
          have hRc : R.length ≤ c5 := by omega
          have hRn : R.length ≤ 100000 := by omega
          have nq : ((Q.length : Int) == (Q.length : Int)) = true := by simp
          clear f1 f2 f3 f4 fs hlen hrun hrd hR hRl hok
          go_wp2_with fail
          refine (getText_any A5 c5 c.length Q w13 hown5.reads (by omega) hc5).mono ?_
          rw [F1.out, F2.out, F3.out]
          rintro e w14 ⟨rfl, rfl⟩
          go_wp2_with fail
          refine (getText_any A' c5 c.length R w13 hrd' (by omega) hRc).mono ?_
          rw [F4.out]
          rintro e w14 ⟨rfl, rfl⟩
          go_wp2_with fail
          go_ret
          exact ⟨rfl, hW13⟩

end Go.Proofs.YtablcabmdkhccaaDoor
