/- The walk of FnConfs. -/
import Derived.Test.YtannedjfmgflpaaDoorDrawConf4
import Derived.Test.YtannedjfmgflpaaDoorConfOkI
import Derived.Test.YtannedjfmgflpaaDoorConfSame
import Derived.Test.YtannedjfmgflpaaDoorConfTextI
import Derived.Test.YtannedjfmgflpaaDoorFnExactParseConf
namespace Go.Proofs.YtannedjfmgflpaaDoor
open Go.RowKit
set_option maxRecDepth 100000
set_option linter.unusedVariables false

theorem RetConf.lit {w w' : World} {xs : List Db} {b : Bool} {e : Ending} (h : RetConf w (xs, b) e w') : ∃ A c, e = .returned (.tuple #[.slice A xs.length c, .bool b]) ∧ dbsR.at_ w' w'.heap.size [.slice A xs.length c] xs ∧ Below w.heap.size w w' := by
  obtain ⟨A, c, fp, he, ho, hb⟩ := h
  exact ⟨A, c, he, Rep.reads dbsR ho, hb⟩
theorem parse_fits {s : List UInt8} {xs : List Db} (h : parseS s = (xs, true)) : FitsDbs xs := by
  obtain ⟨hc, _⟩ := parse_back h
  obtain ⟨hd, hl⟩ := conf_dbs hc
  exact ⟨by omega, fun x hx => by have := (small_of (hd x hx)).1; omega⟩

set_option maxRecDepth 100000 in
set_option maxHeartbeats 8000000 in
theorem walk_FnConfs (a0 : Option Addr) (len0 cap0 : Nat) (z0 : List Int) (w : World) (w0 : IsRow .u8 w a0 len0 cap0 z0) (hg : Given w) :
    Calls Tryd.prog 3 #[.slice a0 len0 cap0] w fun e w' => e = .returned (.bool true) ∧ Below w.heap.size w w' := by
  obtain ⟨code, rfl, _, hr⟩ := w0.reads
  clear w0
  by_cases hbig : (1048576 : Int) < code.length
  · go_enter Tryd.func3, Tryd.ntmps3
    go_wp2_with (first | (go_at_call 6; go_in) | fail)
    go_ret
    exact ⟨rfl, Below.refl _ _⟩
  · have hn : code.length ≤ 1048576 := by omega
    have S : All (fun w' => Below w.heap.size w w' ∧ Given w' ∧ Reads w' w'.heap.size 1 a0 code.length (bys code)) w := ⟨Below.refl _ _, hg, hr⟩
    clear hg hr
    go_enter Tryd.func3, Tryd.ntmps3
    go_wp2_with (first | (go_at_call 6; go_in) | fail)
    refine (drawConfText_any a0 cap0 code w S.out.2.2 hn).mono ?_
    rintro e W1 ⟨A1, c1, xs, rfl, hfew, T1, hb⟩
    have hfx := hfew.fits (show 7 ≤ 1048576 by omega)
    have HFX := Lib.hid hfx
    replace S := S.later hb
    have S1 : All (fun w' => (Below w.heap.size w w' ∧ Given w' ∧ Reads w' w'.heap.size 1 a0 code.length (bys code)) ∧ dbsR.at_ w' w'.heap.size [.slice A1 xs.length c1] xs) W1 := ⟨S.out, T1⟩
    clear hb T1 S hfew hfx
    obtain ⟨s, hs⟩ : ∃ s, confT xs = s := ⟨_, rfl⟩
    have HS := Lib.hid hs
    have HSL := Lib.hid (show s.size ≤ 100 by rw [← hs]; exact confT_len xs)
    obtain ⟨y, hy⟩ : ∃ y, confB xs = y := ⟨_, rfl⟩
    have HY := Lib.hid hy
    obtain ⟨⟨ms, ok⟩, hp⟩ : ∃ p, parseS s.data.toList = p := ⟨_, rfl⟩
    have HP := Lib.hid hp
    clear hs hy hp
    go_wp2_with fail
    refine (confText_any A1 c1 xs W1 (dbs_rows S1.out.2).2 (dbs_rows S1.out.2).1.1 HFX.out S1.out.1.2.1.1).mono ?_
    rintro e W2 ⟨rfl, hb⟩
    rw [HS.out]
    replace S1 := S1.later hb
    clear hb
    go_wp2_with fail
    refine (parseConf_ok s W2 S1.out.1.2.1 (by have := HSL.out; omega)).mono ?_
    rw [HP.out]
    rintro e W3 hret
    obtain ⟨A3, c3, rfl, T3, hb⟩ := hret.lit
    replace S1 := S1.later hb
    have S2 : All (fun w' => ((Below w.heap.size w w' ∧ Given w' ∧ Reads w' w'.heap.size 1 a0 code.length (bys code)) ∧ dbsR.at_ w' w'.heap.size [.slice A1 xs.length c1] xs) ∧ dbsR.at_ w' w'.heap.size [.slice A3 ms.length c3] ms) W3 := ⟨S1.out, T3⟩
    clear hb T3 S1 hret
    go_wp2_with fail
    refine (drawParseConf_any a0 cap0 code W3 S2.out.1.1.2.2 hn).mono ?_
    rintro e W4 ⟨t, rfl, ht, hb⟩
    replace S2 := S2.later hb
    obtain ⟨⟨ns, is⟩, hq⟩ : ∃ p, parseS t.data.toList = p := ⟨_, rfl⟩
    have HQ := Lib.hid hq
    have HTL := Lib.hid ht
    clear hb hq ht
    go_wp2_with fail
    refine (parseConf_ok t W4 S2.out.1.1.2.1 (by have := HTL.out; omega)).mono ?_
    rw [HQ.out]
    rintro e W5 hret
    obtain ⟨A5, c5, rfl, T5, hb⟩ := hret.lit
    replace S2 := S2.later hb
    have S3 : All (fun w' => (((Below w.heap.size w w' ∧ Given w' ∧ Reads w' w'.heap.size 1 a0 code.length (bys code)) ∧ dbsR.at_ w' w'.heap.size [.slice A1 xs.length c1] xs) ∧ dbsR.at_ w' w'.heap.size [.slice A3 ms.length c3] ms) ∧ dbsR.at_ w' w'.heap.size [.slice A5 ns.length c5] ns) W5 := ⟨S2.out, T5⟩
    clear hb T5 S2 hret
    go_wp2_with fail
    refine (parseConfS_any t W5).mono ?_
    rw [HQ.out]
    rintro e W6 hret
    obtain ⟨A6, c6, rfl, T6, hb⟩ := hret.lit
    replace S3 := S3.later hb
    clear hb T6 hret
    go_wp2_with fail
    refine (drawSameConf_any a0 cap0 code W6 S3.out.1.1.1.2.2 hn).mono ?_
    rintro e W7 ⟨A7, c7, xa, A8, c8, xb, rfl, hfa, hfb, Ta, Tb, hb⟩
    replace S3 := S3.later hb
    have la : xa.length ≤ 1048576 := by have := hfa.1; omega
    have lb : xb.length ≤ 1048576 := by have := hfb.1; omega
    have S4 : All (fun w' => ((((Below w.heap.size w w' ∧ Given w' ∧ Reads w' w'.heap.size 1 a0 code.length (bys code)) ∧ dbsR.at_ w' w'.heap.size [.slice A1 xs.length c1] xs) ∧ dbsR.at_ w' w'.heap.size [.slice A3 ms.length c3] ms) ∧ dbsR.at_ w' w'.heap.size [.slice A5 ns.length c5] ns) ∧ dbsR.at_ w' w'.heap.size [.slice A7 xa.length c7] xa ∧ dbsR.at_ w' w'.heap.size [.slice A8 xb.length c8] xb) W7 := ⟨S3.out, Ta, Tb⟩
    clear hb Ta Tb S3 hfa hfb
    obtain ⟨r, hrr⟩ : ∃ r, sameB xa xb = r := ⟨_, rfl⟩
    have HRR := Lib.hid hrr
    have rr : (r != r) = false := by simp
    have yy : (y != y) = false := by simp
    have tt : (t.toList != t.toList) = false := by simp
    clear hrr
    go_wp2_with fail
    refine (confOk_any A1 c1 xs W7 (dbs_rows S4.out.1.1.1.2).2 (dbs_rows S4.out.1.1.1.2).1.1 HFX.out).mono ?_
    rw [HY.out]
    rintro e W8 ⟨rfl, hb⟩
    replace S4 := S4.later hb
    clear hb
    go_wp2_with fail
    refine (confOkS_any A1 c1 xs W8 (dbs_rows S4.out.1.1.1.2).2 HFX.out).mono ?_
    rw [HY.out]
    rintro e W9 ⟨rfl, hb⟩
    replace S4 := S4.later hb
    clear hb
    cases is
    · obtain ⟨W10, rfl⟩ : ∃ W : World, W = W9 := ⟨_, rfl⟩
      go_wp2_with fail
      refine (sameConf_any A7 A8 c7 c8 xa xb W10 (dbs_rows S4.out.2.1).2 (dbs_rows S4.out.2.2).2 la lb).mono ?_
      rw [HRR.out]
      rintro e W11 ⟨rfl, hb⟩
      replace S4 := S4.later hb
      clear hb
      go_wp2_with fail
      refine (sameConfS_any A7 A8 c7 c8 xa xb W11 (dbs_rows S4.out.2.1).2 (dbs_rows S4.out.2.2).2 la lb).mono ?_
      rw [HRR.out]
      rintro e W12 ⟨rfl, hb⟩
      have S := (⟨(S4.later hb).out.1.1⟩ : All (fun w' => ((Below w.heap.size w w' ∧ Given w' ∧ Reads w' w'.heap.size 1 a0 code.length (bys code)) ∧ dbsR.at_ w' w'.heap.size [.slice A1 xs.length c1] xs) ∧ dbsR.at_ w' w'.heap.size [.slice A3 ms.length c3] ms) W12)
      clear hb S4 rr yy tt
      go_wp2_with fail
      refine (confOk_any A1 c1 xs W12 (dbs_rows S.out.1.2).2 (dbs_rows S.out.1.2).1.1 HFX.out).mono ?_
      rw [HY.out]
      rintro e W13 ⟨rfl, hb⟩
      replace S := S.later hb
      clear hb
      cases y
      · obtain rfl : s = ⟨#[]⟩ := HS.out.symm.trans (confT_no HY.out)
        obtain rfl : ok = false := by
          have h1 := HP.out
          have h2 := parse_confT_no HY.out
          rw [HS.out, h1] at h2
          exact congrArg Prod.snd h2
        have hss : ((⟨#[]⟩ : ByteArray).toList == (⟨#[]⟩ : ByteArray).toList) = true := by simp
        have hfin := S.out.1.1.1
        clear S
        go_wp2_with fail
        go_ret
        exact ⟨by first | rfl | simp, hfin⟩
      · obtain ⟨rfl, rfl⟩ : ms = xs ∧ ok = true := by
          have h1 := HP.out
          have h2 := parse_confT HY.out
          rw [HS.out, h1] at h2
          exact ⟨congrArg Prod.fst h2, congrArg Prod.snd h2⟩
        have hlen := HFX.out.1
        go_wp2_with fail
        go_loopw [14] (fun i wr => ∃ k : Nat, k ≤ ms.length ∧ i = .int .i64 k ∧ All (fun w' => ((Below w.heap.size w w' ∧ Given w' ∧ Reads w' w'.heap.size 1 a0 code.length (bys code)) ∧ dbsR.at_ w' w'.heap.size [.slice A1 ms.length c1] ms) ∧ dbsR.at_ w' w'.heap.size [.slice A3 ms.length c3] ms) wr) (fun i _ => ms.length - (intOf i).toNat)
        case atStart => exact ⟨0, by omega, rfl, S⟩
        case round =>
          clear S
          obtain ⟨k, hk, rfl, S⟩ := hrel
          by_cases hlt : k < ms.length
          · obtain ⟨b, off, x, rfl, hbl, hx, q0, q1, q2, q3, q4⟩ := db_elem (dbs_rows S.out.1.2).2 hlt
            have HX := Lib.hid hx
            have HD := Lib.hid (dbAt_own HY.out hx)
            have i1 : (0 : Int) ≤ (k : Int) := by omega
            have i2 : (k : Int) < (ms.length : Int) := by omega
            clear hx
            go_wp2_with fail
            refine (dbAt_any (some ⟨b, off, none⟩) c1 ms x.name wr (dbs_rows S.out.1.2).2 hlen).mono ?_
            rw [HD.out]
            rintro e W14 hret
            obtain ⟨rfl, hb⟩ := hret.lit
            replace S := S.later hb
            clear hb q0 q1 q2 q3 q4 hbl
            obtain ⟨b', off', x', he', hbl, hx', q0, q1, q2, q3, q4⟩ := db_elem (dbs_rows S.out.1.2).2 hlt
            injection he' with he'
            injection he' with he1 he2
            subst he1 he2
            obtain rfl : x' = x := by have := HX.out; rw [hx'] at this; injection this
            have g1 := fun a b w => db_guard .neq a b x' x' w
            have g2 := fun w => db_equal x' x' w
            rw [dbEqB_self] at g2
            unfold dbC at g1 g2
            clear hx'
            go_wp2_with fail
            have HV := Lib.hid (heap_alloc_new W14 (.cells #[.string x'.name, .int .i64 x'.size, .int .i64 x'.queue, .int .i64 x'.wait, .int .i64 x'.idle] 35))
            replace S := S.alloc (.cells #[.string x'.name, .int .i64 x'.size, .int .i64 x'.queue, .int .i64 x'.wait, .int .i64 x'.idle] 35)
            have K := @Keeps.keeps
            replace q0 := Keeps.keeps (F := fun w' => w'.cell? ⟨b, off + k * 5, none⟩ = some (.string x'.name)) (Later.alloc W14 (.cells #[.string x'.name, .int .i64 x'.size, .int .i64 x'.queue, .int .i64 x'.wait, .int .i64 x'.idle] 35)) q0
            replace q1 := Keeps.keeps (F := fun w' => w'.cell? ⟨b, off + k * 5 + 1, none⟩ = some (.int .i64 x'.size)) (Later.alloc W14 (.cells #[.string x'.name, .int .i64 x'.size, .int .i64 x'.queue, .int .i64 x'.wait, .int .i64 x'.idle] 35)) q1
            replace q2 := Keeps.keeps (F := fun w' => w'.cell? ⟨b, off + k * 5 + 2, none⟩ = some (.int .i64 x'.queue)) (Later.alloc W14 (.cells #[.string x'.name, .int .i64 x'.size, .int .i64 x'.queue, .int .i64 x'.wait, .int .i64 x'.idle] 35)) q2
            replace q3 := Keeps.keeps (F := fun w' => w'.cell? ⟨b, off + k * 5 + 3, none⟩ = some (.int .i64 x'.wait)) (Later.alloc W14 (.cells #[.string x'.name, .int .i64 x'.size, .int .i64 x'.queue, .int .i64 x'.wait, .int .i64 x'.idle] 35)) q3
            replace q4 := Keeps.keeps (F := fun w' => w'.cell? ⟨b, off + k * 5 + 4, none⟩ = some (.int .i64 x'.idle)) (Later.alloc W14 (.cells #[.string x'.name, .int .i64 x'.size, .int .i64 x'.queue, .int .i64 x'.wait, .int .i64 x'.idle] 35)) q4
            clear hbl K
            generalize W14.alloc (.cells #[.string x'.name, .int .i64 x'.size, .int .i64 x'.queue, .int .i64 x'.wait, .int .i64 x'.idle] 35) = W15 at HV S q0 q1 q2 q3 q4 ⊢
            generalize W14.heap.size = D at HV ⊢
            have v0 : W15.cell? ⟨D, 0, none⟩ = some (.string x'.name) := var_cell HV.out 0
            have v1 : W15.cell? ⟨D, 1, none⟩ = some (.int .i64 x'.size) := var_cell HV.out 1
            have v2 : W15.cell? ⟨D, 2, none⟩ = some (.int .i64 x'.queue) := var_cell HV.out 2
            have v3 : W15.cell? ⟨D, 3, none⟩ = some (.int .i64 x'.wait) := var_cell HV.out 3
            have v4 : W15.cell? ⟨D, 4, none⟩ = some (.int .i64 x'.idle) := var_cell HV.out 4
            go_quiet (fail)
            go_wp2
            go_roundw
            case rel => exact ⟨k + 1, by omega, by go_num, S.later (Later.drewN _ _)⟩
            case measure => simp [intOf]; omega
          · have i2 : ¬ ((k : Int) < (ms.length : Int)) := by omega
            go_wp2_with fail
            refine (sameConf_any A1 A3 c1 c3 ms ms wr (dbs_rows S.out.1.2).2 (dbs_rows S.out.2).2 hlen hlen).mono ?_
            rw [sameB_yes rfl]
            rintro e W15 ⟨rfl, hb⟩
            have hfin := (S.later hb).out.1.1.1
            clear S hb
            go_wp2_with fail
            go_ret
            exact ⟨rfl, hfin⟩
    · have hfn := parse_fits HQ.out
      go_wp2_with fail
      refine (confText_any A5 c5 ns W9 (dbs_rows S4.out.1.2).2 (dbs_rows S4.out.1.2).1.1 hfn S4.out.1.1.1.1.2.1.1).mono ?_
      rw [confT_back HQ.out]
      rintro e W10 ⟨rfl, hb⟩
      replace S4 := S4.later hb
      clear hb hfn
      go_wp2_with fail
      refine (sameConf_any A7 A8 c7 c8 xa xb W10 (dbs_rows S4.out.2.1).2 (dbs_rows S4.out.2.2).2 la lb).mono ?_
      rw [HRR.out]
      rintro e W11 ⟨rfl, hb⟩
      replace S4 := S4.later hb
      clear hb
      go_wp2_with fail
      refine (sameConfS_any A7 A8 c7 c8 xa xb W11 (dbs_rows S4.out.2.1).2 (dbs_rows S4.out.2.2).2 la lb).mono ?_
      rw [HRR.out]
      rintro e W12 ⟨rfl, hb⟩
      have S := (⟨(S4.later hb).out.1.1⟩ : All (fun w' => ((Below w.heap.size w w' ∧ Given w' ∧ Reads w' w'.heap.size 1 a0 code.length (bys code)) ∧ dbsR.at_ w' w'.heap.size [.slice A1 xs.length c1] xs) ∧ dbsR.at_ w' w'.heap.size [.slice A3 ms.length c3] ms) W12)
      clear hb S4 rr yy tt
      go_wp2_with fail
      refine (confOk_any A1 c1 xs W12 (dbs_rows S.out.1.2).2 (dbs_rows S.out.1.2).1.1 HFX.out).mono ?_
      rw [HY.out]
      rintro e W13 ⟨rfl, hb⟩
      replace S := S.later hb
      clear hb
      cases y
      · obtain rfl : s = ⟨#[]⟩ := HS.out.symm.trans (confT_no HY.out)
        obtain rfl : ok = false := by
          have h1 := HP.out
          have h2 := parse_confT_no HY.out
          rw [HS.out, h1] at h2
          exact congrArg Prod.snd h2
        have hss : ((⟨#[]⟩ : ByteArray).toList == (⟨#[]⟩ : ByteArray).toList) = true := by simp
        have hfin := S.out.1.1.1
        clear S
        go_wp2_with fail
        go_ret
        exact ⟨by first | rfl | simp, hfin⟩
      · obtain ⟨rfl, rfl⟩ : ms = xs ∧ ok = true := by
          have h1 := HP.out
          have h2 := parse_confT HY.out
          rw [HS.out, h1] at h2
          exact ⟨congrArg Prod.fst h2, congrArg Prod.snd h2⟩
        have hlen := HFX.out.1
        go_wp2_with fail
        go_loopw [14] (fun i wr => ∃ k : Nat, k ≤ ms.length ∧ i = .int .i64 k ∧ All (fun w' => ((Below w.heap.size w w' ∧ Given w' ∧ Reads w' w'.heap.size 1 a0 code.length (bys code)) ∧ dbsR.at_ w' w'.heap.size [.slice A1 ms.length c1] ms) ∧ dbsR.at_ w' w'.heap.size [.slice A3 ms.length c3] ms) wr) (fun i _ => ms.length - (intOf i).toNat)
        case atStart => exact ⟨0, by omega, rfl, S⟩
        case round =>
          clear S
          obtain ⟨k, hk, rfl, S⟩ := hrel
          by_cases hlt : k < ms.length
          · obtain ⟨b, off, x, rfl, hbl, hx, q0, q1, q2, q3, q4⟩ := db_elem (dbs_rows S.out.1.2).2 hlt
            have HX := Lib.hid hx
            have HD := Lib.hid (dbAt_own HY.out hx)
            have i1 : (0 : Int) ≤ (k : Int) := by omega
            have i2 : (k : Int) < (ms.length : Int) := by omega
            clear hx
            go_wp2_with fail
            refine (dbAt_any (some ⟨b, off, none⟩) c1 ms x.name wr (dbs_rows S.out.1.2).2 hlen).mono ?_
            rw [HD.out]
            rintro e W14 hret
            obtain ⟨rfl, hb⟩ := hret.lit
            replace S := S.later hb
            clear hb q0 q1 q2 q3 q4 hbl
            obtain ⟨b', off', x', he', hbl, hx', q0, q1, q2, q3, q4⟩ := db_elem (dbs_rows S.out.1.2).2 hlt
            injection he' with he'
            injection he' with he1 he2
            subst he1 he2
            obtain rfl : x' = x := by have := HX.out; rw [hx'] at this; injection this
            have g1 := fun a b w => db_guard .neq a b x' x' w
            have g2 := fun w => db_equal x' x' w
            rw [dbEqB_self] at g2
            unfold dbC at g1 g2
            clear hx'
            go_wp2_with fail
            have HV := Lib.hid (heap_alloc_new W14 (.cells #[.string x'.name, .int .i64 x'.size, .int .i64 x'.queue, .int .i64 x'.wait, .int .i64 x'.idle] 35))
            replace S := S.alloc (.cells #[.string x'.name, .int .i64 x'.size, .int .i64 x'.queue, .int .i64 x'.wait, .int .i64 x'.idle] 35)
            have K := @Keeps.keeps
            replace q0 := Keeps.keeps (F := fun w' => w'.cell? ⟨b, off + k * 5, none⟩ = some (.string x'.name)) (Later.alloc W14 (.cells #[.string x'.name, .int .i64 x'.size, .int .i64 x'.queue, .int .i64 x'.wait, .int .i64 x'.idle] 35)) q0
            replace q1 := Keeps.keeps (F := fun w' => w'.cell? ⟨b, off + k * 5 + 1, none⟩ = some (.int .i64 x'.size)) (Later.alloc W14 (.cells #[.string x'.name, .int .i64 x'.size, .int .i64 x'.queue, .int .i64 x'.wait, .int .i64 x'.idle] 35)) q1
            replace q2 := Keeps.keeps (F := fun w' => w'.cell? ⟨b, off + k * 5 + 2, none⟩ = some (.int .i64 x'.queue)) (Later.alloc W14 (.cells #[.string x'.name, .int .i64 x'.size, .int .i64 x'.queue, .int .i64 x'.wait, .int .i64 x'.idle] 35)) q2
            replace q3 := Keeps.keeps (F := fun w' => w'.cell? ⟨b, off + k * 5 + 3, none⟩ = some (.int .i64 x'.wait)) (Later.alloc W14 (.cells #[.string x'.name, .int .i64 x'.size, .int .i64 x'.queue, .int .i64 x'.wait, .int .i64 x'.idle] 35)) q3
            replace q4 := Keeps.keeps (F := fun w' => w'.cell? ⟨b, off + k * 5 + 4, none⟩ = some (.int .i64 x'.idle)) (Later.alloc W14 (.cells #[.string x'.name, .int .i64 x'.size, .int .i64 x'.queue, .int .i64 x'.wait, .int .i64 x'.idle] 35)) q4
            clear hbl K
            generalize W14.alloc (.cells #[.string x'.name, .int .i64 x'.size, .int .i64 x'.queue, .int .i64 x'.wait, .int .i64 x'.idle] 35) = W15 at HV S q0 q1 q2 q3 q4 ⊢
            generalize W14.heap.size = D at HV ⊢
            have v0 : W15.cell? ⟨D, 0, none⟩ = some (.string x'.name) := var_cell HV.out 0
            have v1 : W15.cell? ⟨D, 1, none⟩ = some (.int .i64 x'.size) := var_cell HV.out 1
            have v2 : W15.cell? ⟨D, 2, none⟩ = some (.int .i64 x'.queue) := var_cell HV.out 2
            have v3 : W15.cell? ⟨D, 3, none⟩ = some (.int .i64 x'.wait) := var_cell HV.out 3
            have v4 : W15.cell? ⟨D, 4, none⟩ = some (.int .i64 x'.idle) := var_cell HV.out 4
            go_quiet (fail)
            go_wp2
            go_roundw
            case rel => exact ⟨k + 1, by omega, by go_num, S.later (Later.drewN _ _)⟩
            case measure => simp [intOf]; omega
          · have i2 : ¬ ((k : Int) < (ms.length : Int)) := by omega
            go_wp2_with fail
            refine (sameConf_any A1 A3 c1 c3 ms ms wr (dbs_rows S.out.1.2).2 (dbs_rows S.out.2).2 hlen hlen).mono ?_
            rw [sameB_yes rfl]
            rintro e W15 ⟨rfl, hb⟩
            have hfin := (S.later hb).out.1.1.1
            clear S hb
            go_wp2_with fail
            go_ret
            exact ⟨rfl, hfin⟩
end Go.Proofs.YtannedjfmgflpaaDoor
