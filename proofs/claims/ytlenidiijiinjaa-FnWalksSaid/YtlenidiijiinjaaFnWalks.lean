/- The walk of FnWalks. (By gen_fnwalks.py.) -/
import Derived.Test.YtlenidiijiinjaaTogA
import Derived.Test.YtlenidiijiinjaaTogW
import Derived.Test.YtlenidiijiinjaaDrawTog
import Derived.Test.YtlenidiijiinjaaSameFr
import Derived.Test.YtlenidiijiinjaaBent
namespace Go.Proofs.Ytlenidiijiinjaa
open Go.RowKit
set_option linter.unusedVariables false

theorem firstA_kind (st : Int) (q : ByteArray) : (firstA st q).k = 4 ∨ (firstA st q).k = 6 := by
  unfold firstA
  split
  · exact .inr rfl
  · split
    · exact .inr rfl
    · split
      · exact .inl rfl
      · exact .inl rfl
theorem walk_back (a : Int) (q : ByteArray) : walkA a [q, qBack] = 0 := by
  show nextS (nextS a (wordQ q)) 3 = 0
  unfold nextS
  (repeat' split) <;> first | rfl | omega

/-- 's[:hi]' and 's[lo:]' of a slice whose elements take one cell. -/
theorem slice_cells0 {P : Program} {t e : TypeId} {i : TypeInfo} (ht : P.underlying t = some (.slice e)) (hi : P.info? e = some i) (hs : i.size = 1)
    {A : Option Addr} {n c hi' : Nat} (k' : IntKind) (h2 : hi' ≤ n) (h3 : n ≤ c) :
    ∃ A', (∀ w, (Instr.slice t (.slice A n c) none (some (.int k' (hi' : Int))) none).run P w = .ok (.slice A' hi' c) w) ∧
      ∀ {w : World} {B : Nat} {xs : List Value}, Reads w B 1 A n xs → Reads w B 1 A' hi' (xs.take hi') := by
  refine ⟨_, fun w => slice_run0 ht hi hs A n c hi' k' (by omega) w, ?_⟩
  intro w B xs hr
  refine ⟨by have := hr.1; rw [List.length_take]; omega, fun hn => ?_⟩
  obtain ⟨ad, rfl, hb, hcell⟩ := hr.2 (by omega)
  rw [if_neg (by omega)]
  refine ⟨ad.add 0, rfl, by rw [block_of_add]; exact hb, fun j u hu => ?_⟩
  rw [add_of_add, Nat.zero_add]
  refine hcell j u ?_
  rw [List.getElem?_take] at hu
  split at hu
  · exact hu
  · cases hu
theorem slice_cellsF {P : Program} {t e : TypeId} {i : TypeInfo} (ht : P.underlying t = some (.slice e)) (hi : P.info? e = some i) (hs : i.size = 1)
    {A : Option Addr} {n c lo : Nat} (k : IntKind) (h1 : lo ≤ n) (h3 : n ≤ c) :
    ∃ A', (∀ w, (Instr.slice t (.slice A n c) (some (.int k (lo : Int))) none none).run P w = .ok (.slice A' (n - lo) (c - lo)) w) ∧
      ∀ {w : World} {B : Nat} {xs : List Value}, Reads w B 1 A n xs → Reads w B 1 A' (n - lo) (xs.drop lo) := by
  refine ⟨if c = lo then A else A.map (·.add lo), fun w => ?_, fun {w B xs} hr => ?_⟩
  · have a3 : (0 : Int) ≤ lo := by omega
    have hz := sizeOf_run (P := P) (e := e) w hi
    simp [Instr.slice, run_underlying ht, Instr.sliceBounds, Instr.sliceBound, asIntOf, h1, hz, hs, go_sem]
  · have hc := hr.cut (k := lo) (cap := c) (by omega) h3
    simp only [Nat.mul_one] at hc
    exact hc
/-- A list in two parts, cut as the program cuts it. -/
theorem strs_parts (A : Option Addr) (c : Nat) (m p s : List ByteArray) (hm : m = p ++ s) (hc : m.length ≤ c) :
    ∃ AP AS, (∀ w, (Instr.slice 24 (.slice A m.length c) none (some (.int .i64 (p.length : Int))) none).run Try.prog w = .ok (.slice AP p.length c) w) ∧
      (∀ w, (Instr.slice 24 (.slice A m.length c) (some (.int .i64 (p.length : Int))) none none).run Try.prog w = .ok (.slice AS s.length (c - p.length)) w) ∧
      (∀ (w : World), StrAt w A m → StrAt w AP p) ∧ (∀ (w : World), StrAt w A m → StrAt w AS s) := by
  subst hm
  obtain ⟨i0, hi0, hz0, hz1, hz2⟩ := info_parts Try.infoStrs
  have hlen : (p ++ s).length = p.length + s.length := List.length_append
  obtain ⟨AP, r0, q0⟩ := slice_cells0 Try.underlying24 hi0 hz1 (A := A) (n := (p ++ s).length) (c := c) (hi' := p.length) .i64 (by omega) hc
  obtain ⟨AS, r1, q1⟩ := slice_cellsF Try.underlying24 hi0 hz1 (A := A) (n := (p ++ s).length) (c := c) (lo := p.length) .i64 (by omega) hc
  have e : (p ++ s).length - p.length = s.length := by omega
  rw [e] at q1
  refine ⟨AP, AS, r0, fun w => by rw [r1 w, e], fun w h => ?_, fun w h => ?_⟩
  · have := q0 h
    rw [strV_append, ← strV_length p, List.take_left] at this
    unfold StrAt
    rw [← strV_length p]
    exact this
  · have := q1 h
    rw [strV_append, ← strV_length p, List.drop_left] at this
    exact this

set_option maxRecDepth 100000 in
set_option maxHeartbeats 16000000 in
theorem walk_FnWalks (a0 : Option Addr) (len0 cap0 : Nat) (z0 : List Int) (w : World) (w0 : IsRow .u8 w a0 len0 cap0 z0) :
    Calls Try.prog 3 #[.slice a0 len0 cap0] w fun e w' => e = .returned (.bool true) ∧ Below w.heap.size w w' := by
  obtain ⟨code, rfl, _, hr⟩ := w0.reads
  clear w0
  by_cases hbig : (1048576 : Int) < code.length
  · go_enter Try.func3, Try.ntmps3
    go_wp2_with (first | (go_at_call 8; go_in) | fail)
    go_ret
    exact ⟨rfl, Below.refl _ _⟩
  · have hn : code.length ≤ 1048576 := by omega
    have HR := Lib.hid hr
    clear hr
    go_enter Try.func3, Try.ntmps3
    go_wp2_with (first | (go_at_call 8; go_in) | fail)
    refine (drawWalk_any a0 cap0 code w HR.out hn).mono ?_
    rintro e W1 ⟨st, A2, c2, m, rfl, hm14, hmc, h2, hb⟩
    have S : All (fun w' => Below w.heap.size w w' ∧ StrAt w' A2 m) W1 := ⟨hb, h2⟩
    clear hb h2
    by_cases hm0 : m = []
    · have hl0 : ¬ (0 : Int) < (m.length : Int) := by rw [hm0]; simp
      have hps : Hid (m = [] ++ m) := Lib.hid rfl
      clear hm0
      go_upto_region 7 with (fail)
      obtain ⟨x, hx⟩ : ∃ x, walkA st m = x := ⟨_, rfl⟩
      obtain ⟨xp, hxp⟩ : ∃ x, walkA st ([] : List ByteArray) = x := ⟨_, rfl⟩
      have hxs : walkA xp m = x := by have h := congrArg (walkA st) hps.out; rw [walkA_append, hxp, hx] at h; exact h.symm
      have HX := Lib.hid hx
      have HXP := Lib.hid hxp
      have HXS := Lib.hid hxs
      have HML : Hid (m.length ≤ maxLen) := Lib.hid (by unfold maxLen; omega)
      have HPL : Hid (([] : List ByteArray).length ≤ maxLen) := Lib.hid (by have h := hm14; rw [hps.out, List.length_append] at h; unfold maxLen; omega)
      have HSL : Hid (m.length ≤ maxLen) := Lib.hid (by have h := hm14; rw [hps.out, List.length_append] at h; unfold maxLen; omega)
      obtain ⟨AP, AS, rp, rs, gp, gs⟩ := strs_parts A2 c2 m [] m hps.out hmc
      have HRP : Hid (∀ (w : World) (_ : Unit), StrAt w A2 m → StrAt w AP ([] : List ByteArray)) := Lib.hid (fun w _ => gp w)
      have HRS : Hid (∀ (w : World) (_ : Unit), StrAt w A2 m → StrAt w AS m) := Lib.hid (fun w _ => gs w)
      replace rp : ∀ w, (Instr.slice 24 (.slice A2 m.length c2) none (some (.int .i64 0)) none).run Try.prog w = .ok (.slice AP 0 c2) w := rp
      replace rs : ∀ w, (Instr.slice 24 (.slice A2 m.length c2) (some (.int .i64 0)) none none).run Try.prog w = .ok (.slice AS m.length c2) w := rs
      have nx : (x != x) = false := by simp
      clear hx hxp hxs gp gs hmc hm14
      go_wp2_with fail
      refine (walk_any st A2 c2 m W1 S.out.2 HML.out).mono ?_
      rw [HX.out]
      rintro e w2 ⟨rfl, rfl⟩
      go_wp2_with fail
      refine (drawAnswerTo_any a0 cap0 code W1 ((HR.out.below S.out.1).more S.out.1.size) hn).mono ?_
      rintro e W2 ⟨a, q, hq, rfl, hb⟩
      replace S := S.later hb
      have HQ : Hid (q.size ≤ 1048576) := Lib.hid (by omega)
      obtain ⟨F, hF⟩ : ∃ F, answerA a q = F := ⟨_, rfl⟩
      have HF := Lib.hid hF
      have HFL : Hid (F.length ≤ 1048576) := Lib.hid (by have := answerA_len a q; rw [hF] at this; omega)
      clear hb hq hF
      go_wp2_with fail
      refine (answerTo_any a q W2 HQ.out).mono ?_
      rw [HF.out]
      rintro e W3 ⟨A9, c9, rfl, o9, hb⟩
      have T : All (fun w' => ((Below w.heap.size w w' ∧ StrAt w' A2 m) ∧ FrAt w' A9 F) ∧ True) W3 := ⟨⟨(S.later hb).out, frS_own_at o9⟩, trivial⟩
      clear hb o9 S
      go_wp2_with fail
      refine (drawNextSt_any a0 cap0 code W3 ((HR.out.below T.out.1.1.1).more T.out.1.1.1.size) hn).mono ?_
      rintro e W9 ⟨b, v, rfl, hb⟩
      replace T := T.later hb
      clear hb
      obtain ⟨y, hy⟩ : ∃ y, nextS b v = y := ⟨_, rfl⟩
      obtain ⟨u, hu⟩ : ∃ u, wordQ q = u := ⟨_, rfl⟩
      have HY := Lib.hid hy
      have HU := Lib.hid hu
      have ny : (y != y) = false := by simp
      have nu : (u != u) = false := by simp
      clear hy hu
      go_upto_region 11 with (fail)
      refine wp_region_open 100 (fun w' => True) (by kernel_rfl) ?_
      replace T := T.drew
      refine wpAnyL_readsG [0, 1, 2] (fuel := 39) (by kernel_rfl) T.out.2 ?_
      refine LexRG.yes rfl (by first | rfl | (simp [Region.wanted, yielded]; done)) ?_ (fun w' hw => ?_) ?_
      rotate_left
      focus (clear hw; go_simp; (try exact rfl))
      try go_frame
      refine LexRG.yes rfl (by first | rfl | (simp [Region.wanted, yielded]; done)) ?_ (fun w' hw => ?_) ?_
      rotate_left
      focus (clear hw; go_simp; (try exact rfl))
      try go_frame
      refine LexRG.yes rfl (by first | rfl | (simp [Region.wanted, yielded]; done)) ?_ (fun w' hw => ?_) ?_
      rotate_left
      focus (clear hw; go_simp; (try exact rfl))
      try go_frame
      refine LexRG.nil ?_
      refine wpAnyL_one (i := 3) (by kernel_rfl) ?_
      refine lexA_get rfl ?_
      try go_frame
      go_wp2_with fail
      refine (walkS_any st A2 c2 m W9.drew T.out.1.1.2 HML.out).mono ?_
      rw [HX.out]
      rintro e V1 ⟨rfl, rfl⟩
      go_wp2_with fail
      refine ⟨fun _ => T.out.2, ?_⟩
      refine wpAnyL_readsG [4, 5, 6, 7, 8, 9, 10, 12, 13, 14] (fuel := 28) (by kernel_rfl) T.out.2 ?_
      refine LexRG.yes rfl (by first | rfl | (simp [Region.wanted, yielded]; done)) ?_ (fun w' hw => ?_) ?_
      rotate_left
      focus (clear hw; go_simp; (try exact rfl))
      try go_frame
      refine LexRG.yes rfl (by first | rfl | (simp [Region.wanted, yielded]; done)) ?_ (fun w' hw => ?_) ?_
      rotate_left
      focus (clear hw; go_simp; (try exact rfl))
      try go_frame
      refine LexRG.yes rfl (by first | rfl | (simp [Region.wanted, yielded]; done)) ?_ (fun w' hw => ?_) ?_
      rotate_left
      focus (clear hw; go_simp; (try exact rfl))
      try go_frame
      refine LexRG.yes rfl (by first | rfl | (simp [Region.wanted, yielded]; done)) ?_ (fun w' hw => ?_) ?_
      rotate_left
      focus (clear hw; go_simp; (try exact rfl))
      try go_frame
      refine LexRG.yes rfl (by first | rfl | (simp [Region.wanted, yielded]; done)) ?_ (fun w' hw => ?_) ?_
      rotate_left
      focus (clear hw; go_simp; (try exact rfl))
      try go_frame
      refine LexRG.yes rfl (by first | rfl | (simp [Region.wanted, yielded]; done)) ?_ (fun w' hw => ?_) ?_
      rotate_left
      focus (clear hw; go_simp; (try exact rfl))
      try go_frame
      refine LexRG.yes rfl (by first | rfl | (simp [Region.wanted, yielded]; done)) ?_ (fun w' hw => ?_) ?_
      rotate_left
      focus (clear hw; go_simp; (try exact rfl))
      try go_frame
      refine LexRG.yes rfl (by first | rfl | (simp [Region.wanted, yielded]; done)) ?_ (fun w' hw => ?_) ?_
      rotate_left
      focus (clear hw; go_simp; (try exact rfl))
      try go_frame
      refine LexRG.yes rfl (by first | rfl | (simp [Region.wanted, yielded]; done)) ?_ (fun w' hw => ?_) ?_
      rotate_left
      focus (clear hw; go_simp; (try exact rfl))
      try go_frame
      refine LexRG.yes rfl (by first | rfl | (simp [Region.wanted, yielded]; done)) ?_ (fun w' hw => ?_) ?_
      rotate_left
      focus (clear hw; go_simp; (try exact rfl))
      try go_frame
      refine LexRG.nil ?_
      refine wpAnyL_one (i := 11) (by kernel_rfl) ?_
      refine lexA_get rfl ?_
      try go_frame
      go_wp2_with fail
      refine (walk_any st AP c2 ([] : List ByteArray) W9.drew (HRP.out _ () T.out.1.1.2) HPL.out).mono ?_
      rw [HXP.out]
      rintro e V2 ⟨rfl, rfl⟩
      go_wp2_with fail
      refine ⟨fun _ => T.out.2, ?_⟩
      refine wpAnyL_one (i := 15) (by kernel_rfl) ?_
      refine lexA_get rfl ?_
      try go_frame
      go_wp2_with fail
      refine (walk_any xp AS c2 m W9.drew (HRS.out _ () T.out.1.1.2) HSL.out).mono ?_
      rw [HXS.out]
      rintro e V3 ⟨rfl, rfl⟩
      go_wp2_with fail
      refine ⟨fun _ => T.out.2, ?_⟩
      refine wpAnyL_readsG [16, 17, 18, 19, 20, 21] (fuel := 20) (by kernel_rfl) T.out.2 ?_
      refine LexRG.yes rfl (by first | rfl | (simp [Region.wanted, yielded]; done)) ?_ (fun w' hw => ?_) ?_
      rotate_left
      focus (clear hw; go_simp; (try exact rfl))
      try go_frame
      refine LexRG.yes rfl (by first | rfl | (simp [Region.wanted, yielded]; done)) ?_ (fun w' hw => ?_) ?_
      rotate_left
      focus (clear hw; go_simp; (try exact rfl))
      try go_frame
      refine LexRG.yes rfl (by first | rfl | (simp [Region.wanted, yielded]; done)) ?_ (fun w' hw => ?_) ?_
      rotate_left
      focus (clear hw; go_simp; (try exact rfl))
      try go_frame
      refine LexRG.yes rfl (by first | rfl | (simp [Region.wanted, yielded]; done)) ?_ (fun w' hw => ?_) ?_
      rotate_left
      focus (clear hw; go_simp; (try exact rfl))
      try go_frame
      refine LexRG.yes rfl (by first | rfl | (simp [Region.wanted, yielded]; done)) ?_ (fun w' hw => ?_) ?_
      rotate_left
      focus (clear hw; go_simp; (try exact rfl))
      try go_frame
      refine LexRG.yes rfl (by first | rfl | (simp [Region.wanted, yielded]; done)) ?_ (fun w' hw => ?_) ?_
      rotate_left
      focus (clear hw; go_simp; (try exact rfl))
      try go_frame
      refine LexRG.nil ?_
      refine wpAnyL_one (i := 22) (by kernel_rfl) ?_
      refine lexA_get rfl ?_
      try go_frame
      go_wp2_with fail
      refine (answerToS_any a q W9.drew HQ.out).mono ?_
      rw [HF.out]
      rintro e V4 ⟨A7, c7, rfl, o7, hb⟩
      have f7 := frS_own_at o7
      clear o7
      replace T := T.later hb
      clear hb
      go_wp2_with fail
      refine ⟨fun _ => T.out.2, ?_⟩
      refine wpAnyL_one (i := 23) (by kernel_rfl) ?_
      refine lexA_get rfl ?_
      try go_frame
      go_wp2_with fail
      refine (sameFrames_same A9 A7 c9 c7 F V4 T.out.1.2 f7 HFL.out).mono ?_
      rintro e V5 ⟨rfl, hb⟩
      replace T := T.later hb
      clear hb
      clear f7
      go_wp2_with fail
      refine ⟨fun _ => T.out.2, ?_⟩
      refine wpAnyL_readsG [24, 25, 26, 27, 28, 30, 31] (fuel := 11) (by kernel_rfl) T.out.2 ?_
      refine LexRG.yes rfl (by first | rfl | (simp [Region.wanted, yielded]; done)) ?_ (fun w' hw => ?_) ?_
      rotate_left
      focus (clear hw; go_simp; (try exact rfl))
      try go_frame
      refine LexRG.yes rfl (by first | rfl | (simp [Region.wanted, yielded]; done)) ?_ (fun w' hw => ?_) ?_
      rotate_left
      focus (clear hw; go_simp; (try exact rfl))
      try go_frame
      refine LexRG.yes rfl (by first | rfl | (simp [Region.wanted, yielded]; done)) ?_ (fun w' hw => ?_) ?_
      rotate_left
      focus (clear hw; go_simp; (try exact rfl))
      try go_frame
      refine LexRG.yes rfl (by first | rfl | (simp [Region.wanted, yielded]; done)) ?_ (fun w' hw => ?_) ?_
      rotate_left
      focus (clear hw; go_simp; (try exact rfl))
      try go_frame
      refine LexRG.yes rfl (by first | rfl | (simp [Region.wanted, yielded]; done)) ?_ (fun w' hw => ?_) ?_
      rotate_left
      focus (clear hw; go_simp; (try exact rfl))
      try go_frame
      refine LexRG.yes rfl (by first | rfl | (simp [Region.wanted, yielded]; done)) ?_ (fun w' hw => ?_) ?_
      rotate_left
      focus (clear hw; go_simp; (try exact rfl))
      try go_frame
      refine LexRG.yes rfl (by first | rfl | (simp [Region.wanted, yielded]; done)) ?_ (fun w' hw => ?_) ?_
      rotate_left
      focus (clear hw; go_simp; (try exact rfl))
      try go_frame
      refine LexRG.nil ?_
      refine wpAnyL_one (i := 29) (by kernel_rfl) ?_
      refine lexA_get rfl ?_
      try go_frame
      go_wp2_with fail
      refine (nextSt_any b v V5).mono ?_
      rw [HY.out]
      rintro e V6 ⟨rfl, rfl⟩
      go_wp2_with fail
      refine ⟨fun _ => T.out.2, ?_⟩
      refine wpAnyL_one (i := 32) (by kernel_rfl) ?_
      refine lexA_get rfl ?_
      try go_frame
      go_wp2_with fail
      refine (nextStS_any b v V5).mono ?_
      rw [HY.out]
      rintro e V7 ⟨rfl, rfl⟩
      go_wp2_with fail
      refine ⟨fun _ => T.out.2, ?_⟩
      refine wpAnyL_readsG [33, 34, 35, 36, 38] (fuel := 4) (by kernel_rfl) T.out.2 ?_
      refine LexRG.yes rfl (by first | rfl | (simp [Region.wanted, yielded]; done)) ?_ (fun w' hw => ?_) ?_
      rotate_left
      focus (clear hw; go_simp; (try exact rfl))
      try go_frame
      refine LexRG.yes rfl (by first | rfl | (simp [Region.wanted, yielded]; done)) ?_ (fun w' hw => ?_) ?_
      rotate_left
      focus (clear hw; go_simp; (try exact rfl))
      try go_frame
      refine LexRG.yes rfl (by first | rfl | (simp [Region.wanted, yielded]; done)) ?_ (fun w' hw => ?_) ?_
      rotate_left
      focus (clear hw; go_simp; (try exact rfl))
      try go_frame
      refine LexRG.yes rfl (by first | rfl | (simp [Region.wanted, yielded]; done)) ?_ (fun w' hw => ?_) ?_
      rotate_left
      focus (clear hw; go_simp; (try exact rfl))
      try go_frame
      refine LexRG.yes rfl (by first | rfl | (simp [Region.wanted, yielded]; done)) ?_ (fun w' hw => ?_) ?_
      rotate_left
      focus (clear hw; go_simp; (try exact rfl))
      try go_frame
      refine LexRG.nil ?_
      refine wpAnyL_one (i := 37) (by kernel_rfl) ?_
      refine lexA_get rfl ?_
      try go_frame
      go_wp2_with fail
      refine (wordOf_any q V5).mono ?_
      rw [HU.out]
      rintro e V8 ⟨rfl, rfl⟩
      go_wp2_with fail
      refine ⟨fun _ => T.out.2, ?_⟩
      refine wpAnyL_one (i := 39) (by kernel_rfl) ?_
      refine lexA_get rfl ?_
      try go_frame
      go_wp2_with fail
      refine (wordOfS_any q V5).mono ?_
      rw [HU.out]
      rintro e V9 ⟨rfl, rfl⟩
      go_wp2_with fail
      refine ⟨fun _ => T.out.2, ?_⟩
      refine wpAnyL_readsG [40] (fuel := 1) (by kernel_rfl) T.out.2 ?_
      refine LexRG.yes rfl (by first | rfl | (simp [Region.wanted, yielded]; done)) ?_ (fun w' hw => ?_) ?_
      rotate_left
      focus (clear hw; go_simp; (try exact rfl))
      try go_frame
      refine LexRG.nil ?_
      refine wpAnyL_writes [41] (by kernel_rfl) (LexW.cons rfl ?_)
      try go_frame
      go_wp2_with fail
      refine ⟨fun _ => T.out.2, LexW.nil ?_⟩
      clear nx ny nu
      obtain ⟨b1, h1⟩ : ∃ b, inI a 0 2 = b := ⟨_, rfl⟩
      obtain ⟨b2, h2⟩ : ∃ b, okB q.data.toList = b := ⟨_, rfl⟩
      have H2 := Lib.hid h2
      have hB := T.out.1.1.1
      cases b1
      · have hF : F = [] := HF.out.symm.trans (answerA_no1 h1)
        subst hF
        have h3 : a < 0 ∨ 2 < a := by unfold inI at h1; simp at h1; omega
        clear h1 h2 T
        by_cases h4 : a < 0
        · go_wp2_with fail
          go_ret
          exact ⟨rfl, hB⟩
        · have h5 : 2 < a := by omega
          go_wp2_with fail
          go_ret
          exact ⟨rfl, hB⟩
      · have h3 : ¬ a < 0 ∧ ¬ 2 < a := by unfold inI at h1; simp at h1; omega
        obtain ⟨h4, h5⟩ := h3
        cases b2
        · have hF : F = [] := HF.out.symm.trans (answerA_no2 h2)
          subst hF
          clear h1 h2 T
          go_wp2_with fail
          refine (textOk_any q _ (by have := HQ.out; omega)).mono ?_
          rw [H2.out]
          rintro e w9 ⟨rfl, rfl⟩
          go_wp2_with fail
          go_ret
          exact ⟨rfl, hB⟩
        · obtain ⟨⟨fk, fs, fst⟩, hf⟩ : ∃ f, firstA a q = f := ⟨_, rfl⟩
          obtain ⟨y2, hy2⟩ : ∃ y2, nextS a u = y2 := ⟨_, rfl⟩
          have HY2 := Lib.hid hy2
          have hF : F = [⟨fk, fs, fst⟩, ⟨5, ⟨#[]⟩, y2⟩] := HF.out.symm.trans (by rw [answerA_yes h1 h2, hf, HU.out, hy2])
          have hk : fk = 4 ∨ fk = 6 := by have := firstA_kind a q; rw [hf] at this; exact this
          subst hF
          clear h1 h2 hf hy2 h4 h5
          obtain ⟨b9, off9, e0, hA9, hbl, hx0, d0, _, _⟩ := frS_elem T.out.1.2 (k := 0) (by simp)
          obtain ⟨b9', off9', e1, hA9', _, hx1, d3, _, d5⟩ := frS_elem T.out.1.2 (k := 1) (by simp)
          subst hA9
          injection hA9' with hA9'
          injection hA9' with hq1 hq2 _
          subst hq1 hq2
          simp only [List.getElem?_cons_zero, List.getElem?_cons_succ, Option.some.injEq] at hx0 hx1
          subst hx0 hx1
          have d0' : V5.cell? ⟨b9, off9, none⟩ = some (.int .i64 fk) := by simpa using d0
          have d3' : V5.cell? ⟨b9, off9 + 3, none⟩ = some (.int .i64 5) := by simpa using d3
          have d5' : V5.cell? ⟨b9, off9 + 3 + 2, none⟩ = some (.int .i64 y2) := by simpa using d5
          clear d0 d3 d5
          have ny : (y2 == y2) = true := by simp
          rcases hk with rfl | rfl
          · have U : All (fun w' => ((Below w.heap.size w w' ∧ StrAt w' A2 m) ∧ FrAt w' (some ⟨b9, off9, none⟩) [⟨4, fs, fst⟩, ⟨5, ⟨#[]⟩, y2⟩]) ∧ (w'.cell? ⟨b9, off9, none⟩ = some (.int .i64 4) ∧ w'.cell? ⟨b9, off9 + 3, none⟩ = some (.int .i64 5) ∧ w'.cell? ⟨b9, off9 + 3 + 2, none⟩ = some (.int .i64 y2))) V5 := ⟨T.out.1, d0', d3', d5'⟩
            clear T d0' d3' d5' hB
            go_upto_region 15 with (fail)
            refine wp_region_open 100 (fun w' => w'.cell? ⟨b9, off9, none⟩ = some (.int .i64 4) ∧ w'.cell? ⟨b9, off9 + 3, none⟩ = some (.int .i64 5) ∧ w'.cell? ⟨b9, off9 + 3 + 2, none⟩ = some (.int .i64 y2)) (by kernel_rfl) ?_
            replace U := U.drew
            refine wpAnyL_readsG [0, 1, 2, 3, 4, 5, 6, 7, 8, 9, 10, 11, 12, 13, 14, 15, 16] (fuel := 26) (by kernel_rfl) U.out.2 ?_
            refine LexRG.yes rfl (by first | rfl | (simp [Region.wanted, yielded]; done)) ?_ (fun w' hw => ?_) ?_
            rotate_left
            focus (clear hw; go_simp; (try exact rfl))
            try go_frame
            refine LexRG.yes rfl (by first | rfl | (simp [Region.wanted, yielded]; done)) ?_ (fun w' hw => ?_) ?_
            rotate_left
            focus (clear hw; go_simp; (try exact rfl))
            try go_frame
            refine LexRG.yes rfl (by first | rfl | (simp [Region.wanted, yielded]; done)) ?_ (fun w' hw => ?_) ?_
            rotate_left
            focus (clear hw; go_simp; (try exact rfl))
            try go_frame
            refine LexRG.yes rfl (by first | rfl | (simp [Region.wanted, yielded]; done)) ?_ (fun w' hw => ?_) ?_
            rotate_left
            focus (clear hw; go_simp; (try exact rfl))
            try go_frame
            refine LexRG.yes rfl (by first | rfl | (simp [Region.wanted, yielded]; done)) ?_ (fun w' hw => ?_) ?_
            rotate_left
            focus (clear hw; go_simp; (try exact rfl))
            try go_frame
            refine LexRG.yes rfl (by first | rfl | (simp [Region.wanted, yielded]; done)) ?_ (fun w' hw => ?_) ?_
            rotate_left
            focus (clear hw; go_simp; (try exact rfl))
            try go_frame
            refine LexRG.yes rfl (by first | rfl | (simp [Region.wanted, yielded]; done)) ?_ (fun w' hw => ?_) ?_
            rotate_left
            focus (clear hw; go_simp; (try exact rfl))
            try go_frame
            refine LexRG.yes rfl (by first | rfl | (simp [Region.wanted, yielded]; done)) ?_ (fun w' hw => ?_) ?_
            rotate_left
            focus (have hw2 := hw; obtain ⟨d0, d3, d5⟩ := hw2; clear hw; go_simp; (try exact rfl))
            try go_frame
            refine LexRG.yes rfl (by first | rfl | (simp [Region.wanted, yielded]; done)) ?_ (fun w' hw => ?_) ?_
            rotate_left
            focus (clear hw; go_simp; (try exact rfl))
            try go_frame
            refine LexRG.yes rfl (by first | rfl | (simp [Region.wanted, yielded]; done)) ?_ (fun w' hw => ?_) ?_
            rotate_left
            focus (clear hw; go_simp; (try exact rfl))
            try go_frame
            refine LexRG.yes rfl (by first | rfl | (simp [Region.wanted, yielded]; done)) ?_ (fun w' hw => ?_) ?_
            rotate_left
            focus (clear hw; go_simp; (try exact rfl))
            try go_frame
            refine LexRG.yes rfl (by first | rfl | (simp [Region.wanted, yielded]; done)) ?_ (fun w' hw => ?_) ?_
            rotate_left
            focus (clear hw; go_simp; (try exact rfl))
            try go_frame
            refine LexRG.yes rfl (by first | rfl | (simp [Region.wanted, yielded]; done)) ?_ (fun w' hw => ?_) ?_
            rotate_left
            focus (clear hw; go_simp; (try exact rfl))
            try go_frame
            refine LexRG.yes rfl (by first | rfl | (simp [Region.wanted, yielded]; done)) ?_ (fun w' hw => ?_) ?_
            rotate_left
            focus (clear hw; go_simp; (try exact rfl))
            try go_frame
            refine LexRG.yes rfl (by first | rfl | (simp [Region.wanted, yielded]; done)) ?_ (fun w' hw => ?_) ?_
            rotate_left
            focus (have hw2 := hw; obtain ⟨d0, d3, d5⟩ := hw2; clear hw; go_simp; (try exact rfl))
            try go_frame
            refine LexRG.yes rfl (by first | rfl | (simp [Region.wanted, yielded]; done)) ?_ (fun w' hw => ?_) ?_
            rotate_left
            focus (clear hw; go_simp; (try exact rfl))
            try go_frame
            refine LexRG.yes rfl (by first | rfl | (simp [Region.wanted, yielded]; done)) ?_ (fun w' hw => ?_) ?_
            rotate_left
            focus (clear hw; go_simp; (try exact rfl))
            try go_frame
            refine LexRG.nil ?_
            refine wpAnyL_one (i := 17) (by kernel_rfl) ?_
            refine lexA_get rfl ?_
            try go_frame
            go_wp2_with fail
            refine (wordOf_any q V5.drew).mono ?_
            rw [HU.out]
            rintro e V1 ⟨rfl, rfl⟩
            go_wp2_with fail
            refine ⟨fun _ => U.out.2, ?_⟩
            refine wpAnyL_one (i := 18) (by kernel_rfl) ?_
            refine lexA_get rfl ?_
            try go_frame
            go_wp2_with fail
            refine (nextSt_any a u V5.drew).mono ?_
            rw [HY2.out]
            rintro e V2 ⟨rfl, rfl⟩
            go_wp2_with fail
            refine ⟨fun _ => U.out.2, ?_⟩
            refine wpAnyL_readsG [19, 20, 21, 22, 23, 24, 25, 26, 27, 28, 29, 30, 31, 32, 33, 34, 35, 36, 37] (fuel := 5) (by kernel_rfl) U.out.2 ?_
            refine LexRG.yes rfl (by first | rfl | (simp [Region.wanted, yielded]; done)) ?_ (fun w' hw => ?_) ?_
            rotate_left
            focus (clear hw; go_simp; (try exact rfl))
            try go_frame
            refine LexRG.yes rfl (by first | rfl | (simp [Region.wanted, yielded]; done)) ?_ (fun w' hw => ?_) ?_
            rotate_left
            focus (clear hw; go_simp; (try exact rfl))
            try go_frame
            refine LexRG.yes rfl (by first | rfl | (simp [Region.wanted, yielded]; done)) ?_ (fun w' hw => ?_) ?_
            rotate_left
            focus (clear hw; go_simp; (try exact rfl))
            try go_frame
            refine LexRG.yes rfl (by first | rfl | (simp [Region.wanted, yielded]; done)) ?_ (fun w' hw => ?_) ?_
            rotate_left
            focus (clear hw; go_simp; (try exact rfl))
            try go_frame
            refine LexRG.yes rfl (by first | rfl | (simp [Region.wanted, yielded]; done)) ?_ (fun w' hw => ?_) ?_
            rotate_left
            focus (clear hw; go_simp; (try exact rfl))
            try go_frame
            refine LexRG.yes rfl (by first | rfl | (simp [Region.wanted, yielded]; done)) ?_ (fun w' hw => ?_) ?_
            rotate_left
            focus (clear hw; go_simp; (try exact rfl))
            try go_frame
            refine LexRG.yes rfl (by first | rfl | (simp [Region.wanted, yielded]; done)) ?_ (fun w' hw => ?_) ?_
            rotate_left
            focus (have hw2 := hw; obtain ⟨d0, d3, d5⟩ := hw2; clear hw; go_simp; (try exact rfl))
            try go_frame
            refine LexRG.yes rfl (by first | rfl | (simp [Region.wanted, yielded]; done)) ?_ (fun w' hw => ?_) ?_
            rotate_left
            focus (clear hw; go_simp; (try exact rfl))
            try go_frame
            refine LexRG.yes rfl (by first | rfl | (simp [Region.wanted, yielded]; done)) ?_ (fun w' hw => ?_) ?_
            rotate_left
            focus (clear hw; go_simp; (try exact rfl))
            try go_frame
            refine LexRG.no rfl (by first | rfl | (simp [Region.wanted, yielded]; done)) ?_
            try go_frame
            refine LexRG.no rfl (by first | rfl | (simp [Region.wanted, yielded]; done)) ?_
            try go_frame
            refine LexRG.no rfl (by first | rfl | (simp [Region.wanted, yielded]; done)) ?_
            try go_frame
            refine LexRG.no rfl (by first | rfl | (simp [Region.wanted, yielded]; done)) ?_
            try go_frame
            refine LexRG.no rfl (by first | rfl | (simp [Region.wanted, yielded]; done)) ?_
            try go_frame
            refine LexRG.yes rfl (by first | rfl | (simp [Region.wanted, yielded]; done)) ?_ (fun w' hw => ?_) ?_
            rotate_left
            focus (clear hw; go_simp; (try exact rfl))
            try go_frame
            refine LexRG.yes rfl (by first | rfl | (simp [Region.wanted, yielded]; done)) ?_ (fun w' hw => ?_) ?_
            rotate_left
            focus (clear hw; go_simp; (try exact rfl))
            try go_frame
            refine LexRG.yes rfl (by first | rfl | (simp [Region.wanted, yielded]; done)) ?_ (fun w' hw => ?_) ?_
            rotate_left
            focus (clear hw; go_simp; (try exact rfl))
            try go_frame
            refine LexRG.yes rfl (by first | rfl | (simp [Region.wanted, yielded]; done)) ?_ (fun w' hw => ?_) ?_
            rotate_left
            focus (clear hw; go_simp; (try exact rfl))
            try go_frame
            refine LexRG.yes rfl (by first | rfl | (simp [Region.wanted, yielded]; done)) ?_ (fun w' hw => ?_) ?_
            rotate_left
            focus (clear hw; go_simp; (try exact rfl))
            try go_frame
            refine LexRG.nil ?_
            refine wpAnyL_one (i := 38) (by kernel_rfl) ?_
            refine lexA_get rfl ?_
            try go_frame
            go_wp2_with fail
            replace U := U.alloc (.cells #[.string q, .string ⟨#[114, 111, 108, 108, 98, 97, 99, 107]⟩] 9)
            refine ⟨fun _ => U.out.2, ?_⟩
            refine wpAnyL_one (i := 39) (by kernel_rfl) ?_
            refine lexA_get rfl ?_
            try go_frame
            go_wp2_with fail
            refine (walk_any a (some ⟨V5.drew.heap.size, 0, none⟩) 2 [q, qBack] (V5.drew.alloc (.cells #[.string q, .string ⟨#[114, 111, 108, 108, 98, 97, 99, 107]⟩] 9)) (reads_new V5.drew #[.string q, .string ⟨#[114, 111, 108, 108, 98, 97, 99, 107]⟩] 2 9 rfl (by simp [maxLen])) (by simp [maxLen])).mono ?_
            rw [walk_back]
            rintro e V3 ⟨rfl, rfl⟩
            go_wp2_with fail
            refine ⟨fun _ => U.out.2, ?_⟩
            refine wpAnyL_readsG [40, 41] (fuel := 1) (by kernel_rfl) U.out.2 ?_
            refine LexRG.yes rfl (by first | rfl | (simp [Region.wanted, yielded]; done)) ?_ (fun w' hw => ?_) ?_
            rotate_left
            focus (clear hw; go_simp; (try exact rfl))
            try go_frame
            refine LexRG.yes rfl (by first | rfl | (simp [Region.wanted, yielded]; done)) ?_ (fun w' hw => ?_) ?_
            rotate_left
            focus (clear hw; go_simp; (try exact rfl))
            try go_frame
            refine LexRG.nil ?_
            refine wpAnyL_writes [42] (by kernel_rfl) (LexW.cons rfl ?_)
            try go_frame
            go_wp2_with fail
            refine ⟨fun _ => U.out.2, LexW.nil ?_⟩
            have hfin := U.out.1.1.1
            go_wp2_with fail
            go_ret
            exact ⟨rfl, hfin⟩
          · have U : All (fun w' => ((Below w.heap.size w w' ∧ StrAt w' A2 m) ∧ FrAt w' (some ⟨b9, off9, none⟩) [⟨6, fs, fst⟩, ⟨5, ⟨#[]⟩, y2⟩]) ∧ (w'.cell? ⟨b9, off9, none⟩ = some (.int .i64 6) ∧ w'.cell? ⟨b9, off9 + 3, none⟩ = some (.int .i64 5) ∧ w'.cell? ⟨b9, off9 + 3 + 2, none⟩ = some (.int .i64 y2))) V5 := ⟨T.out.1, d0', d3', d5'⟩
            clear T d0' d3' d5' hB
            go_upto_region 15 with (fail)
            refine wp_region_open 100 (fun w' => w'.cell? ⟨b9, off9, none⟩ = some (.int .i64 6) ∧ w'.cell? ⟨b9, off9 + 3, none⟩ = some (.int .i64 5) ∧ w'.cell? ⟨b9, off9 + 3 + 2, none⟩ = some (.int .i64 y2)) (by kernel_rfl) ?_
            replace U := U.drew
            refine wpAnyL_readsG [0, 1, 2, 3, 4, 5, 6, 7, 8, 9, 10, 11, 12, 13, 14, 15, 16] (fuel := 26) (by kernel_rfl) U.out.2 ?_
            refine LexRG.yes rfl (by first | rfl | (simp [Region.wanted, yielded]; done)) ?_ (fun w' hw => ?_) ?_
            rotate_left
            focus (clear hw; go_simp; (try exact rfl))
            try go_frame
            refine LexRG.yes rfl (by first | rfl | (simp [Region.wanted, yielded]; done)) ?_ (fun w' hw => ?_) ?_
            rotate_left
            focus (clear hw; go_simp; (try exact rfl))
            try go_frame
            refine LexRG.yes rfl (by first | rfl | (simp [Region.wanted, yielded]; done)) ?_ (fun w' hw => ?_) ?_
            rotate_left
            focus (clear hw; go_simp; (try exact rfl))
            try go_frame
            refine LexRG.yes rfl (by first | rfl | (simp [Region.wanted, yielded]; done)) ?_ (fun w' hw => ?_) ?_
            rotate_left
            focus (clear hw; go_simp; (try exact rfl))
            try go_frame
            refine LexRG.yes rfl (by first | rfl | (simp [Region.wanted, yielded]; done)) ?_ (fun w' hw => ?_) ?_
            rotate_left
            focus (clear hw; go_simp; (try exact rfl))
            try go_frame
            refine LexRG.yes rfl (by first | rfl | (simp [Region.wanted, yielded]; done)) ?_ (fun w' hw => ?_) ?_
            rotate_left
            focus (clear hw; go_simp; (try exact rfl))
            try go_frame
            refine LexRG.yes rfl (by first | rfl | (simp [Region.wanted, yielded]; done)) ?_ (fun w' hw => ?_) ?_
            rotate_left
            focus (clear hw; go_simp; (try exact rfl))
            try go_frame
            refine LexRG.yes rfl (by first | rfl | (simp [Region.wanted, yielded]; done)) ?_ (fun w' hw => ?_) ?_
            rotate_left
            focus (have hw2 := hw; obtain ⟨d0, d3, d5⟩ := hw2; clear hw; go_simp; (try exact rfl))
            try go_frame
            refine LexRG.yes rfl (by first | rfl | (simp [Region.wanted, yielded]; done)) ?_ (fun w' hw => ?_) ?_
            rotate_left
            focus (clear hw; go_simp; (try exact rfl))
            try go_frame
            refine LexRG.yes rfl (by first | rfl | (simp [Region.wanted, yielded]; done)) ?_ (fun w' hw => ?_) ?_
            rotate_left
            focus (clear hw; go_simp; (try exact rfl))
            try go_frame
            refine LexRG.yes rfl (by first | rfl | (simp [Region.wanted, yielded]; done)) ?_ (fun w' hw => ?_) ?_
            rotate_left
            focus (clear hw; go_simp; (try exact rfl))
            try go_frame
            refine LexRG.yes rfl (by first | rfl | (simp [Region.wanted, yielded]; done)) ?_ (fun w' hw => ?_) ?_
            rotate_left
            focus (clear hw; go_simp; (try exact rfl))
            try go_frame
            refine LexRG.yes rfl (by first | rfl | (simp [Region.wanted, yielded]; done)) ?_ (fun w' hw => ?_) ?_
            rotate_left
            focus (clear hw; go_simp; (try exact rfl))
            try go_frame
            refine LexRG.yes rfl (by first | rfl | (simp [Region.wanted, yielded]; done)) ?_ (fun w' hw => ?_) ?_
            rotate_left
            focus (clear hw; go_simp; (try exact rfl))
            try go_frame
            refine LexRG.yes rfl (by first | rfl | (simp [Region.wanted, yielded]; done)) ?_ (fun w' hw => ?_) ?_
            rotate_left
            focus (have hw2 := hw; obtain ⟨d0, d3, d5⟩ := hw2; clear hw; go_simp; (try exact rfl))
            try go_frame
            refine LexRG.yes rfl (by first | rfl | (simp [Region.wanted, yielded]; done)) ?_ (fun w' hw => ?_) ?_
            rotate_left
            focus (clear hw; go_simp; (try exact rfl))
            try go_frame
            refine LexRG.yes rfl (by first | rfl | (simp [Region.wanted, yielded]; done)) ?_ (fun w' hw => ?_) ?_
            rotate_left
            focus (clear hw; go_simp; (try exact rfl))
            try go_frame
            refine LexRG.nil ?_
            refine wpAnyL_one (i := 17) (by kernel_rfl) ?_
            refine lexA_get rfl ?_
            try go_frame
            go_wp2_with fail
            refine (wordOf_any q V5.drew).mono ?_
            rw [HU.out]
            rintro e V1 ⟨rfl, rfl⟩
            go_wp2_with fail
            refine ⟨fun _ => U.out.2, ?_⟩
            refine wpAnyL_one (i := 18) (by kernel_rfl) ?_
            refine lexA_get rfl ?_
            try go_frame
            go_wp2_with fail
            refine (nextSt_any a u V5.drew).mono ?_
            rw [HY2.out]
            rintro e V2 ⟨rfl, rfl⟩
            go_wp2_with fail
            refine ⟨fun _ => U.out.2, ?_⟩
            refine wpAnyL_readsG [19, 20, 21, 22, 23, 24, 25, 26, 27, 28, 29, 30, 31, 32, 33, 34, 35, 36, 37] (fuel := 5) (by kernel_rfl) U.out.2 ?_
            refine LexRG.yes rfl (by first | rfl | (simp [Region.wanted, yielded]; done)) ?_ (fun w' hw => ?_) ?_
            rotate_left
            focus (clear hw; go_simp; (try exact rfl))
            try go_frame
            refine LexRG.yes rfl (by first | rfl | (simp [Region.wanted, yielded]; done)) ?_ (fun w' hw => ?_) ?_
            rotate_left
            focus (clear hw; go_simp; (try exact rfl))
            try go_frame
            refine LexRG.yes rfl (by first | rfl | (simp [Region.wanted, yielded]; done)) ?_ (fun w' hw => ?_) ?_
            rotate_left
            focus (clear hw; go_simp; (try exact rfl))
            try go_frame
            refine LexRG.yes rfl (by first | rfl | (simp [Region.wanted, yielded]; done)) ?_ (fun w' hw => ?_) ?_
            rotate_left
            focus (clear hw; go_simp; (try exact rfl))
            try go_frame
            refine LexRG.yes rfl (by first | rfl | (simp [Region.wanted, yielded]; done)) ?_ (fun w' hw => ?_) ?_
            rotate_left
            focus (clear hw; go_simp; (try exact rfl))
            try go_frame
            refine LexRG.yes rfl (by first | rfl | (simp [Region.wanted, yielded]; done)) ?_ (fun w' hw => ?_) ?_
            rotate_left
            focus (clear hw; go_simp; (try exact rfl))
            try go_frame
            refine LexRG.yes rfl (by first | rfl | (simp [Region.wanted, yielded]; done)) ?_ (fun w' hw => ?_) ?_
            rotate_left
            focus (have hw2 := hw; obtain ⟨d0, d3, d5⟩ := hw2; clear hw; go_simp; (try exact rfl))
            try go_frame
            refine LexRG.yes rfl (by first | rfl | (simp [Region.wanted, yielded]; done)) ?_ (fun w' hw => ?_) ?_
            rotate_left
            focus (clear hw; go_simp; (try exact rfl))
            try go_frame
            refine LexRG.yes rfl (by first | rfl | (simp [Region.wanted, yielded]; done)) ?_ (fun w' hw => ?_) ?_
            rotate_left
            focus (clear hw; go_simp; (try exact rfl))
            try go_frame
            refine LexRG.yes rfl (by first | rfl | (simp [Region.wanted, yielded]; done)) ?_ (fun w' hw => ?_) ?_
            rotate_left
            focus (clear hw; go_simp; (try exact rfl))
            try go_frame
            refine LexRG.yes rfl (by first | rfl | (simp [Region.wanted, yielded]; done)) ?_ (fun w' hw => ?_) ?_
            rotate_left
            focus (clear hw; go_simp; (try exact rfl))
            try go_frame
            refine LexRG.yes rfl (by first | rfl | (simp [Region.wanted, yielded]; done)) ?_ (fun w' hw => ?_) ?_
            rotate_left
            focus (clear hw; go_simp; (try exact rfl))
            try go_frame
            refine LexRG.yes rfl (by first | rfl | (simp [Region.wanted, yielded]; done)) ?_ (fun w' hw => ?_) ?_
            rotate_left
            focus (have hw2 := hw; obtain ⟨d0, d3, d5⟩ := hw2; clear hw; go_simp; (try exact rfl))
            try go_frame
            refine LexRG.yes rfl (by first | rfl | (simp [Region.wanted, yielded]; done)) ?_ (fun w' hw => ?_) ?_
            rotate_left
            focus (clear hw; go_simp; (try exact rfl))
            try go_frame
            refine LexRG.yes rfl (by first | rfl | (simp [Region.wanted, yielded]; done)) ?_ (fun w' hw => ?_) ?_
            rotate_left
            focus (clear hw; go_simp; (try exact rfl))
            try go_frame
            refine LexRG.yes rfl (by first | rfl | (simp [Region.wanted, yielded]; done)) ?_ (fun w' hw => ?_) ?_
            rotate_left
            focus (clear hw; go_simp; (try exact rfl))
            try go_frame
            refine LexRG.yes rfl (by first | rfl | (simp [Region.wanted, yielded]; done)) ?_ (fun w' hw => ?_) ?_
            rotate_left
            focus (clear hw; go_simp; (try exact rfl))
            try go_frame
            refine LexRG.yes rfl (by first | rfl | (simp [Region.wanted, yielded]; done)) ?_ (fun w' hw => ?_) ?_
            rotate_left
            focus (clear hw; go_simp; (try exact rfl))
            try go_frame
            refine LexRG.yes rfl (by first | rfl | (simp [Region.wanted, yielded]; done)) ?_ (fun w' hw => ?_) ?_
            rotate_left
            focus (clear hw; go_simp; (try exact rfl))
            try go_frame
            refine LexRG.nil ?_
            refine wpAnyL_one (i := 38) (by kernel_rfl) ?_
            refine lexA_get rfl ?_
            try go_frame
            go_wp2_with fail
            replace U := U.alloc (.cells #[.string q, .string ⟨#[114, 111, 108, 108, 98, 97, 99, 107]⟩] 9)
            refine ⟨fun _ => U.out.2, ?_⟩
            refine wpAnyL_one (i := 39) (by kernel_rfl) ?_
            refine lexA_get rfl ?_
            try go_frame
            go_wp2_with fail
            refine (walk_any a (some ⟨V5.drew.heap.size, 0, none⟩) 2 [q, qBack] (V5.drew.alloc (.cells #[.string q, .string ⟨#[114, 111, 108, 108, 98, 97, 99, 107]⟩] 9)) (reads_new V5.drew #[.string q, .string ⟨#[114, 111, 108, 108, 98, 97, 99, 107]⟩] 2 9 rfl (by simp [maxLen])) (by simp [maxLen])).mono ?_
            rw [walk_back]
            rintro e V3 ⟨rfl, rfl⟩
            go_wp2_with fail
            refine ⟨fun _ => U.out.2, ?_⟩
            refine wpAnyL_readsG [40, 41] (fuel := 1) (by kernel_rfl) U.out.2 ?_
            refine LexRG.yes rfl (by first | rfl | (simp [Region.wanted, yielded]; done)) ?_ (fun w' hw => ?_) ?_
            rotate_left
            focus (clear hw; go_simp; (try exact rfl))
            try go_frame
            refine LexRG.yes rfl (by first | rfl | (simp [Region.wanted, yielded]; done)) ?_ (fun w' hw => ?_) ?_
            rotate_left
            focus (clear hw; go_simp; (try exact rfl))
            try go_frame
            refine LexRG.nil ?_
            refine wpAnyL_writes [42] (by kernel_rfl) (LexW.cons rfl ?_)
            try go_frame
            go_wp2_with fail
            refine ⟨fun _ => U.out.2, LexW.nil ?_⟩
            have hfin := U.out.1.1.1
            go_wp2_with fail
            go_ret
            exact ⟨rfl, hfin⟩
    · have hl0 : (0 : Int) < (m.length : Int) := by
        cases m with
        | nil => exact absurd rfl hm0
        | cons x m => simp
      clear hm0
      go_wp2_with fail
      refine (at_any a0 cap0 2 code W1 ((HR.out.below S.out.1).more S.out.1.size) hn (by omega)).mono ?_
      rintro e w2 ⟨z, hz, rfl, rfl⟩
      obtain ⟨p, s, hps, hpn⟩ : ∃ p s : List ByteArray, Hid (m = p ++ s) ∧ Hid ((z : Int) % ((m.length : Int) + 1) = (p.length : Int)) := ⟨m.take (z % (m.length + 1)), m.drop (z % (m.length + 1)), Lib.hid (List.take_append_drop _ _).symm, Lib.hid (by have := Nat.mod_lt z (show 0 < m.length + 1 by omega); rw [List.length_take, Nat.min_eq_left (by omega)]; simp)⟩
      go_upto_region 7 with (fail)
      rw [hpn.out]
      clear hz hpn
      obtain ⟨x, hx⟩ : ∃ x, walkA st m = x := ⟨_, rfl⟩
      obtain ⟨xp, hxp⟩ : ∃ x, walkA st p = x := ⟨_, rfl⟩
      have hxs : walkA xp s = x := by have h := congrArg (walkA st) hps.out; rw [walkA_append, hxp, hx] at h; exact h.symm
      have HX := Lib.hid hx
      have HXP := Lib.hid hxp
      have HXS := Lib.hid hxs
      have HML : Hid (m.length ≤ maxLen) := Lib.hid (by unfold maxLen; omega)
      have HPL : Hid (p.length ≤ maxLen) := Lib.hid (by have h := hm14; rw [hps.out, List.length_append] at h; unfold maxLen; omega)
      have HSL : Hid (s.length ≤ maxLen) := Lib.hid (by have h := hm14; rw [hps.out, List.length_append] at h; unfold maxLen; omega)
      obtain ⟨AP, AS, rp, rs, gp, gs⟩ := strs_parts A2 c2 m p s hps.out hmc
      have HRP : Hid (∀ (w : World) (_ : Unit), StrAt w A2 m → StrAt w AP p) := Lib.hid (fun w _ => gp w)
      have HRS : Hid (∀ (w : World) (_ : Unit), StrAt w A2 m → StrAt w AS s) := Lib.hid (fun w _ => gs w)
      have nx : (x != x) = false := by simp
      clear hx hxp hxs gp gs hmc hm14
      go_wp2_with fail
      refine (walk_any st A2 c2 m W1 S.out.2 HML.out).mono ?_
      rw [HX.out]
      rintro e w2 ⟨rfl, rfl⟩
      go_wp2_with fail
      refine (drawAnswerTo_any a0 cap0 code W1 ((HR.out.below S.out.1).more S.out.1.size) hn).mono ?_
      rintro e W2 ⟨a, q, hq, rfl, hb⟩
      replace S := S.later hb
      have HQ : Hid (q.size ≤ 1048576) := Lib.hid (by omega)
      obtain ⟨F, hF⟩ : ∃ F, answerA a q = F := ⟨_, rfl⟩
      have HF := Lib.hid hF
      have HFL : Hid (F.length ≤ 1048576) := Lib.hid (by have := answerA_len a q; rw [hF] at this; omega)
      clear hb hq hF
      go_wp2_with fail
      refine (answerTo_any a q W2 HQ.out).mono ?_
      rw [HF.out]
      rintro e W3 ⟨A9, c9, rfl, o9, hb⟩
      have T : All (fun w' => ((Below w.heap.size w w' ∧ StrAt w' A2 m) ∧ FrAt w' A9 F) ∧ True) W3 := ⟨⟨(S.later hb).out, frS_own_at o9⟩, trivial⟩
      clear hb o9 S
      go_wp2_with fail
      refine (drawNextSt_any a0 cap0 code W3 ((HR.out.below T.out.1.1.1).more T.out.1.1.1.size) hn).mono ?_
      rintro e W9 ⟨b, v, rfl, hb⟩
      replace T := T.later hb
      clear hb
      obtain ⟨y, hy⟩ : ∃ y, nextS b v = y := ⟨_, rfl⟩
      obtain ⟨u, hu⟩ : ∃ u, wordQ q = u := ⟨_, rfl⟩
      have HY := Lib.hid hy
      have HU := Lib.hid hu
      have ny : (y != y) = false := by simp
      have nu : (u != u) = false := by simp
      clear hy hu
      go_upto_region 11 with (fail)
      refine wp_region_open 100 (fun w' => True) (by kernel_rfl) ?_
      replace T := T.drew
      refine wpAnyL_readsG [0, 1, 2] (fuel := 39) (by kernel_rfl) T.out.2 ?_
      refine LexRG.yes rfl (by first | rfl | (simp [Region.wanted, yielded]; done)) ?_ (fun w' hw => ?_) ?_
      rotate_left
      focus (clear hw; go_simp; (try exact rfl))
      try go_frame
      refine LexRG.yes rfl (by first | rfl | (simp [Region.wanted, yielded]; done)) ?_ (fun w' hw => ?_) ?_
      rotate_left
      focus (clear hw; go_simp; (try exact rfl))
      try go_frame
      refine LexRG.yes rfl (by first | rfl | (simp [Region.wanted, yielded]; done)) ?_ (fun w' hw => ?_) ?_
      rotate_left
      focus (clear hw; go_simp; (try exact rfl))
      try go_frame
      refine LexRG.nil ?_
      refine wpAnyL_one (i := 3) (by kernel_rfl) ?_
      refine lexA_get rfl ?_
      try go_frame
      go_wp2_with fail
      refine (walkS_any st A2 c2 m W9.drew T.out.1.1.2 HML.out).mono ?_
      rw [HX.out]
      rintro e V1 ⟨rfl, rfl⟩
      go_wp2_with fail
      refine ⟨fun _ => T.out.2, ?_⟩
      refine wpAnyL_readsG [4, 5, 6, 7, 8, 9, 10, 12, 13, 14] (fuel := 28) (by kernel_rfl) T.out.2 ?_
      refine LexRG.yes rfl (by first | rfl | (simp [Region.wanted, yielded]; done)) ?_ (fun w' hw => ?_) ?_
      rotate_left
      focus (clear hw; go_simp; (try exact rfl))
      try go_frame
      refine LexRG.yes rfl (by first | rfl | (simp [Region.wanted, yielded]; done)) ?_ (fun w' hw => ?_) ?_
      rotate_left
      focus (clear hw; go_simp; (try exact rfl))
      try go_frame
      refine LexRG.yes rfl (by first | rfl | (simp [Region.wanted, yielded]; done)) ?_ (fun w' hw => ?_) ?_
      rotate_left
      focus (clear hw; go_simp; (try exact rfl))
      try go_frame
      refine LexRG.yes rfl (by first | rfl | (simp [Region.wanted, yielded]; done)) ?_ (fun w' hw => ?_) ?_
      rotate_left
      focus (clear hw; go_simp; (try exact rfl))
      try go_frame
      refine LexRG.yes rfl (by first | rfl | (simp [Region.wanted, yielded]; done)) ?_ (fun w' hw => ?_) ?_
      rotate_left
      focus (clear hw; go_simp; (try exact rfl))
      try go_frame
      refine LexRG.yes rfl (by first | rfl | (simp [Region.wanted, yielded]; done)) ?_ (fun w' hw => ?_) ?_
      rotate_left
      focus (clear hw; go_simp; (try exact rfl))
      try go_frame
      refine LexRG.yes rfl (by first | rfl | (simp [Region.wanted, yielded]; done)) ?_ (fun w' hw => ?_) ?_
      rotate_left
      focus (clear hw; go_simp; (try exact rfl))
      try go_frame
      refine LexRG.yes rfl (by first | rfl | (simp [Region.wanted, yielded]; done)) ?_ (fun w' hw => ?_) ?_
      rotate_left
      focus (clear hw; go_simp; (try exact rfl))
      try go_frame
      refine LexRG.yes rfl (by first | rfl | (simp [Region.wanted, yielded]; done)) ?_ (fun w' hw => ?_) ?_
      rotate_left
      focus (clear hw; go_simp; (try exact rfl))
      try go_frame
      refine LexRG.yes rfl (by first | rfl | (simp [Region.wanted, yielded]; done)) ?_ (fun w' hw => ?_) ?_
      rotate_left
      focus (clear hw; go_simp; (try exact rfl))
      try go_frame
      refine LexRG.nil ?_
      refine wpAnyL_one (i := 11) (by kernel_rfl) ?_
      refine lexA_get rfl ?_
      try go_frame
      go_wp2_with fail
      refine (walk_any st AP c2 p W9.drew (HRP.out _ () T.out.1.1.2) HPL.out).mono ?_
      rw [HXP.out]
      rintro e V2 ⟨rfl, rfl⟩
      go_wp2_with fail
      refine ⟨fun _ => T.out.2, ?_⟩
      refine wpAnyL_one (i := 15) (by kernel_rfl) ?_
      refine lexA_get rfl ?_
      try go_frame
      go_wp2_with fail
      refine (walk_any xp AS (c2 - p.length) s W9.drew (HRS.out _ () T.out.1.1.2) HSL.out).mono ?_
      rw [HXS.out]
      rintro e V3 ⟨rfl, rfl⟩
      go_wp2_with fail
      refine ⟨fun _ => T.out.2, ?_⟩
      refine wpAnyL_readsG [16, 17, 18, 19, 20, 21] (fuel := 20) (by kernel_rfl) T.out.2 ?_
      refine LexRG.yes rfl (by first | rfl | (simp [Region.wanted, yielded]; done)) ?_ (fun w' hw => ?_) ?_
      rotate_left
      focus (clear hw; go_simp; (try exact rfl))
      try go_frame
      refine LexRG.yes rfl (by first | rfl | (simp [Region.wanted, yielded]; done)) ?_ (fun w' hw => ?_) ?_
      rotate_left
      focus (clear hw; go_simp; (try exact rfl))
      try go_frame
      refine LexRG.yes rfl (by first | rfl | (simp [Region.wanted, yielded]; done)) ?_ (fun w' hw => ?_) ?_
      rotate_left
      focus (clear hw; go_simp; (try exact rfl))
      try go_frame
      refine LexRG.yes rfl (by first | rfl | (simp [Region.wanted, yielded]; done)) ?_ (fun w' hw => ?_) ?_
      rotate_left
      focus (clear hw; go_simp; (try exact rfl))
      try go_frame
      refine LexRG.yes rfl (by first | rfl | (simp [Region.wanted, yielded]; done)) ?_ (fun w' hw => ?_) ?_
      rotate_left
      focus (clear hw; go_simp; (try exact rfl))
      try go_frame
      refine LexRG.yes rfl (by first | rfl | (simp [Region.wanted, yielded]; done)) ?_ (fun w' hw => ?_) ?_
      rotate_left
      focus (clear hw; go_simp; (try exact rfl))
      try go_frame
      refine LexRG.nil ?_
      refine wpAnyL_one (i := 22) (by kernel_rfl) ?_
      refine lexA_get rfl ?_
      try go_frame
      go_wp2_with fail
      refine (answerToS_any a q W9.drew HQ.out).mono ?_
      rw [HF.out]
      rintro e V4 ⟨A7, c7, rfl, o7, hb⟩
      have f7 := frS_own_at o7
      clear o7
      replace T := T.later hb
      clear hb
      go_wp2_with fail
      refine ⟨fun _ => T.out.2, ?_⟩
      refine wpAnyL_one (i := 23) (by kernel_rfl) ?_
      refine lexA_get rfl ?_
      try go_frame
      go_wp2_with fail
      refine (sameFrames_same A9 A7 c9 c7 F V4 T.out.1.2 f7 HFL.out).mono ?_
      rintro e V5 ⟨rfl, hb⟩
      replace T := T.later hb
      clear hb
      clear f7
      go_wp2_with fail
      refine ⟨fun _ => T.out.2, ?_⟩
      refine wpAnyL_readsG [24, 25, 26, 27, 28, 30, 31] (fuel := 11) (by kernel_rfl) T.out.2 ?_
      refine LexRG.yes rfl (by first | rfl | (simp [Region.wanted, yielded]; done)) ?_ (fun w' hw => ?_) ?_
      rotate_left
      focus (clear hw; go_simp; (try exact rfl))
      try go_frame
      refine LexRG.yes rfl (by first | rfl | (simp [Region.wanted, yielded]; done)) ?_ (fun w' hw => ?_) ?_
      rotate_left
      focus (clear hw; go_simp; (try exact rfl))
      try go_frame
      refine LexRG.yes rfl (by first | rfl | (simp [Region.wanted, yielded]; done)) ?_ (fun w' hw => ?_) ?_
      rotate_left
      focus (clear hw; go_simp; (try exact rfl))
      try go_frame
      refine LexRG.yes rfl (by first | rfl | (simp [Region.wanted, yielded]; done)) ?_ (fun w' hw => ?_) ?_
      rotate_left
      focus (clear hw; go_simp; (try exact rfl))
      try go_frame
      refine LexRG.yes rfl (by first | rfl | (simp [Region.wanted, yielded]; done)) ?_ (fun w' hw => ?_) ?_
      rotate_left
      focus (clear hw; go_simp; (try exact rfl))
      try go_frame
      refine LexRG.yes rfl (by first | rfl | (simp [Region.wanted, yielded]; done)) ?_ (fun w' hw => ?_) ?_
      rotate_left
      focus (clear hw; go_simp; (try exact rfl))
      try go_frame
      refine LexRG.yes rfl (by first | rfl | (simp [Region.wanted, yielded]; done)) ?_ (fun w' hw => ?_) ?_
      rotate_left
      focus (clear hw; go_simp; (try exact rfl))
      try go_frame
      refine LexRG.nil ?_
      refine wpAnyL_one (i := 29) (by kernel_rfl) ?_
      refine lexA_get rfl ?_
      try go_frame
      go_wp2_with fail
      refine (nextSt_any b v V5).mono ?_
      rw [HY.out]
      rintro e V6 ⟨rfl, rfl⟩
      go_wp2_with fail
      refine ⟨fun _ => T.out.2, ?_⟩
      refine wpAnyL_one (i := 32) (by kernel_rfl) ?_
      refine lexA_get rfl ?_
      try go_frame
      go_wp2_with fail
      refine (nextStS_any b v V5).mono ?_
      rw [HY.out]
      rintro e V7 ⟨rfl, rfl⟩
      go_wp2_with fail
      refine ⟨fun _ => T.out.2, ?_⟩
      refine wpAnyL_readsG [33, 34, 35, 36, 38] (fuel := 4) (by kernel_rfl) T.out.2 ?_
      refine LexRG.yes rfl (by first | rfl | (simp [Region.wanted, yielded]; done)) ?_ (fun w' hw => ?_) ?_
      rotate_left
      focus (clear hw; go_simp; (try exact rfl))
      try go_frame
      refine LexRG.yes rfl (by first | rfl | (simp [Region.wanted, yielded]; done)) ?_ (fun w' hw => ?_) ?_
      rotate_left
      focus (clear hw; go_simp; (try exact rfl))
      try go_frame
      refine LexRG.yes rfl (by first | rfl | (simp [Region.wanted, yielded]; done)) ?_ (fun w' hw => ?_) ?_
      rotate_left
      focus (clear hw; go_simp; (try exact rfl))
      try go_frame
      refine LexRG.yes rfl (by first | rfl | (simp [Region.wanted, yielded]; done)) ?_ (fun w' hw => ?_) ?_
      rotate_left
      focus (clear hw; go_simp; (try exact rfl))
      try go_frame
      refine LexRG.yes rfl (by first | rfl | (simp [Region.wanted, yielded]; done)) ?_ (fun w' hw => ?_) ?_
      rotate_left
      focus (clear hw; go_simp; (try exact rfl))
      try go_frame
      refine LexRG.nil ?_
      refine wpAnyL_one (i := 37) (by kernel_rfl) ?_
      refine lexA_get rfl ?_
      try go_frame
      go_wp2_with fail
      refine (wordOf_any q V5).mono ?_
      rw [HU.out]
      rintro e V8 ⟨rfl, rfl⟩
      go_wp2_with fail
      refine ⟨fun _ => T.out.2, ?_⟩
      refine wpAnyL_one (i := 39) (by kernel_rfl) ?_
      refine lexA_get rfl ?_
      try go_frame
      go_wp2_with fail
      refine (wordOfS_any q V5).mono ?_
      rw [HU.out]
      rintro e V9 ⟨rfl, rfl⟩
      go_wp2_with fail
      refine ⟨fun _ => T.out.2, ?_⟩
      refine wpAnyL_readsG [40] (fuel := 1) (by kernel_rfl) T.out.2 ?_
      refine LexRG.yes rfl (by first | rfl | (simp [Region.wanted, yielded]; done)) ?_ (fun w' hw => ?_) ?_
      rotate_left
      focus (clear hw; go_simp; (try exact rfl))
      try go_frame
      refine LexRG.nil ?_
      refine wpAnyL_writes [41] (by kernel_rfl) (LexW.cons rfl ?_)
      try go_frame
      go_wp2_with fail
      refine ⟨fun _ => T.out.2, LexW.nil ?_⟩
      clear nx ny nu
      obtain ⟨b1, h1⟩ : ∃ b, inI a 0 2 = b := ⟨_, rfl⟩
      obtain ⟨b2, h2⟩ : ∃ b, okB q.data.toList = b := ⟨_, rfl⟩
      have H2 := Lib.hid h2
      have hB := T.out.1.1.1
      cases b1
      · have hF : F = [] := HF.out.symm.trans (answerA_no1 h1)
        subst hF
        have h3 : a < 0 ∨ 2 < a := by unfold inI at h1; simp at h1; omega
        clear h1 h2 T
        by_cases h4 : a < 0
        · go_wp2_with fail
          go_ret
          exact ⟨rfl, hB⟩
        · have h5 : 2 < a := by omega
          go_wp2_with fail
          go_ret
          exact ⟨rfl, hB⟩
      · have h3 : ¬ a < 0 ∧ ¬ 2 < a := by unfold inI at h1; simp at h1; omega
        obtain ⟨h4, h5⟩ := h3
        cases b2
        · have hF : F = [] := HF.out.symm.trans (answerA_no2 h2)
          subst hF
          clear h1 h2 T
          go_wp2_with fail
          refine (textOk_any q _ (by have := HQ.out; omega)).mono ?_
          rw [H2.out]
          rintro e w9 ⟨rfl, rfl⟩
          go_wp2_with fail
          go_ret
          exact ⟨rfl, hB⟩
        · obtain ⟨⟨fk, fs, fst⟩, hf⟩ : ∃ f, firstA a q = f := ⟨_, rfl⟩
          obtain ⟨y2, hy2⟩ : ∃ y2, nextS a u = y2 := ⟨_, rfl⟩
          have HY2 := Lib.hid hy2
          have hF : F = [⟨fk, fs, fst⟩, ⟨5, ⟨#[]⟩, y2⟩] := HF.out.symm.trans (by rw [answerA_yes h1 h2, hf, HU.out, hy2])
          have hk : fk = 4 ∨ fk = 6 := by have := firstA_kind a q; rw [hf] at this; exact this
          subst hF
          clear h1 h2 hf hy2 h4 h5
          obtain ⟨b9, off9, e0, hA9, hbl, hx0, d0, _, _⟩ := frS_elem T.out.1.2 (k := 0) (by simp)
          obtain ⟨b9', off9', e1, hA9', _, hx1, d3, _, d5⟩ := frS_elem T.out.1.2 (k := 1) (by simp)
          subst hA9
          injection hA9' with hA9'
          injection hA9' with hq1 hq2 _
          subst hq1 hq2
          simp only [List.getElem?_cons_zero, List.getElem?_cons_succ, Option.some.injEq] at hx0 hx1
          subst hx0 hx1
          have d0' : V5.cell? ⟨b9, off9, none⟩ = some (.int .i64 fk) := by simpa using d0
          have d3' : V5.cell? ⟨b9, off9 + 3, none⟩ = some (.int .i64 5) := by simpa using d3
          have d5' : V5.cell? ⟨b9, off9 + 3 + 2, none⟩ = some (.int .i64 y2) := by simpa using d5
          clear d0 d3 d5
          have ny : (y2 == y2) = true := by simp
          rcases hk with rfl | rfl
          · have U : All (fun w' => ((Below w.heap.size w w' ∧ StrAt w' A2 m) ∧ FrAt w' (some ⟨b9, off9, none⟩) [⟨4, fs, fst⟩, ⟨5, ⟨#[]⟩, y2⟩]) ∧ (w'.cell? ⟨b9, off9, none⟩ = some (.int .i64 4) ∧ w'.cell? ⟨b9, off9 + 3, none⟩ = some (.int .i64 5) ∧ w'.cell? ⟨b9, off9 + 3 + 2, none⟩ = some (.int .i64 y2))) V5 := ⟨T.out.1, d0', d3', d5'⟩
            clear T d0' d3' d5' hB
            go_upto_region 15 with (fail)
            refine wp_region_open 100 (fun w' => w'.cell? ⟨b9, off9, none⟩ = some (.int .i64 4) ∧ w'.cell? ⟨b9, off9 + 3, none⟩ = some (.int .i64 5) ∧ w'.cell? ⟨b9, off9 + 3 + 2, none⟩ = some (.int .i64 y2)) (by kernel_rfl) ?_
            replace U := U.drew
            refine wpAnyL_readsG [0, 1, 2, 3, 4, 5, 6, 7, 8, 9, 10, 11, 12, 13, 14, 15, 16] (fuel := 26) (by kernel_rfl) U.out.2 ?_
            refine LexRG.yes rfl (by first | rfl | (simp [Region.wanted, yielded]; done)) ?_ (fun w' hw => ?_) ?_
            rotate_left
            focus (clear hw; go_simp; (try exact rfl))
            try go_frame
            refine LexRG.yes rfl (by first | rfl | (simp [Region.wanted, yielded]; done)) ?_ (fun w' hw => ?_) ?_
            rotate_left
            focus (clear hw; go_simp; (try exact rfl))
            try go_frame
            refine LexRG.yes rfl (by first | rfl | (simp [Region.wanted, yielded]; done)) ?_ (fun w' hw => ?_) ?_
            rotate_left
            focus (clear hw; go_simp; (try exact rfl))
            try go_frame
            refine LexRG.yes rfl (by first | rfl | (simp [Region.wanted, yielded]; done)) ?_ (fun w' hw => ?_) ?_
            rotate_left
            focus (clear hw; go_simp; (try exact rfl))
            try go_frame
            refine LexRG.yes rfl (by first | rfl | (simp [Region.wanted, yielded]; done)) ?_ (fun w' hw => ?_) ?_
            rotate_left
            focus (clear hw; go_simp; (try exact rfl))
            try go_frame
            refine LexRG.yes rfl (by first | rfl | (simp [Region.wanted, yielded]; done)) ?_ (fun w' hw => ?_) ?_
            rotate_left
            focus (clear hw; go_simp; (try exact rfl))
            try go_frame
            refine LexRG.yes rfl (by first | rfl | (simp [Region.wanted, yielded]; done)) ?_ (fun w' hw => ?_) ?_
            rotate_left
            focus (clear hw; go_simp; (try exact rfl))
            try go_frame
            refine LexRG.yes rfl (by first | rfl | (simp [Region.wanted, yielded]; done)) ?_ (fun w' hw => ?_) ?_
            rotate_left
            focus (have hw2 := hw; obtain ⟨d0, d3, d5⟩ := hw2; clear hw; go_simp; (try exact rfl))
            try go_frame
            refine LexRG.yes rfl (by first | rfl | (simp [Region.wanted, yielded]; done)) ?_ (fun w' hw => ?_) ?_
            rotate_left
            focus (clear hw; go_simp; (try exact rfl))
            try go_frame
            refine LexRG.yes rfl (by first | rfl | (simp [Region.wanted, yielded]; done)) ?_ (fun w' hw => ?_) ?_
            rotate_left
            focus (clear hw; go_simp; (try exact rfl))
            try go_frame
            refine LexRG.yes rfl (by first | rfl | (simp [Region.wanted, yielded]; done)) ?_ (fun w' hw => ?_) ?_
            rotate_left
            focus (clear hw; go_simp; (try exact rfl))
            try go_frame
            refine LexRG.yes rfl (by first | rfl | (simp [Region.wanted, yielded]; done)) ?_ (fun w' hw => ?_) ?_
            rotate_left
            focus (clear hw; go_simp; (try exact rfl))
            try go_frame
            refine LexRG.yes rfl (by first | rfl | (simp [Region.wanted, yielded]; done)) ?_ (fun w' hw => ?_) ?_
            rotate_left
            focus (clear hw; go_simp; (try exact rfl))
            try go_frame
            refine LexRG.yes rfl (by first | rfl | (simp [Region.wanted, yielded]; done)) ?_ (fun w' hw => ?_) ?_
            rotate_left
            focus (clear hw; go_simp; (try exact rfl))
            try go_frame
            refine LexRG.yes rfl (by first | rfl | (simp [Region.wanted, yielded]; done)) ?_ (fun w' hw => ?_) ?_
            rotate_left
            focus (have hw2 := hw; obtain ⟨d0, d3, d5⟩ := hw2; clear hw; go_simp; (try exact rfl))
            try go_frame
            refine LexRG.yes rfl (by first | rfl | (simp [Region.wanted, yielded]; done)) ?_ (fun w' hw => ?_) ?_
            rotate_left
            focus (clear hw; go_simp; (try exact rfl))
            try go_frame
            refine LexRG.yes rfl (by first | rfl | (simp [Region.wanted, yielded]; done)) ?_ (fun w' hw => ?_) ?_
            rotate_left
            focus (clear hw; go_simp; (try exact rfl))
            try go_frame
            refine LexRG.nil ?_
            refine wpAnyL_one (i := 17) (by kernel_rfl) ?_
            refine lexA_get rfl ?_
            try go_frame
            go_wp2_with fail
            refine (wordOf_any q V5.drew).mono ?_
            rw [HU.out]
            rintro e V1 ⟨rfl, rfl⟩
            go_wp2_with fail
            refine ⟨fun _ => U.out.2, ?_⟩
            refine wpAnyL_one (i := 18) (by kernel_rfl) ?_
            refine lexA_get rfl ?_
            try go_frame
            go_wp2_with fail
            refine (nextSt_any a u V5.drew).mono ?_
            rw [HY2.out]
            rintro e V2 ⟨rfl, rfl⟩
            go_wp2_with fail
            refine ⟨fun _ => U.out.2, ?_⟩
            refine wpAnyL_readsG [19, 20, 21, 22, 23, 24, 25, 26, 27, 28, 29, 30, 31, 32, 33, 34, 35, 36, 37] (fuel := 5) (by kernel_rfl) U.out.2 ?_
            refine LexRG.yes rfl (by first | rfl | (simp [Region.wanted, yielded]; done)) ?_ (fun w' hw => ?_) ?_
            rotate_left
            focus (clear hw; go_simp; (try exact rfl))
            try go_frame
            refine LexRG.yes rfl (by first | rfl | (simp [Region.wanted, yielded]; done)) ?_ (fun w' hw => ?_) ?_
            rotate_left
            focus (clear hw; go_simp; (try exact rfl))
            try go_frame
            refine LexRG.yes rfl (by first | rfl | (simp [Region.wanted, yielded]; done)) ?_ (fun w' hw => ?_) ?_
            rotate_left
            focus (clear hw; go_simp; (try exact rfl))
            try go_frame
            refine LexRG.yes rfl (by first | rfl | (simp [Region.wanted, yielded]; done)) ?_ (fun w' hw => ?_) ?_
            rotate_left
            focus (clear hw; go_simp; (try exact rfl))
            try go_frame
            refine LexRG.yes rfl (by first | rfl | (simp [Region.wanted, yielded]; done)) ?_ (fun w' hw => ?_) ?_
            rotate_left
            focus (clear hw; go_simp; (try exact rfl))
            try go_frame
            refine LexRG.yes rfl (by first | rfl | (simp [Region.wanted, yielded]; done)) ?_ (fun w' hw => ?_) ?_
            rotate_left
            focus (clear hw; go_simp; (try exact rfl))
            try go_frame
            refine LexRG.yes rfl (by first | rfl | (simp [Region.wanted, yielded]; done)) ?_ (fun w' hw => ?_) ?_
            rotate_left
            focus (have hw2 := hw; obtain ⟨d0, d3, d5⟩ := hw2; clear hw; go_simp; (try exact rfl))
            try go_frame
            refine LexRG.yes rfl (by first | rfl | (simp [Region.wanted, yielded]; done)) ?_ (fun w' hw => ?_) ?_
            rotate_left
            focus (clear hw; go_simp; (try exact rfl))
            try go_frame
            refine LexRG.yes rfl (by first | rfl | (simp [Region.wanted, yielded]; done)) ?_ (fun w' hw => ?_) ?_
            rotate_left
            focus (clear hw; go_simp; (try exact rfl))
            try go_frame
            refine LexRG.no rfl (by first | rfl | (simp [Region.wanted, yielded]; done)) ?_
            try go_frame
            refine LexRG.no rfl (by first | rfl | (simp [Region.wanted, yielded]; done)) ?_
            try go_frame
            refine LexRG.no rfl (by first | rfl | (simp [Region.wanted, yielded]; done)) ?_
            try go_frame
            refine LexRG.no rfl (by first | rfl | (simp [Region.wanted, yielded]; done)) ?_
            try go_frame
            refine LexRG.no rfl (by first | rfl | (simp [Region.wanted, yielded]; done)) ?_
            try go_frame
            refine LexRG.yes rfl (by first | rfl | (simp [Region.wanted, yielded]; done)) ?_ (fun w' hw => ?_) ?_
            rotate_left
            focus (clear hw; go_simp; (try exact rfl))
            try go_frame
            refine LexRG.yes rfl (by first | rfl | (simp [Region.wanted, yielded]; done)) ?_ (fun w' hw => ?_) ?_
            rotate_left
            focus (clear hw; go_simp; (try exact rfl))
            try go_frame
            refine LexRG.yes rfl (by first | rfl | (simp [Region.wanted, yielded]; done)) ?_ (fun w' hw => ?_) ?_
            rotate_left
            focus (clear hw; go_simp; (try exact rfl))
            try go_frame
            refine LexRG.yes rfl (by first | rfl | (simp [Region.wanted, yielded]; done)) ?_ (fun w' hw => ?_) ?_
            rotate_left
            focus (clear hw; go_simp; (try exact rfl))
            try go_frame
            refine LexRG.yes rfl (by first | rfl | (simp [Region.wanted, yielded]; done)) ?_ (fun w' hw => ?_) ?_
            rotate_left
            focus (clear hw; go_simp; (try exact rfl))
            try go_frame
            refine LexRG.nil ?_
            refine wpAnyL_one (i := 38) (by kernel_rfl) ?_
            refine lexA_get rfl ?_
            try go_frame
            go_wp2_with fail
            replace U := U.alloc (.cells #[.string q, .string ⟨#[114, 111, 108, 108, 98, 97, 99, 107]⟩] 9)
            refine ⟨fun _ => U.out.2, ?_⟩
            refine wpAnyL_one (i := 39) (by kernel_rfl) ?_
            refine lexA_get rfl ?_
            try go_frame
            go_wp2_with fail
            refine (walk_any a (some ⟨V5.drew.heap.size, 0, none⟩) 2 [q, qBack] (V5.drew.alloc (.cells #[.string q, .string ⟨#[114, 111, 108, 108, 98, 97, 99, 107]⟩] 9)) (reads_new V5.drew #[.string q, .string ⟨#[114, 111, 108, 108, 98, 97, 99, 107]⟩] 2 9 rfl (by simp [maxLen])) (by simp [maxLen])).mono ?_
            rw [walk_back]
            rintro e V3 ⟨rfl, rfl⟩
            go_wp2_with fail
            refine ⟨fun _ => U.out.2, ?_⟩
            refine wpAnyL_readsG [40, 41] (fuel := 1) (by kernel_rfl) U.out.2 ?_
            refine LexRG.yes rfl (by first | rfl | (simp [Region.wanted, yielded]; done)) ?_ (fun w' hw => ?_) ?_
            rotate_left
            focus (clear hw; go_simp; (try exact rfl))
            try go_frame
            refine LexRG.yes rfl (by first | rfl | (simp [Region.wanted, yielded]; done)) ?_ (fun w' hw => ?_) ?_
            rotate_left
            focus (clear hw; go_simp; (try exact rfl))
            try go_frame
            refine LexRG.nil ?_
            refine wpAnyL_writes [42] (by kernel_rfl) (LexW.cons rfl ?_)
            try go_frame
            go_wp2_with fail
            refine ⟨fun _ => U.out.2, LexW.nil ?_⟩
            have hfin := U.out.1.1.1
            go_wp2_with fail
            go_ret
            exact ⟨rfl, hfin⟩
          · have U : All (fun w' => ((Below w.heap.size w w' ∧ StrAt w' A2 m) ∧ FrAt w' (some ⟨b9, off9, none⟩) [⟨6, fs, fst⟩, ⟨5, ⟨#[]⟩, y2⟩]) ∧ (w'.cell? ⟨b9, off9, none⟩ = some (.int .i64 6) ∧ w'.cell? ⟨b9, off9 + 3, none⟩ = some (.int .i64 5) ∧ w'.cell? ⟨b9, off9 + 3 + 2, none⟩ = some (.int .i64 y2))) V5 := ⟨T.out.1, d0', d3', d5'⟩
            clear T d0' d3' d5' hB
            go_upto_region 15 with (fail)
            refine wp_region_open 100 (fun w' => w'.cell? ⟨b9, off9, none⟩ = some (.int .i64 6) ∧ w'.cell? ⟨b9, off9 + 3, none⟩ = some (.int .i64 5) ∧ w'.cell? ⟨b9, off9 + 3 + 2, none⟩ = some (.int .i64 y2)) (by kernel_rfl) ?_
            replace U := U.drew
            refine wpAnyL_readsG [0, 1, 2, 3, 4, 5, 6, 7, 8, 9, 10, 11, 12, 13, 14, 15, 16] (fuel := 26) (by kernel_rfl) U.out.2 ?_
            refine LexRG.yes rfl (by first | rfl | (simp [Region.wanted, yielded]; done)) ?_ (fun w' hw => ?_) ?_
            rotate_left
            focus (clear hw; go_simp; (try exact rfl))
            try go_frame
            refine LexRG.yes rfl (by first | rfl | (simp [Region.wanted, yielded]; done)) ?_ (fun w' hw => ?_) ?_
            rotate_left
            focus (clear hw; go_simp; (try exact rfl))
            try go_frame
            refine LexRG.yes rfl (by first | rfl | (simp [Region.wanted, yielded]; done)) ?_ (fun w' hw => ?_) ?_
            rotate_left
            focus (clear hw; go_simp; (try exact rfl))
            try go_frame
            refine LexRG.yes rfl (by first | rfl | (simp [Region.wanted, yielded]; done)) ?_ (fun w' hw => ?_) ?_
            rotate_left
            focus (clear hw; go_simp; (try exact rfl))
            try go_frame
            refine LexRG.yes rfl (by first | rfl | (simp [Region.wanted, yielded]; done)) ?_ (fun w' hw => ?_) ?_
            rotate_left
            focus (clear hw; go_simp; (try exact rfl))
            try go_frame
            refine LexRG.yes rfl (by first | rfl | (simp [Region.wanted, yielded]; done)) ?_ (fun w' hw => ?_) ?_
            rotate_left
            focus (clear hw; go_simp; (try exact rfl))
            try go_frame
            refine LexRG.yes rfl (by first | rfl | (simp [Region.wanted, yielded]; done)) ?_ (fun w' hw => ?_) ?_
            rotate_left
            focus (clear hw; go_simp; (try exact rfl))
            try go_frame
            refine LexRG.yes rfl (by first | rfl | (simp [Region.wanted, yielded]; done)) ?_ (fun w' hw => ?_) ?_
            rotate_left
            focus (have hw2 := hw; obtain ⟨d0, d3, d5⟩ := hw2; clear hw; go_simp; (try exact rfl))
            try go_frame
            refine LexRG.yes rfl (by first | rfl | (simp [Region.wanted, yielded]; done)) ?_ (fun w' hw => ?_) ?_
            rotate_left
            focus (clear hw; go_simp; (try exact rfl))
            try go_frame
            refine LexRG.yes rfl (by first | rfl | (simp [Region.wanted, yielded]; done)) ?_ (fun w' hw => ?_) ?_
            rotate_left
            focus (clear hw; go_simp; (try exact rfl))
            try go_frame
            refine LexRG.yes rfl (by first | rfl | (simp [Region.wanted, yielded]; done)) ?_ (fun w' hw => ?_) ?_
            rotate_left
            focus (clear hw; go_simp; (try exact rfl))
            try go_frame
            refine LexRG.yes rfl (by first | rfl | (simp [Region.wanted, yielded]; done)) ?_ (fun w' hw => ?_) ?_
            rotate_left
            focus (clear hw; go_simp; (try exact rfl))
            try go_frame
            refine LexRG.yes rfl (by first | rfl | (simp [Region.wanted, yielded]; done)) ?_ (fun w' hw => ?_) ?_
            rotate_left
            focus (clear hw; go_simp; (try exact rfl))
            try go_frame
            refine LexRG.yes rfl (by first | rfl | (simp [Region.wanted, yielded]; done)) ?_ (fun w' hw => ?_) ?_
            rotate_left
            focus (clear hw; go_simp; (try exact rfl))
            try go_frame
            refine LexRG.yes rfl (by first | rfl | (simp [Region.wanted, yielded]; done)) ?_ (fun w' hw => ?_) ?_
            rotate_left
            focus (have hw2 := hw; obtain ⟨d0, d3, d5⟩ := hw2; clear hw; go_simp; (try exact rfl))
            try go_frame
            refine LexRG.yes rfl (by first | rfl | (simp [Region.wanted, yielded]; done)) ?_ (fun w' hw => ?_) ?_
            rotate_left
            focus (clear hw; go_simp; (try exact rfl))
            try go_frame
            refine LexRG.yes rfl (by first | rfl | (simp [Region.wanted, yielded]; done)) ?_ (fun w' hw => ?_) ?_
            rotate_left
            focus (clear hw; go_simp; (try exact rfl))
            try go_frame
            refine LexRG.nil ?_
            refine wpAnyL_one (i := 17) (by kernel_rfl) ?_
            refine lexA_get rfl ?_
            try go_frame
            go_wp2_with fail
            refine (wordOf_any q V5.drew).mono ?_
            rw [HU.out]
            rintro e V1 ⟨rfl, rfl⟩
            go_wp2_with fail
            refine ⟨fun _ => U.out.2, ?_⟩
            refine wpAnyL_one (i := 18) (by kernel_rfl) ?_
            refine lexA_get rfl ?_
            try go_frame
            go_wp2_with fail
            refine (nextSt_any a u V5.drew).mono ?_
            rw [HY2.out]
            rintro e V2 ⟨rfl, rfl⟩
            go_wp2_with fail
            refine ⟨fun _ => U.out.2, ?_⟩
            refine wpAnyL_readsG [19, 20, 21, 22, 23, 24, 25, 26, 27, 28, 29, 30, 31, 32, 33, 34, 35, 36, 37] (fuel := 5) (by kernel_rfl) U.out.2 ?_
            refine LexRG.yes rfl (by first | rfl | (simp [Region.wanted, yielded]; done)) ?_ (fun w' hw => ?_) ?_
            rotate_left
            focus (clear hw; go_simp; (try exact rfl))
            try go_frame
            refine LexRG.yes rfl (by first | rfl | (simp [Region.wanted, yielded]; done)) ?_ (fun w' hw => ?_) ?_
            rotate_left
            focus (clear hw; go_simp; (try exact rfl))
            try go_frame
            refine LexRG.yes rfl (by first | rfl | (simp [Region.wanted, yielded]; done)) ?_ (fun w' hw => ?_) ?_
            rotate_left
            focus (clear hw; go_simp; (try exact rfl))
            try go_frame
            refine LexRG.yes rfl (by first | rfl | (simp [Region.wanted, yielded]; done)) ?_ (fun w' hw => ?_) ?_
            rotate_left
            focus (clear hw; go_simp; (try exact rfl))
            try go_frame
            refine LexRG.yes rfl (by first | rfl | (simp [Region.wanted, yielded]; done)) ?_ (fun w' hw => ?_) ?_
            rotate_left
            focus (clear hw; go_simp; (try exact rfl))
            try go_frame
            refine LexRG.yes rfl (by first | rfl | (simp [Region.wanted, yielded]; done)) ?_ (fun w' hw => ?_) ?_
            rotate_left
            focus (clear hw; go_simp; (try exact rfl))
            try go_frame
            refine LexRG.yes rfl (by first | rfl | (simp [Region.wanted, yielded]; done)) ?_ (fun w' hw => ?_) ?_
            rotate_left
            focus (have hw2 := hw; obtain ⟨d0, d3, d5⟩ := hw2; clear hw; go_simp; (try exact rfl))
            try go_frame
            refine LexRG.yes rfl (by first | rfl | (simp [Region.wanted, yielded]; done)) ?_ (fun w' hw => ?_) ?_
            rotate_left
            focus (clear hw; go_simp; (try exact rfl))
            try go_frame
            refine LexRG.yes rfl (by first | rfl | (simp [Region.wanted, yielded]; done)) ?_ (fun w' hw => ?_) ?_
            rotate_left
            focus (clear hw; go_simp; (try exact rfl))
            try go_frame
            refine LexRG.yes rfl (by first | rfl | (simp [Region.wanted, yielded]; done)) ?_ (fun w' hw => ?_) ?_
            rotate_left
            focus (clear hw; go_simp; (try exact rfl))
            try go_frame
            refine LexRG.yes rfl (by first | rfl | (simp [Region.wanted, yielded]; done)) ?_ (fun w' hw => ?_) ?_
            rotate_left
            focus (clear hw; go_simp; (try exact rfl))
            try go_frame
            refine LexRG.yes rfl (by first | rfl | (simp [Region.wanted, yielded]; done)) ?_ (fun w' hw => ?_) ?_
            rotate_left
            focus (clear hw; go_simp; (try exact rfl))
            try go_frame
            refine LexRG.yes rfl (by first | rfl | (simp [Region.wanted, yielded]; done)) ?_ (fun w' hw => ?_) ?_
            rotate_left
            focus (have hw2 := hw; obtain ⟨d0, d3, d5⟩ := hw2; clear hw; go_simp; (try exact rfl))
            try go_frame
            refine LexRG.yes rfl (by first | rfl | (simp [Region.wanted, yielded]; done)) ?_ (fun w' hw => ?_) ?_
            rotate_left
            focus (clear hw; go_simp; (try exact rfl))
            try go_frame
            refine LexRG.yes rfl (by first | rfl | (simp [Region.wanted, yielded]; done)) ?_ (fun w' hw => ?_) ?_
            rotate_left
            focus (clear hw; go_simp; (try exact rfl))
            try go_frame
            refine LexRG.yes rfl (by first | rfl | (simp [Region.wanted, yielded]; done)) ?_ (fun w' hw => ?_) ?_
            rotate_left
            focus (clear hw; go_simp; (try exact rfl))
            try go_frame
            refine LexRG.yes rfl (by first | rfl | (simp [Region.wanted, yielded]; done)) ?_ (fun w' hw => ?_) ?_
            rotate_left
            focus (clear hw; go_simp; (try exact rfl))
            try go_frame
            refine LexRG.yes rfl (by first | rfl | (simp [Region.wanted, yielded]; done)) ?_ (fun w' hw => ?_) ?_
            rotate_left
            focus (clear hw; go_simp; (try exact rfl))
            try go_frame
            refine LexRG.yes rfl (by first | rfl | (simp [Region.wanted, yielded]; done)) ?_ (fun w' hw => ?_) ?_
            rotate_left
            focus (clear hw; go_simp; (try exact rfl))
            try go_frame
            refine LexRG.nil ?_
            refine wpAnyL_one (i := 38) (by kernel_rfl) ?_
            refine lexA_get rfl ?_
            try go_frame
            go_wp2_with fail
            replace U := U.alloc (.cells #[.string q, .string ⟨#[114, 111, 108, 108, 98, 97, 99, 107]⟩] 9)
            refine ⟨fun _ => U.out.2, ?_⟩
            refine wpAnyL_one (i := 39) (by kernel_rfl) ?_
            refine lexA_get rfl ?_
            try go_frame
            go_wp2_with fail
            refine (walk_any a (some ⟨V5.drew.heap.size, 0, none⟩) 2 [q, qBack] (V5.drew.alloc (.cells #[.string q, .string ⟨#[114, 111, 108, 108, 98, 97, 99, 107]⟩] 9)) (reads_new V5.drew #[.string q, .string ⟨#[114, 111, 108, 108, 98, 97, 99, 107]⟩] 2 9 rfl (by simp [maxLen])) (by simp [maxLen])).mono ?_
            rw [walk_back]
            rintro e V3 ⟨rfl, rfl⟩
            go_wp2_with fail
            refine ⟨fun _ => U.out.2, ?_⟩
            refine wpAnyL_readsG [40, 41] (fuel := 1) (by kernel_rfl) U.out.2 ?_
            refine LexRG.yes rfl (by first | rfl | (simp [Region.wanted, yielded]; done)) ?_ (fun w' hw => ?_) ?_
            rotate_left
            focus (clear hw; go_simp; (try exact rfl))
            try go_frame
            refine LexRG.yes rfl (by first | rfl | (simp [Region.wanted, yielded]; done)) ?_ (fun w' hw => ?_) ?_
            rotate_left
            focus (clear hw; go_simp; (try exact rfl))
            try go_frame
            refine LexRG.nil ?_
            refine wpAnyL_writes [42] (by kernel_rfl) (LexW.cons rfl ?_)
            try go_frame
            go_wp2_with fail
            refine ⟨fun _ => U.out.2, LexW.nil ?_⟩
            have hfin := U.out.1.1.1
            go_wp2_with fail
            go_ret
            exact ⟨rfl, hfin⟩

end Go.Proofs.Ytlenidiijiinjaa
