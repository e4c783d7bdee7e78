/- Any list of databases that is drawn. -/
import Derived.Test.YtannedjfmgflpaaDoorDrawConf
namespace Go.Proofs.YtannedjfmgflpaaDoor
open Go.RowKit
set_option maxRecDepth 100000
set_option linter.unusedVariables false

def flatL (xs : List Db) : List Value := xs.flatMap dbC
theorem flatL_append (xs ys : List Db) : flatL (xs ++ ys) = flatL xs ++ flatL ys := by simp [flatL]
theorem flatL_length (xs : List Db) : (flatL xs).length = xs.length * 5 := by
  induction xs with
  | nil => rfl
  | cons x r ih =>
    show (dbC x ++ flatL r).length = (r.length + 1) * 5
    rw [List.length_append, ih]
    show 5 + r.length * 5 = (r.length + 1) * 5
    omega
theorem seg_flat : ∀ (xs : List Db) (i : Nat) (x : Db), xs[i]? = some x → Rep.seg 5 i (flatL xs) = dbC x := by
  intro xs
  induction xs with
  | nil => intro i x h; simp at h
  | cons y r ih =>
    intro i x h
    cases i with
    | zero =>
      have h2 : y = x := by simpa using h
      subst h2
      rfl
    | succ i =>
      have h2 : r[i]? = some x := by simpa using h
      rw [← ih i x h2]
      show ((dbC y ++ flatL r).drop ((i + 1) * 5)).take 5 = ((flatL r).drop (i * 5)).take 5
      have e : (i + 1) * 5 = (dbC y).length + i * 5 := by show (i + 1) * 5 = 5 + i * 5; omega
      rw [e, List.drop_length_add_append]
theorem flat_of : ∀ (xs : List Db) (cells : List Value), cells.length = xs.length * 5 → (∀ i x, xs[i]? = some x → Rep.seg 5 i cells = dbC x) → cells = flatL xs := by
  intro xs
  induction xs with
  | nil => intro cells hl _; exact List.eq_nil_of_length_eq_zero (by simpa using hl)
  | cons y r ih =>
    intro cells hl h
    have h0 : cells.take 5 = dbC y := by simpa [Rep.seg] using h 0 y rfl
    have h1 := ih (cells.drop 5) (by simp at hl ⊢; omega) fun i x hx => by
      rw [← h (i + 1) x (by simpa using hx)]
      unfold Rep.seg
      rw [List.drop_drop]
      congr 2
      omega
    show cells = dbC y ++ flatL r
    rw [← h0, ← h1, List.take_append_drop]
theorem one_flat (xs : List Db) : ∀ u ∈ flatL xs, u.oneCell' = true := by
  intro u hu
  obtain ⟨x, _, hx⟩ := List.mem_flatMap.1 hu
  simp only [dbC, List.mem_cons, List.not_mem_nil, or_false] at hx
  rcases hx with rfl | rfl | rfl | rfl | rfl <;> rfl
theorem rows_flat {w : World} {base : Nat} {v : Value} {xs : List Db} {fp : List Nat} (h : Rep.OwnRows dbR 35 w base v xs fp) : w.ownsRow base 35 5 v xs.length (flatL xs) ∧ ∀ k, v.ownBlock = some k → base ≤ k ∧ k ∈ fp := by
  obtain ⟨cells, fps, hrow, hl, he, hfp, hn⟩ := h
  have hc := flat_of xs cells hrow.1 fun i x hx => by
    obtain ⟨f, hf⟩ := Rep.getElem?_of_lt hl (List.getElem?_eq_some_iff.1 hx).1
    exact (db_own_nil (he i x f hx hf)).1
  rw [← hc]
  exact ⟨hrow, fun k hk => ⟨(hrow.lt k hk).1, by rw [hfp, hk]; simp⟩⟩
theorem rows_of {w : World} {base : Nat} {v : Value} {xs : List Db} (h : w.ownsRow base 35 5 v xs.length (flatL xs)) : ∃ fp, Rep.OwnRows dbR 35 w base v xs fp := by
  refine ⟨_, flatL xs, List.replicate xs.length [], h, by simp, fun i x f hx hf => ?_, rfl, ?_⟩
  · have hf2 : f = [] := by
      rw [List.getElem?_replicate] at hf
      split at hf
      · injection hf with hf; exact hf.symm
      · cases hf
    subst hf2
    show dbR.own w base (Rep.seg 5 i (flatL xs)) x []
    rw [seg_flat xs i x hx]
    exact db_own w base x
  · rw [show (List.replicate xs.length ([] : List Nat)).flatten = [] by simp, List.append_nil]
    exact Rep.nodup_toList _
theorem rows_reads {w : World} {B n : Nat} {A : Option Addr} {xs : List Db} (h : Rep.RowsAt dbR w B A n xs) : Reads w B 5 A n (flatL xs) := by
  obtain ⟨hl, cells, hr, he⟩ := h
  subst hl
  have hc := flat_of xs cells hr.1 fun i x hx => db_cells (he i x hx)
  rw [← hc]
  exact hr

theorem L3.block {w wr : World} {lo g : Nat} {A : Option Addr} {n c : Nat} {code : List UInt8} {v : Value} {xs : List Db} {fp : List Nat} (h : L3 w lo g A n c code v xs fp wr) (h0 : 0 < xs.length) : ∃ G cap, v = .slice (some ⟨G, 0, none⟩) xs.length cap := by
  obtain ⟨cells, fps, hrow, _⟩ := h.own
  rcases hrow.2 with ⟨_, h1⟩ | ⟨G, cap, cur, rfl, _⟩
  · omega
  · exact ⟨G, cap, rfl⟩
theorem L3.of_draw {w w1 w2 : World} {lo g : Nat} {A : Option Addr} {n c : Nat} {code : List UInt8} {A2 : Option Addr} {c2 : Nat} {xs : List Db} {fp : List Nat} (hown : dbsR.own w2 w1.heap.size [.slice A2 xs.length c2] xs fp) (hc : Cur w2 lo g A n c code) (ho : Rep.Only w1 w2 [g]) (h0 : Rep.Only w w1 [g]) (hlt : g < w.heap.size) (hlo : lo ≤ g) : L3 w lo g A n c code (.slice A2 xs.length c2) xs fp w2 := by
  obtain ⟨v, hv, hr⟩ := hown
  injection hv with hv _
  subst hv
  exact ⟨hr.low h0.size, hc, h0.trans ho, hlt, hlo⟩
/-- An element's cells. -/
theorem L3.cells {w wr : World} {lo g : Nat} {A : Option Addr} {n c : Nat} {code : List UInt8} {G m cap k : Nat} {xs : List Db} {fp : List Nat} {x : Db} (h : L3 w lo g A n c code (.slice (some ⟨G, 0, none⟩) m cap) xs fp wr) (hx : xs[k]? = some x) :
    (wr.cell? ⟨G, k * 5, none⟩ = some (.string x.name) ∧ wr.cell? ⟨G, k * 5 + 1, none⟩ = some (.int .i64 x.size) ∧ wr.cell? ⟨G, k * 5 + 2, none⟩ = some (.int .i64 x.queue) ∧ wr.cell? ⟨G, k * 5 + 3, none⟩ = some (.int .i64 x.wait) ∧ wr.cell? ⟨G, k * 5 + 4, none⟩ = some (.int .i64 x.idle)) ∧ (∀ j, wr.frozen? ⟨G, j, none⟩ = false) ∧ G < wr.heap.size := by
  obtain ⟨cs, f, hown, hc, hfz, _, _, _, _, hlt, _⟩ := h.own.open_ hx
  obtain ⟨rfl, rfl⟩ := db_own_nil hown
  exact ⟨⟨hc 0 _ rfl, hc 1 _ rfl, hc 2 _ rfl, hc 3 _ rfl, hc 4 _ rfl⟩, hfz, hlt⟩

set_option maxRecDepth 100000 in
set_option maxHeartbeats 8000000 in
theorem l3Any_any (lo g : Nat) (A : Option Addr) (n c : Nat) (code : List UInt8) (w : World) (h : Cur w lo g A n c code) (hn : n ≤ 140737488351232) :
    Calls Tryd.prog 30 #[.pointer (some ⟨g, 0, none⟩)] w (RetDraw3 w lo g A n c code (FewDbs 7)) := by
  obtain ⟨j0, hj0, hz0, hz1, hz2⟩ := info_parts Tryd.infoDb
  have hglt := h.lt
  have hlg := h.from_
  go_enter Tryd.func30, Tryd.ntmps30
  go_wp2_with fail
  refine (l3Draw_any lo g A n c code w h hn).mono ?_
  rintro e W1 ⟨A2, c2, xs, fp, rfl, hP, hown, hc1, ho1⟩
  have L := L3.of_draw hown hc1 ho1 (Rep.Only.refl w [g]) hglt hlg
  obtain ⟨hfew, h1⟩ := hP
  have hlen := hfew.1
  have HF := Lib.hid hfew
  obtain ⟨G, cap, hv⟩ := L.block (by omega)
  injection hv with hv1 _ hv2
  subst hv1 hv2
  clear hown hc1 ho1 hfew h hglt hlg
  go_wp2_with fail
  refine (l1Below_any lo g A n c code xs.length W1 L.cur hn (by omega) (by omega)).mono ?_
  rintro e W2 ⟨i, hi, rfl, hc2, hg2⟩
  replace L := L.step hc2 (only_g hg2)
  clear hc2 hg2
  go_wp2_with fail
  refine (l1Below_any lo g A n c code 12 W2 L.cur hn (by omega) (by omega)).mono ?_
  rintro e W3 ⟨k, hk, rfl, hc3, hg3⟩
  replace L := L.step hc3 (only_g hg3)
  clear hc3 hg3
  obtain ⟨x, hx⟩ := Rep.getElem?_of_lt (xs := xs) rfl hi
  have hxn := HF.out.2 x (List.mem_of_getElem? hx)
  have HX := Lib.hid hx
  have i0 : (0 : Int) ≤ (i : Int) := by omega
  have i1 : (i : Int) < (xs.length : Int) := by omega
  clear hx
  have split : k = 0 ∨ k = 1 ∨ k = 2 ∨ k = 3 ∨ k = 4 ∨ k = 5 ∨ k = 6 ∨ k = 7 ∨ 8 ≤ k := by omega
  rcases split with rfl | rfl | rfl | rfl | rfl | rfl | rfl | rfl | h8
  · go_wp2_with fail
    refine (draw_str lo g A n c code [⟨#[]⟩, ⟨#[77, 97, 105, 110]⟩, ⟨#[110, 105, 110, 101, 99, 104, 97, 114, 115]⟩, ⟨#[97, 58, 98]⟩] W3 L.cur hn (by decide) (by decide)).mono ?_
    rintro e W4 ⟨z, hz, rfl, hc4, ho4⟩
    have hzs : z.size ≤ 100 := by simp only [List.mem_cons, List.not_mem_nil, or_false] at hz; rcases hz with rfl | rfl | rfl | rfl <;> decide
    replace L := L.step hc4 ho4
    clear hz hc4 ho4
    obtain ⟨⟨q0, q1, q2, q3, q4⟩, fz, hG⟩ := L.cells HX.out
    have fj := fz (i * 5)
    clear fz
    go_wp2_with fail
    replace L := L.set HX.out ⟨z, x.size, x.queue, x.wait, x.idle⟩ 0 (.string z) (by decide) rfl
    clear q0 q1 q2 q3 q4 fj hG
    go_ret
    exact L.ret (FewDbs.more (m := 3) (HF.out.set hzs) (by omega))
  · go_wp2_with fail
    refine (draw_int lo g A n c code [0, 3, 4] W3 L.cur hn (by decide) (by decide)).mono ?_
    rintro e W4 ⟨z, hz, rfl, hc4, ho4⟩
    replace L := L.step hc4 ho4
    clear hz hc4 ho4
    obtain ⟨⟨q0, q1, q2, q3, q4⟩, fz, hG⟩ := L.cells HX.out
    have fj := fz (i * 5 + 1)
    clear fz
    go_wp2_with fail
    replace L := L.set HX.out ⟨x.name, z, x.queue, x.wait, x.idle⟩ 1 (.int .i64 z) (by decide) rfl
    clear q0 q1 q2 q3 q4 fj hG
    go_ret
    exact L.ret (FewDbs.more (m := 3) (HF.out.set hxn) (by omega))
  · go_wp2_with fail
    refine (draw_int lo g A n c code [-1, 4, 5] W3 L.cur hn (by decide) (by decide)).mono ?_
    rintro e W4 ⟨z, hz, rfl, hc4, ho4⟩
    replace L := L.step hc4 ho4
    clear hz hc4 ho4
    obtain ⟨⟨q0, q1, q2, q3, q4⟩, fz, hG⟩ := L.cells HX.out
    have fj := fz (i * 5 + 2)
    clear fz
    go_wp2_with fail
    replace L := L.set HX.out ⟨x.name, x.size, z, x.wait, x.idle⟩ 2 (.int .i64 z) (by decide) rfl
    clear q0 q1 q2 q3 q4 fj hG
    go_ret
    exact L.ret (FewDbs.more (m := 3) (HF.out.set hxn) (by omega))
  · go_wp2_with fail
    refine (draw_int lo g A n c code [0, 20, 21] W3 L.cur hn (by decide) (by decide)).mono ?_
    rintro e W4 ⟨z, hz, rfl, hc4, ho4⟩
    replace L := L.step hc4 ho4
    clear hz hc4 ho4
    obtain ⟨⟨q0, q1, q2, q3, q4⟩, fz, hG⟩ := L.cells HX.out
    have fj := fz (i * 5 + 3)
    clear fz
    go_wp2_with fail
    replace L := L.set HX.out ⟨x.name, x.size, x.queue, z, x.idle⟩ 3 (.int .i64 z) (by decide) rfl
    clear q0 q1 q2 q3 q4 fj hG
    go_ret
    exact L.ret (FewDbs.more (m := 3) (HF.out.set hxn) (by omega))
  · go_wp2_with fail
    refine (draw_int lo g A n c code [0, 20, 21] W3 L.cur hn (by decide) (by decide)).mono ?_
    rintro e W4 ⟨z, hz, rfl, hc4, ho4⟩
    replace L := L.step hc4 ho4
    clear hz hc4 ho4
    obtain ⟨⟨q0, q1, q2, q3, q4⟩, fz, hG⟩ := L.cells HX.out
    have fj := fz (i * 5 + 4)
    clear fz
    go_wp2_with fail
    replace L := L.set HX.out ⟨x.name, x.size, x.queue, x.wait, z⟩ 4 (.int .i64 z) (by decide) rfl
    clear q0 q1 q2 q3 q4 fj hG
    go_ret
    exact L.ret (FewDbs.more (m := 3) (HF.out.set hxn) (by omega))
  · obtain ⟨⟨q0, q1, q2, q3, q4⟩, fz, hG⟩ := L.cells HX.out
    clear fz
    go_wp2_with (at_builtin
                 have hnew := reads_lit W3 #[.string x.name, .int .i64 x.size, .int .i64 x.queue, .int .i64 x.wait, .int .i64 x.idle] 5 1 35 (g := W3.heap.size) rfl rfl (by simp [maxLen])
                 replace L := L.alloc (.cells #[.string x.name, .int .i64 x.size, .int .i64 x.queue, .int .i64 x.wait, .int .i64 x.idle] 35)
                 go_must (refine Rep.wpList_push _ rfl (.tmp 60) (.tmp 65) _ rfl dbR w.heap.size 35 j0 _ 48 Tryd.underlying24 hj0 hz0 hz1 hz2 rfl (by decide) (.slice (some ⟨G, 0, none⟩) xs.length c2) xs fp rfl L.own _ 1 _ x [] rfl hnew (by simp [Value.oneCell']) (db_own _ _ x) (fun g hg hg' => by cases hg) (by simp only [maxLen]; omega) (by omega) (by have := L.only.size; exact this) ?_)
                 intro A7 c7 w2 fp2 hown2 hg2 hf2 hv2
                 clear hnew)
    have L2 := L.grown hown2 hg2 hv2
    clear L hown2 hg2 hf2 hv2 q0 q1 q2 q3 q4 hG
    have L3' : L3 w lo g A n c code (.slice A7 (xs ++ [x]).length c7) (xs ++ [x]) fp2 w2 := by simpa using L2
    go_ret
    exact by simpa using L3'.ret (FewDbs.more (m := 4) (HF.out.push hxn) (by omega))
  · go_wp2_with fail
    obtain ⟨fq, hfq⟩ := rows_of (xs := []) (show (W3.alloc (.cells #[] 35)).ownsRow w.heap.size 35 5 (.slice (some ⟨W3.heap.size, 0, none⟩) 0 0) 0 [] from World.ownsRow_lit W3 #[] 0 (Nat.le_trans L.only.size (Nat.le_refl _)) (by simp) (by simp))
    have La := L.alloc (.cells #[] 35)
    have L2 : L3 w lo g A n c code (.slice (some ⟨W3.heap.size, 0, none⟩) ([] : List Db).length 0) [] fq (W3.alloc (.cells #[] 35)) := ⟨hfq, La.cur, La.only, La.lt, La.from_⟩
    go_ret
    exact L2.ret ⟨by simp, by simp⟩
  · have hown := rows_flat L.own
    go_wp2_with (at_builtin
                 have hnew := reads_lit W3 (flatL [⟨⟨#[112]⟩, 1, 0, 1, 1⟩, ⟨⟨#[113]⟩, 1, 0, 1, 1⟩, ⟨⟨#[114]⟩, 1, 0, 1, 1⟩]).toArray 5 3 35 (g := W3.heap.size) rfl rfl (by simp [maxLen])
                 replace L := L.alloc (.cells (flatL [⟨⟨#[112]⟩, 1, 0, 1, 1⟩, ⟨⟨#[113]⟩, 1, 0, 1, 1⟩, ⟨⟨#[114]⟩, 1, 0, 1, 1⟩]).toArray 35)
                 have hown := rows_flat L.own
                 go_must (refine wpList_append_any _ rfl (.tmp 72) (.tmp 76) _ rfl w.heap.size 35 j0 _ 5 48 Tryd.underlying24 hj0 hz0 hz1 hz2 rfl (by omega) (.slice (some ⟨G, 0, none⟩) xs.length c2) xs.length (flatL xs) rfl hown.1 _ _ 3 _ (flatL [⟨⟨#[112]⟩, 1, 0, 1, 1⟩, ⟨⟨#[113]⟩, 1, 0, 1, 1⟩, ⟨⟨#[114]⟩, 1, 0, 1, 1⟩]) rfl hnew (one_flat _) (by simp only [maxLen]; omega) (by omega) (by have := L.only.size; exact this) ?_)
                 intro v2 w2 hown2 hg2 hat2
                 clear hnew)
    rw [← flatL_append] at hown2
    obtain ⟨fq, hfq⟩ := rows_of (xs := xs ++ [⟨⟨#[112]⟩, 1, 0, 1, 1⟩, ⟨⟨#[113]⟩, 1, 0, 1, 1⟩, ⟨⟨#[114]⟩, 1, 0, 1, 1⟩]) (by simpa using hown2)
    have L2 := L.grown hfq hg2 hown.2
    clear L hown hown2 hg2 hat2 hfq
    go_ret
    exact L2.ret (FewDbs.more (m := 6) (by simpa using ((HF.out.push (x := ⟨⟨#[112]⟩, 1, 0, 1, 1⟩) (by decide)).push (x := ⟨⟨#[113]⟩, 1, 0, 1, 1⟩) (by decide)).push (x := ⟨⟨#[114]⟩, 1, 0, 1, 1⟩) (by decide)) (by omega))
  · have b0 : ((k : Int) == 0) = false := by simp; omega
    have b1 : ((k : Int) == 1) = false := by simp; omega
    have b2 : ((k : Int) == 2) = false := by simp; omega
    have b3 : ((k : Int) == 3) = false := by simp; omega
    have b4 : ((k : Int) == 4) = false := by simp; omega
    have b5 : ((k : Int) == 5) = false := by simp; omega
    have b6 : ((k : Int) == 6) = false := by simp; omega
    have b7 : ((k : Int) == 7) = false := by simp; omega
    go_wp2_with fail
    go_ret
    exact L.ret (FewDbs.more (m := 3) HF.out (by omega))

end Go.Proofs.YtannedjfmgflpaaDoor
