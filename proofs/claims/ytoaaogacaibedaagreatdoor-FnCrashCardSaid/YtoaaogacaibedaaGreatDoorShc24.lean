/- What the theorem needs, out of many texts. -/
import Derived.Test.YtoaaogacaibedaaGreatDoorShc23
namespace Go.Proofs.YtoaaogacaibedaaGreatDoor
open Go.RowKit
set_option maxRecDepth 100000
set_option linter.unusedVariables false
def KindOk (r : Rec) : Prop := (r.kind = 1 ∧ r.owner = 0 ∧ txtB r.text = true) ∨ (r.kind = 2 ∧ r.owner = 0 ∧ nilB r.text = true) ∨ (r.kind = 3 ∧ (0 ≤ r.owner ∧ r.owner ≤ 1) ∧ nilB r.text = true)
def RetDb3G (w : World) (lo g : Nat) (A : Option Addr) (n c : Nat) (code : List UInt8) (e : Ending) (w' : World) : Prop :=
 ∃ x : Db, e = .returned (.agg #[.string x.name, .int .i64 x.size, .int .i64 x.queue, .int .i64 x.wait, .int .i64 x.idle]) ∧ (x.name.size ≤ 100 ∧ dbB x = true) ∧ Cur w' lo g A n c code ∧ Rep.Only w w' [g]
def RetRec4G (w : World) (lo g : Nat) (A : Option Addr) (n c : Nat) (code : List UInt8) (e : Ending) (w' : World) : Prop :=
 ∃ r : Rec, e = .returned (.agg #[.int .i64 r.kind, .int .i64 r.n, .int .i64 r.owner, .string r.text]) ∧ (r.text.size ≤ 100 ∧ KindOk r ∧ 1 ≤ r.n ∧ r.n ≤ 6) ∧ Cur w' lo g A n c code ∧ Rep.Only w w' [g]
theorem conf_push {xs : List Db} {x : Db} (h : ConfTo xs xs.length) (hx : dbB x = true) (hn : ∀ (j : Nat) (y : Db), xs[j]? = some y → y.name ≠ x.name) : ConfTo (xs ++ [x]) (xs ++ [x]).length := by
 have h1 : ConfTo (xs ++ [x]) xs.length := by
  refine ⟨fun i y hi hy => ?_, fun i j y z hj hi hy hz => ?_⟩
  ·rw [List.getElem?_append_left hi] at hy
   exact h.1 i y hi hy
  ·rw [List.getElem?_append_left hi] at hy
   rw [List.getElem?_append_left (by omega)] at hz
   exact h.2 i j y z hj hi hy hz
 rw [show (xs ++ [x]).length = xs.length + 1 by simp]
 refine h1.succ (by simp) hx (fun j y hj hy => ?_)
 rw [List.getElem?_append_left hj] at hy
 exact hn j y hy
theorem V4.retG {w w1 : World} {lo g : Nat} {A : Option Addr} {n c : Nat} {code : List UInt8} {D : Nat} {k m o : Int} {t : ByteArray} (h : V4 w lo g A n c code D ⟨k, m, o, t⟩ w1) (ht : t.size ≤ 100 ∧ KindOk ⟨k, m, o, t⟩ ∧ 1 ≤ m ∧ m ≤ 6) :
  RetRec4G w lo g A n c code (.returned (.agg #[.int .i64 k, .int .i64 m, .int .i64 o, .string t])) ((((w1.setCell ⟨w.heap.size, 0, none⟩ (.int .i64 k)).setCell ⟨w.heap.size, 1, none⟩ (.int .i64 m)).setCell ⟨w.heap.size, 2, none⟩ (.int .i64 o)).setCell ⟨w.heap.size, 3, none⟩ (.string t)) := by
 have ho := putR4_only w1 w.heap.size (.int .i64 k) (.int .i64 m) (.int .i64 o) (.string t)
 have h2 := h.lt
 have h3 := h.from_
 exact ⟨⟨k, m, o, t⟩, rfl, ht, h.cur.only ho (by simp; omega) (fun a ha => by simp at ha; omega), h.only.then ho (fun a ha => .inr (by simp at ha; omega))⟩
set_option maxRecDepth 100000 in
set_option maxHeartbeats 4000000 in
theorem l3One_good (lo g : Nat) (A : Option Addr) (n c : Nat) (code : List UInt8) (w : World) (h : Cur w lo g A n c code) (hn : n ≤ 140737488351232) :
  Calls Tryz.prog 142 #[.pointer (some ⟨g, 0, none⟩)] w (RetDb3G w lo g A n c code) := by
 have hglt := h.lt
 have hlg := h.from_
 go_enter Tryz.func142, Tryz.ntmps142
 go_wp2_with fail
 have ho1 := Rep.only_alloc w (.cells #[.string ⟨#[]⟩, .int .i64 0, .int .i64 0, .int .i64 0, .int .i64 0] 159)
 have hv1 := heap_alloc_new w (.cells #[.string ⟨#[]⟩, .int .i64 0, .int .i64 0, .int .i64 0, .int .i64 0] 159)
 have hs1 : (w.alloc (.cells #[.string ⟨#[]⟩, .int .i64 0, .int .i64 0, .int .i64 0, .int .i64 0] 159)).heap.size = w.heap.size + 1 := by simp
 generalize hgW : w.alloc (.cells #[.string ⟨#[]⟩, .int .i64 0, .int .i64 0, .int .i64 0, .int .i64 0] 159) = W1 at ho1 hv1 hs1 ⊢
 clear hgW
 have hc1 := h.only ho1 (by simp) (fun a ha => by cases ha)
 have O1 : Rep.Only w W1 [g] := ho1.mono (by simp)
 have V1 := Lib.hid hv1
 clear ho1 hv1 h
 rw [← hs1]
 refine (draw_str lo g A n c code [⟨#[109, 97, 105, 110]⟩, ⟨#[109, 97, 105, 110]⟩, ⟨#[108, 111, 103, 115]⟩, ⟨#[120]⟩] W1 hc1 hn (by decide) (by decide)).mono ?_
 rintro e W2 ⟨x1, hx1, rfl, hc2, ho⟩
 have X1 : x1.size ≤ 100 := by simp only [List.mem_cons, List.not_mem_nil, or_false] at hx1; rcases hx1 with rfl | rfl | rfl | rfl <;> decide
 have V2 := Rep.var_only V1 ho (by omega) (by simp; omega)
 have O2 := O1.then ho (fun a ha => .inl ha)
 have s2 := ho.size
 have N1 : nameB x1.data.toList = true := by simp only [List.mem_cons, List.not_mem_nil, or_false] at hx1; rcases hx1 with rfl | rfl | rfl | rfl <;> decide
 clear ho hc1 V1 O1 hx1
 go_wp2_with fail
 refine (l1Below_any lo g A n c code 3 W2 hc2 hn (by omega) (by omega)).mono ?_
 rintro e W3 ⟨x2, hx2, rfl, hc3, hg⟩
 have ho := only_g hg
 have V3 := Rep.var_only V2 ho (by omega) (by simp; omega)
 have O3 := O2.then ho (fun a ha => .inl ha)
 have s3 := ho.size
 clear ho hg hc2 V2 O2
 go_wp2_with fail
 refine (l1Below_any lo g A n c code 5 W3 hc3 hn (by omega) (by omega)).mono ?_
 rintro e W4 ⟨x3, hx3, rfl, hc4, hg⟩
 have ho := only_g hg
 have V4 := Rep.var_only V3 ho (by omega) (by simp; omega)
 have O4 := O3.then ho (fun a ha => .inl ha)
 have s4 := ho.size
 clear ho hg hc3 V3 O3
 go_wp2_with fail
 refine (draw_int lo g A n c code [1, 2, 5, 20] W4 hc4 hn (by decide) (by decide)).mono ?_
 rintro e W5 ⟨x4, hx4, rfl, hc5, ho⟩
 have V5 := Rep.var_only V4 ho (by omega) (by simp; omega)
 have O5 := O4.then ho (fun a ha => .inl ha)
 have s5 := ho.size
 have N4 : inI x4 1 20 = true := by simp only [List.mem_cons, List.not_mem_nil, or_false] at hx4; rcases hx4 with rfl | rfl | rfl | rfl <;> decide
 clear ho hx4 hc4 V4 O4
 go_wp2_with fail
 refine (draw_int lo g A n c code [1, 3, 20] W5 hc5 hn (by decide) (by decide)).mono ?_
 rintro e W6 ⟨x5, hx5, rfl, hc6, ho⟩
 have V6 := Rep.var_only V5 ho (by omega) (by simp; omega)
 have O6 := O5.then ho (fun a ha => .inl ha)
 have s6 := ho.size
 have N5 : inI x5 1 20 = true := by simp only [List.mem_cons, List.not_mem_nil, or_false] at hx5; rcases hx5 with rfl | rfl | rfl <;> decide
 have GX := Lib.hid (show x1.size ≤ 100 ∧ dbB ⟨x1, 1 + (x2 : Int), (x3 : Int), x4, x5⟩ = true by
  refine ⟨X1, ?_⟩
  have m2 : inI (1 + (x2 : Int)) 1 3 = true := decide_eq_true (by omega)
  have m3 : inI (x3 : Int) 0 4 = true := decide_eq_true (by omega)
  show (nameB x1.data.toList && inI (1 + (x2 : Int)) 1 3 && inI (x3 : Int) 0 4 && inI x4 1 20 && inI x5 1 20) = true
  rw [N1, m2, m3, N4, N5]
  rfl)
 clear ho hx5 hc5 V5 O5 N1 N4 N5
 have q0 : W6.cell? ⟨w.heap.size, 0, none⟩ = some (.string ⟨#[]⟩) := var_cell V6.out 0
 have q1 : W6.cell? ⟨w.heap.size, 1, none⟩ = some (.int .i64 0) := var_cell V6.out 1
 have q2 : W6.cell? ⟨w.heap.size, 2, none⟩ = some (.int .i64 0) := var_cell V6.out 2
 have q3 : W6.cell? ⟨w.heap.size, 3, none⟩ = some (.int .i64 0) := var_cell V6.out 3
 have q4 : W6.cell? ⟨w.heap.size, 4, none⟩ = some (.int .i64 0) := var_cell V6.out 4
 have f0 := var_frozen V6.out 0
 have f1 := var_frozen V6.out 1
 have f2 := var_frozen V6.out 2
 have f3 := var_frozen V6.out 3
 have f4 := var_frozen V6.out 4
 have hlt : w.heap.size < W6.heap.size := by omega
 have o8 := putD5_only W6 w.heap.size (.string x1) (.int .i64 (1 + (x2 : Int))) (.int .i64 (x3 : Int)) (.int .i64 x4) (.int .i64 x5)
 have HE := Lib.hid (And.intro (hc6.only o8 (by simp; omega) (fun a ha => by simp at ha; omega)) (O6.then o8 (fun a ha => .inr (by simp at ha; omega))))
 clear hc6 O6 o8 V6
 go_wp2_with fail
 refine bodyPost_ret (v := .agg #[.string x1, .int .i64 (1 + (x2 : Int)), .int .i64 (x3 : Int), .int .i64 x4, .int .i64 x5]) (by simp [results, Tryz.results142, go_sem, q0, q1, q2, q3, q4]) rfl ⟨⟨x1, 1 + (x2 : Int), (x3 : Int), x4, x5⟩, rfl, GX.out, HE.out.1, HE.out.2⟩
set_option maxRecDepth 100000 in
set_option maxHeartbeats 4000000 in
theorem l3Draw_good (lo g : Nat) (A : Option Addr) (n c : Nat) (code : List UInt8) (w : World) (h : Cur w lo g A n c code) (hn : n ≤ 140737488351232) :
    Calls Tryz.prog 109 #[.pointer (some ⟨g, 0, none⟩)] w (RetDraw3 w lo g A n c code (fun xs => (FewDbs 3 xs ∧ 1 ≤ xs.length) ∧ ConfTo xs xs.length)) := by
  obtain ⟨j0, hj0, hz0, hz1, hz2⟩ := info_parts Tryz.infoDb
  have hown0 := rows_lit' w 159 dbR (by decide) (Nat.le_refl _)
  have L : L3 w lo g A n c code (.slice (some ⟨w.heap.size, 0, none⟩) 0 0) [] [w.heap.size] (w.alloc (.cells #[] 159)) :=
    ⟨hown0, h.alloc _, (Rep.only_alloc w _).mono (by simp), h.lt, h.from_⟩
  clear hown0 h
  go_enter Tryz.func109, Tryz.ntmps109
  go_wp2_with fail
  generalize w.alloc (.cells #[] 159) = W1 at L ⊢
  refine (l1Below_any lo g A n c code 3 W1 L.cur hn (by omega) (by omega)).mono ?_
  rintro e W2 ⟨x, hx, rfl, hc2, hg⟩
  replace L := L.step hc2 (only_g hg)
  clear hc2 hg
  go_wp2_with fail
  obtain ⟨W0, rfl⟩ : ∃ W0 : World, W0 = W2 := ⟨_, rfl⟩
  go_loopw [3, 4] (fun v i wr => ∃ (k : Nat) (xs : List Db) (fp : List Nat), k ≤ 3 ∧ i = .int .i64 k ∧ Hid (Pool k xs ∧ ConfTo xs xs.length) ∧ L3 w lo g A n c code v xs fp wr) (fun _ i _ => (intOf i).toNat)
  case atStart => exact ⟨1 + x, [], _, by omega, by go_num, Lib.hid ⟨⟨⟨by simp; omega, by simp⟩, fun _ => by omega⟩, ConfTo.zero _⟩, L⟩
  case round =>
    clear L hx
    obtain ⟨k, xs, fp, hk, rfl, hp, L⟩ := hrel
    by_cases hlt : 0 < k
    · have i1 : (0 : Int) < (k : Int) := by omega
      go_wp2_with fail
      refine (l3One_good lo g A n c code wr L.cur hn).mono ?_
      rintro e W3 ⟨x, rfl, hxs, hc3, ho3⟩
      replace L := L.step hc3 ho3
      obtain ⟨A9, c9, rfl, _, _, _⟩ := L.own.reads
      clear hc3 ho3
      go_wp2_with fail
      have V := Lib.hid (heap_alloc_new W3 (.cells #[.string x.name, .int .i64 x.size, .int .i64 x.queue, .int .i64 x.wait, .int .i64 x.idle] 159))
      replace L := L.alloc (.cells #[.string x.name, .int .i64 x.size, .int .i64 x.queue, .int .i64 x.wait, .int .i64 x.idle] 159)
      generalize W3.alloc (.cells #[.string x.name, .int .i64 x.size, .int .i64 x.queue, .int .i64 x.wait, .int .i64 x.idle] 159) = W4 at V L ⊢
      generalize W3.heap.size = D at V ⊢
      obtain ⟨A8, c8, he8, _, _, hrows⟩ := L.own.reads
      injection he8 with he8 _ he9
      subst he8 he9
      obtain ⟨⟨d, y⟩, hd⟩ : ∃ p, dbAt xs x.name = p := ⟨_, rfl⟩
      have HD := Lib.hid hd
      have hlen := hp.out.1.1.1
      refine (dbAtS_any A9 c9 xs x.name W4 hrows (by omega)).mono ?_
      rw [hd]
      rintro e W5 hret
      obtain ⟨rfl, hb⟩ := hret.lit
      replace L := L.later hb
      replace V := Keeps.keeps (F := fun w' => Hid (w'.heap[D]? = some (.cells #[.string x.name, .int .i64 x.size, .int .i64 x.queue, .int .i64 x.wait, .int .i64 x.idle] 159 (0, 0)))) hb V
      clear hb hd hrows
      have v0 : W5.cell? ⟨D, 0, none⟩ = some (.string x.name) := var_cell V.out 0
      have v1 : W5.cell? ⟨D, 1, none⟩ = some (.int .i64 x.size) := var_cell V.out 1
      have v2 : W5.cell? ⟨D, 2, none⟩ = some (.int .i64 x.queue) := var_cell V.out 2
      have v3 : W5.cell? ⟨D, 3, none⟩ = some (.int .i64 x.wait) := var_cell V.out 3
      have v4 : W5.cell? ⟨D, 4, none⟩ = some (.int .i64 x.idle) := var_cell V.out 4
      have hDl : D < W5.heap.size := (Array.getElem?_eq_some_iff.1 V.out).1
      have HK := Lib.hid hlen
      clear hlen
      cases y
      · go_wp2_with (at_builtin
                     replace L := L.alloc (.cells #[.string d.name, .int .i64 d.size, .int .i64 d.queue, .int .i64 d.wait, .int .i64 d.idle] 159)
                     have hnew := reads_lit (W5.alloc (.cells #[.string d.name, .int .i64 d.size, .int .i64 d.queue, .int .i64 d.wait, .int .i64 d.idle] 159)) #[.string x.name, .int .i64 x.size, .int .i64 x.queue, .int .i64 x.wait, .int .i64 x.idle] 5 1 159 (g := W5.heap.size + 1) (by simp) rfl (by simp [maxLen])
                     replace L := L.alloc (.cells #[.string x.name, .int .i64 x.size, .int .i64 x.queue, .int .i64 x.wait, .int .i64 x.idle] 159)
                     go_must (refine Rep.wpList_push _ rfl (.tmp 27) (.tmp 29) _ rfl dbR w.heap.size 159 j0 _ 48 Tryz.underlying139 hj0 hz0 hz1 hz2 rfl (by decide) (.slice A9 xs.length c9) xs fp rfl L.own _ 1 _ x [] rfl hnew (by simp [Value.oneCell']) (db_own _ _ x) (fun g hg hg' => by cases hg) (by have := HK.out; simp only [maxLen]; omega) (by have := HK.out; omega) (by have := L.only.size; exact this) ?_)
                     intro A2 c2 w2 fp2 hown2 hg2 hf2 hv2
                     clear hnew)
        have L2 := L.grown hown2 hg2 hv2
        clear L hown2 hg2 hf2 hv2
        obtain ⟨k, rfl⟩ : ∃ j, k = j + 1 := ⟨k - 1, by omega⟩
        go_roundw
        case rel => exact ⟨k, xs ++ [x], fp2, by omega, by go_num, Lib.hid ⟨⟨⟨by have := hp.out.1.1.1; simp; omega, fun z hz => by rcases List.mem_append.1 hz with hz | hz; exact hp.out.1.1.2 z hz; rw [List.mem_singleton.1 hz]; exact hxs.1⟩, fun hz => by simp at hz⟩, conf_push hp.out.2 hxs.2 (dbAt_false (by rw [HD.out]))⟩, by simpa using L2⟩
        case measure => simp [intOf]
      · have hne : ¬ xs.length = 0 := by
          intro h0
          have := HD.out
          rw [List.eq_nil_of_length_eq_zero h0] at this
          cases this
        clear v0 v1 v2 v3 v4
        go_wp2_with fail
        replace L := L.alloc (.cells #[.string d.name, .int .i64 d.size, .int .i64 d.queue, .int .i64 d.wait, .int .i64 d.idle] 159)
        obtain ⟨k, rfl⟩ : ∃ j, k = j + 1 := ⟨k - 1, by omega⟩
        go_roundw
        case rel => exact ⟨k, xs, fp, by omega, by go_num, Lib.hid ⟨⟨⟨by have := hp.out.1.1.1; omega, hp.out.1.1.2⟩, fun hz => absurd hz hne⟩, hp.out.2⟩, L⟩
        case measure => simp [intOf]
    · have i1 : ¬ (0 : Int) < (k : Int) := by omega
      go_wp2_with fail
      go_ret
      exact L.ret ⟨⟨⟨by have := hp.out.1.1.1; omega, hp.out.1.1.2⟩, by have := hp.out.1.2; omega⟩, hp.out.2⟩
set_option maxRecDepth 100000 in
set_option maxHeartbeats 4000000 in
theorem l4Draw_good (lo g : Nat) (A : Option Addr) (n c : Nat) (code : List UInt8) (w : World) (h : Cur w lo g A n c code) (hn : n ≤ 140737488351232) :
  Calls Tryz.prog 57 #[.pointer (some ⟨g, 0, none⟩)] w (RetRec4G w lo g A n c code) := by
 have hglt := h.lt
 have hlg := h.from_
 go_enter Tryz.func57, Tryz.ntmps57
 go_wp2_with fail
 have ho1 := Rep.only_alloc w (.cells #[.int .i64 0, .int .i64 0, .int .i64 0, .string ⟨#[]⟩] 29)
 have hv1 := heap_alloc_new w (.cells #[.int .i64 0, .int .i64 0, .int .i64 0, .string ⟨#[]⟩] 29)
 have hs1 : (w.alloc (.cells #[.int .i64 0, .int .i64 0, .int .i64 0, .string ⟨#[]⟩] 29)).heap.size = w.heap.size + 1 := by simp
 generalize w.alloc (.cells #[.int .i64 0, .int .i64 0, .int .i64 0, .string ⟨#[]⟩] 29) = W1 at ho1 hv1 hs1 ⊢
 have hc1 := h.only ho1 (by simp) (fun a ha => by cases ha)
 have O1 : Rep.Only w W1 [g] := ho1.mono (by simp)
 have V1 := Lib.hid hv1
 clear ho1 hv1 h
 refine (l1Below_any lo g A n c code 3 W1 hc1 hn (by omega) (by omega)).mono ?_
 rintro e W2 ⟨x, hx, rfl, hc2, hg2⟩
 have ho := only_g hg2
 have V2 := Rep.var_only V1 ho (by omega) (by simp; omega)
 have O2 := O1.then ho (fun a ha => .inl ha)
 have s2 := ho.size
 clear hg2 ho hc1 V1 O1
 go_wp2_with fail
 refine (l1Below_any lo g A n c code 6 W2 hc2 hn (by omega) (by omega)).mono ?_
 rintro e W3 ⟨m, hm, rfl, hc3, hg3⟩
 have ho := only_g hg3
 have V3 := Rep.var_only V2 ho (by omega) (by simp; omega)
 have O3 := O2.then ho (fun a ha => .inl ha)
 have s3 := ho.size
 clear hg3 ho hc2 V2 O2
 have V : ∀ kd : Int, V4 w lo g A n c code W3.heap.size ⟨kd, 1 + (m : Int), 0, ⟨#[]⟩⟩ (W3.alloc (.cells #[.int .i64 kd, .int .i64 (1 + (m : Int)), .int .i64 0, .string ⟨#[]⟩] 29)) := fun kd =>
  ⟨(Below.heap_alloc _ _ _ (by omega)).trans V3.out, heap_alloc_new _ _, hc3.alloc _, O3.then (Rep.only_alloc _ _) (fun a ha => by cases ha), by omega, hglt, hlg⟩
 clear hc3 O3
 have split : x = 0 ∨ x = 1 ∨ x = 2 := by omega
 rcases split with rfl | rfl | rfl
 ·replace V := V 1
  clear V3
  go_wp2_with fail
  generalize W3.alloc (.cells #[.int .i64 1, .int .i64 (1 + (m : Int)), .int .i64 0, .string ⟨#[]⟩] 29) = W4 at V ⊢
  generalize W3.heap.size = D at V ⊢
  refine (l3Draw_good lo g A n c code W4 V.cur hn).mono ?_
  rintro e W5 ⟨A2, c2, xs, fp, rfl, hP, hown, hc5, ho5⟩
  replace V := V.step hc5 ho5
  obtain ⟨⟨hfew, h1⟩, hto⟩ := hP
  have hcb : confB xs = true := confB_yes ⟨⟨h1, hfew.1⟩, hto⟩
  have htx : txtB (confT xs) = true := by unfold txtB; rw [parse_confT hcb]
  clear hto hcb
  obtain ⟨⟨hq1, hq2⟩, hrows⟩ := dbs_rows (Rep.reads dbsR hown)
  clear hown hc5 ho5
  go_wp2_with fail
  refine (confTextS_any A2 c2 xs W5 hrows (hfew.fits (by omega))).mono ?_
  rintro e W6 ⟨rfl, hb⟩
  replace V := V.later hb
  have hts := confT_len xs
  generalize confT xs = t at hts htx ⊢
  clear hb hrows hq1 hq2 h1 hfew
  obtain ⟨⟨d0, d1, d2, d3⟩, df, ⟨z0, z1, z2, z3⟩, zf⟩ := V.facts
  have df3 := df 3
  have hDl : D < W6.heap.size := (Array.getElem?_eq_some_iff.1 V.var).1
  have hne : w.heap.size ≠ D := by have := V.hD; omega
  have zf0 := zf 0
  have zf1 := zf 1
  have zf2 := zf 2
  have zf3 := zf 3
  have hret := (V.set 3 (.string t) ⟨1, 1 + (m : Int), 0, t⟩ rfl).retG ⟨hts, .inl ⟨rfl, rfl, htx⟩, by show 1 ≤ 1 + (m : Int); omega, by show 1 + (m : Int) ≤ 6; omega⟩
  clear V df zf
  go_wp2_with fail
  exact bodyPost_ret (v := .agg #[.int .i64 1, .int .i64 (1 + (m : Int)), .int .i64 0, .string t]) (by simp [results, Tryz.results57, go_sem, z0, z1, z2, z3]) rfl hret
 ·replace V := V 2
  clear V3
  go_upto_region 2 with (fail)
  generalize W3.alloc (.cells #[.int .i64 2, .int .i64 (1 + (m : Int)), .int .i64 0, .string ⟨#[]⟩] 29) = W4 at V ⊢
  generalize W3.heap.size = D at V ⊢
  obtain ⟨⟨d0, d1, d2, d3⟩, df, ⟨z0, z1, z2, z3⟩, zf⟩ := V.facts
  have zf0 := zf 0
  have zf1 := zf 1
  have zf2 := zf 2
  have zf3 := zf 3
  have hret := V.retG ⟨by decide, .inr (.inl ⟨rfl, rfl, rfl⟩), by show 1 ≤ 1 + (m : Int); omega, by show 1 + (m : Int) ≤ 6; omega⟩
  clear V df zf
  go_wp2_with fail
  exact bodyPost_ret (v := .agg #[.int .i64 2, .int .i64 (1 + (m : Int)), .int .i64 0, .string ⟨#[]⟩]) (by simp [results, Tryz.results57, go_sem, z0, z1, z2, z3]) rfl hret
 ·replace V := V 3
  clear V3
  go_wp2_with fail
  generalize W3.alloc (.cells #[.int .i64 3, .int .i64 (1 + (m : Int)), .int .i64 0, .string ⟨#[]⟩] 29) = W4 at V ⊢
  generalize W3.heap.size = D at V ⊢
  refine (l1Below_any lo g A n c code 2 W4 V.cur hn (by omega) (by omega)).mono ?_
  rintro e W5 ⟨ow, how, rfl, hc5, hg5⟩
  replace V := V.step hc5 (only_g hg5)
  clear hc5 hg5
  obtain ⟨⟨d0, d1, d2, d3⟩, df, ⟨z0, z1, z2, z3⟩, zf⟩ := V.facts
  have df2 := df 2
  have hDl : D < W5.heap.size := (Array.getElem?_eq_some_iff.1 V.var).1
  have hne : w.heap.size ≠ D := by have := V.hD; omega
  have zf0 := zf 0
  have zf1 := zf 1
  have zf2 := zf 2
  have zf3 := zf 3
  have hret := (V.set 2 (.int .i64 (ow : Int)) ⟨3, 1 + (m : Int), (ow : Int), ⟨#[]⟩⟩ rfl).retG ⟨by decide, .inr (.inr ⟨rfl, ⟨by show 0 ≤ (ow : Int); omega, by show (ow : Int) ≤ 1; omega⟩, rfl⟩), by show 1 ≤ 1 + (m : Int); omega, by show 1 + (m : Int) ≤ 6; omega⟩
  clear V df zf
  go_wp2_with fail
  exact bodyPost_ret (v := .agg #[.int .i64 3, .int .i64 (1 + (m : Int)), .int .i64 (ow : Int), .string ⟨#[]⟩]) (by simp [results, Tryz.results57, go_sem, z0, z1, z2, z3]) rfl hret
def nextN (k : Known) (kind : Int) : Int := if kind = 1 then k.gen + 1 else if kind = 2 then k.pGen else k.epoch + 1
theorem next_apply {k : Known} {r : Rec} {m : Int} (hk : KG k) (hr : KindOk r) (hn : r.n = nextN k r.kind) (h1 : k.gen ≤ m) (h2 : k.pGen ≤ m) (h3 : k.epoch ≤ m) (hm : m ≤ 59999) :
  (r.kind = 2 ∧ k.pGen = 0) ∨ ∃ k', applyP k r = (k', true) ∧ k'.gen ≤ m + 1 ∧ k'.pGen ≤ m + 1 ∧ k'.epoch ≤ m + 1 := by
 have b1 := hk.gen.1
 have b2 := hk.pGen.1
 have b3 := hk.epoch.1
 rcases hr with hr | hr | hr
 ·have e1 := hr.1
  unfold nextN at hn
  rw [if_pos e1] at hn
  have hrb : recB r = true := rec_iff.2 ⟨by omega, .inl hr⟩
  refine .inr ⟨⟨k.gen, k.text, r.n, r.text, k.epoch, k.owner⟩, ?_, by show k.gen ≤ m + 1; omega, by show r.n ≤ m + 1; omega, by show k.epoch ≤ m + 1; omega⟩
  rw [apply_act hk hrb, if_pos e1]
  exact if_pos (by omega)
 ·have e1 := hr.1
  unfold nextN at hn
  rw [if_neg (by omega), if_pos e1] at hn
  by_cases h0 : k.pGen = 0
  ·exact .inl ⟨e1, h0⟩
  have hrb : recB r = true := rec_iff.2 ⟨by omega, .inr (.inl hr)⟩
  refine .inr ⟨⟨k.pGen, k.pText, 0, ⟨#[]⟩, k.epoch, k.owner⟩, ?_, by show k.pGen ≤ m + 1; omega, by show (0 : Int) ≤ m + 1; omega, by show k.epoch ≤ m + 1; omega⟩
  rw [apply_act hk hrb, if_neg (by omega), if_pos e1]
  exact if_pos hn
 ·have e1 := hr.1
  unfold nextN at hn
  rw [if_neg (by omega), if_neg (by omega)] at hn
  have hrb : recB r = true := rec_iff.2 ⟨by omega, .inr (.inr hr)⟩
  refine .inr ⟨⟨k.gen, k.text, k.pGen, k.pText, r.n, r.owner⟩, ?_, by show k.gen ≤ m + 1; omega, by show k.pGen ≤ m + 1; omega, by show r.n ≤ m + 1; omega⟩
  rw [apply_act hk hrb, if_neg (by omega), if_neg (by omega)]
  exact if_pos (by omega)
def JInv (x : Disk) (m : Int) : Prop := ∃ C k g p, Up x C 0 (fun c => c = C) (-1) ∧ JI C k g p ∧ g ≤ m + 1 ∧ k.gen ≤ m ∧ k.pGen ≤ m ∧ k.epoch ≤ m
theorem JInv.mono {x : Disk} {m m' : Int} (h : JInv x m) (hm : m ≤ m') : JInv x m' := by
 obtain ⟨C, k, g, p, h1, h2, h3, h4, h5, h6⟩ := h
 exact ⟨C, k, g, p, h1, h2, by omega, by omega, by omega, by omega⟩
theorem JInv.fits {x : Disk} {m : Int} (h : JInv x m) : Fits x := by
 obtain ⟨C, k, g, p, h1, _⟩ := h
 obtain ⟨⟨a1, a2, a3⟩, b, c, _⟩ := h1.good
 exact ⟨by omega, fun l hl => by have := b l hl; omega, by omega, fun z hz => by have := (c z hz).2.2; omega⟩
theorem inv_format : JInv formatP 0 := by
 obtain ⟨C, h1, h2⟩ := format_up
 exact ⟨C, knownZero, 1, 0, h1, h2, by omega, by decide, by decide, by decide⟩
theorem inv_add {x : Disk} {m : Int} {r : Rec} (h : JInv x m) (hm : m ≤ 50000) (hr : KindOk r) (hn : r.n = nextN (openP x).1.k r.kind) : JInv (addP x r).1 (m + 1) := by
 obtain ⟨C, k, g, p, h1, h2, h3, h4, h5, h6⟩ := h
 have hop := open_JI h1.good h1.len (by rw [h1.rd]; exact h2)
 rw [hop] at hn
 rcases next_apply h2.good hr hn h4 h5 h6 (by omega) with ⟨e1, e2⟩ | ⟨k', ha, b1, b2, b3⟩
 ·have hno : applyP k r = (k, false) := by
   unfold applyP
   rw [if_neg]
   intro hc
   rw [Bool.and_eq_true] at hc
   have h9 := (rec_iff.1 hc.2).1.1
   unfold nextN at hn
   rw [if_neg (by omega), if_pos e1] at hn
   replace hn : r.n = k.pGen := hn
   omega
  rw [addP_no hop hno (fun h9 => by cases h9.2.1)]
  exact JInv.mono ⟨C, k, g, p, h1, h2, h3, h4, h5, h6⟩ (by omega)
 ·rcases add_up h1 h2 (by omega) ha with ⟨_, C', f', g', p', hu, hj, hg, hf⟩ | ⟨_, hf, _⟩
  ·have := hf rfl
   subst this
   exact ⟨C', k', g', p', hu, hj, by rcases hg with ⟨hg, _⟩ | hg <;> omega, b1, b2, b3⟩
  ·exact absurd rfl hf
set_option maxRecDepth 2000000 in
theorem formatS_own (w : World) : Calls Tryz.prog 107 #[] w (RetDisk w formatP) := by
 have hb0 := Later.alloc w (.cells #[.slice none 0 0, .slice none 0 0, .int .i64 0, .bool false] 27)
 have hz0 := heap_alloc_new w (.cells #[.slice none 0 0, .slice none 0 0, .int .i64 0, .bool false] 27)
 go_enter Tryz.func107, Tryz.ntmps107
 go_wp2_with fail
 have S : All (fun w' => Below w.heap.size w w' ∧ Hid (w'.heap[w.heap.size]? = some (.cells #[.slice none 0 0, .slice none 0 0, .int .i64 0, .bool false] 27 (0, 0)))) (w.alloc (.cells #[.slice none 0 0, .slice none 0 0, .int .i64 0, .bool false] 27)) := ⟨hb0, Lib.hid hz0⟩
 clear hb0 hz0
 generalize w.alloc (.cells #[.slice none 0 0, .slice none 0 0, .int .i64 0, .bool false] 27) = W0 at S ⊢
 refine (diskNewS_any 38 W0).mono ?_
 obtain ⟨d1, hd1⟩ : ∃ d, diskNew 38 = d := ⟨_, rfl⟩
 have HF1 := Lib.hid (show Fits d1 by rw [← hd1]; exact fits_diskNew 38)
 rw [hd1]
 have HD1 := Lib.hid hd1
 clear hd1
 rintro e1 W1 ⟨cs1, fp1, rfl, O1, hb⟩
 obtain ⟨A1, c1, B1, f1, rfl⟩ := disk_own_shape O1
 have T1 := Rep.reads diskR O1
 replace S := S.later hb
 clear hb O1
 go_wp2_with fail
 refine (headOfS_any 1 0 W1).mono ?_
 have hpl := headL_len 1 0
 obtain ⟨l3, hl3⟩ : ∃ l, headL 1 0 = l := ⟨_, rfl⟩
 rw [hl3] at hpl ⊢
 have HL3 := Lib.hid hl3
 clear hl3
 rintro e2 W2 ⟨v2, rfl, o2, hb⟩
 obtain ⟨A5, c5, rfl, hk5, hm5, r5, _⟩ := o2.shape
 replace S := S.later hb
 replace T1 := Keeps.keeps (F := fun w' => diskR.at_ w' w'.heap.size [.slice A1 d1.secs.length c1, .slice B1 d1.cache.length f1, .int .i64 d1.fuse, .bool d1.down] d1) hb T1
 clear hb o2
 go_wp2_with fail
 refine (writeSecS_any [.slice A1 d1.secs.length c1, .slice B1 d1.cache.length f1, .int .i64 d1.fuse, .bool d1.down] [.slice A5 l3.length c5] d1 1 l3 W2 T1 ⟨A5, c5, rfl, ⟨hk5, hm5⟩, r5⟩ HF1.out (by omega) (by decide)).mono ?_
 obtain ⟨d2, hd2⟩ : ∃ d, writeSec d1 1 l3 = d := ⟨_, rfl⟩
 have HF2 := Lib.hid (show Fits d2 by rw [← hd2]; exact fits_writeSec HF1.out _ (by omega))
 rw [hd2]
 have HD2 := Lib.hid hd2
 clear hd2
 rintro e3 W3 ⟨cs3, fp3, rfl, O3, hb⟩
 obtain ⟨A3, c3, B3, f3, rfl⟩ := disk_own_shape O3
 have T3 := Rep.reads diskR O3
 replace S := S.later hb
 clear hb O3 T1 r5 hpl
 go_wp2_with fail
 refine (syncDiskS_any [.slice A3 d2.secs.length c3, .slice B3 d2.cache.length f3, .int .i64 d2.fuse, .bool d2.down] d2 W3 T3 HF2.out).mono ?_
 obtain ⟨d3, hd3⟩ : ∃ d, syncDisk d2 = d := ⟨_, rfl⟩
 rw [hd3]
 have HANS := Lib.hid (show formatP = d3 by unfold formatP; rw [HD1.out, HL3.out, HD2.out, hd3])
 clear hd3 T3
 rintro e4 W4 ⟨cs4, fp4, rfl, O4, hb⟩
 obtain ⟨A4, c4, B4, f4, rfl⟩ := disk_own_shape O4
 have hlt : w.heap.size < W3.heap.size := (Array.getElem?_eq_some_iff.1 S.out.2.out).1
 replace S := S.later hb
 have ho : Rep.Only W4 ((((W4.setCell ⟨w.heap.size, 0, none⟩ (.slice A4 d3.secs.length c4)).setCell ⟨w.heap.size, 1, none⟩ (.slice B4 d3.cache.length f4)).setCell ⟨w.heap.size, 2, none⟩ (.int .i64 d3.fuse)).setCell ⟨w.heap.size, 3, none⟩ (.bool d3.down)) [w.heap.size] :=
  (((Rep.Only.setCell W4 (p := ⟨w.heap.size, 0, none⟩) (by simp) _).trans (Rep.Only.setCell _ (p := ⟨w.heap.size, 1, none⟩) (by simp) _)).trans (Rep.Only.setCell _ (p := ⟨w.heap.size, 2, none⟩) (by simp) _)).trans (Rep.Only.setCell _ (p := ⟨w.heap.size, 3, none⟩) (by simp) _)
 have O5 := Rep.own_only (R := diskR) O4 ho (fun a ha hm => by have := (Rep.lt diskR O4 a ha).1; simp at hm; omega)
 have HRET := Lib.hid (show RetDisk w d3 (.returned (.agg #[.slice A4 d3.secs.length c4, .slice B4 d3.cache.length f4, .int .i64 d3.fuse, .bool d3.down])) _ from ⟨[.slice A4 d3.secs.length c4, .slice B4 d3.cache.length f4, .int .i64 d3.fuse, .bool d3.down], _, rfl, Rep.low diskR O5 (by omega), Rep.Only.below S.out.1 ho S.out.1.size (fun a ha => by simp at ha; omega)⟩)
 have z0 := var_cell S.out.2.out 0
 have z1 := var_cell S.out.2.out 1
 have z2 := var_cell S.out.2.out 2
 have z3 := var_cell S.out.2.out 3
 have zf0 := var_frozen S.out.2.out 0
 have zf1 := var_frozen S.out.2.out 1
 have zf2 := var_frozen S.out.2.out 2
 have zf3 := var_frozen S.out.2.out 3
 have hl4 : w.heap.size < W4.heap.size := (Array.getElem?_eq_some_iff.1 S.out.2.out).1
 clear S hb O4 O5 ho
 go_wp2_with fail
 exact bodyPost_ret (v := .agg #[.slice A4 d3.secs.length c4, .slice B4 d3.cache.length f4, .int .i64 d3.fuse, .bool d3.down]) (by simp [results, Tryz.results107, go_sem, z0, z1, z2, z3]) rfl (by rw [HANS.out]; exact HRET.out)
structure J5 (w : World) (lo g : Nat) (A : Option Addr) (n c : Nat) (code : List UInt8) (D : Nat) (cs : List Value) (x : Disk) (W : World) : Prop where
 cur : Cur W lo g A n c code
 only : Rep.Only w W [g]
 rbox : W.heap[w.heap.size]? = some (.cells [.slice none 0 0, .slice none 0 0, .int .i64 0, .bool false].toArray 27 (0, 0))
 dbox : W.heap[D]? = some (.cells cs.toArray 27 (0, 0))
 own : ∃ base fp, diskR.own W base cs x fp ∧ w.heap.size < base ∧ D ∉ fp
 hD : w.heap.size < D
 hg : g < w.heap.size
section
variable {w W W' : World} {lo g D : Nat} {A : Option Addr} {n c : Nat} {code : List UInt8} {cs : List Value} {x : Disk}
theorem J5.lt (h : J5 w lo g A n c code D cs x W) : D < W.heap.size := (Array.getElem?_eq_some_iff.1 h.dbox).1
theorem J5.low {w0 : World} (h : J5 w w0.heap.size g A n c code D cs x W) (hb : Below w0.heap.size w0 w) : Below w0.heap.size w0 W := by
 have h1 := h.cur.from_
 exact Rep.Only.below hb h.only hb.size (fun a ha => by simp at ha; omega)
theorem J5.at (h : J5 w lo g A n c code D cs x W) : diskR.at_ W W.heap.size cs x := by
 obtain ⟨base, fp, ho, _⟩ := h.own
 exact Rep.reads diskR ho
theorem J5.step (h : J5 w lo g A n c code D cs x W) (hc : Cur W' lo g A n c code) (ho : Rep.Only W W' [g]) : J5 w lo g A n c code D cs x W' := by
 have h1 := h.hD
 have h2 := h.hg
 have h3 := h.lt
 obtain ⟨base, fp, o1, o2, o3⟩ := h.own
 exact ⟨hc, h.only.trans ho, (ho.block _ (by omega) (by simp; omega)).trans h.rbox, (ho.block _ h3 (by simp; omega)).trans h.dbox, ⟨base, fp, Rep.own_only o1 ho (fun a ha hm => by have := (Rep.lt diskR o1 a ha).1; simp at hm; omega), o2, o3⟩, h1, h2⟩
theorem J5.later (h : J5 w lo g A n c code D cs x W) (hb : Below W.heap.size W W') : J5 w lo g A n c code D cs x W' :=
 h.step (h.cur.only (Rep.only_of_below hb) (by simp) (fun a ha => by cases ha)) ((Rep.only_of_below hb).mono (by simp))
theorem J5.alone (h : J5 w lo g A n c code D cs x W) (hb : Below W.heap.size W W') : J5 w lo g A n c code D cs x W' ∧ ∃ base fp, diskR.own W' base cs x fp ∧ w.heap.size < base ∧ D ∉ fp ∧ W.heap.size ∉ fp := by
 refine ⟨h.later hb, ?_⟩
 obtain ⟨base, fp, o1, o2, o3⟩ := h.own
 exact ⟨base, fp, Rep.own_only o1 (Rep.only_of_below hb) (fun a _ hm => by cases hm), o2, o3, fun hm => by have := (Rep.lt diskR o1 _ hm).2; omega⟩
theorem J5.beside {E : Nat} (h : J5 w lo g A n c code D cs x W) (hE : D < E) (hn : ∃ base fp, diskR.own W base cs x fp ∧ w.heap.size < base ∧ D ∉ fp ∧ E ∉ fp) (ho : Rep.Only W W' [E]) : J5 w lo g A n c code D cs x W' := by
 have h1 := h.hD
 have h2 := h.hg
 have h3 := h.lt
 have h4 := h.cur.from_
 obtain ⟨base, fp, o1, o2, o3, hEf⟩ := hn
 exact ⟨h.cur.only ho (by simp; omega) (fun a ha => by simp at ha; omega), h.only.then ho (fun a ha => .inr (by simp at ha; omega)), (ho.block _ (by omega) (by simp; omega)).trans h.rbox, (ho.block _ h3 (by simp; omega)).trans h.dbox, ⟨base, fp, Rep.own_only o1 ho (fun a ha hm => by simp at hm; subst hm; exact hEf ha), o2, o3⟩, h1, h2⟩
theorem J5.put {a b cc dd a' b' cc' dd' : Value} {x' : Disk} (h : J5 w lo g A n c code D [a, b, cc, dd] x W) {base : Nat} {fp : List Nat} (ho : diskR.own W base [a', b', cc', dd'] x' fp) (hb : D < base) :
  J5 w lo g A n c code D [a', b', cc', dd'] x' ((((W.setCell ⟨D, 0, none⟩ a').setCell ⟨D, 1, none⟩ b').setCell ⟨D, 2, none⟩ cc').setCell ⟨D, 3, none⟩ dd') := by
 have hw := putD_only W D a' b' cc' dd'
 have h1 := h.hD
 have h2 := h.hg
 have h4 := h.cur.from_
 have hn : ∀ a, a ∈ fp → a ≠ D := fun a ha => by have := (Rep.lt diskR ho a ha).1; omega
 exact ⟨h.cur.only hw (by simp; omega) (fun a ha => by simp at ha; omega), h.only.then hw (fun a ha => .inr (by simp at ha; omega)), (hw.block _ (by have := h.lt; omega) (by simp; omega)).trans h.rbox, setD_box h.dbox a' b' cc' dd', ⟨base, fp, Rep.own_only ho hw (fun a ha hm => by simp at hm; exact hn a ha hm), by omega, fun hm => hn D hm rfl⟩, h1, h2⟩
end
def RetL5 (w : World) (lo g : Nat) (A : Option Addr) (n c : Nat) (code : List UInt8) (P : Disk → Prop) (e : Ending) (w' : World) : Prop :=
 ∃ cs x fp, e = .returned (.agg cs.toArray) ∧ P x ∧ diskR.own w' w.heap.size cs x fp ∧ Cur w' lo g A n c code ∧ Rep.Only w w' [g]
theorem J5.ret {w W : World} {lo g D : Nat} {A : Option Addr} {n c : Nat} {code : List UInt8} {a b cc dd : Value} {x : Disk} {P : Disk → Prop} (h : J5 w lo g A n c code D [a, b, cc, dd] x W) (hP : P x) :
  RetL5 w lo g A n c code P (.returned (.agg #[a, b, cc, dd])) ((((W.setCell ⟨w.heap.size, 0, none⟩ a).setCell ⟨w.heap.size, 1, none⟩ b).setCell ⟨w.heap.size, 2, none⟩ cc).setCell ⟨w.heap.size, 3, none⟩ dd) := by
 have hw := putD_only W w.heap.size a b cc dd
 have h1 := h.hD
 have h2 := h.hg
 have h4 := h.cur.from_
 obtain ⟨base, fp, o1, o2, o3⟩ := h.own
 exact ⟨[a, b, cc, dd], x, fp, rfl, hP, Rep.low diskR (Rep.own_only o1 hw (fun y hy hm => by have := (Rep.lt diskR o1 y hy).1; simp at hm; omega)) (by omega), h.cur.only hw (by simp; omega) (fun y hy => by simp at hy; omega), h.only.then hw (fun y hy => .inr (by simp at hy; omega))⟩
set_option maxRecDepth 2000000 in
set_option maxHeartbeats 16000000 in
theorem l5Draw_any (w0 : World) (g : Nat) (A : Option Addr) (n c : Nat) (code : List UInt8) (most : Nat) (w : World) (h : Cur w w0.heap.size g A n c code) (hn : n ≤ 140737488351232) (hb0 : Below w0.heap.size w0 w) (hgv : Given w0) (hm : most ≤ 40) :
  Calls Tryz.prog 55 #[.pointer (some ⟨g, 0, none⟩), .int .i64 most] w (RetL5 w w0.heap.size g A n c code (fun x => JInv x most)) := by
 have HB := Lib.hid hb0
 have HG := Lib.hid hgv
 have hglt := h.lt
 have hr0 := heap_alloc_new w (.cells #[.slice none 0 0, .slice none 0 0, .int .i64 0, .bool false] 27)
 have hc0 := h.alloc (.cells #[.slice none 0 0, .slice none 0 0, .int .i64 0, .bool false] 27)
 have ho0 : Rep.Only w (w.alloc (.cells #[.slice none 0 0, .slice none 0 0, .int .i64 0, .bool false] 27)) [g] := (Rep.only_alloc w _).mono (by simp)
 have hs0 : (w.alloc (.cells #[.slice none 0 0, .slice none 0 0, .int .i64 0, .bool false] 27)).heap.size = w.heap.size + 1 := by simp
 clear h hb0 hgv
 go_enter Tryz.func55, Tryz.ntmps55
 go_upto_region 1 with (fail)
 generalize w.alloc (.cells #[.slice none 0 0, .slice none 0 0, .int .i64 0, .bool false] 27) = W1 at hr0 hc0 ho0 hs0 ⊢
 go_wp2_with fail
 refine (formatS_own W1).mono ?_
 have hinv := inv_format
 obtain ⟨x0, hx0⟩ : ∃ x0, formatP = x0 := ⟨_, rfl⟩
 rw [hx0] at hinv ⊢
 clear hx0
 rintro e1 W2 ⟨cs1, fp1, rfl, O1, hb⟩
 obtain ⟨A1, c1, B1, f1, rfl⟩ := disk_own_shape O1
 have J : J5 w w0.heap.size g A n c code W2.heap.size [.slice A1 x0.secs.length c1, .slice B1 x0.cache.length f1, .int .i64 x0.fuse, .bool x0.down] x0 (W2.alloc (.cells #[.slice A1 x0.secs.length c1, .slice B1 x0.cache.length f1, .int .i64 x0.fuse, .bool x0.down] 27)) := by
  have hb2 := Later.trans hb (Later.alloc W2 (.cells #[.slice A1 x0.secs.length c1, .slice B1 x0.cache.length f1, .int .i64 x0.fuse, .bool x0.down] 27))
  have hsz := hb.size
  refine ⟨hc0.only (Rep.only_of_below hb2) (by simp) (fun a ha => by cases ha), ho0.trans ((Rep.only_of_below hb2).mono (by simp)), (hb2.block _ (by omega)).trans hr0, heap_alloc_new W2 _, ⟨W1.heap.size, fp1, Rep.own_only O1 (Rep.only_alloc W2 _) (fun a _ hm => by cases hm), by omega, fun hm => ?_⟩, by omega, hglt⟩
  have := (Rep.lt diskR O1 _ hm).2
  omega
 go_upto_region 2 with (fail)
 clear hr0 hc0 ho0 hs0 O1 hb
 generalize W2.alloc (.cells #[.slice A1 x0.secs.length c1, .slice B1 x0.cache.length f1, .int .i64 x0.fuse, .bool x0.down] 27) = W3 at J ⊢
 generalize W2.heap.size = D at J ⊢
 have i1 : (most : Int) ≤ 40 := by omega
 have i2 : 0 ≤ (most : Int) := by omega
 go_wp2_with fail
 rw [show (most : Int) + 1 = ((most + 1 : Nat) : Int) by omega]
 refine (l1Below_any w0.heap.size g A n c code (most + 1) W3 J.cur hn (by omega) (by omega)).mono ?_
 rintro e W4 ⟨u, hu, rfl, hc, hg⟩
 replace J := J.step hc (only_g hg)
 clear hc hg i1 i2
 have HU := Lib.hid hu
 clear hu
 go_wp2_with fail
 go_loopw [6] (fun i wr => ∃ (k m : Nat) (cs : List Value) (x : Disk), k + m ≤ most ∧ i = .int .i64 k ∧ Hid (JInv x m) ∧ J5 w w0.heap.size g A n c code D cs x wr) (fun i _ => (intOf i).toNat)
 case atStart => exact ⟨u, 0, _, x0, by have := HU.out; omega, rfl, Lib.hid hinv, J⟩
 case round =>
  clear J hinv HU
  obtain ⟨k, m, cs, x, hkm, rfl, HI, J⟩ := hrel
  obtain ⟨A2, c2, B2, f2, rfl⟩ := disk_at_shape J.at
  by_cases hlt : 0 < k
  ·have i1 : (0 : Int) < (k : Int) := by omega
   obtain ⟨d0, d1, d2, d3⟩ := disk4 J.dbox
   go_wp2_with fail
   refine (openJourS_any [.slice A2 x.secs.length c2, .slice B2 x.cache.length f2, .int .i64 x.fuse, .bool x.down] x wr J.at HI.out.fits (Keeps.keeps (F := Given) (J.low HB.out) HG.out)).mono ?_
   clear d0 d1 d2 d3
   obtain ⟨⟨⟨⟨ja, jb, jp, jq, je, jf⟩, jg, jm⟩, ok⟩, hp⟩ : ∃ p, openP x = p := ⟨_, rfl⟩
   rw [hp]
   have hjg := openP_good x
   rw [hp] at hjg
   have hja : 0 ≤ ja ∧ ja ≤ 60000 := hjg.1.gen
   have hje : 0 ≤ je ∧ je ≤ 60000 := hjg.1.epoch
   have HP := Lib.hid hp
   clear hp hjg
   rintro e1 V1 hret
   obtain ⟨rfl, hb⟩ := hret.lit8
   replace J := J.later hb
   clear hret hb
   have HJ := heap_alloc_new V1 (.cells #[.int .i64 ja, .string jb, .int .i64 jp, .string jq, .int .i64 je, .int .i64 jf, .int .i64 jg, .int .i64 jm] 37)
   have hDj := J.lt
   replace J := J.later (Later.alloc V1 (.cells #[.int .i64 ja, .string jb, .int .i64 jp, .string jq, .int .i64 je, .int .i64 jf, .int .i64 jg, .int .i64 jm] 37))
   go_upto_region 6 with (fail)
   generalize V1.alloc (.cells #[.int .i64 ja, .string jb, .int .i64 jp, .string jq, .int .i64 je, .int .i64 jf, .int .i64 jg, .int .i64 jm] 37) = V2 at HJ J ⊢
   generalize V1.heap.size = DJ at HJ hDj ⊢
   go_wp2_with fail
   refine (l4Draw_good w0.heap.size g A n c code V2 J.cur hn).mono ?_
   rintro e2 V3 ⟨⟨rk, rn, ro, rt⟩, rfl, ⟨hts, hkind, _⟩, hc3, ho3⟩
   replace hts : rt.size ≤ 100 := hts
   have HTS := Lib.hid hts
   have HKD := Lib.hid hkind
   have hDJ := (Array.getElem?_eq_some_iff.1 HJ).1
   replace HJ := (ho3.block _ hDJ (by have := J.hD; have := J.hg; simp; omega)).trans HJ
   replace J := J.step hc3 ho3
   clear hc3 ho3 hts
   have hDJ := (Array.getElem?_eq_some_iff.1 HJ).1
   have HE := heap_alloc_new V3 (.cells #[.int .i64 rk, .int .i64 rn, .int .i64 ro, .string rt] 29)
   have hDE : D < V3.heap.size := J.lt
   have K := J.alone (Later.alloc V3 (.cells #[.int .i64 rk, .int .i64 rn, .int .i64 ro, .string rt] 29))
   replace HJ := ((Later.alloc V3 (.cells #[.int .i64 rk, .int .i64 rn, .int .i64 ro, .string rt] 29)).block _ hDJ).trans HJ
   go_upto_region 7 with (fail)
   clear J
   generalize V3.alloc (.cells #[.int .i64 rk, .int .i64 rn, .int .i64 ro, .string rt] 29) = V4 at HE HJ K ⊢
   generalize V3.heap.size = E at HE hDE hDJ K ⊢
   rcases hkind with hk1 | hk2 | hk3
   ·have hrk : rk = 1 := hk1.1
    subst hrk
    clear hk1
    obtain ⟨e0, e1, e2, e3⟩ := rec_box (r := ⟨1, rn, ro, rt⟩) HE
    obtain ⟨j0, j1, j2, j3, j4, j5, j6, j7⟩ := jour_box (r := ⟨⟨ja, jb, jp, jq, je, jf⟩, jg, jm⟩) HJ
    have ef1 := var_frozen HE 1
    have hEl := (Array.getElem?_eq_some_iff.1 HE).1
    have HE2 : (V4.setCell ⟨E, 1, none⟩ (.int .i64 (ja + 1))).heap[E]? = some (.cells (recC ⟨1, ja + 1, ro, rt⟩).toArray 29 (0, 0)) := var_set HE 1 (.int .i64 (ja + 1))
    have J2 := K.1.beside hDE K.2 (Rep.Only.setCell V4 (p := ⟨E, 1, none⟩) (by simp) (.int .i64 (ja + 1)))
    clear HJ K
    go_upto_region 13 with (fail)
    clear e0 e1 e2 e3 j0 j1 j2 j3 j4 j5 j6 j7 ef1 HE
    generalize V4.setCell ⟨E, 1, none⟩ (.int .i64 (ja + 1)) = V5 at HE2 J2 ⊢
    obtain ⟨e0, e1, e2, e3⟩ := rec_box (r := ⟨1, ja + 1, ro, rt⟩) HE2
    obtain ⟨d0, d1, d2, d3⟩ := disk4 J2.dbox
    go_wp2_with fail
    refine (addRecS_any [.slice A2 x.secs.length c2, .slice B2 x.cache.length f2, .int .i64 x.fuse, .bool x.down] x ⟨1, ja + 1, ro, rt⟩ V5 J2.at HI.out.fits (Keeps.keeps (F := Given) (J2.low HB.out) HG.out) (Nat.le_trans HTS.out (by decide))).mono ?_
    have HI2 := Lib.hid (show JInv (addP x ⟨1, ja + 1, ro, rt⟩).1 (m + 1 : Nat) from inv_add HI.out (by omega) (by exact HKD.out) (by rw [HP.out]; rfl))
    obtain ⟨⟨x2, ok2⟩, hY⟩ : ∃ Y, addP x ⟨1, ja + 1, ro, rt⟩ = Y := ⟨_, rfl⟩
    rw [hY] at HI2 ⊢
    clear hY e0 e1 e2 e3 d0 d1 d2 d3 HE2
    rintro e4 V6 ⟨cs6, fp6, rfl, O6, hb⟩
    obtain ⟨A6, c6, B6, f6, rfl⟩ := disk_own_shape O6
    have hD6 := J2.lt
    have J3 := J2.later hb
    have J4 := J3.put O6 hD6
    obtain ⟨d0, d1, d2, d3⟩ := disk4 J3.dbox
    have df0 := var_frozen J3.dbox 0
    have df1 := var_frozen J3.dbox 1
    have df2 := var_frozen J3.dbox 2
    have df3 := var_frozen J3.dbox 3
    have hD7 := J3.lt
    clear J2 J3 O6 hb
    go_wp2_with fail
    obtain ⟨k, rfl⟩ : ∃ j, k = j + 1 := ⟨k - 1, by omega⟩
    go_roundw
    case rel => exact ⟨k, m + 1, _, x2, by omega, by go_num, HI2, J4⟩
    case measure => simp [intOf]
   ·have hrk : rk = 2 := hk2.1
    subst hrk
    clear hk2
    obtain ⟨e0, e1, e2, e3⟩ := rec_box (r := ⟨2, rn, ro, rt⟩) HE
    obtain ⟨j0, j1, j2, j3, j4, j5, j6, j7⟩ := jour_box (r := ⟨⟨ja, jb, jp, jq, je, jf⟩, jg, jm⟩) HJ
    have ef1 := var_frozen HE 1
    have hEl := (Array.getElem?_eq_some_iff.1 HE).1
    have HE2 : (V4.setCell ⟨E, 1, none⟩ (.int .i64 (jp))).heap[E]? = some (.cells (recC ⟨2, jp, ro, rt⟩).toArray 29 (0, 0)) := var_set HE 1 (.int .i64 (jp))
    have J2 := K.1.beside hDE K.2 (Rep.Only.setCell V4 (p := ⟨E, 1, none⟩) (by simp) (.int .i64 (jp)))
    clear HJ K
    go_upto_region 13 with (fail)
    clear e0 e1 e2 e3 j0 j1 j2 j3 j4 j5 j6 j7 ef1 HE
    generalize V4.setCell ⟨E, 1, none⟩ (.int .i64 (jp)) = V5 at HE2 J2 ⊢
    obtain ⟨e0, e1, e2, e3⟩ := rec_box (r := ⟨2, jp, ro, rt⟩) HE2
    obtain ⟨d0, d1, d2, d3⟩ := disk4 J2.dbox
    go_wp2_with fail
    refine (addRecS_any [.slice A2 x.secs.length c2, .slice B2 x.cache.length f2, .int .i64 x.fuse, .bool x.down] x ⟨2, jp, ro, rt⟩ V5 J2.at HI.out.fits (Keeps.keeps (F := Given) (J2.low HB.out) HG.out) (Nat.le_trans HTS.out (by decide))).mono ?_
    have HI2 := Lib.hid (show JInv (addP x ⟨2, jp, ro, rt⟩).1 (m + 1 : Nat) from inv_add HI.out (by omega) (by exact HKD.out) (by rw [HP.out]; rfl))
    obtain ⟨⟨x2, ok2⟩, hY⟩ : ∃ Y, addP x ⟨2, jp, ro, rt⟩ = Y := ⟨_, rfl⟩
    rw [hY] at HI2 ⊢
    clear hY e0 e1 e2 e3 d0 d1 d2 d3 HE2
    rintro e4 V6 ⟨cs6, fp6, rfl, O6, hb⟩
    obtain ⟨A6, c6, B6, f6, rfl⟩ := disk_own_shape O6
    have hD6 := J2.lt
    have J3 := J2.later hb
    have J4 := J3.put O6 hD6
    obtain ⟨d0, d1, d2, d3⟩ := disk4 J3.dbox
    have df0 := var_frozen J3.dbox 0
    have df1 := var_frozen J3.dbox 1
    have df2 := var_frozen J3.dbox 2
    have df3 := var_frozen J3.dbox 3
    have hD7 := J3.lt
    clear J2 J3 O6 hb
    go_wp2_with fail
    obtain ⟨k, rfl⟩ : ∃ j, k = j + 1 := ⟨k - 1, by omega⟩
    go_roundw
    case rel => exact ⟨k, m + 1, _, x2, by omega, by go_num, HI2, J4⟩
    case measure => simp [intOf]
   ·have hrk : rk = 3 := hk3.1
    subst hrk
    clear hk3
    obtain ⟨e0, e1, e2, e3⟩ := rec_box (r := ⟨3, rn, ro, rt⟩) HE
    obtain ⟨j0, j1, j2, j3, j4, j5, j6, j7⟩ := jour_box (r := ⟨⟨ja, jb, jp, jq, je, jf⟩, jg, jm⟩) HJ
    have ef1 := var_frozen HE 1
    have hEl := (Array.getElem?_eq_some_iff.1 HE).1
    have HE2 : (V4.setCell ⟨E, 1, none⟩ (.int .i64 (je + 1))).heap[E]? = some (.cells (recC ⟨3, je + 1, ro, rt⟩).toArray 29 (0, 0)) := var_set HE 1 (.int .i64 (je + 1))
    have J2 := K.1.beside hDE K.2 (Rep.Only.setCell V4 (p := ⟨E, 1, none⟩) (by simp) (.int .i64 (je + 1)))
    clear HJ K
    go_upto_region 13 with (fail)
    clear e0 e1 e2 e3 j0 j1 j2 j3 j4 j5 j6 j7 ef1 HE
    generalize V4.setCell ⟨E, 1, none⟩ (.int .i64 (je + 1)) = V5 at HE2 J2 ⊢
    obtain ⟨e0, e1, e2, e3⟩ := rec_box (r := ⟨3, je + 1, ro, rt⟩) HE2
    obtain ⟨d0, d1, d2, d3⟩ := disk4 J2.dbox
    go_wp2_with fail
    refine (addRecS_any [.slice A2 x.secs.length c2, .slice B2 x.cache.length f2, .int .i64 x.fuse, .bool x.down] x ⟨3, je + 1, ro, rt⟩ V5 J2.at HI.out.fits (Keeps.keeps (F := Given) (J2.low HB.out) HG.out) (Nat.le_trans HTS.out (by decide))).mono ?_
    have HI2 := Lib.hid (show JInv (addP x ⟨3, je + 1, ro, rt⟩).1 (m + 1 : Nat) from inv_add HI.out (by omega) (by exact HKD.out) (by rw [HP.out]; rfl))
    obtain ⟨⟨x2, ok2⟩, hY⟩ : ∃ Y, addP x ⟨3, je + 1, ro, rt⟩ = Y := ⟨_, rfl⟩
    rw [hY] at HI2 ⊢
    clear hY e0 e1 e2 e3 d0 d1 d2 d3 HE2
    rintro e4 V6 ⟨cs6, fp6, rfl, O6, hb⟩
    obtain ⟨A6, c6, B6, f6, rfl⟩ := disk_own_shape O6
    have hD6 := J2.lt
    have J3 := J2.later hb
    have J4 := J3.put O6 hD6
    obtain ⟨d0, d1, d2, d3⟩ := disk4 J3.dbox
    have df0 := var_frozen J3.dbox 0
    have df1 := var_frozen J3.dbox 1
    have df2 := var_frozen J3.dbox 2
    have df3 := var_frozen J3.dbox 3
    have hD7 := J3.lt
    clear J2 J3 O6 hb
    go_wp2_with fail
    obtain ⟨k, rfl⟩ : ∃ j, k = j + 1 := ⟨k - 1, by omega⟩
    go_roundw
    case rel => exact ⟨k, m + 1, _, x2, by omega, by go_num, HI2, J4⟩
    case measure => simp [intOf]
  ·have i1 : ¬ (0 : Int) < (k : Int) := by omega
   have he : k = 0 := by omega
   subst he
   obtain ⟨d0, d1, d2, d3⟩ := disk4 J.dbox
   obtain ⟨z0, z1, z2, z3⟩ := disk4 J.rbox
   have zf0 := var_frozen J.rbox 0
   have zf1 := var_frozen J.rbox 1
   have zf2 := var_frozen J.rbox 2
   have zf3 := var_frozen J.rbox 3
   have HR := Lib.hid (J.ret (P := fun x => JInv x most) (HI.out.mono (by omega)))
   have hlr : w.heap.size < wr.heap.size := (Array.getElem?_eq_some_iff.1 J.rbox).1
   clear J
   go_wp2_with fail
   exact bodyPost_ret (v := .agg #[.slice A2 x.secs.length c2, .slice B2 x.cache.length f2, .int .i64 x.fuse, .bool x.down]) (by simp [results, Tryz.results55, go_sem, z0, z1, z2, z3]) rfl HR.out
end Go.Proofs.YtoaaogacaibedaaGreatDoor
