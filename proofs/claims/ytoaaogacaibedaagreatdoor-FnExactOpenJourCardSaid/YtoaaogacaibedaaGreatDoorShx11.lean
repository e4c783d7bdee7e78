/- What the theorem needs, out of many texts. -/
import Derived.Test.YtoaaogacaibedaaGreatDoorShx3
import Derived.Test.YtoaaogacaibedaaGreatDoorShx4
import Derived.Test.YtoaaogacaibedaaGreatDoorShx5
import Derived.Test.YtoaaogacaibedaaGreatDoorShx6
import Derived.Test.YtoaaogacaibedaaGreatDoorShx10
namespace Go.Proofs.YtoaaogacaibedaaGreatDoor
open Go.RowKit
set_option maxRecDepth 100000
set_option linter.unusedVariables false
theorem putR_bad {g p : Int} {r : Rec} (h : recB r = false ∨ inI g 0 65535 = false ∨ inI p 0 65535 = false) : putR g p r = [] := by
 unfold putR
 refine if_neg fun hc => ?_
 rcases h with h | h | h
 ·rw [hc.1] at h; cases h
 ·exact absurd hc.2.1 (of_decide_eq_false h)
 ·exact absurd hc.2.2 (of_decide_eq_false h)
theorem putR_ok {g p : Int} {r : Rec} (h0 : recB r = true) (h1 : inI g 0 65535 = true) (h2 : inI p 0 65535 = true) : putR g p r = withSum (recBody g p r) := if_pos ⟨h0, of_decide_eq_true h1, of_decide_eq_true h2⟩
theorem Reads.up {w : World} {size n : Nat} {A : Option Addr} {xs : List Value} (h : Reads w w.heap.size size A n xs) (o : Obj) : Reads (w.alloc o) (w.alloc o).heap.size size A n xs := (h.alloc (Nat.le_refl _) o).more (by simp)
def BOX (w : World) (r : Rec) (w' : World) : Prop := Below w.heap.size w w' ∧ Given w' ∧ Hid (w'.heap[w.heap.size]? = some (.cells (recC r).toArray 29 (0, 0)))
instance BOX.keeps (w : World) (r : Rec) : Keeps (BOX w r) := ⟨fun h x => ⟨Later.trans x.1 h, Keeps.keeps (F := Given) h x.2.1, Lib.hid (Keeps.keeps (F := fun w' => w'.heap[w.heap.size]? = some (.cells (recC r).toArray 29 (0, 0))) h x.2.2.out)⟩⟩
theorem box01 {w w' : World} {r : Rec} (s : All (BOX w r) w') : w'.cell? ⟨w.heap.size, 0, none⟩ = some (.int .i64 r.kind) ∧ w'.cell? ⟨w.heap.size, 1, none⟩ = some (.int .i64 r.n) := ⟨(rec_box s.out.2.2.out).1, (rec_box s.out.2.2.out).2.1⟩
theorem box23 {w w' : World} {r : Rec} (s : All (BOX w r) w') : w'.cell? ⟨w.heap.size, 2, none⟩ = some (.int .i64 r.owner) ∧ w'.cell? ⟨w.heap.size, 3, none⟩ = some (.string r.text) := ⟨(rec_box s.out.2.2.out).2.2.1, (rec_box s.out.2.2.out).2.2.2⟩
theorem own_len {l l' : List UInt8} {n : Nat} (h : l.length = n) (x : UInt8) : (l ++ [x]).length = n + 1 := by simp [h]
set_option maxRecDepth 100000 in
set_option maxHeartbeats 4000000 in
theorem putRI_bad (g p : Int) (r : Rec) (w : World) (hg : Given w) (hs : r.text.size ≤ 1048576) {b0 b1 b2 : Bool} (h0 : recB r = b0) (h1 : inI g 0 65535 = b1) (h2 : inI p 0 65535 = b2) (hb : (b0 && (b1 && b2)) = false) :
  Calls Tryz.prog 131 #[.int .i64 g, .int .i64 p, .agg (recC r).toArray] w (RetOwn w []) := by
 have S : All (BOX w r) (w.alloc (.cells #[.int .i64 r.kind, .int .i64 r.n, .int .i64 r.owner, .string r.text] 29)) := ⟨Later.alloc w _, Keeps.keeps (F := Given) (Later.alloc w _) hg, Lib.hid (heap_alloc_new w _)⟩
 have H0 := Lib.hid h0
 clear hg h0
 show Calls Tryz.prog 131 #[.int .i64 g, .int .i64 p, .agg #[.int .i64 r.kind, .int .i64 r.n, .int .i64 r.owner, .string r.text]] w _
 cases b0
 rotate_left
 cases b1
 rotate_left
 cases b2
 rotate_left
 ·cases hb
 all_goals
  clear hb
  go_enter Tryz.func131, Tryz.ntmps131
  go_wp2_with fail
  generalize w.alloc (.cells #[.int .i64 r.kind, .int .i64 r.n, .int .i64 r.owner, .string r.text] 29) = W at S ⊢
  refine (recOkI_any r W S.out.2.1 hs).mono ?_
  rw [H0.out]
  rintro e W1 ⟨rfl, hb⟩
  replace S := S.later hb
  clear hb
  go_wp2_with (go_at_call 71; refine (within_b (by assumption) _).mono ?_; rintro e w' ⟨rfl, rfl⟩)
  go_ret
  exact ⟨_, rfl, own_empty W1 _ S.out.1.size, Below.alloc S.out.1 S.out.1.size _⟩
set_option maxRecDepth 100000 in
set_option maxHeartbeats 4000000 in
theorem putRI_ok (g p : Int) (r : Rec) (w : World) (hg : Given w) (hs : r.text.size ≤ 1048576) (h0 : recB r = true) (h1 : inI g 0 65535 = true) (h2 : inI p 0 65535 = true) :
  Calls Tryz.prog 131 #[.int .i64 g, .int .i64 p, .agg (recC r).toArray] w (RetOwn w (withSum (recBody g p r))) := by
 have S : All (BOX w r) (w.alloc (.cells #[.int .i64 r.kind, .int .i64 r.n, .int .i64 r.owner, .string r.text] 29)) := ⟨Later.alloc w _, Keeps.keeps (F := Given) (Later.alloc w _) hg, Lib.hid (heap_alloc_new w _)⟩
 have H0 := Lib.hid h0
 clear hg h0
 show Calls Tryz.prog 131 #[.int .i64 g, .int .i64 p, .agg #[.int .i64 r.kind, .int .i64 r.n, .int .i64 r.owner, .string r.text]] w _
 go_enter Tryz.func131, Tryz.ntmps131
 go_wp2_with fail
 generalize w.alloc (.cells #[.int .i64 r.kind, .int .i64 r.n, .int .i64 r.owner, .string r.text] 29) = W at S ⊢
 refine (recOkI_any r W S.out.2.1 hs).mono ?_
 rw [H0.out]
 rintro e W1 ⟨rfl, hb⟩
 replace S := S.later hb
 clear hb
 go_wp2_with (go_at_call 71; refine (within_b (by assumption) _).mono ?_; rintro e w' ⟨rfl, rfl⟩)
 clear h1 h2
 refine (putWord_any none 0 g [] W1 Reads.none_ (by simp)).mono ?_
 rintro e W2 ⟨v2, rfl, o2, hb⟩
 replace S := S.later hb
 obtain ⟨A2, c2, rfl, _, _, r2, _⟩ := o2.shape
 clear hb o2
 go_wp2_with fail
 refine (putWord_any A2 c2 p _ W2 r2 (by simp [wordBytes])).mono ?_
 rintro e W3 ⟨v3, rfl, o3, hb⟩
 replace S := S.later hb
 obtain ⟨A3, c3, rfl, _, _, r3, _⟩ := o3.shape
 have L3 := Lib.hid (show ([] ++ wordBytes g ++ wordBytes p).length = 4 by simp [wordBytes])
 generalize hl3 : [] ++ wordBytes g ++ wordBytes p = l3 at r3 L3 ⊢
 clear hb o3 r2
 go_wp2_with fail
 refine wp_region_lex' 100 [0, 1, 2, 3, 6, 7] [4, 5, 8, 9] (fun w' => w'.cell? ⟨w.heap.size, 0, none⟩ = some (.int .i64 r.kind) ∧ w'.cell? ⟨w.heap.size, 1, none⟩ = some (.int .i64 r.n)) (by kernel_rfl) (by kernel_rfl) (box01 S.drew) ?_
 replace S := S.drew
 replace r3 : Reads W3.drew W3.drew.heap.size 1 A3 l3.length (bys l3) := r3
 generalize W3.drew = W4 at S r3 ⊢
 iterate 6 (refine LexR.cons rfl ?_ (fun w' hw => ?_) ?_; rotate_left; focus (obtain ⟨e0, e1⟩ := hw; go_simp; (try exact rfl)); (try go_frame))
 refine LexR.nil (LexW.cons rfl ?_)
 go_wp2_with fail
 have u5 := one_u8 W4 r.kind
 replace r3 := r3.up (.cells #[.int .u8 (r.kind % 256)] 5)
 replace S := S.alloc (.cells #[.int .u8 (r.kind % 256)] 5)
 refine ⟨fun _ => box01 S, LexW.cons rfl ?_⟩
 generalize W4.alloc (.cells #[.int .u8 (r.kind % 256)] 5) = W4a at S r3 u5 ⊢
 try go_frame
 go_wp2_with fail
 refine (joined_any A3 _ c3 1 l3 [u8 r.kind] W4a r3 u5 (by have := L3.out; omega) (by simp)).mono ?_
 rintro e W4b ⟨v5, rfl, o5, hb⟩
 replace S := S.later hb
 obtain ⟨A5, c5, rfl, _, _, r5, _⟩ := o5.shape
 have L5 := Lib.hid (own_len (l' := []) L3.out (u8 r.kind))
 generalize hl5 : l3 ++ [u8 r.kind] = l5 at r5 L5 ⊢
 clear hb o5 r3 u5
 go_wp2_with fail
 refine ⟨fun _ => box01 S, LexW.cons rfl ?_⟩
 try go_frame
 go_wp2_with fail
 refine (putWord_any A5 c5 r.n l5 W4b r5 (by have := L5.out; omega)).mono ?_
 rintro e W4c ⟨v5', rfl, o5', hb⟩
 replace S := S.later hb
 obtain ⟨A5', c5', rfl, _, _, r5', _⟩ := o5'.shape
 have L5' := Lib.hid (show (l5 ++ wordBytes r.n).length = 7 by have := L5.out; simp [wordBytes]; omega)
 generalize hl5' : l5 ++ wordBytes r.n = l5' at r5' L5' ⊢
 clear hb o5' r5
 go_wp2_with fail
 refine ⟨fun _ => box01 S, LexW.cons rfl ?_⟩
 try go_frame
 go_wp2_with fail
 refine ⟨fun _ => box01 S, LexW.nil ?_⟩
 go_wp2_with fail
 refine wp_region_lex' 100 [0, 1, 2, 3, 6, 7] [4, 5, 8, 9] (fun w' => w'.cell? ⟨w.heap.size, 2, none⟩ = some (.int .i64 r.owner) ∧ w'.cell? ⟨w.heap.size, 3, none⟩ = some (.string r.text)) (by kernel_rfl) (by kernel_rfl) (box23 S.drew) ?_
 replace S := S.drew
 replace r5' : Reads W4c.drew W4c.drew.heap.size 1 A5' l5'.length (bys l5') := r5'
 generalize W4c.drew = W6 at S r5' ⊢
 iterate 6 (refine LexR.cons rfl ?_ (fun w' hw => ?_) ?_; rotate_left; focus (obtain ⟨e0, e1⟩ := hw; go_simp; (try exact rfl)); (try go_frame))
 refine LexR.nil (LexW.cons rfl ?_)
 go_wp2_with fail
 have u7 := one_u8 W6 r.owner
 replace r5' := r5'.up (.cells #[.int .u8 (r.owner % 256)] 5)
 replace S := S.alloc (.cells #[.int .u8 (r.owner % 256)] 5)
 refine ⟨fun _ => box23 S, LexW.cons rfl ?_⟩
 generalize W6.alloc (.cells #[.int .u8 (r.owner % 256)] 5) = W6a at S r5' u7 ⊢
 try go_frame
 go_wp2_with fail
 refine (joined_any A5' _ c5' 1 l5' [u8 r.owner] W6a r5' u7 (by have := L5'.out; omega) (by simp)).mono ?_
 rintro e W6b ⟨v7, rfl, o7, hb⟩
 replace S := S.later hb
 obtain ⟨A7, c7, rfl, _, _, r7, _⟩ := o7.shape
 have L7 := Lib.hid (own_len (l' := []) L5'.out (u8 r.owner))
 generalize hl7 : l5' ++ [u8 r.owner] = l7 at r7 L7 ⊢
 clear hb o7 r5' u7
 go_wp2_with fail
 refine ⟨fun _ => box23 S, LexW.cons rfl ?_⟩
 try go_frame
 go_wp2_with fail
 refine (putText_any A7 c7 r.text l7 W6b r7 (by have := L7.out; omega) (by omega)).mono ?_
 rintro e W6c ⟨v7', rfl, o7', hb⟩
 replace S := S.later hb
 obtain ⟨A7', c7', rfl, _, _, r7', _⟩ := o7'.shape
 have L7' := Lib.hid (show (ptB l7 r.text.data.toList).length ≤ 109 by have := L7.out; have := ptB_len l7 r.text.data.toList; omega)
 generalize hl7' : ptB l7 r.text.data.toList = l7' at r7' L7' ⊢
 clear hb o7' r7
 go_wp2_with fail
 refine ⟨fun _ => box23 S, LexW.cons rfl ?_⟩
 try go_frame
 go_wp2_with fail
 refine ⟨fun _ => box23 S, LexW.nil ?_⟩
 go_wp2_with fail
 have HSZ := Lib.hid S.out.1.size
 refine (sum_any A7' c7' l7' W6c r7' (by have := L7'.out; omega)).mono ?_
 rintro e W8 ⟨rfl, rfl⟩
 go_wp2_with fail
 refine (putWord_any A7' c7' (crc l7') l7' W6c r7' (by have := L7'.out; omega)).mono ?_
 rintro e W9 ⟨v9, rfl, o9, hb⟩
 replace S := S.later hb
 have hsz := S.out.1
 have HE := Lib.hid (show l7' ++ wordBytes (crc l7') = withSum (recBody g p r) by
  rw [← hl7', ← hl7, ← hl5', ← hl5, ← hl3]
  unfold withSum recBody
  simp)
 have hb6 := Nat.le_trans hsz.size (Nat.le_refl _)
 clear hl7' hl7 hl5' hl5 hl3
 have O9 := ownsRow_mono o9 HSZ.out
 clear hb o9
 go_wp2_with fail
 go_ret
 exact ⟨v9, rfl, by rw [← HE.out]; exact O9, hsz⟩
theorem putRI_any (g p : Int) (r : Rec) (w : World) (hg : Given w) (hs : r.text.size ≤ 1048576) : Calls Tryz.prog 131 #[.int .i64 g, .int .i64 p, .agg (recC r).toArray] w (RetOwn w (putR g p r)) := by
 cases h0 : recB r
 ·rw [putR_bad (.inl h0)]; exact putRI_bad g p r w hg hs h0 rfl rfl rfl
 ·cases h1 : inI g 0 65535
  ·rw [putR_bad (.inr (.inl h1))]; exact putRI_bad g p r w hg hs h0 h1 rfl rfl
  ·cases h2 : inI p 0 65535
   ·rw [putR_bad (.inr (.inr h2))]; exact putRI_bad g p r w hg hs h0 h1 h2 rfl
   ·rw [putR_ok h0 h1 h2]; exact putRI_ok g p r w hg hs h0 h1 h2
theorem putR_len (g p : Int) (r : Rec) : (putR g p r).length ≤ 111 := by
 unfold putR
 split
 ·rw [withSum_len]
  unfold recBody
  have := ptB_len ((((wordBytes g ++ wordBytes p) ++ [u8 r.kind]) ++ wordBytes r.n) ++ [u8 r.owner]) r.text.data.toList
  have e : ((((wordBytes g ++ wordBytes p) ++ [u8 r.kind]) ++ wordBytes r.n) ++ [u8 r.owner]).length = 8 := by simp [wordBytes]
  omega
 ·simp
end Go.Proofs.YtoaaogacaibedaaGreatDoor
