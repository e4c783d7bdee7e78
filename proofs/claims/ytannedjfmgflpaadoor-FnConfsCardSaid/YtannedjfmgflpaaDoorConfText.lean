/- ConfText, of the program and of the model. -/
import Derived.Test.YtannedjfmgflpaaDoorConfOkI
import Derived.Test.YtannedjfmgflpaaDoorNumText
import Derived.Test.YtannedjfmgflpaaDoorLex
import Derived.Maps.RangeWalk
import Derived.WalkSpells
namespace Go.Proofs.YtannedjfmgflpaaDoor
open Go.RowKit
set_option maxRecDepth 100000
set_option linter.unusedVariables false

instance Tab.keeps : Keeps Tab := ⟨fun h x => x.below h⟩

def numT (n : Int) : ByteArray := ⟨(Lib.itoa n).toArray⟩
def colon : ByteArray := ⟨#[58]⟩
def slash : ByteArray := ⟨#[47]⟩
def dbT (d : Db) : ByteArray := ((((((((d.name ++ (⟨#[58]⟩ : ByteArray)) ++ (⟨(Lib.itoa d.size).toArray⟩ : ByteArray)) ++ (⟨#[47]⟩ : ByteArray)) ++ (⟨(Lib.itoa d.queue).toArray⟩ : ByteArray)) ++ (⟨#[47]⟩ : ByteArray)) ++ (⟨(Lib.itoa d.wait).toArray⟩ : ByteArray)) ++ (⟨#[47]⟩ : ByteArray)) ++ (⟨(Lib.itoa d.idle).toArray⟩ : ByteArray))
def dbL (d : Db) : List UInt8 := d.name.data.toList ++ [58] ++ Lib.itoa d.size ++ [47] ++ Lib.itoa d.queue ++ [47] ++ Lib.itoa d.wait ++ [47] ++ Lib.itoa d.idle
theorem ba_append (a b : ByteArray) : (a ++ b).data.toList = a.data.toList ++ b.data.toList := by simp
theorem dbT_list (d : Db) : (dbT d).data.toList = dbL d := by simp [dbT, dbL]

/-- A valid database's numbers are small. -/
def SmallDb (d : Db) : Prop := d.name.size ≤ 8 ∧ (0 ≤ d.size ∧ d.size ≤ 20) ∧ (0 ≤ d.queue ∧ d.queue ≤ 20) ∧ (0 ≤ d.wait ∧ d.wait ≤ 20) ∧ (0 ≤ d.idle ∧ d.idle ≤ 20)
theorem small_of {d : Db} (h : dbB d = true) : SmallDb d := by
  unfold dbB at h
  simp only [Bool.and_eq_true] at h
  obtain ⟨⟨⟨⟨h0, h1⟩, h2⟩, h3⟩, h4⟩ := h
  unfold nameB at h0
  simp only [Bool.and_eq_true] at h0
  have g0 := of_decide_eq_true h0.1
  have g1 := of_decide_eq_true h1
  have g2 := of_decide_eq_true h2
  have g3 := of_decide_eq_true h3
  have g4 := of_decide_eq_true h4
  have e : d.name.data.toList.length = d.name.size := by simp
  exact ⟨by omega, by omega, by omega, by omega, by omega⟩
theorem itoa_small {n : Int} (h0 : 0 ≤ n) (h1 : n ≤ 20) : (Lib.itoa n).length ≤ 20 := by
  obtain ⟨m, rfl⟩ := Int.eq_ofNat_of_zero_le h0
  rw [Lib.itoa_nonneg]
  exact decDigits_le m (by omega)

set_option maxHeartbeats 4000000 in
theorem dbText_any (d : Db) (hd : dbB d = true) (w : World) (ht : Tab w) :
    Calls Tryd.prog 31 #[.agg (dbC d).toArray] w fun e w' => e = .returned (.string (dbT d)) ∧ Below w.heap.size w w' := by
  obtain ⟨s0, ⟨s1, s1'⟩, ⟨s2, s2'⟩, ⟨s3, s3'⟩, ⟨s4, s4'⟩⟩ := small_of hd
  have n1 := itoa_small s1 s1'
  have n2 := itoa_small s2 s2'
  have n3 := itoa_small s3 s3'
  have n4 := itoa_small s4 s4'
  have HT := Lib.hid ht
  clear ht hd
  unfold dbC
  go_enter Tryd.func31, Tryd.ntmps31
  go_wp2_with fail
  have hb := (Below.refl w.heap.size w).alloc (Nat.le_refl _) (.cells #[.string d.name, .int .i64 d.size, .int .i64 d.queue, .int .i64 d.wait, .int .i64 d.idle] 35)
  have hv := heap_alloc_new w (.cells #[.string d.name, .int .i64 d.size, .int .i64 d.queue, .int .i64 d.wait, .int .i64 d.idle] 35)
  have hz : w.heap.size < (w.alloc (.cells #[.string d.name, .int .i64 d.size, .int .i64 d.queue, .int .i64 d.wait, .int .i64 d.idle] 35)).heap.size := by simp
  generalize hgW : w.alloc (.cells #[.string d.name, .int .i64 d.size, .int .i64 d.queue, .int .i64 d.wait, .int .i64 d.idle] 35) = W1 at hb hv hz ⊢
  clear hgW
  have S : All (fun w' => Below w.heap.size w w' ∧ Tab w' ∧ w.heap.size < w'.heap.size ∧ Hid (w'.heap[w.heap.size]? = some (.cells #[.string d.name, .int .i64 d.size, .int .i64 d.queue, .int .i64 d.wait, .int .i64 d.idle] 35 (0, 0)))) W1 := ⟨hb, HT.out.below hb, hz, Lib.hid hv⟩
  clear hb hv hz
  refine wp_region_open 100 (fun w' => w'.cell? ⟨w.heap.size, 0, none⟩ = some (.string d.name) ∧ w'.cell? ⟨w.heap.size, 1, none⟩ = some (.int .i64 d.size) ∧ w'.cell? ⟨w.heap.size, 2, none⟩ = some (.int .i64 d.queue) ∧ w'.cell? ⟨w.heap.size, 3, none⟩ = some (.int .i64 d.wait) ∧ w'.cell? ⟨w.heap.size, 4, none⟩ = some (.int .i64 d.idle)) (by kernel_rfl) ?_
  refine wpAnyL_reads [0, 1, 2, 3, 4, 8, 9, 13, 14, 18, 19] (fuel := 12) (by kernel_rfl) ⟨var_cell S.out.2.2.2.out 0, var_cell S.out.2.2.2.out 1, var_cell S.out.2.2.2.out 2, var_cell S.out.2.2.2.out 3, var_cell S.out.2.2.2.out 4⟩ ?_
  iterate 11 (refine LexR.cons rfl ?_ (fun w' hw => ?_) ?_; rotate_left; focus (obtain ⟨e1, e2, e3, e4, e5⟩ := hw; go_simp; (try (rw [if_neg (by (try simp); omega)])); (try exact rfl)); (try go_frame))
  refine LexR.nil ?_
  replace S := S.drew
  refine wpAnyL_one (i := 5) (by kernel_rfl) ?_
  refine lexA_get rfl ?_
  try go_frame
  go_wp2_with fail
  refine (numText_any _ (by omega) (by omega) _ S.out.2.1).mono ?_
  rintro e W2 ⟨rfl, hb⟩
  replace S := S.later hb
  clear hb
  go_wp2_with fail
  refine ⟨fun _ => ⟨var_cell S.out.2.2.2.out 0, var_cell S.out.2.2.2.out 1, var_cell S.out.2.2.2.out 2, var_cell S.out.2.2.2.out 3, var_cell S.out.2.2.2.out 4⟩, ?_⟩
  refine wpAnyL_reads [6, 7] (fuel := 9) (by kernel_rfl) ⟨var_cell S.out.2.2.2.out 0, var_cell S.out.2.2.2.out 1, var_cell S.out.2.2.2.out 2, var_cell S.out.2.2.2.out 3, var_cell S.out.2.2.2.out 4⟩ ?_
  iterate 2 (refine LexR.cons rfl ?_ (fun w' hw => ?_) ?_; rotate_left; focus (obtain ⟨e1, e2, e3, e4, e5⟩ := hw; go_simp; (try (rw [if_neg (by (try simp); omega)])); (try exact rfl)); (try go_frame))
  refine LexR.nil ?_
  refine wpAnyL_one (i := 10) (by kernel_rfl) ?_
  refine lexA_get rfl ?_
  try go_frame
  go_wp2_with fail
  refine (numText_any _ (by omega) (by omega) _ S.out.2.1).mono ?_
  rintro e W3 ⟨rfl, hb⟩
  replace S := S.later hb
  clear hb
  go_wp2_with fail
  refine ⟨fun _ => ⟨var_cell S.out.2.2.2.out 0, var_cell S.out.2.2.2.out 1, var_cell S.out.2.2.2.out 2, var_cell S.out.2.2.2.out 3, var_cell S.out.2.2.2.out 4⟩, ?_⟩
  refine wpAnyL_reads [11, 12] (fuel := 6) (by kernel_rfl) ⟨var_cell S.out.2.2.2.out 0, var_cell S.out.2.2.2.out 1, var_cell S.out.2.2.2.out 2, var_cell S.out.2.2.2.out 3, var_cell S.out.2.2.2.out 4⟩ ?_
  iterate 2 (refine LexR.cons rfl ?_ (fun w' hw => ?_) ?_; rotate_left; focus (obtain ⟨e1, e2, e3, e4, e5⟩ := hw; go_simp; (try (rw [if_neg (by (try simp); omega)])); (try exact rfl)); (try go_frame))
  refine LexR.nil ?_
  refine wpAnyL_one (i := 15) (by kernel_rfl) ?_
  refine lexA_get rfl ?_
  try go_frame
  go_wp2_with fail
  refine (numText_any _ (by omega) (by omega) _ S.out.2.1).mono ?_
  rintro e W4 ⟨rfl, hb⟩
  replace S := S.later hb
  clear hb
  go_wp2_with fail
  refine ⟨fun _ => ⟨var_cell S.out.2.2.2.out 0, var_cell S.out.2.2.2.out 1, var_cell S.out.2.2.2.out 2, var_cell S.out.2.2.2.out 3, var_cell S.out.2.2.2.out 4⟩, ?_⟩
  refine wpAnyL_reads [16, 17] (fuel := 3) (by kernel_rfl) ⟨var_cell S.out.2.2.2.out 0, var_cell S.out.2.2.2.out 1, var_cell S.out.2.2.2.out 2, var_cell S.out.2.2.2.out 3, var_cell S.out.2.2.2.out 4⟩ ?_
  iterate 2 (refine LexR.cons rfl ?_ (fun w' hw => ?_) ?_; rotate_left; focus (obtain ⟨e1, e2, e3, e4, e5⟩ := hw; go_simp; (try (rw [if_neg (by (try simp); omega)])); (try exact rfl)); (try go_frame))
  refine LexR.nil ?_
  refine wpAnyL_one (i := 20) (by kernel_rfl) ?_
  refine lexA_get rfl ?_
  try go_frame
  go_wp2_with fail
  refine (numText_any _ (by omega) (by omega) _ S.out.2.1).mono ?_
  rintro e W5 ⟨rfl, hb⟩
  replace S := S.later hb
  clear hb
  go_wp2_with fail
  refine ⟨fun _ => ⟨var_cell S.out.2.2.2.out 0, var_cell S.out.2.2.2.out 1, var_cell S.out.2.2.2.out 2, var_cell S.out.2.2.2.out 3, var_cell S.out.2.2.2.out 4⟩, ?_⟩
  refine wpAnyL_reads [21] (fuel := 1) (by kernel_rfl) ⟨var_cell S.out.2.2.2.out 0, var_cell S.out.2.2.2.out 1, var_cell S.out.2.2.2.out 2, var_cell S.out.2.2.2.out 3, var_cell S.out.2.2.2.out 4⟩ ?_
  iterate 1 (refine LexR.cons rfl ?_ (fun w' hw => ?_) ?_; rotate_left; focus (obtain ⟨e1, e2, e3, e4, e5⟩ := hw; go_simp; (try (rw [if_neg (by (try simp); omega)])); (try exact rfl)); (try go_frame))
  refine LexR.nil ?_
  refine wpAnyL_writes [22] (by kernel_rfl) (LexW.cons rfl ?_)
  try go_frame
  go_wp2_with fail
  refine ⟨fun _ => ⟨var_cell S.out.2.2.2.out 0, var_cell S.out.2.2.2.out 1, var_cell S.out.2.2.2.out 2, var_cell S.out.2.2.2.out 3, var_cell S.out.2.2.2.out 4⟩, LexW.nil ?_⟩
  go_wp2_with fail
  go_ret
  exact ⟨rfl, S.out.1⟩

end Go.Proofs.YtannedjfmgflpaaDoor
