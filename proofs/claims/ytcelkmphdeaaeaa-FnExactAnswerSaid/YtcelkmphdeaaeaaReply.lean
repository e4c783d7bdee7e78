/- What a server sends after a frame. (By gen_l8a.py.) -/
import Derived.Test.YtcelkmphdeaaeaaTogA
import Derived.Test.YtcelkmphdeaaeaaTFrame
import Derived.Test.YtcelkmphdeaaeaaLexG
import Derived.Test.YtcelkmphdeaaeaaFrames
import Derived.Test.YtcelkmphdeaaeaaSockS
import Derived.Test.YtcelkmphdeaaeaaPutText
import Derived.Deep.Cut
namespace Go.Proofs.Ytcelkmphdeaaeaa
open Go.RowKit
set_option maxRecDepth 100000
set_option linter.unusedVariables false

def sForm : ByteArray := ⟨#[102, 111, 114, 109]⟩
def repL (st : Int) (f : Fr) : List Fr := if f.k = 2 then answerA st f.s else [⟨6, sForm, 0⟩, ⟨5, ⟨#[]⟩, st⟩]
def repS (st : Int) (f : Fr) : Int := if f.k = 2 then nextS st (wordQ f.s) else st
def allB (l : List Fr) : List UInt8 := l.flatMap putF
theorem repL_two {st : Int} {f : Fr} (h1 : inI st 0 2 = true) (h2 : frB f = true) : ∃ a b, repL st f = [a, b] ∧ a.s.size ≤ 1048576 ∧ b.s.size ≤ 1048576 ∧ b.k = 5 ∧ b.st = repS st f ∧ frB a = true ∧ frB b = true ∧ inI (repS st f) 0 2 = true := by
  unfold repL repS
  by_cases hk : f.k = 2
  · rw [if_pos hk, if_pos hk]
    obtain ⟨k, s, fst⟩ := f
    replace hk : k = 2 := hk
    subst hk
    rw [frB_2] at h2
    have hok : okB s.data.toList = true := by simp at h2; exact h2.1
    have hns := nextS_in st (wordQ s)
    have hin : inI (nextS st (wordQ s)) 0 2 = true := by unfold inI; simp; omega
    refine ⟨_, _, answerA_yes h1 hok, ?_, (show (⟨#[]⟩ : ByteArray).size ≤ 1048576 by decide), rfl, rfl, ?_, ?_, hin⟩
    · unfold firstA
      (repeat' split) <;> first | decide | skip
      all_goals (have h9 := okB_len hok; have e9 : s.size = s.data.toList.length := Array.length_toList.symm
                 show s.size ≤ 1048576; omega)
    · unfold firstA
      (repeat' split) <;> first | decide | skip
      all_goals (rw [frB_4, hok]; rfl)
    · rw [frB_5, hin]; rfl
  · rw [if_neg hk, if_neg hk]
    exact ⟨_, _, rfl, (show sForm.size ≤ 1048576 by decide), (show (⟨#[]⟩ : ByteArray).size ≤ 1048576 by decide), rfl, rfl, by decide, by rw [frB_5, h1]; rfl, h1⟩

def RetRep (w : World) (l : List Fr) (st : Int) (e : Ending) (w' : World) : Prop := ∃ A c, e = .returned (.tuple #[.slice A l.length c, .int .i64 st]) ∧ w'.ownsRow w.heap.size 33 3 (.slice A l.length c) l.length (flatFr l) ∧ Below w.heap.size w w'
set_option maxHeartbeats 8000000 in
theorem reply_any (st : Int) (f : Fr) (w : World) (hs : f.s.size ≤ 1048576) : Calls Try.prog 104 #[.int .i64 st, .agg (frC f).toArray] w (RetRep w (repL st f) (repS st f)) := by
  obtain ⟨fk, fs, fst⟩ := f
  have F : All (fun w' => Below w.heap.size w w' ∧ (w'.heap[w.heap.size]? = some (.cells #[.int .i64 fk, .string fs, .int .i64 fst] 33 (0, 0)))) (w.alloc (.cells #[.int .i64 fk, .string fs, .int .i64 fst] 33)) := ⟨Later.alloc w _, heap_alloc_new w _⟩
  by_cases hk : fk = 2
  · obtain ⟨L, hL⟩ : ∃ L, repL st ⟨fk, fs, fst⟩ = L := ⟨_, rfl⟩
    obtain ⟨n, hn⟩ : ∃ n, repS st ⟨fk, fs, fst⟩ = n := ⟨_, rfl⟩
    obtain ⟨q, hq⟩ : ∃ q, wordQ fs = q := ⟨_, rfl⟩
    have HL := Lib.hid (show answerA st fs = L by rw [← hL]; unfold repL; rw [if_pos hk])
    have HN := Lib.hid (show nextS st q = n by rw [← hn, ← hq]; unfold repS; rw [if_pos hk])
    have HQ := Lib.hid hq
    rw [hL, hn]
    clear hL hn hq
    have hke : (fk == 2) = true := by simp [hk]
    subst hk
    unfold frC
    go_enter Try.func104, Try.ntmps104
    go_upto_region 2 with (fail)
    generalize w.alloc (.cells #[.int .i64 2, .string fs, .int .i64 fst] 33) = W at F ⊢
    refine wp_region_open 100 (fun w' => w'.heap[w.heap.size]? = some (.cells #[.int .i64 2, .string fs, .int .i64 fst] 33 (0, 0))) (by kernel_rfl) ?_
    replace F := F.drew
    generalize W.drew = W at F ⊢
    refine wpAnyL_readsG [0, 1, 2, 4, 5, 6] (fuel := 5) (by kernel_rfl) F.out.2 ?_
    refine LexRG.yes rfl (by first | rfl | (simp [Region.wanted, yielded]; done)) ?_ (fun w' hw => ?_) ?_
    rotate_left
    focus (skip; clear hw; go_simp; (try exact rfl))
    try go_frame
    refine LexRG.yes rfl (by first | rfl | (simp [Region.wanted, yielded]; done)) ?_ (fun w' hw => ?_) ?_
    rotate_left
    focus (skip; clear hw; go_simp; (try exact rfl))
    try go_frame
    refine LexRG.yes rfl (by first | rfl | (simp [Region.wanted, yielded]; done)) ?_ (fun w' hw => ?_) ?_
    rotate_left
    focus (have f1 := var_cell hw 1; clear hw; go_simp; (try exact rfl))
    try go_frame
    refine LexRG.yes rfl (by first | rfl | (simp [Region.wanted, yielded]; done)) ?_ (fun w' hw => ?_) ?_
    rotate_left
    focus (skip; clear hw; go_simp; (try exact rfl))
    try go_frame
    refine LexRG.yes rfl (by first | rfl | (simp [Region.wanted, yielded]; done)) ?_ (fun w' hw => ?_) ?_
    rotate_left
    focus (skip; clear hw; go_simp; (try exact rfl))
    try go_frame
    refine LexRG.yes rfl (by first | rfl | (simp [Region.wanted, yielded]; done)) ?_ (fun w' hw => ?_) ?_
    rotate_left
    focus (have f1 := var_cell hw 1; clear hw; go_simp; (try exact rfl))
    try go_frame
    refine LexRG.nil ?_
    refine wpAnyL_one (i := 3) (by kernel_rfl) ?_
    refine lexA_get rfl ?_
    try go_frame
    go_wp2_with fail
    refine (answerTo_any st fs W hs).mono ?_
    rw [HL.out]
    rintro e W1 ⟨A1, c1, rfl, o1, hb⟩
    have hlo := F.out.1.size
    replace F := F.later hb
    clear hb
    go_wp2_with fail
    refine ⟨fun _ => F.out.2, ?_⟩
    refine wpAnyL_one (i := 7) (by kernel_rfl) ?_
    refine lexA_get rfl ?_
    try go_frame
    go_wp2_with fail
    refine (wordOf_any fs W1).mono ?_
    rw [HQ.out]
    rintro e w9 ⟨rfl, rfl⟩
    go_wp2_with fail
    refine ⟨fun _ => F.out.2, ?_⟩
    refine wpAnyL_one (i := 8) (by kernel_rfl) ?_
    refine lexA_get rfl ?_
    try go_frame
    go_wp2_with fail
    refine (nextSt_any st q W1).mono ?_
    rw [HN.out]
    rintro e w9 ⟨rfl, rfl⟩
    go_wp2_with fail
    refine ⟨fun _ => F.out.2, ?_⟩
    refine wpAnyL_writes [9, 10] (by kernel_rfl) (LexW.cons rfl ?_)
    try go_frame
    go_wp2_with fail
    refine ⟨fun _ => F.out.2, LexW.cons rfl ?_⟩
    try go_frame
    go_wp2_with fail
    refine ⟨fun _ => F.out.2, LexW.nil ?_⟩
    have hfin := F.out.1
    go_wp2_with fail
    go_ret2
    exact ⟨A1, c1, rfl, ownsRow_mono o1 hlo, hfin⟩
  · have hke : (fk == 2) = false := by simp [hk]
    have hL : repL st ⟨fk, fs, fst⟩ = [⟨6, sForm, 0⟩, ⟨5, ⟨#[]⟩, st⟩] := if_neg hk
    have hn : repS st ⟨fk, fs, fst⟩ = st := if_neg hk
    rw [hL, hn]
    clear hL hn
    have HF := Lib.hid F
    unfold frC
    go_enter Try.func104, Try.ntmps104
    go_wp2_with fail
    go_ret2
    have h9 := frS_lit (w.alloc (.cells #[.int .i64 fk, .string fs, .int .i64 fst] 33)) w.heap.size HF.out.out.1.size ⟨6, sForm, 0⟩ ⟨5, ⟨#[]⟩, st⟩
    have e9 : (w.alloc (.cells #[.int .i64 fk, .string fs, .int .i64 fst] 33)).heap.size = w.heap.size + 1 := by simp
    rw [e9] at h9
    refine ⟨_, _, rfl, h9, ?_⟩
    exact Later.trans HF.out.out.1 (Later.alloc _ _)

end Go.Proofs.Ytcelkmphdeaaeaa
