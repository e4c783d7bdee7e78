/- The heap of all waiting clients. -/
import Derived.Test.YtgdhhhibkhfdlaaHeapK
namespace Go.Proofs.Ytgdhhhibkhfdlaa
open Go.RowKit HeapP
set_option linter.unusedVariables false
set_option maxRecDepth 100000

def ArrQ (w : World) (A : Option Addr) (c : Nat) (xs : List Ak) (k : Nat) (wr : World) : Prop := ∃ B m, HpQ wr w.heap.size A c xs B (srtA xs k) m ∧ m ≤ k ∧ Below w.heap.size w wr

set_option maxHeartbeats 4000000 in
theorem arrivalsOf_any (A : Option Addr) (c : Nat) (xs : List Ak) (w : World) (h : Rep.RowsAt akR w w.heap.size A xs.length xs) (hn : xs.length ≤ 1048576) :
    Calls Try.prog 117 #[.slice A xs.length c] w (fun e w' => e = .returned (.pointer (some ⟨w.heap.size, 0, none⟩)) ∧ ArrQ w A c xs xs.length w') := by
  have hb := Later.alloc w (.cells #[.slice A xs.length c, .slice none 0 0] 198)
  have H0 := Lib.hid (show ArrQ w A c xs 0 (w.alloc (.cells #[.slice A xs.length c, .slice none 0 0] 198)) from
    ⟨none, 0, ⟨0, [], ⟨heap_alloc_new w _, World.ownsRow_nil _ _ _ _, h.keep fun p hp => World.cell?_alloc_lt w _ p (by omega), fun p hp => (by simp at hp), hn, by simp⟩, hs_nil, rfl⟩, Nat.le_refl _, hb⟩)
  clear h hb
  go_enter Try.func117, Try.ntmps117
  go_wp2_with fail
  go_loopw [11] (fun i wr => ∃ k : Nat, k ≤ xs.length ∧ i = .int .i64 k ∧ Hid (ArrQ w A c xs k wr)) (fun i _ => xs.length - (intOf i).toNat)
  case atStart => exact ⟨0, by omega, rfl, H0⟩
  case round =>
    clear H0
    obtain ⟨k, hk, rfl, HQ⟩ := hrel
    by_cases hlt : k < xs.length
    · obtain ⟨B, m, hq, hm, hb⟩ := HQ.out
      have hrw : Rep.RowsAt akR wr w.heap.size A xs.length xs := by
        obtain ⟨d, P, h1, h2⟩ := hq
        exact h1.rows
      obtain ⟨b, off, x, rfl, hbl, hx, e0, e1, e2, e3, e4, e5, e6, e7⟩ := ak_elem hrw hlt
      have hgl := hq.lt
      have hbx := Later.alloc wr (.cells #[.int .i64 x.sock, .string x.db, .int .i64 x.st, .int .i64 x.ticket, .int .i64 x.since, .string x.q, .int .i64 x.line, .int .i64 x.lease] 50)
      have hq2 := hq.below hbx
      have hb2 : Below w.heap.size w (wr.alloc (.cells #[.int .i64 x.sock, .string x.db, .int .i64 x.st, .int .i64 x.ticket, .int .i64 x.since, .string x.q, .int .i64 x.line, .int .i64 x.lease] 50)) := Later.trans hb hbx
      have HX := Lib.hid hx
      by_cases hs : x.st = 2
      · have ht : (x.st == 2) = true := by simp [hs]
        have HP := Lib.hid (heapPush_any hq2 k hlt (by omega) (srtA_new xs k))
        have HB := Lib.hid hb2
        have HFP := Lib.hid hq2.fp
        have HS := Lib.hid hs
        clear hx hs hq hq2 hb hb2 hbx hrw HQ
        go_wp2_with fail
        refine HP.out.mono ?_
        rintro e w3 ⟨rfl, B', hq3, hmv⟩
        have HQ3 : Hid (ArrQ w (some ⟨b, off, none⟩) c xs (k + 1) w3) := Lib.hid ⟨B', m + 1, by rw [srtA_yes HX.out HS.out]; exact hq3, by omega, Rep.Only.below HB.out hmv.only HB.out.size (fun a ha => (HFP.out a ha).1)⟩
        clear hq3 hmv HB HP HFP e0 e1 e2 e3 e4 e5 e6 e7
        go_wp2_with fail
        go_roundw
        case rel => exact ⟨k + 1, by omega, by go_num, HQ3⟩
        case measure => simp [intOf]; omega
      · have ht : (x.st == 2) = false := by simp [hs]
        have HQ3 : Hid (ArrQ w (some ⟨b, off, none⟩) c xs (k + 1) (wr.alloc (.cells #[.int .i64 x.sock, .string x.db, .int .i64 x.st, .int .i64 x.ticket, .int .i64 x.since, .string x.q, .int .i64 x.line, .int .i64 x.lease] 50))) :=
          Lib.hid ⟨B, m, by rw [srtA_no hx hs]; exact hq2, by omega, hb2⟩
        clear hx hs hq hq2 hb hb2 hbx hrw HQ HX
        go_wp2_with fail
        go_roundw
        case rel => exact ⟨k + 1, by omega, by go_num, HQ3⟩
        case measure => simp [intOf]; omega
    · have he : k = xs.length := by omega
      subst he
      go_wp2_with fail
      go_ret
      exact ⟨rfl, HQ.out⟩

end Go.Proofs.Ytgdhhhibkhfdlaa
