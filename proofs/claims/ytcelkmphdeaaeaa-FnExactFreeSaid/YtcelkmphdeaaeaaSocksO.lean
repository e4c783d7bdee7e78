/- Lists of sockets of the model: whether one is right. (By gen_sockso.py.) -/
import Derived.Test.YtcelkmphdeaaeaaSocksS
import Derived.Test.YtcelkmphdeaaeaaLexG
namespace Go.Proofs.Ytcelkmphdeaaeaa
open Go.RowKit
set_option maxRecDepth 100000
set_option linter.unusedVariables false

def SkAt (A4 A5 : Option Addr) (c4 c5 : Nat) (x : Sk) (w : World) : Prop := skR.at_ w w.heap.size [.int .i64 x.id, .int .i64 x.kind, .int .i64 x.hold, .bool x.shut, .slice A4 x.inn.length c4, .slice A5 x.out.length c5, .int .i64 x.st, .int .i64 x.done] x
instance (A4 A5 : Option Addr) (c4 c5 : Nat) (x : Sk) : Keeps (SkAt A4 A5 c4 c5 x) := ⟨fun h y => skR.more (Rep.at_below y h) h.size⟩
theorem sockOkS_frame {A4 A5 : Option Addr} {c4 c5 : Nat} {x : Sk} {y : Bool} (w : World) (h : SkAt A4 A5 c4 c5 x w) (hy : skB x = y) :
    Calls Try.prog 25 #[.agg #[.int .i64 x.id, .int .i64 x.kind, .int .i64 x.hold, .bool x.shut, .slice A4 x.inn.length c4, .slice A5 x.out.length c5, .int .i64 x.st, .int .i64 x.done]] w fun e w' => e = .returned (.bool y) ∧ Below w.heap.size w w' := by
  subst hy
  exact sockOkS_any _ x w h

/-- The identity of the socket ahead of place k. -/
def lastTo (xs : List Sk) (k : Nat) (l : Int) : Prop := (k = 0 ∧ l = 0) ∨ ∃ (m : Nat) (y : Sk), k = m + 1 ∧ xs[m]? = some y ∧ l = y.id

set_option maxHeartbeats 8000000 in
theorem socksOkS_any (A : Option Addr) (c : Nat) (xs : List Sk) (w : World) (h : Rep.RowsAt skR w w.heap.size A xs.length xs) (hn : xs.length ≤ 9223372036854775807) :
    Calls Try.prog 29 #[.slice A xs.length c] w (RetBool w (socksB xs)) := by
  go_enter Try.func29, Try.ntmps29
  go_wp2
  go_loopw [3] (fun i wr => ∃ (k : Nat) (l : Int), k ≤ xs.length ∧ i = .int .i64 k ∧ Hid (socksF 0 xs = socksF l (xs.drop k)) ∧ Hid (lastTo xs k l) ∧ Below w.heap.size w wr) (fun i _ => xs.length - (intOf i).toNat)
  case atStart => exact ⟨0, 0, by omega, rfl, Lib.hid rfl, Lib.hid (.inl ⟨rfl, rfl⟩), Below.refl _ _⟩
  case round =>
    obtain ⟨k, l, hk, rfl, hq, hla, hb⟩ := hrel
    by_cases hlt : k < xs.length
    · obtain ⟨b, off, x, A4, c4, A5, c5, rfl, hbl, hx, ⟨e0, e1, e2, e3, e4, e5, e6, e7⟩, hc4, hr4, hc5, hr5⟩ := sk_elem (h.keep fun p hp => hb.cell hp) hlt
      have hat : SkAt A4 A5 c4 c5 x wr := sk_at hc4 (hr4.more hb.size) hc5 (hr5.more hb.size)
      have HX := Lib.hid hx
      obtain ⟨y, hy⟩ : ∃ y, skB x = y := ⟨_, rfl⟩
      have HY := Lib.hid hy
      clear hx hy hr4 hr5 hc4 hc5
      have i1 : (0 : Int) ≤ (k : Int) := by omega
      have i2 : (k : Int) < (xs.length : Int) := by omega
      cases y
      · have T : All (fun w' => (Below w.heap.size w w' ∧ SkAt A4 A5 c4 c5 x w') ∧ (w'.cell? ⟨b, off + k * 8, none⟩ = some (.int .i64 x.id) ∧ w'.cell? ⟨b, off + k * 8 + 1, none⟩ = some (.int .i64 x.kind) ∧ w'.cell? ⟨b, off + k * 8 + 2, none⟩ = some (.int .i64 x.hold) ∧ w'.cell? ⟨b, off + k * 8 + 3, none⟩ = some (.bool x.shut) ∧ w'.cell? ⟨b, off + k * 8 + 4, none⟩ = some (.slice A4 x.inn.length c4) ∧ w'.cell? ⟨b, off + k * 8 + 5, none⟩ = some (.slice A5 x.out.length c5) ∧ w'.cell? ⟨b, off + k * 8 + 6, none⟩ = some (.int .i64 x.st) ∧ w'.cell? ⟨b, off + k * 8 + 7, none⟩ = some (.int .i64 x.done))) wr := ⟨⟨hb, hat⟩, ⟨e0, e1, e2, e3, e4, e5, e6, e7⟩⟩
        have HF := Lib.hid (hq.out.trans (socksF_bad HX.out (.inl HY.out)))
        clear hq hla hb hat e0 e1 e2 e3 e4 e5 e6 e7
        go_upto_region 4 with (fail)
        refine wp_region_open 100 (fun w' => w'.cell? ⟨b, off + k * 8, none⟩ = some (.int .i64 x.id) ∧ w'.cell? ⟨b, off + k * 8 + 1, none⟩ = some (.int .i64 x.kind) ∧ w'.cell? ⟨b, off + k * 8 + 2, none⟩ = some (.int .i64 x.hold) ∧ w'.cell? ⟨b, off + k * 8 + 3, none⟩ = some (.bool x.shut) ∧ w'.cell? ⟨b, off + k * 8 + 4, none⟩ = some (.slice A4 x.inn.length c4) ∧ w'.cell? ⟨b, off + k * 8 + 5, none⟩ = some (.slice A5 x.out.length c5) ∧ w'.cell? ⟨b, off + k * 8 + 6, none⟩ = some (.int .i64 x.st) ∧ w'.cell? ⟨b, off + k * 8 + 7, none⟩ = some (.int .i64 x.done)) (by kernel_rfl) ?_
        replace T := T.drew
        refine wpAnyL_readsG [0, 1, 2, 3] (fuel := 20) (by kernel_rfl) T.out.2 ?_
        refine LexRG.yes rfl (by first | rfl | (simp [Region.wanted, yielded]; done)) ?_ (fun w' hw => ?_) ?_
        rotate_left
        focus (clear hw; go_simp; (try exact rfl))
        try go_frame
        refine LexRG.yes rfl (by first | rfl | (simp [Region.wanted, yielded]; done)) ?_ (fun w' hw => ?_) ?_
        rotate_left
        focus (clear hw; go_simp; (try exact rfl))
        try go_frame
        refine LexRG.yes rfl (by first | rfl | (simp [Region.wanted, yielded]; done)) ?_ (fun w' hw => ?_) ?_
        rotate_left
        focus (clear hw; go_simp; (try exact rfl))
        try go_frame
        refine LexRG.yes rfl (by first | rfl | (simp [Region.wanted, yielded]; done)) ?_ (fun w' hw => ?_) ?_
        rotate_left
        focus (have hw2 := hw; obtain ⟨e0, e1, e2, e3, e4, e5, e6, e7⟩ := hw2; clear hw; go_simp; (try exact rfl))
        try go_frame
        refine LexRG.nil ?_
        refine wpAnyL_one (i := 4) (by kernel_rfl) ?_
        refine lexA_get rfl ?_
        try go_frame
        go_wp2_with fail
        refine (sockOkS_frame wr.drew T.out.1.2 HY.out).mono ?_
        rintro e V1 ⟨rfl, hb⟩
        replace T := T.later hb
        clear hb
        go_wp2_with fail
        refine ⟨fun _ => T.out.2, ?_⟩
        refine wpAnyL_readsG [5, 6, 7, 8, 9, 10, 11, 12, 13, 14, 15, 16, 17, 18, 19, 20, 21, 22] (fuel := 1) (by kernel_rfl) T.out.2 ?_
        refine LexRG.yes rfl (by first | rfl | (simp [Region.wanted, yielded]; done)) ?_ (fun w' hw => ?_) ?_
        rotate_left
        focus (clear hw; go_simp; (try exact rfl))
        try go_frame
        refine LexRG.yes rfl (by first | rfl | (simp [Region.wanted, yielded]; done)) ?_ (fun w' hw => ?_) ?_
        rotate_left
        focus (clear hw; go_simp; (try exact rfl))
        try go_frame
        refine LexRG.no rfl (by first | rfl | (simp [Region.wanted, yielded]; done)) ?_
        try go_frame
        refine LexRG.no rfl (by first | rfl | (simp [Region.wanted, yielded]; done)) ?_
        try go_frame
        refine LexRG.no rfl (by first | rfl | (simp [Region.wanted, yielded]; done)) ?_
        try go_frame
        refine LexRG.no rfl (by first | rfl | (simp [Region.wanted, yielded]; done)) ?_
        try go_frame
        refine LexRG.no rfl (by first | rfl | (simp [Region.wanted, yielded]; done)) ?_
        try go_frame
        refine LexRG.no rfl (by first | rfl | (simp [Region.wanted, yielded]; done)) ?_
        try go_frame
        refine LexRG.no rfl (by first | rfl | (simp [Region.wanted, yielded]; done)) ?_
        try go_frame
        refine LexRG.no rfl (by first | rfl | (simp [Region.wanted, yielded]; done)) ?_
        try go_frame
        refine LexRG.no rfl (by first | rfl | (simp [Region.wanted, yielded]; done)) ?_
        try go_frame
        refine LexRG.no rfl (by first | rfl | (simp [Region.wanted, yielded]; done)) ?_
        try go_frame
        refine LexRG.no rfl (by first | rfl | (simp [Region.wanted, yielded]; done)) ?_
        try go_frame
        refine LexRG.no rfl (by first | rfl | (simp [Region.wanted, yielded]; done)) ?_
        try go_frame
        refine LexRG.no rfl (by first | rfl | (simp [Region.wanted, yielded]; done)) ?_
        try go_frame
        refine LexRG.no rfl (by first | rfl | (simp [Region.wanted, yielded]; done)) ?_
        try go_frame
        refine LexRG.no rfl (by first | rfl | (simp [Region.wanted, yielded]; done)) ?_
        try go_frame
        refine LexRG.no rfl (by first | rfl | (simp [Region.wanted, yielded]; done)) ?_
        try go_frame
        refine LexRG.nil ?_
        refine wpAnyL_writes [23] (by kernel_rfl) (LexW.cons rfl ?_)
        try go_frame
        go_wp2_with fail
        refine ⟨fun _ => T.out.2, LexW.nil ?_⟩
        have hfin := T.out.1.1
        go_wp2_with fail
        go_ret
        exact ⟨by unfold socksB; rw [HF.out]; exact rfl, hfin⟩
      · rcases hla.out with ⟨rfl, rfl⟩ | ⟨m, y, rfl, hy, rfl⟩
        · have hle : ¬ x.id ≤ 0 := by have := skB_id HY.out; omega
          have HF := Lib.hid (hq.out.trans (socksF_ok HX.out HY.out hle))
          have HL : Hid (lastTo xs (0 + 1) x.id) := Lib.hid (.inr ⟨0, x, rfl, HX.out, rfl⟩)
          have T : All (fun w' => (Below w.heap.size w w' ∧ SkAt A4 A5 c4 c5 x w') ∧ (w'.cell? ⟨b, off + 0 * 8, none⟩ = some (.int .i64 x.id) ∧ w'.cell? ⟨b, off + 0 * 8 + 1, none⟩ = some (.int .i64 x.kind) ∧ w'.cell? ⟨b, off + 0 * 8 + 2, none⟩ = some (.int .i64 x.hold) ∧ w'.cell? ⟨b, off + 0 * 8 + 3, none⟩ = some (.bool x.shut) ∧ w'.cell? ⟨b, off + 0 * 8 + 4, none⟩ = some (.slice A4 x.inn.length c4) ∧ w'.cell? ⟨b, off + 0 * 8 + 5, none⟩ = some (.slice A5 x.out.length c5) ∧ w'.cell? ⟨b, off + 0 * 8 + 6, none⟩ = some (.int .i64 x.st) ∧ w'.cell? ⟨b, off + 0 * 8 + 7, none⟩ = some (.int .i64 x.done))) wr := ⟨⟨hb, hat⟩, ⟨e0, e1, e2, e3, e4, e5, e6, e7⟩⟩
          clear hq hla hle hb hat e0 e1 e2 e3 e4 e5 e6 e7
          go_upto_region 4 with (fail)
          refine wp_region_open 100 (fun w' => w'.cell? ⟨b, off + 0 * 8, none⟩ = some (.int .i64 x.id) ∧ w'.cell? ⟨b, off + 0 * 8 + 1, none⟩ = some (.int .i64 x.kind) ∧ w'.cell? ⟨b, off + 0 * 8 + 2, none⟩ = some (.int .i64 x.hold) ∧ w'.cell? ⟨b, off + 0 * 8 + 3, none⟩ = some (.bool x.shut) ∧ w'.cell? ⟨b, off + 0 * 8 + 4, none⟩ = some (.slice A4 x.inn.length c4) ∧ w'.cell? ⟨b, off + 0 * 8 + 5, none⟩ = some (.slice A5 x.out.length c5) ∧ w'.cell? ⟨b, off + 0 * 8 + 6, none⟩ = some (.int .i64 x.st) ∧ w'.cell? ⟨b, off + 0 * 8 + 7, none⟩ = some (.int .i64 x.done)) (by kernel_rfl) ?_
          replace T := T.drew
          refine wpAnyL_readsG [0, 1, 2, 3] (fuel := 20) (by kernel_rfl) T.out.2 ?_
          refine LexRG.yes rfl (by first | rfl | (simp [Region.wanted, yielded]; done)) ?_ (fun w' hw => ?_) ?_
          rotate_left
          focus (clear hw; go_simp; (try exact rfl))
          try go_frame
          refine LexRG.yes rfl (by first | rfl | (simp [Region.wanted, yielded]; done)) ?_ (fun w' hw => ?_) ?_
          rotate_left
          focus (clear hw; go_simp; (try exact rfl))
          try go_frame
          refine LexRG.yes rfl (by first | rfl | (simp [Region.wanted, yielded]; done)) ?_ (fun w' hw => ?_) ?_
          rotate_left
          focus (clear hw; go_simp; (try exact rfl))
          try go_frame
          refine LexRG.yes rfl (by first | rfl | (simp [Region.wanted, yielded]; done)) ?_ (fun w' hw => ?_) ?_
          rotate_left
          focus (have hw2 := hw; obtain ⟨e0, e1, e2, e3, e4, e5, e6, e7⟩ := hw2; simp only [Nat.zero_mul, Nat.add_zero] at e0 e1 e2 e3 e4 e5 e6 e7; clear hw; go_simp; (try exact rfl))
          try go_frame
          refine LexRG.nil ?_
          refine wpAnyL_one (i := 4) (by kernel_rfl) ?_
          refine lexA_get rfl ?_
          try go_frame
          go_wp2_with fail
          refine (sockOkS_frame wr.drew T.out.1.2 HY.out).mono ?_
          rintro e V1 ⟨rfl, hb⟩
          replace T := T.later hb
          clear hb
          go_wp2_with fail
          refine ⟨fun _ => T.out.2, ?_⟩
          refine wpAnyL_readsG [5, 6, 7, 8, 9, 10, 11, 12, 13, 14, 15, 16, 17, 18, 19, 20, 21, 22] (fuel := 1) (by kernel_rfl) T.out.2 ?_
          refine LexRG.yes rfl (by first | rfl | (simp [Region.wanted, yielded]; done)) ?_ (fun w' hw => ?_) ?_
          rotate_left
          focus (clear hw; go_simp; (try exact rfl))
          try go_frame
          refine LexRG.yes rfl (by first | rfl | (simp [Region.wanted, yielded]; done)) ?_ (fun w' hw => ?_) ?_
          rotate_left
          focus (clear hw; go_simp; (try exact rfl))
          try go_frame
          refine LexRG.yes rfl (by first | rfl | (simp [Region.wanted, yielded]; done)) ?_ (fun w' hw => ?_) ?_
          rotate_left
          focus (clear hw; go_simp; (try exact rfl))
          try go_frame
          refine LexRG.yes rfl (by first | rfl | (simp [Region.wanted, yielded]; done)) ?_ (fun w' hw => ?_) ?_
          rotate_left
          focus (clear hw; go_simp; (try exact rfl))
          try go_frame
          refine LexRG.yes rfl (by first | rfl | (simp [Region.wanted, yielded]; done)) ?_ (fun w' hw => ?_) ?_
          rotate_left
          focus (clear hw; go_simp; (try exact rfl))
          try go_frame
          refine LexRG.no rfl (by first | rfl | (simp [Region.wanted, yielded]; done)) ?_
          try go_frame
          refine LexRG.no rfl (by first | rfl | (simp [Region.wanted, yielded]; done)) ?_
          try go_frame
          refine LexRG.no rfl (by first | rfl | (simp [Region.wanted, yielded]; done)) ?_
          try go_frame
          refine LexRG.no rfl (by first | rfl | (simp [Region.wanted, yielded]; done)) ?_
          try go_frame
          refine LexRG.no rfl (by first | rfl | (simp [Region.wanted, yielded]; done)) ?_
          try go_frame
          refine LexRG.no rfl (by first | rfl | (simp [Region.wanted, yielded]; done)) ?_
          try go_frame
          refine LexRG.no rfl (by first | rfl | (simp [Region.wanted, yielded]; done)) ?_
          try go_frame
          refine LexRG.no rfl (by first | rfl | (simp [Region.wanted, yielded]; done)) ?_
          try go_frame
          refine LexRG.no rfl (by first | rfl | (simp [Region.wanted, yielded]; done)) ?_
          try go_frame
          refine LexRG.no rfl (by first | rfl | (simp [Region.wanted, yielded]; done)) ?_
          try go_frame
          refine LexRG.no rfl (by first | rfl | (simp [Region.wanted, yielded]; done)) ?_
          try go_frame
          refine LexRG.no rfl (by first | rfl | (simp [Region.wanted, yielded]; done)) ?_
          try go_frame
          refine LexRG.yes rfl (by first | rfl | (simp [Region.wanted, yielded]; done)) ?_ (fun w' hw => ?_) ?_
          rotate_left
          focus (clear hw; go_simp; (try exact rfl))
          try go_frame
          refine LexRG.nil ?_
          refine wpAnyL_writes [23] (by kernel_rfl) (LexW.cons rfl ?_)
          try go_frame
          go_wp2_with fail
          refine ⟨fun _ => T.out.2, LexW.nil ?_⟩
          have hfin := T.out.1.1
          go_wp2_with fail
          go_roundw
          case rel => exact ⟨0 + 1, x.id, by omega, by go_num, HF, HL, hfin⟩
          case measure => simp [intOf]; omega
        · obtain ⟨b', off', y', _, _, _, _, hA', _, hy', ⟨f0, _⟩, _⟩ := sk_elem (h.keep fun p hp => hb.cell hp) (show m < xs.length by omega)
          injection hA' with hA'
          injection hA' with hq1 hq2 _
          subst hq1 hq2
          obtain rfl : y = y' := by rw [hy] at hy'; injection hy'
          have T : All (fun w' => (Below w.heap.size w w' ∧ SkAt A4 A5 c4 c5 x w') ∧ (w'.cell? ⟨b, off + (m + 1) * 8, none⟩ = some (.int .i64 x.id) ∧ w'.cell? ⟨b, off + (m + 1) * 8 + 1, none⟩ = some (.int .i64 x.kind) ∧ w'.cell? ⟨b, off + (m + 1) * 8 + 2, none⟩ = some (.int .i64 x.hold) ∧ w'.cell? ⟨b, off + (m + 1) * 8 + 3, none⟩ = some (.bool x.shut) ∧ w'.cell? ⟨b, off + (m + 1) * 8 + 4, none⟩ = some (.slice A4 x.inn.length c4) ∧ w'.cell? ⟨b, off + (m + 1) * 8 + 5, none⟩ = some (.slice A5 x.out.length c5) ∧ w'.cell? ⟨b, off + (m + 1) * 8 + 6, none⟩ = some (.int .i64 x.st) ∧ w'.cell? ⟨b, off + (m + 1) * 8 + 7, none⟩ = some (.int .i64 x.done) ∧ w'.cell? ⟨b, off + m * 8, none⟩ = some (.int .i64 y.id))) wr := ⟨⟨hb, hat⟩, ⟨e0, e1, e2, e3, e4, e5, e6, e7, f0⟩⟩
          have HL : Hid (lastTo xs (m + 1 + 1) x.id) := Lib.hid (.inr ⟨m + 1, x, rfl, HX.out, rfl⟩)
          have i3 : (0 : Int) < ((m : Int) + 1) := by omega
          have i4 : (m : Int) < (xs.length : Int) := by omega
          have i5 : (0 : Int) ≤ (m : Int) := by omega
          have i6 : IntKind.i64.wrap (m : Int) = (m : Int) := Lib.wrap_i64_small _ (by omega)
          clear hy hy' hla hb hat e0 e1 e2 e3 e4 e5 e6 e7 f0
          by_cases hle : x.id ≤ y.id
          · have HF := Lib.hid (hq.out.trans (socksF_bad HX.out (.inr hle)))
            clear hq
            go_upto_region 4 with (fail)
            refine wp_region_open 100 (fun w' => w'.cell? ⟨b, off + (m + 1) * 8, none⟩ = some (.int .i64 x.id) ∧ w'.cell? ⟨b, off + (m + 1) * 8 + 1, none⟩ = some (.int .i64 x.kind) ∧ w'.cell? ⟨b, off + (m + 1) * 8 + 2, none⟩ = some (.int .i64 x.hold) ∧ w'.cell? ⟨b, off + (m + 1) * 8 + 3, none⟩ = some (.bool x.shut) ∧ w'.cell? ⟨b, off + (m + 1) * 8 + 4, none⟩ = some (.slice A4 x.inn.length c4) ∧ w'.cell? ⟨b, off + (m + 1) * 8 + 5, none⟩ = some (.slice A5 x.out.length c5) ∧ w'.cell? ⟨b, off + (m + 1) * 8 + 6, none⟩ = some (.int .i64 x.st) ∧ w'.cell? ⟨b, off + (m + 1) * 8 + 7, none⟩ = some (.int .i64 x.done) ∧ w'.cell? ⟨b, off + m * 8, none⟩ = some (.int .i64 y.id)) (by kernel_rfl) ?_
            replace T := T.drew
            refine wpAnyL_readsG [0, 1, 2, 3] (fuel := 20) (by kernel_rfl) T.out.2 ?_
            refine LexRG.yes rfl (by first | rfl | (simp [Region.wanted, yielded]; done)) ?_ (fun w' hw => ?_) ?_
            rotate_left
            focus (clear hw; go_simp; (try exact rfl))
            try go_frame
            refine LexRG.yes rfl (by first | rfl | (simp [Region.wanted, yielded]; done)) ?_ (fun w' hw => ?_) ?_
            rotate_left
            focus (clear hw; go_simp; (try exact rfl))
            try go_frame
            refine LexRG.yes rfl (by first | rfl | (simp [Region.wanted, yielded]; done)) ?_ (fun w' hw => ?_) ?_
            rotate_left
            focus (clear hw; go_simp; (try exact rfl))
            try go_frame
            refine LexRG.yes rfl (by first | rfl | (simp [Region.wanted, yielded]; done)) ?_ (fun w' hw => ?_) ?_
            rotate_left
            focus (have hw2 := hw; obtain ⟨e0, e1, e2, e3, e4, e5, e6, e7, f0⟩ := hw2; clear hw; go_simp; (try exact rfl))
            try go_frame
            refine LexRG.nil ?_
            refine wpAnyL_one (i := 4) (by kernel_rfl) ?_
            refine lexA_get rfl ?_
            try go_frame
            go_wp2_with fail
            refine (sockOkS_frame wr.drew T.out.1.2 HY.out).mono ?_
            rintro e V1 ⟨rfl, hb⟩
            replace T := T.later hb
            clear hb
            go_wp2_with fail
            refine ⟨fun _ => T.out.2, ?_⟩
            refine wpAnyL_readsG [5, 6, 7, 8, 9, 10, 11, 12, 13, 14, 15, 16, 17, 18, 19, 20, 21, 22] (fuel := 1) (by kernel_rfl) T.out.2 ?_
            refine LexRG.yes rfl (by first | rfl | (simp [Region.wanted, yielded]; done)) ?_ (fun w' hw => ?_) ?_
            rotate_left
            focus (clear hw; go_simp; (try exact rfl))
            try go_frame
            refine LexRG.yes rfl (by first | rfl | (simp [Region.wanted, yielded]; done)) ?_ (fun w' hw => ?_) ?_
            rotate_left
            focus (clear hw; go_simp; (try exact rfl))
            try go_frame
            refine LexRG.yes rfl (by first | rfl | (simp [Region.wanted, yielded]; done)) ?_ (fun w' hw => ?_) ?_
            rotate_left
            focus (clear hw; go_simp; (try exact rfl))
            try go_frame
            refine LexRG.yes rfl (by first | rfl | (simp [Region.wanted, yielded]; done)) ?_ (fun w' hw => ?_) ?_
            rotate_left
            focus (clear hw; go_simp; (try exact rfl))
            try go_frame
            refine LexRG.yes rfl (by first | rfl | (simp [Region.wanted, yielded]; done)) ?_ (fun w' hw => ?_) ?_
            rotate_left
            focus (clear hw; go_simp; (try exact rfl))
            try go_frame
            refine LexRG.yes rfl (by first | rfl | (simp [Region.wanted, yielded]; done)) ?_ (fun w' hw => ?_) ?_
            rotate_left
            focus (clear hw; go_simp; (try exact rfl))
            try go_frame
            refine LexRG.yes rfl (by first | rfl | (simp [Region.wanted, yielded]; done)) ?_ (fun w' hw => ?_) ?_
            rotate_left
            focus (clear hw; go_simp; (try exact rfl))
            try go_frame
            refine LexRG.yes rfl (by first | rfl | (simp [Region.wanted, yielded]; done)) ?_ (fun w' hw => ?_) ?_
            rotate_left
            focus (clear hw; go_simp; (try exact rfl))
            try go_frame
            refine LexRG.yes rfl (by first | rfl | (simp [Region.wanted, yielded]; done)) ?_ (fun w' hw => ?_) ?_
            rotate_left
            focus (have j6 := i6; have j5 := i5; have j4 := i4; clear hw; go_simp; (try exact rfl))
            try go_frame
            refine LexRG.yes rfl (by first | rfl | (simp [Region.wanted, yielded]; done)) ?_ (fun w' hw => ?_) ?_
            rotate_left
            focus (clear hw; go_simp; (try exact rfl))
            try go_frame
            refine LexRG.yes rfl (by first | rfl | (simp [Region.wanted, yielded]; done)) ?_ (fun w' hw => ?_) ?_
            rotate_left
            focus (have hw2 := hw; obtain ⟨e0, e1, e2, e3, e4, e5, e6, e7, f0⟩ := hw2; clear hw; go_simp; (try exact rfl))
            try go_frame
            refine LexRG.yes rfl (by first | rfl | (simp [Region.wanted, yielded]; done)) ?_ (fun w' hw => ?_) ?_
            rotate_left
            focus (clear hw; go_simp; (try exact rfl))
            try go_frame
            refine LexRG.yes rfl (by first | rfl | (simp [Region.wanted, yielded]; done)) ?_ (fun w' hw => ?_) ?_
            rotate_left
            focus (clear hw; go_simp; (try exact rfl))
            try go_frame
            refine LexRG.yes rfl (by first | rfl | (simp [Region.wanted, yielded]; done)) ?_ (fun w' hw => ?_) ?_
            rotate_left
            focus (clear hw; go_simp; (try exact rfl))
            try go_frame
            refine LexRG.yes rfl (by first | rfl | (simp [Region.wanted, yielded]; done)) ?_ (fun w' hw => ?_) ?_
            rotate_left
            focus (clear hw; go_simp; (try exact rfl))
            try go_frame
            refine LexRG.yes rfl (by first | rfl | (simp [Region.wanted, yielded]; done)) ?_ (fun w' hw => ?_) ?_
            rotate_left
            focus (have hw2 := hw; obtain ⟨e0, e1, e2, e3, e4, e5, e6, e7, f0⟩ := hw2; clear hw; go_simp; (try exact rfl))
            try go_frame
            refine LexRG.yes rfl (by first | rfl | (simp [Region.wanted, yielded]; done)) ?_ (fun w' hw => ?_) ?_
            rotate_left
            focus (clear hw; go_simp; (try exact rfl))
            try go_frame
            refine LexRG.yes rfl (by first | rfl | (simp [Region.wanted, yielded]; done)) ?_ (fun w' hw => ?_) ?_
            rotate_left
            focus (clear hw; go_simp; (try exact rfl))
            try go_frame
            refine LexRG.nil ?_
            refine wpAnyL_writes [23] (by kernel_rfl) (LexW.cons rfl ?_)
            try go_frame
            go_wp2_with fail
            refine ⟨fun _ => T.out.2, LexW.nil ?_⟩
            have hfin := T.out.1.1
            go_wp2_with fail
            go_ret
            exact ⟨by unfold socksB; rw [HF.out]; exact rfl, hfin⟩
          · have HF := Lib.hid (hq.out.trans (socksF_ok HX.out HY.out hle))
            clear hq
            go_upto_region 4 with (fail)
            refine wp_region_open 100 (fun w' => w'.cell? ⟨b, off + (m + 1) * 8, none⟩ = some (.int .i64 x.id) ∧ w'.cell? ⟨b, off + (m + 1) * 8 + 1, none⟩ = some (.int .i64 x.kind) ∧ w'.cell? ⟨b, off + (m + 1) * 8 + 2, none⟩ = some (.int .i64 x.hold) ∧ w'.cell? ⟨b, off + (m + 1) * 8 + 3, none⟩ = some (.bool x.shut) ∧ w'.cell? ⟨b, off + (m + 1) * 8 + 4, none⟩ = some (.slice A4 x.inn.length c4) ∧ w'.cell? ⟨b, off + (m + 1) * 8 + 5, none⟩ = some (.slice A5 x.out.length c5) ∧ w'.cell? ⟨b, off + (m + 1) * 8 + 6, none⟩ = some (.int .i64 x.st) ∧ w'.cell? ⟨b, off + (m + 1) * 8 + 7, none⟩ = some (.int .i64 x.done) ∧ w'.cell? ⟨b, off + m * 8, none⟩ = some (.int .i64 y.id)) (by kernel_rfl) ?_
            replace T := T.drew
            refine wpAnyL_readsG [0, 1, 2, 3] (fuel := 20) (by kernel_rfl) T.out.2 ?_
            refine LexRG.yes rfl (by first | rfl | (simp [Region.wanted, yielded]; done)) ?_ (fun w' hw => ?_) ?_
            rotate_left
            focus (clear hw; go_simp; (try exact rfl))
            try go_frame
            refine LexRG.yes rfl (by first | rfl | (simp [Region.wanted, yielded]; done)) ?_ (fun w' hw => ?_) ?_
            rotate_left
            focus (clear hw; go_simp; (try exact rfl))
            try go_frame
            refine LexRG.yes rfl (by first | rfl | (simp [Region.wanted, yielded]; done)) ?_ (fun w' hw => ?_) ?_
            rotate_left
            focus (clear hw; go_simp; (try exact rfl))
            try go_frame
            refine LexRG.yes rfl (by first | rfl | (simp [Region.wanted, yielded]; done)) ?_ (fun w' hw => ?_) ?_
            rotate_left
            focus (have hw2 := hw; obtain ⟨e0, e1, e2, e3, e4, e5, e6, e7, f0⟩ := hw2; clear hw; go_simp; (try exact rfl))
            try go_frame
            refine LexRG.nil ?_
            refine wpAnyL_one (i := 4) (by kernel_rfl) ?_
            refine lexA_get rfl ?_
            try go_frame
            go_wp2_with fail
            refine (sockOkS_frame wr.drew T.out.1.2 HY.out).mono ?_
            rintro e V1 ⟨rfl, hb⟩
            replace T := T.later hb
            clear hb
            go_wp2_with fail
            refine ⟨fun _ => T.out.2, ?_⟩
            refine wpAnyL_readsG [5, 6, 7, 8, 9, 10, 11, 12, 13, 14, 15, 16, 17, 18, 19, 20, 21, 22] (fuel := 1) (by kernel_rfl) T.out.2 ?_
            refine LexRG.yes rfl (by first | rfl | (simp [Region.wanted, yielded]; done)) ?_ (fun w' hw => ?_) ?_
            rotate_left
            focus (clear hw; go_simp; (try exact rfl))
            try go_frame
            refine LexRG.yes rfl (by first | rfl | (simp [Region.wanted, yielded]; done)) ?_ (fun w' hw => ?_) ?_
            rotate_left
            focus (clear hw; go_simp; (try exact rfl))
            try go_frame
            refine LexRG.yes rfl (by first | rfl | (simp [Region.wanted, yielded]; done)) ?_ (fun w' hw => ?_) ?_
            rotate_left
            focus (clear hw; go_simp; (try exact rfl))
            try go_frame
            refine LexRG.yes rfl (by first | rfl | (simp [Region.wanted, yielded]; done)) ?_ (fun w' hw => ?_) ?_
            rotate_left
            focus (clear hw; go_simp; (try exact rfl))
            try go_frame
            refine LexRG.yes rfl (by first | rfl | (simp [Region.wanted, yielded]; done)) ?_ (fun w' hw => ?_) ?_
            rotate_left
            focus (clear hw; go_simp; (try exact rfl))
            try go_frame
            refine LexRG.yes rfl (by first | rfl | (simp [Region.wanted, yielded]; done)) ?_ (fun w' hw => ?_) ?_
            rotate_left
            focus (clear hw; go_simp; (try exact rfl))
            try go_frame
            refine LexRG.yes rfl (by first | rfl | (simp [Region.wanted, yielded]; done)) ?_ (fun w' hw => ?_) ?_
            rotate_left
            focus (clear hw; go_simp; (try exact rfl))
            try go_frame
            refine LexRG.yes rfl (by first | rfl | (simp [Region.wanted, yielded]; done)) ?_ (fun w' hw => ?_) ?_
            rotate_left
            focus (clear hw; go_simp; (try exact rfl))
            try go_frame
            refine LexRG.yes rfl (by first | rfl | (simp [Region.wanted, yielded]; done)) ?_ (fun w' hw => ?_) ?_
            rotate_left
            focus (have j6 := i6; have j5 := i5; have j4 := i4; clear hw; go_simp; (try exact rfl))
            try go_frame
            refine LexRG.yes rfl (by first | rfl | (simp [Region.wanted, yielded]; done)) ?_ (fun w' hw => ?_) ?_
            rotate_left
            focus (clear hw; go_simp; (try exact rfl))
            try go_frame
            refine LexRG.yes rfl (by first | rfl | (simp [Region.wanted, yielded]; done)) ?_ (fun w' hw => ?_) ?_
            rotate_left
            focus (have hw2 := hw; obtain ⟨e0, e1, e2, e3, e4, e5, e6, e7, f0⟩ := hw2; clear hw; go_simp; (try exact rfl))
            try go_frame
            refine LexRG.yes rfl (by first | rfl | (simp [Region.wanted, yielded]; done)) ?_ (fun w' hw => ?_) ?_
            rotate_left
            focus (clear hw; go_simp; (try exact rfl))
            try go_frame
            refine LexRG.yes rfl (by first | rfl | (simp [Region.wanted, yielded]; done)) ?_ (fun w' hw => ?_) ?_
            rotate_left
            focus (clear hw; go_simp; (try exact rfl))
            try go_frame
            refine LexRG.yes rfl (by first | rfl | (simp [Region.wanted, yielded]; done)) ?_ (fun w' hw => ?_) ?_
            rotate_left
            focus (clear hw; go_simp; (try exact rfl))
            try go_frame
            refine LexRG.yes rfl (by first | rfl | (simp [Region.wanted, yielded]; done)) ?_ (fun w' hw => ?_) ?_
            rotate_left
            focus (clear hw; go_simp; (try exact rfl))
            try go_frame
            refine LexRG.yes rfl (by first | rfl | (simp [Region.wanted, yielded]; done)) ?_ (fun w' hw => ?_) ?_
            rotate_left
            focus (have hw2 := hw; obtain ⟨e0, e1, e2, e3, e4, e5, e6, e7, f0⟩ := hw2; clear hw; go_simp; (try exact rfl))
            try go_frame
            refine LexRG.yes rfl (by first | rfl | (simp [Region.wanted, yielded]; done)) ?_ (fun w' hw => ?_) ?_
            rotate_left
            focus (clear hw; go_simp; (try exact rfl))
            try go_frame
            refine LexRG.yes rfl (by first | rfl | (simp [Region.wanted, yielded]; done)) ?_ (fun w' hw => ?_) ?_
            rotate_left
            focus (clear hw; go_simp; (try exact rfl))
            try go_frame
            refine LexRG.nil ?_
            refine wpAnyL_writes [23] (by kernel_rfl) (LexW.cons rfl ?_)
            try go_frame
            go_wp2_with fail
            refine ⟨fun _ => T.out.2, LexW.nil ?_⟩
            have hfin := T.out.1.1
            go_wp2_with fail
            go_roundw
            case rel => exact ⟨(m + 1) + 1, x.id, by omega, by go_num, HF, HL, hfin⟩
            case measure => simp [intOf]; omega
    · have he : k = xs.length := by omega
      subst he
      have HF := Lib.hid (hq.out.trans (by rw [List.drop_length]; rfl : socksF l (xs.drop xs.length) = true))
      clear hq hla
      by_cases h12 : (xs.length : Int) ≤ 12
      · go_wp2
        go_ret
        exact ⟨by unfold socksB; rw [HF.out]; simp; omega, hb⟩
      · go_wp2
        go_ret
        exact ⟨by unfold socksB; rw [HF.out]; simp; omega, hb⟩

end Go.Proofs.Ytcelkmphdeaaeaa
