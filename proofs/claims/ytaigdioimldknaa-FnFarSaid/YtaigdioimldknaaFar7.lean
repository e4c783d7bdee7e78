/- What the theorem needs, out of many texts. -/
import Derived.Test.YtaigdioimldknaaFar6
namespace Go.Proofs.Ytaigdioimldknaa
open Go.RowKit
set_option maxRecDepth 100000
set_option linter.unusedVariables false
def SkSmall (x : Sk) : Prop := x.inn.length ≤ 1000 ∧ x.out.length ≤ 1000
/-- A socket that is drawn. -/
def RetSkD (w : World) (lo g : Nat) (A : Option Addr) (n c : Nat) (code : List UInt8) (e : Ending) (w' : World) : Prop :=
  ∃ x A4 c4 A5 c5, e = .returned (.agg #[.int .i64 x.id, .int .i64 x.kind, .int .i64 x.hold, .bool x.shut, .slice A4 x.inn.length c4, .slice A5 x.out.length c5, .int .i64 x.st, .int .i64 x.done]) ∧ SkSmall x ∧ Owns w' w.heap.size 5 (.slice A4 x.inn.length c4) x.inn ∧ Owns w' w.heap.size 5 (.slice A5 x.out.length c5) x.out ∧ (∀ k, (Value.slice A4 x.inn.length c4).ownBlock = some k → (Value.slice A5 x.out.length c5).ownBlock ≠ some k) ∧ Cur w' lo g A n c code ∧ Rep.Only w w' [g]
set_option maxHeartbeats 16000000 in
theorem l8Draw_any (lo g : Nat) (A : Option Addr) (n c : Nat) (code : List UInt8) (w : World) (h : Cur w lo g A n c code) (hn : n ≤ 140737488351232) :
    Calls Try.prog 127 #[.pointer (some ⟨g, 0, none⟩)] w (RetSkD w lo g A n c code) := by
  have hglt := h.lt
  have hfrm := h.from_
  obtain ⟨i0, hi0, hz0, hz1, hz2⟩ := info_parts Try.info8
  have hZ := heap_alloc_new w (.cells #[.int .i64 0, .int .i64 0, .int .i64 0, .bool false, .slice none 0 0, .slice none 0 0, .int .i64 0, .int .i64 0] 25)
  have hc0 := h.alloc (.cells #[.int .i64 0, .int .i64 0, .int .i64 0, .bool false, .slice none 0 0, .slice none 0 0, .int .i64 0, .int .i64 0] 25)
  have ho0 := (Rep.only_alloc w (.cells #[.int .i64 0, .int .i64 0, .int .i64 0, .bool false, .slice none 0 0, .slice none 0 0, .int .i64 0, .int .i64 0] 25)).mono (fp' := [g]) (by simp)
  have hs0 : (w.alloc (.cells #[.int .i64 0, .int .i64 0, .int .i64 0, .bool false, .slice none 0 0, .slice none 0 0, .int .i64 0, .int .i64 0] 25)).heap.size = w.heap.size + 1 := by simp
  go_enter Try.func127, Try.ntmps127
  go_wp2_with fail
  generalize w.alloc (.cells #[.int .i64 0, .int .i64 0, .int .i64 0, .bool false, .slice none 0 0, .slice none 0 0, .int .i64 0, .int .i64 0] 25) = W0 at hZ hc0 ho0 hs0 ⊢
  refine (l1Below_any lo g A n c code 9 W0 hc0 hn (by omega) (by omega)).mono ?_
  rintro e W1 ⟨a, ha, rfl, hc1, hg1⟩
  have ho1 := only_g hg1
  clear hg1 hc0
  go_wp2_with fail
  refine (l1Below_any lo g A n c code 2 W1 hc1 hn (by omega) (by omega)).mono ?_
  rintro e W2 ⟨b, hb, rfl, hc2, hg2⟩
  have ho2 := ho1.trans (only_g hg2)
  clear hg2 hc1
  go_wp2_with fail
  refine (l1Below_any lo g A n c code 3 W2 hc2 hn (by omega) (by omega)).mono ?_
  rintro e W3 ⟨d, hd, rfl, hc3, hg3⟩
  have ho3 := ho2.trans (only_g hg3)
  clear hg3 hc2
  go_wp2_with fail
  refine (l1Once_any lo g A n c code 6 W3 hc3 hn (by omega) (by omega)).mono ?_
  rintro e W4 ⟨sh, rfl, hc4, hg4⟩
  have ho4 := ho3.trans (only_g hg4)
  clear hg4 hc3 ho1 ho2 ho3
  go_upto_region 2 with (fail)
  have hsz4 := ho4.size
  have hD : DS W0 lo g A n c code W4.heap.size ⟨1 + (a : Int), 1 + (b : Int), 1 + (d : Int), sh, [], [], 0, 0⟩ (.slice none 0 0) (.slice none 0 0) (W4.alloc (.cells #[.int .i64 (1 + (a : Int)), .int .i64 (1 + (b : Int)), .int .i64 (1 + (d : Int)), .bool sh, .slice none 0 0, .slice none 0 0, .int .i64 0, .int .i64 0] 25)) :=
    ⟨ho4.trans ((Rep.only_alloc W4 _).mono (by simp)), hc4.alloc _, by omega, heap_alloc_new _ _, ⟨by simp [bys], .inl ⟨rfl, rfl⟩⟩, ⟨by simp [bys], .inl ⟨rfl, rfl⟩⟩, fun k hk => (by cases hk), hsz4, fun e => (by cases e), fun e => (by cases e)⟩
  clear hc4 ho4
  generalize W4.alloc (.cells #[.int .i64 (1 + (a : Int)), .int .i64 (1 + (b : Int)), .int .i64 (1 + (d : Int)), .bool sh, .slice none 0 0, .slice none 0 0, .int .i64 0, .int .i64 0] 25) = W5 at hD ⊢
  generalize W4.heap.size = S at hD hsz4 ⊢
  obtain ⟨x, hx1, hx2, hD⟩ : ∃ x : Sk, x.inn.length ≤ 0 ∧ x.out.length ≤ 0 ∧ DS W0 lo g A n c code S x (.slice none 0 0) (.slice none 0 0) W5 := ⟨_, by simp, by simp, hD⟩
  clear ha hb hd
  go_wp2_with fail
  refine (l1Below_any lo g A n c code 4 W5 hD.cur hn (by omega) (by omega)).mono ?_
  rintro e W6 ⟨m, hm, rfl, hc6, hg6⟩
  replace hD := hD.step hc6 (only_g hg6)
  clear hg6 hc6
  go_wp2_with fail
  go_loopw [4] (fun i wr => ∃ (k : Nat) (x : Sk) (v4 v5 : Value), i = .int .i64 k ∧ k ≤ 3 ∧ x.inn.length ≤ 102 * (3 - k) ∧ x.out.length ≤ 0 ∧ DS W0 lo g A n c code S x v4 v5 wr) (fun i _ => (intOf i).toNat)
  case atStart => exact ⟨m, x, _, _, rfl, by omega, by omega, hx2, hD⟩
  case round =>
    obtain ⟨k, x, v4, v5, rfl, hk, hi, hoo, hD⟩ := hrel
    clear hx1 hx2
    by_cases hk0 : 0 < k
    · obtain ⟨A4, c4, A5, c5, rfl, rfl⟩ := hD.slices
      go_upto_region 5 with (fail)
      have TT : All (fun w' => DS W0 lo g A n c code S x (.slice A4 x.inn.length c4) (.slice A5 x.out.length c5) w' ∧ (w'.heap[S]? = some (.cells #[.int .i64 x.id, .int .i64 x.kind, .int .i64 x.hold, .bool x.shut, .slice A4 x.inn.length c4, .slice A5 x.out.length c5, .int .i64 x.st, .int .i64 x.done] 25 (0, 0)))) _ := ⟨hD, hD.box⟩
      refine wp_region_open 7 (fun w' => w'.heap[S]? = some (.cells #[.int .i64 x.id, .int .i64 x.kind, .int .i64 x.hold, .bool x.shut, .slice A4 x.inn.length c4, .slice A5 x.out.length c5, .int .i64 x.st, .int .i64 x.done] 25 (0, 0))) (by kernel_rfl) ?_
      replace hD := hD.later (Later.drew _)
      clear TT
      generalize World.drew _ = Wa at hD ⊢
      refine wpAnyL_readsG [0, 1, 2] (fuel := 5) (by kernel_rfl) hD.box ?_
      refine LexRG.yes rfl (by first | rfl | (simp [Region.wanted, yielded]; done)) ?_ (fun w' hw => ?_) ?_
      rotate_left
      focus (skip; clear hw; go_simp; (try exact rfl))
      try go_frame
      refine LexRG.yes rfl (by first | rfl | (simp [Region.wanted, yielded]; done)) ?_ (fun w' hw => ?_) ?_
      rotate_left
      focus (have g4 := var_cell hw 4; clear hw; go_simp; (try exact rfl))
      try go_frame
      refine LexRG.yes rfl (by first | rfl | (simp [Region.wanted, yielded]; done)) ?_ (fun w' hw => ?_) ?_
      rotate_left
      focus (skip; clear hw; go_simp; (try exact rfl))
      try go_frame
      refine LexRG.nil ?_
      refine wpAnyL_one (i := 3) (by kernel_rfl) ?_
      refine lexA_get rfl ?_
      try go_frame
      go_wp2_with fail
      refine (l6Draw_any lo g A n c code Wa hD.cur hn).mono ?_
      rintro e Wb ⟨⟨fk, fs, fst⟩, rfl, hfr, hcb, hob⟩
      replace hD := hD.step hcb hob
      clear hcb hob
      obtain ⟨P, hP⟩ : ∃ P, putF ⟨fk, fs, fst⟩ = P := ⟨_, rfl⟩
      have HP := Lib.hid hP
      have hPl : P.length ≤ 102 := by rw [← hP]; exact putF_len _
      have hfs : fs.size ≤ 1048576 := Nat.le_trans hfr.2 (by decide)
      clear hP hfr
      go_wp2_with fail
      refine ⟨fun _ => hD.box, ?_⟩
      refine wpAnyL_one (i := 4) (by kernel_rfl) ?_
      refine lexA_get rfl ?_
      try go_frame
      go_wp2_with fail
      refine (putFrameS_any ⟨fk, fs, fst⟩ Wb hfs).mono ?_
      rw [HP.out]
      rintro e Wc ⟨vP, rfl, oP, hbP⟩
      obtain ⟨AP, cP, rfl, _, _, hrP, _⟩ := oP.shape
      replace hD := hD.later hbP
      clear hbP oP
      go_wp2_with fail
      refine ⟨fun _ => hD.box, ?_⟩
      refine wpAnyL_one (i := 5) (by kernel_rfl) ?_
      refine lexA_get rfl ?_
      try go_frame
      go_wp2_with (first
        | (at_builtin
           refine wpList_append_any _ rfl (.tmp 25) (.tmp 28) _ rfl W0.heap.size 5 i0 _ 1 1 Try.underlying22 hi0 hz0 hz1 hz2 rfl (by omega) (.slice A4 x.inn.length c4) x.inn.length (bys x.inn) rfl hD.inn Wc.heap.size AP P.length cP (bys P) rfl hrP (bys_one P) (by simp only [maxLen]; omega) (by omega) hD.only.size ?_
           intro v3 w3 hown3 hg3 hat3
           refine Halt.go ?_)
        | fail)
      have hl3 : Owns w3 W0.heap.size 5 v3 (x.inn ++ P) := by unfold Owns; rw [bys_append, List.length_append]; exact hown3
      obtain ⟨hbx0, hK⟩ := hD.grown4 hg3 hl3 (by rcases hat3 with e | e; exact .inl e; exact .inr (.inl e))
      have hbx := hbx0.trans hD.box
      have hS3 : S < w3.heap.size := Nat.lt_of_lt_of_le hD.lt hg3.size
      obtain ⟨A3, c3, rfl, _⟩ := hl3.shape
      clear hown3 hg3 hat3 hl3 hrP hD hbx0
      refine Halt.mk ?_
      go_wp2_with fail
      refine ⟨?_, ?_⟩
      · first | exact hbx | exact fun _ => hbx
      have y4 := var_cell hbx 4
      have t4 := var_frozen hbx 4
      refine wpAnyL_writes [6, 7] (by kernel_rfl) (LexW.cons rfl ?_)
      try go_frame
      go_wp2_with fail
      refine ⟨?_, LexW.cons rfl ?_⟩
      · first | exact hbx | exact fun _ => hbx
      try go_frame
      go_wp2_with fail
      refine ⟨fun h => absurd rfl h, LexW.nil ?_⟩
      try go_frame
      clear y4 t4 hbx hS3
      rw [List.length_append] at hK
      generalize (w3.setCell ⟨S, 4, none⟩ (.slice A3 (x.inn.length + P.length) c3)) = Wd at hK ⊢
      go_wp2_with fail
      go_roundw
      case rel => exact ⟨k - 1, { x with inn := x.inn ++ P }, _, _, by go_num, by omega, by simp only [List.length_append]; omega, hoo, hK⟩
      case measure => simp [intOf]; omega
    · have hk1 : k = 0 := by omega
      subst hk1
      go_wp2_with fail
      refine (l1Once_any lo g A n c code 4 wr hD.cur hn (by omega) (by omega)).mono ?_
      rintro e W7 ⟨yb, rfl, hc7, hg7⟩
      replace hD := hD.step hc7 (only_g hg7)
      clear hc7 hg7
      cases yb
      · skip
        go_wp2_with fail
        refine (l1Below_any lo g A n c code 4 _ hD.cur hn (by omega) (by omega)).mono ?_
        rintro e W8 ⟨m2, hm2, rfl, hc8, hg8⟩
        replace hD := hD.step hc8 (only_g hg8)
        clear hg8 hc8
        go_wp2_with fail
        go_loopw [5] (fun i wr => ∃ (k : Nat) (x : Sk) (v4 v5 : Value), i = .int .i64 k ∧ k ≤ 3 ∧ x.inn.length ≤ 1000 ∧ x.out.length ≤ 102 * (3 - k) ∧ DS W0 lo g A n c code S x v4 v5 wr) (fun i _ => (intOf i).toNat)
        case atStart => exact ⟨m2, x, _, _, rfl, by omega, by omega, by omega, hD⟩
        case round =>
          obtain ⟨k, x, v4, v5, rfl, hk, hi, hoo, hD⟩ := hrel
          by_cases hk0 : 0 < k
          · obtain ⟨A4, c4, A5, c5, rfl, rfl⟩ := hD.slices
            obtain ⟨kd, hkd⟩ : ∃ y, (x.kind == 2) = y := ⟨_, rfl⟩
            go_upto_region 11 with (fail)
            have TT : All (fun w' => DS W0 lo g A n c code S x (.slice A4 x.inn.length c4) (.slice A5 x.out.length c5) w' ∧ (w'.heap[S]? = some (.cells #[.int .i64 x.id, .int .i64 x.kind, .int .i64 x.hold, .bool x.shut, .slice A4 x.inn.length c4, .slice A5 x.out.length c5, .int .i64 x.st, .int .i64 x.done] 25 (0, 0)))) _ := ⟨hD, hD.box⟩
            refine wp_region_open 7 (fun w' => w'.heap[S]? = some (.cells #[.int .i64 x.id, .int .i64 x.kind, .int .i64 x.hold, .bool x.shut, .slice A4 x.inn.length c4, .slice A5 x.out.length c5, .int .i64 x.st, .int .i64 x.done] 25 (0, 0))) (by kernel_rfl) ?_
            replace hD := hD.later (Later.drew _)
            clear TT
            generalize World.drew _ = Wa at hD ⊢
            refine wpAnyL_readsG [0, 1, 2] (fuel := 5) (by kernel_rfl) hD.box ?_
            refine LexRG.yes rfl (by first | rfl | (simp [Region.wanted, yielded]; done)) ?_ (fun w' hw => ?_) ?_
            rotate_left
            focus (skip; clear hw; go_simp; (try exact rfl))
            try go_frame
            refine LexRG.yes rfl (by first | rfl | (simp [Region.wanted, yielded]; done)) ?_ (fun w' hw => ?_) ?_
            rotate_left
            focus (have g5 := var_cell hw 5; clear hw; go_simp; (try exact rfl))
            try go_frame
            refine LexRG.yes rfl (by first | rfl | (simp [Region.wanted, yielded]; done)) ?_ (fun w' hw => ?_) ?_
            rotate_left
            focus (skip; clear hw; go_simp; (try exact rfl))
            try go_frame
            refine LexRG.nil ?_
            refine wpAnyL_one (i := 3) (by kernel_rfl) ?_
            refine lexA_get rfl ?_
            try go_frame
            go_wp2_with fail
            refine (l6Draw_any lo g A n c code Wa hD.cur hn).mono ?_
            rintro e Wb ⟨⟨fk, fs, fst⟩, rfl, hfr, hcb, hob⟩
            replace hD := hD.step hcb hob
            clear hcb hob
            obtain ⟨P, hP⟩ : ∃ P, putF ⟨fk, fs, fst⟩ = P := ⟨_, rfl⟩
            have HP := Lib.hid hP
            have hPl : P.length ≤ 102 := by rw [← hP]; exact putF_len _
            have hfs : fs.size ≤ 1048576 := Nat.le_trans hfr.2 (by decide)
            clear hP hfr
            go_wp2_with fail
            refine ⟨fun _ => hD.box, ?_⟩
            refine wpAnyL_one (i := 4) (by kernel_rfl) ?_
            refine lexA_get rfl ?_
            try go_frame
            go_wp2_with fail
            refine (putFrameS_any ⟨fk, fs, fst⟩ Wb hfs).mono ?_
            rw [HP.out]
            rintro e Wc ⟨vP, rfl, oP, hbP⟩
            obtain ⟨AP, cP, rfl, _, _, hrP, _⟩ := oP.shape
            replace hD := hD.later hbP
            clear hbP oP
            go_wp2_with fail
            refine ⟨fun _ => hD.box, ?_⟩
            refine wpAnyL_one (i := 5) (by kernel_rfl) ?_
            refine lexA_get rfl ?_
            try go_frame
            go_wp2_with (first
              | (at_builtin
                 refine wpList_append_any _ rfl (.tmp 46) (.tmp 49) _ rfl W0.heap.size 5 i0 _ 1 1 Try.underlying22 hi0 hz0 hz1 hz2 rfl (by omega) (.slice A5 x.out.length c5) x.out.length (bys x.out) rfl hD.out Wc.heap.size AP P.length cP (bys P) rfl hrP (bys_one P) (by simp only [maxLen]; omega) (by omega) hD.only.size ?_
                 intro v3 w3 hown3 hg3 hat3
                 refine Halt.go ?_)
              | fail)
            have hl3 : Owns w3 W0.heap.size 5 v3 (x.out ++ P) := by unfold Owns; rw [bys_append, List.length_append]; exact hown3
            obtain ⟨hbx0, hK⟩ := hD.grown5 hg3 hl3 (by rcases hat3 with e | e; exact .inl e; exact .inr (.inl e))
            have hbx := hbx0.trans hD.box
            have hS3 : S < w3.heap.size := Nat.lt_of_lt_of_le hD.lt hg3.size
            obtain ⟨A3, c3, rfl, _⟩ := hl3.shape
            clear hown3 hg3 hat3 hl3 hrP hD hbx0
            refine Halt.mk ?_
            go_wp2_with fail
            refine ⟨?_, ?_⟩
            · first | exact hbx | exact fun _ => hbx
            have y5 := var_cell hbx 5
            have t5 := var_frozen hbx 5
            refine wpAnyL_writes [6, 7] (by kernel_rfl) (LexW.cons rfl ?_)
            try go_frame
            go_wp2_with fail
            refine ⟨?_, LexW.cons rfl ?_⟩
            · first | exact hbx | exact fun _ => hbx
            try go_frame
            go_wp2_with fail
            refine ⟨fun h => absurd rfl h, LexW.nil ?_⟩
            try go_frame
            clear y5 t5 hbx hS3
            rw [List.length_append] at hK
            generalize (w3.setCell ⟨S, 5, none⟩ (.slice A3 (x.out.length + P.length) c3)) = Wd at hK ⊢
            have b1 := var_cell hK.box 1
            cases kd
            · go_wp2_with fail
              go_roundw
              case rel => exact ⟨k - 1, { x with out := x.out ++ P }, _, _, by go_num, by omega, hi, by simp only [List.length_append]; omega, hK⟩
              case measure => simp [intOf]; omega
            · go_wp2_with fail
              refine (l1Once_any lo g A n c code 3 Wd hK.cur hn (by omega) (by omega)).mono ?_
              rintro e W9 ⟨yy, rfl, hc9, hg9⟩
              replace hK := hK.step hc9 (only_g hg9)
              clear hc9 hg9 b1
              cases yy
              · go_wp2_with fail
                go_roundw
                case rel => exact ⟨k - 1, { x with out := x.out ++ P }, _, _, by go_num, by omega, hi, by simp only [List.length_append]; omega, hK⟩
                case measure => simp [intOf]; omega
              · have b5 := var_cell hK.box 5
                have b7 := var_cell hK.box 7
                have bf7 := var_frozen hK.box 7
                have hlS := hK.lt
                have hK2 : DS W0 lo g A n c code S { x with out := x.out ++ P, done := ((x.out.length + P.length : Nat) : Int) } (.slice A4 x.inn.length c4) (.slice A3 (x.out.length + P.length) c3) (W9.setCell ⟨S, 7, none⟩ (.int .i64 ((x.out.length + P.length : Nat) : Int))) := hK.put 7 _ _ rfl rfl rfl
                clear hK
                go_wp2_with fail
                go_roundw
                case rel => exact ⟨k - 1, { x with out := x.out ++ P, done := ((x.out.length + P.length : Nat) : Int) }, _, _, by go_num, by omega, hi, by simp only [List.length_append]; omega, hK2⟩
                case measure => simp [intOf]; omega
          · have hk1 : k = 0 := by omega
            subst hk1
            obtain ⟨kd, hkd⟩ : ∃ y, (x.kind == 2) = y := ⟨_, rfl⟩
            have b1 := var_cell hD.box 1
            cases kd
            · go_upto_region 16 with (fail)
              clear b1
              obtain ⟨A4, c4, A5, c5, rfl, rfl⟩ := hD.slices
              have hZ2 := (hD.only.block w.heap.size (by omega) (by simp; omega)).trans hZ
              have hl9 := (Array.getElem?_eq_some_iff.1 hZ2).1
              have hlS := hD.lt
              have z0 := var_cell hZ2 0
              have zf0 := var_frozen hZ2 0
              have b0 := var_cell hD.box 0
              have z1 := var_cell hZ2 1
              have zf1 := var_frozen hZ2 1
              have b1 := var_cell hD.box 1
              have z2 := var_cell hZ2 2
              have zf2 := var_frozen hZ2 2
              have b2 := var_cell hD.box 2
              have z3 := var_cell hZ2 3
              have zf3 := var_frozen hZ2 3
              have b3 := var_cell hD.box 3
              have z4 := var_cell hZ2 4
              have zf4 := var_frozen hZ2 4
              have b4 := var_cell hD.box 4
              have z5 := var_cell hZ2 5
              have zf5 := var_frozen hZ2 5
              have b5 := var_cell hD.box 5
              have z6 := var_cell hZ2 6
              have zf6 := var_frozen hZ2 6
              have b6 := var_cell hD.box 6
              have z7 := var_cell hZ2 7
              have zf7 := var_frozen hZ2 7
              have b7 := var_cell hD.box 7
              have hoi := hD.inn
              have hoo9 := hD.out
              have hap := hD.ap
              have hcu := hD.cur
              have hon := ho0.trans hD.only
              clear hD
              go_wp2_with fail
              refine bodyPost_ret (v := .agg #[.int .i64 x.id, .int .i64 x.kind, .int .i64 x.hold, .bool x.shut, .slice A4 x.inn.length c4, .slice A5 x.out.length c5, .int .i64 x.st, .int .i64 x.done]) (by simp [results, Try.results127, go_sem, z0, z1, z2, z3, z4, z5, z6, z7]) rfl ?_
              have hp8 := put8_only (W := wr) (E := w.heap.size) (.int .i64 x.id) (.int .i64 x.kind) (.int .i64 x.hold) (.bool x.shut) (.slice A4 x.inn.length c4) (.slice A5 x.out.length c5) (.int .i64 x.st) (.int .i64 x.done)
              refine ⟨x, A4, c4, A5, c5, rfl, ⟨by omega, by omega⟩, ?_, ?_, hap, hcu.only hp8 (by simp; omega) (fun a ha => by simp at ha; omega), hon.then hp8 (fun a ha => by simp at ha; subst ha; exact .inr (Nat.le_refl _))⟩
              · exact ownsRow_mono (Rep.ownsRow_block hoi fun k hk => hp8.block k (hoi.lt k (by simpa using hk)).2 (by have := (hoi.lt k (by simpa using hk)).1; simp; omega)) (by omega)
              · exact ownsRow_mono (Rep.ownsRow_block hoo9 fun k hk => hp8.block k (hoo9.lt k (by simpa using hk)).2 (by have := (hoo9.lt k (by simpa using hk)).1; simp; omega)) (by omega)
            · go_wp2_with fail
              refine (l1Below_any lo g A n c code 3 wr hD.cur hn (by omega) (by omega)).mono ?_
              rintro e W9 ⟨s3, hs3, rfl, hc9, hg9⟩
              replace hD := hD.step hc9 (only_g hg9)
              clear hc9 hg9 b1
              have b6 := var_cell hD.box 6
              have bf6 := var_frozen hD.box 6
              have hlS := hD.lt
              have hD2 : DS W0 lo g A n c code S { x with st := (s3 : Int) } v4 v5 (W9.setCell ⟨S, 6, none⟩ (.int .i64 (s3 : Int))) := hD.put 6 _ _ rfl rfl rfl
              clear hD
              go_upto_region 16 with (fail)
              clear b6 bf6 hlS
              generalize (W9.setCell ⟨S, 6, none⟩ (.int .i64 (s3 : Int))) = W10 at hD2 ⊢
              obtain ⟨x, hi, hoo, hD⟩ : ∃ x' : Sk, x'.inn.length ≤ 1000 ∧ x'.out.length ≤ 102 * (3 - 0) ∧ DS W0 lo g A n c code S x' v4 v5 W10 := ⟨{ x with st := (s3 : Int) }, hi, hoo, hD2⟩
              clear hD2 hkd
              obtain ⟨A4, c4, A5, c5, rfl, rfl⟩ := hD.slices
              have hZ2 := (hD.only.block w.heap.size (by omega) (by simp; omega)).trans hZ
              have hl9 := (Array.getElem?_eq_some_iff.1 hZ2).1
              have hlS := hD.lt
              have z0 := var_cell hZ2 0
              have zf0 := var_frozen hZ2 0
              have b0 := var_cell hD.box 0
              have z1 := var_cell hZ2 1
              have zf1 := var_frozen hZ2 1
              have b1 := var_cell hD.box 1
              have z2 := var_cell hZ2 2
              have zf2 := var_frozen hZ2 2
              have b2 := var_cell hD.box 2
              have z3 := var_cell hZ2 3
              have zf3 := var_frozen hZ2 3
              have b3 := var_cell hD.box 3
              have z4 := var_cell hZ2 4
              have zf4 := var_frozen hZ2 4
              have b4 := var_cell hD.box 4
              have z5 := var_cell hZ2 5
              have zf5 := var_frozen hZ2 5
              have b5 := var_cell hD.box 5
              have z6 := var_cell hZ2 6
              have zf6 := var_frozen hZ2 6
              have b6 := var_cell hD.box 6
              have z7 := var_cell hZ2 7
              have zf7 := var_frozen hZ2 7
              have b7 := var_cell hD.box 7
              have hoi := hD.inn
              have hoo9 := hD.out
              have hap := hD.ap
              have hcu := hD.cur
              have hon := ho0.trans hD.only
              clear hD
              go_wp2_with fail
              refine bodyPost_ret (v := .agg #[.int .i64 x.id, .int .i64 x.kind, .int .i64 x.hold, .bool x.shut, .slice A4 x.inn.length c4, .slice A5 x.out.length c5, .int .i64 x.st, .int .i64 x.done]) (by simp [results, Try.results127, go_sem, z0, z1, z2, z3, z4, z5, z6, z7]) rfl ?_
              have hp8 := put8_only (W := W10) (E := w.heap.size) (.int .i64 x.id) (.int .i64 x.kind) (.int .i64 x.hold) (.bool x.shut) (.slice A4 x.inn.length c4) (.slice A5 x.out.length c5) (.int .i64 x.st) (.int .i64 x.done)
              refine ⟨x, A4, c4, A5, c5, rfl, ⟨by omega, by omega⟩, ?_, ?_, hap, hcu.only hp8 (by simp; omega) (fun a ha => by simp at ha; omega), hon.then hp8 (fun a ha => by simp at ha; subst ha; exact .inr (Nat.le_refl _))⟩
              · exact ownsRow_mono (Rep.ownsRow_block hoi fun k hk => hp8.block k (hoi.lt k (by simpa using hk)).2 (by have := (hoi.lt k (by simpa using hk)).1; simp; omega)) (by omega)
              · exact ownsRow_mono (Rep.ownsRow_block hoo9 fun k hk => hp8.block k (hoo9.lt k (by simpa using hk)).2 (by have := (hoo9.lt k (by simpa using hk)).1; simp; omega)) (by omega)
      · obtain ⟨A4, c4, A5, c5, rfl, rfl⟩ := hD.slices
        go_upto_region 7 with (fail)
        have TT : All (fun w' => DS W0 lo g A n c code S x (.slice A4 x.inn.length c4) (.slice A5 x.out.length c5) w' ∧ (w'.heap[S]? = some (.cells #[.int .i64 x.id, .int .i64 x.kind, .int .i64 x.hold, .bool x.shut, .slice A4 x.inn.length c4, .slice A5 x.out.length c5, .int .i64 x.st, .int .i64 x.done] 25 (0, 0)))) _ := ⟨hD, hD.box⟩
        refine wp_region_open 6 (fun w' => w'.heap[S]? = some (.cells #[.int .i64 x.id, .int .i64 x.kind, .int .i64 x.hold, .bool x.shut, .slice A4 x.inn.length c4, .slice A5 x.out.length c5, .int .i64 x.st, .int .i64 x.done] 25 (0, 0))) (by kernel_rfl) ?_
        replace hD := hD.later (Later.drew _)
        clear TT
        generalize World.drew _ = Wa at hD ⊢
        refine wpAnyL_readsG [0, 1, 2] (fuel := 4) (by kernel_rfl) hD.box ?_
        refine LexRG.yes rfl (by first | rfl | (simp [Region.wanted, yielded]; done)) ?_ (fun w' hw => ?_) ?_
        rotate_left
        focus (skip; clear hw; go_simp; (try exact rfl))
        try go_frame
        refine LexRG.yes rfl (by first | rfl | (simp [Region.wanted, yielded]; done)) ?_ (fun w' hw => ?_) ?_
        rotate_left
        focus (have g4 := var_cell hw 4; clear hw; go_simp; (try exact rfl))
        try go_frame
        refine LexRG.yes rfl (by first | rfl | (simp [Region.wanted, yielded]; done)) ?_ (fun w' hw => ?_) ?_
        rotate_left
        focus (skip; clear hw; go_simp; (try exact rfl))
        try go_frame
        refine LexRG.nil ?_
        refine wpAnyL_one (i := 3) (by kernel_rfl) ?_
        refine lexA_get rfl ?_
        try go_frame
        go_wp2_with fail
        refine (l6Bytes_any lo g A n c code Wa hD.cur hn).mono ?_
        rintro e Wc ⟨AP, cP, P, rfl, hPl, _, oP, hcb, hob⟩
        have hrP := Owns.reads oP
        replace hD := hD.step hcb hob
        clear hcb hob oP
        go_wp2_with fail
        refine ⟨fun _ => hD.box, ?_⟩
        refine wpAnyL_one (i := 4) (by kernel_rfl) ?_
        refine lexA_get rfl ?_
        try go_frame
        go_wp2_with (first
          | (at_builtin
             refine wpList_append_any _ rfl (.tmp 34) (.tmp 36) _ rfl W0.heap.size 5 i0 _ 1 1 Try.underlying22 hi0 hz0 hz1 hz2 rfl (by omega) (.slice A4 x.inn.length c4) x.inn.length (bys x.inn) rfl hD.inn Wc.heap.size AP P.length cP (bys P) rfl hrP (bys_one P) (by simp only [maxLen]; omega) (by omega) hD.only.size ?_
             intro v3 w3 hown3 hg3 hat3
             refine Halt.go ?_)
          | fail)
        have hl3 : Owns w3 W0.heap.size 5 v3 (x.inn ++ P) := by unfold Owns; rw [bys_append, List.length_append]; exact hown3
        obtain ⟨hbx0, hK⟩ := hD.grown4 hg3 hl3 (by rcases hat3 with e | e; exact .inl e; exact .inr (.inl e))
        have hbx := hbx0.trans hD.box
        have hS3 : S < w3.heap.size := Nat.lt_of_lt_of_le hD.lt hg3.size
        obtain ⟨A3, c3, rfl, _⟩ := hl3.shape
        clear hown3 hg3 hat3 hl3 hrP hD hbx0
        refine Halt.mk ?_
        go_wp2_with fail
        refine ⟨?_, ?_⟩
        · first | exact hbx | exact fun _ => hbx
        have y4 := var_cell hbx 4
        have t4 := var_frozen hbx 4
        refine wpAnyL_writes [5, 6] (by kernel_rfl) (LexW.cons rfl ?_)
        try go_frame
        go_wp2_with fail
        refine ⟨?_, LexW.cons rfl ?_⟩
        · first | exact hbx | exact fun _ => hbx
        try go_frame
        go_wp2_with fail
        refine ⟨fun h => absurd rfl h, LexW.nil ?_⟩
        try go_frame
        clear y4 t4 hbx hS3
        rw [List.length_append] at hK
        generalize (w3.setCell ⟨S, 4, none⟩ (.slice A3 (x.inn.length + P.length) c3)) = Wd at hK ⊢
        obtain ⟨x, hi, hoo, hD⟩ : ∃ x' : Sk, x'.inn.length ≤ 1000 ∧ x'.out.length ≤ 0 ∧ DS W0 lo g A n c code S x' (.slice A3 (x.inn.length + P.length) c3) (.slice A5 x.out.length c5) Wd := ⟨{ x with inn := x.inn ++ P }, by simp only [List.length_append]; omega, hoo, hK⟩
        clear hK
        go_wp2_with fail
        refine (l1Below_any lo g A n c code 4 _ hD.cur hn (by omega) (by omega)).mono ?_
        rintro e W8 ⟨m2, hm2, rfl, hc8, hg8⟩
        replace hD := hD.step hc8 (only_g hg8)
        clear hg8 hc8
        go_wp2_with fail
        go_loopw [5] (fun i wr => ∃ (k : Nat) (x : Sk) (v4 v5 : Value), i = .int .i64 k ∧ k ≤ 3 ∧ x.inn.length ≤ 1000 ∧ x.out.length ≤ 102 * (3 - k) ∧ DS W0 lo g A n c code S x v4 v5 wr) (fun i _ => (intOf i).toNat)
        case atStart => exact ⟨m2, x, _, _, rfl, by omega, by omega, by omega, hD⟩
        case round =>
          obtain ⟨k, x, v4, v5, rfl, hk, hi, hoo, hD⟩ := hrel
          by_cases hk0 : 0 < k
          · obtain ⟨A4, c4, A5, c5, rfl, rfl⟩ := hD.slices
            obtain ⟨kd, hkd⟩ : ∃ y, (x.kind == 2) = y := ⟨_, rfl⟩
            go_upto_region 11 with (fail)
            have TT : All (fun w' => DS W0 lo g A n c code S x (.slice A4 x.inn.length c4) (.slice A5 x.out.length c5) w' ∧ (w'.heap[S]? = some (.cells #[.int .i64 x.id, .int .i64 x.kind, .int .i64 x.hold, .bool x.shut, .slice A4 x.inn.length c4, .slice A5 x.out.length c5, .int .i64 x.st, .int .i64 x.done] 25 (0, 0)))) _ := ⟨hD, hD.box⟩
            refine wp_region_open 7 (fun w' => w'.heap[S]? = some (.cells #[.int .i64 x.id, .int .i64 x.kind, .int .i64 x.hold, .bool x.shut, .slice A4 x.inn.length c4, .slice A5 x.out.length c5, .int .i64 x.st, .int .i64 x.done] 25 (0, 0))) (by kernel_rfl) ?_
            replace hD := hD.later (Later.drew _)
            clear TT
            generalize World.drew _ = Wa at hD ⊢
            refine wpAnyL_readsG [0, 1, 2] (fuel := 5) (by kernel_rfl) hD.box ?_
            refine LexRG.yes rfl (by first | rfl | (simp [Region.wanted, yielded]; done)) ?_ (fun w' hw => ?_) ?_
            rotate_left
            focus (skip; clear hw; go_simp; (try exact rfl))
            try go_frame
            refine LexRG.yes rfl (by first | rfl | (simp [Region.wanted, yielded]; done)) ?_ (fun w' hw => ?_) ?_
            rotate_left
            focus (have g5 := var_cell hw 5; clear hw; go_simp; (try exact rfl))
            try go_frame
            refine LexRG.yes rfl (by first | rfl | (simp [Region.wanted, yielded]; done)) ?_ (fun w' hw => ?_) ?_
            rotate_left
            focus (skip; clear hw; go_simp; (try exact rfl))
            try go_frame
            refine LexRG.nil ?_
            refine wpAnyL_one (i := 3) (by kernel_rfl) ?_
            refine lexA_get rfl ?_
            try go_frame
            go_wp2_with fail
            refine (l6Draw_any lo g A n c code Wa hD.cur hn).mono ?_
            rintro e Wb ⟨⟨fk, fs, fst⟩, rfl, hfr, hcb, hob⟩
            replace hD := hD.step hcb hob
            clear hcb hob
            obtain ⟨P, hP⟩ : ∃ P, putF ⟨fk, fs, fst⟩ = P := ⟨_, rfl⟩
            have HP := Lib.hid hP
            have hPl : P.length ≤ 102 := by rw [← hP]; exact putF_len _
            have hfs : fs.size ≤ 1048576 := Nat.le_trans hfr.2 (by decide)
            clear hP hfr
            go_wp2_with fail
            refine ⟨fun _ => hD.box, ?_⟩
            refine wpAnyL_one (i := 4) (by kernel_rfl) ?_
            refine lexA_get rfl ?_
            try go_frame
            go_wp2_with fail
            refine (putFrameS_any ⟨fk, fs, fst⟩ Wb hfs).mono ?_
            rw [HP.out]
            rintro e Wc ⟨vP, rfl, oP, hbP⟩
            obtain ⟨AP, cP, rfl, _, _, hrP, _⟩ := oP.shape
            replace hD := hD.later hbP
            clear hbP oP
            go_wp2_with fail
            refine ⟨fun _ => hD.box, ?_⟩
            refine wpAnyL_one (i := 5) (by kernel_rfl) ?_
            refine lexA_get rfl ?_
            try go_frame
            go_wp2_with (first
              | (at_builtin
                 refine wpList_append_any _ rfl (.tmp 46) (.tmp 49) _ rfl W0.heap.size 5 i0 _ 1 1 Try.underlying22 hi0 hz0 hz1 hz2 rfl (by omega) (.slice A5 x.out.length c5) x.out.length (bys x.out) rfl hD.out Wc.heap.size AP P.length cP (bys P) rfl hrP (bys_one P) (by simp only [maxLen]; omega) (by omega) hD.only.size ?_
                 intro v3 w3 hown3 hg3 hat3
                 refine Halt.go ?_)
              | fail)
            have hl3 : Owns w3 W0.heap.size 5 v3 (x.out ++ P) := by unfold Owns; rw [bys_append, List.length_append]; exact hown3
            obtain ⟨hbx0, hK⟩ := hD.grown5 hg3 hl3 (by rcases hat3 with e | e; exact .inl e; exact .inr (.inl e))
            have hbx := hbx0.trans hD.box
            have hS3 : S < w3.heap.size := Nat.lt_of_lt_of_le hD.lt hg3.size
            obtain ⟨A3, c3, rfl, _⟩ := hl3.shape
            clear hown3 hg3 hat3 hl3 hrP hD hbx0
            refine Halt.mk ?_
            go_wp2_with fail
            refine ⟨?_, ?_⟩
            · first | exact hbx | exact fun _ => hbx
            have y5 := var_cell hbx 5
            have t5 := var_frozen hbx 5
            refine wpAnyL_writes [6, 7] (by kernel_rfl) (LexW.cons rfl ?_)
            try go_frame
            go_wp2_with fail
            refine ⟨?_, LexW.cons rfl ?_⟩
            · first | exact hbx | exact fun _ => hbx
            try go_frame
            go_wp2_with fail
            refine ⟨fun h => absurd rfl h, LexW.nil ?_⟩
            try go_frame
            clear y5 t5 hbx hS3
            rw [List.length_append] at hK
            generalize (w3.setCell ⟨S, 5, none⟩ (.slice A3 (x.out.length + P.length) c3)) = Wd at hK ⊢
            have b1 := var_cell hK.box 1
            cases kd
            · go_wp2_with fail
              go_roundw
              case rel => exact ⟨k - 1, { x with out := x.out ++ P }, _, _, by go_num, by omega, hi, by simp only [List.length_append]; omega, hK⟩
              case measure => simp [intOf]; omega
            · go_wp2_with fail
              refine (l1Once_any lo g A n c code 3 Wd hK.cur hn (by omega) (by omega)).mono ?_
              rintro e W9 ⟨yy, rfl, hc9, hg9⟩
              replace hK := hK.step hc9 (only_g hg9)
              clear hc9 hg9 b1
              cases yy
              · go_wp2_with fail
                go_roundw
                case rel => exact ⟨k - 1, { x with out := x.out ++ P }, _, _, by go_num, by omega, hi, by simp only [List.length_append]; omega, hK⟩
                case measure => simp [intOf]; omega
              · have b5 := var_cell hK.box 5
                have b7 := var_cell hK.box 7
                have bf7 := var_frozen hK.box 7
                have hlS := hK.lt
                have hK2 : DS W0 lo g A n c code S { x with out := x.out ++ P, done := ((x.out.length + P.length : Nat) : Int) } (.slice A4 x.inn.length c4) (.slice A3 (x.out.length + P.length) c3) (W9.setCell ⟨S, 7, none⟩ (.int .i64 ((x.out.length + P.length : Nat) : Int))) := hK.put 7 _ _ rfl rfl rfl
                clear hK
                go_wp2_with fail
                go_roundw
                case rel => exact ⟨k - 1, { x with out := x.out ++ P, done := ((x.out.length + P.length : Nat) : Int) }, _, _, by go_num, by omega, hi, by simp only [List.length_append]; omega, hK2⟩
                case measure => simp [intOf]; omega
          · have hk1 : k = 0 := by omega
            subst hk1
            obtain ⟨kd, hkd⟩ : ∃ y, (x.kind == 2) = y := ⟨_, rfl⟩
            have b1 := var_cell hD.box 1
            cases kd
            · go_upto_region 16 with (fail)
              clear b1
              obtain ⟨A4, c4, A5, c5, rfl, rfl⟩ := hD.slices
              have hZ2 := (hD.only.block w.heap.size (by omega) (by simp; omega)).trans hZ
              have hl9 := (Array.getElem?_eq_some_iff.1 hZ2).1
              have hlS := hD.lt
              have z0 := var_cell hZ2 0
              have zf0 := var_frozen hZ2 0
              have b0 := var_cell hD.box 0
              have z1 := var_cell hZ2 1
              have zf1 := var_frozen hZ2 1
              have b1 := var_cell hD.box 1
              have z2 := var_cell hZ2 2
              have zf2 := var_frozen hZ2 2
              have b2 := var_cell hD.box 2
              have z3 := var_cell hZ2 3
              have zf3 := var_frozen hZ2 3
              have b3 := var_cell hD.box 3
              have z4 := var_cell hZ2 4
              have zf4 := var_frozen hZ2 4
              have b4 := var_cell hD.box 4
              have z5 := var_cell hZ2 5
              have zf5 := var_frozen hZ2 5
              have b5 := var_cell hD.box 5
              have z6 := var_cell hZ2 6
              have zf6 := var_frozen hZ2 6
              have b6 := var_cell hD.box 6
              have z7 := var_cell hZ2 7
              have zf7 := var_frozen hZ2 7
              have b7 := var_cell hD.box 7
              have hoi := hD.inn
              have hoo9 := hD.out
              have hap := hD.ap
              have hcu := hD.cur
              have hon := ho0.trans hD.only
              clear hD
              go_wp2_with fail
              refine bodyPost_ret (v := .agg #[.int .i64 x.id, .int .i64 x.kind, .int .i64 x.hold, .bool x.shut, .slice A4 x.inn.length c4, .slice A5 x.out.length c5, .int .i64 x.st, .int .i64 x.done]) (by simp [results, Try.results127, go_sem, z0, z1, z2, z3, z4, z5, z6, z7]) rfl ?_
              have hp8 := put8_only (W := wr) (E := w.heap.size) (.int .i64 x.id) (.int .i64 x.kind) (.int .i64 x.hold) (.bool x.shut) (.slice A4 x.inn.length c4) (.slice A5 x.out.length c5) (.int .i64 x.st) (.int .i64 x.done)
              refine ⟨x, A4, c4, A5, c5, rfl, ⟨by omega, by omega⟩, ?_, ?_, hap, hcu.only hp8 (by simp; omega) (fun a ha => by simp at ha; omega), hon.then hp8 (fun a ha => by simp at ha; subst ha; exact .inr (Nat.le_refl _))⟩
              · exact ownsRow_mono (Rep.ownsRow_block hoi fun k hk => hp8.block k (hoi.lt k (by simpa using hk)).2 (by have := (hoi.lt k (by simpa using hk)).1; simp; omega)) (by omega)
              · exact ownsRow_mono (Rep.ownsRow_block hoo9 fun k hk => hp8.block k (hoo9.lt k (by simpa using hk)).2 (by have := (hoo9.lt k (by simpa using hk)).1; simp; omega)) (by omega)
            · go_wp2_with fail
              refine (l1Below_any lo g A n c code 3 wr hD.cur hn (by omega) (by omega)).mono ?_
              rintro e W9 ⟨s3, hs3, rfl, hc9, hg9⟩
              replace hD := hD.step hc9 (only_g hg9)
              clear hc9 hg9 b1
              have b6 := var_cell hD.box 6
              have bf6 := var_frozen hD.box 6
              have hlS := hD.lt
              have hD2 : DS W0 lo g A n c code S { x with st := (s3 : Int) } v4 v5 (W9.setCell ⟨S, 6, none⟩ (.int .i64 (s3 : Int))) := hD.put 6 _ _ rfl rfl rfl
              clear hD
              go_upto_region 16 with (fail)
              clear b6 bf6 hlS
              generalize (W9.setCell ⟨S, 6, none⟩ (.int .i64 (s3 : Int))) = W10 at hD2 ⊢
              obtain ⟨x, hi, hoo, hD⟩ : ∃ x' : Sk, x'.inn.length ≤ 1000 ∧ x'.out.length ≤ 102 * (3 - 0) ∧ DS W0 lo g A n c code S x' v4 v5 W10 := ⟨{ x with st := (s3 : Int) }, hi, hoo, hD2⟩
              clear hD2 hkd
              obtain ⟨A4, c4, A5, c5, rfl, rfl⟩ := hD.slices
              have hZ2 := (hD.only.block w.heap.size (by omega) (by simp; omega)).trans hZ
              have hl9 := (Array.getElem?_eq_some_iff.1 hZ2).1
              have hlS := hD.lt
              have z0 := var_cell hZ2 0
              have zf0 := var_frozen hZ2 0
              have b0 := var_cell hD.box 0
              have z1 := var_cell hZ2 1
              have zf1 := var_frozen hZ2 1
              have b1 := var_cell hD.box 1
              have z2 := var_cell hZ2 2
              have zf2 := var_frozen hZ2 2
              have b2 := var_cell hD.box 2
              have z3 := var_cell hZ2 3
              have zf3 := var_frozen hZ2 3
              have b3 := var_cell hD.box 3
              have z4 := var_cell hZ2 4
              have zf4 := var_frozen hZ2 4
              have b4 := var_cell hD.box 4
              have z5 := var_cell hZ2 5
              have zf5 := var_frozen hZ2 5
              have b5 := var_cell hD.box 5
              have z6 := var_cell hZ2 6
              have zf6 := var_frozen hZ2 6
              have b6 := var_cell hD.box 6
              have z7 := var_cell hZ2 7
              have zf7 := var_frozen hZ2 7
              have b7 := var_cell hD.box 7
              have hoi := hD.inn
              have hoo9 := hD.out
              have hap := hD.ap
              have hcu := hD.cur
              have hon := ho0.trans hD.only
              clear hD
              go_wp2_with fail
              refine bodyPost_ret (v := .agg #[.int .i64 x.id, .int .i64 x.kind, .int .i64 x.hold, .bool x.shut, .slice A4 x.inn.length c4, .slice A5 x.out.length c5, .int .i64 x.st, .int .i64 x.done]) (by simp [results, Try.results127, go_sem, z0, z1, z2, z3, z4, z5, z6, z7]) rfl ?_
              have hp8 := put8_only (W := W10) (E := w.heap.size) (.int .i64 x.id) (.int .i64 x.kind) (.int .i64 x.hold) (.bool x.shut) (.slice A4 x.inn.length c4) (.slice A5 x.out.length c5) (.int .i64 x.st) (.int .i64 x.done)
              refine ⟨x, A4, c4, A5, c5, rfl, ⟨by omega, by omega⟩, ?_, ?_, hap, hcu.only hp8 (by simp; omega) (fun a ha => by simp at ha; omega), hon.then hp8 (fun a ha => by simp at ha; subst ha; exact .inr (Nat.le_refl _))⟩
              · exact ownsRow_mono (Rep.ownsRow_block hoi fun k hk => hp8.block k (hoi.lt k (by simpa using hk)).2 (by have := (hoi.lt k (by simpa using hk)).1; simp; omega)) (by omega)
              · exact ownsRow_mono (Rep.ownsRow_block hoo9 fun k hk => hp8.block k (hoo9.lt k (by simpa using hk)).2 (by have := (hoo9.lt k (by simpa using hk)).1; simp; omega)) (by omega)
set_option maxHeartbeats 16000000 in
theorem l8Any_any (lo g : Nat) (A : Option Addr) (n c : Nat) (code : List UInt8) (w : World) (h : Cur w lo g A n c code) (hn : n ≤ 140737488351232) :
    Calls Try.prog 74 #[.pointer (some ⟨g, 0, none⟩)] w (RetSkD w lo g A n c code) := by
  have hglt := h.lt
  have hfrm := h.from_
  have hZ := heap_alloc_new w (.cells #[.int .i64 0, .int .i64 0, .int .i64 0, .bool false, .slice none 0 0, .slice none 0 0, .int .i64 0, .int .i64 0] 25)
  have hc0 := h.alloc (.cells #[.int .i64 0, .int .i64 0, .int .i64 0, .bool false, .slice none 0 0, .slice none 0 0, .int .i64 0, .int .i64 0] 25)
  have ho0 := (Rep.only_alloc w (.cells #[.int .i64 0, .int .i64 0, .int .i64 0, .bool false, .slice none 0 0, .slice none 0 0, .int .i64 0, .int .i64 0] 25)).mono (fp' := [g]) (by simp)
  have hs0 : (w.alloc (.cells #[.int .i64 0, .int .i64 0, .int .i64 0, .bool false, .slice none 0 0, .slice none 0 0, .int .i64 0, .int .i64 0] 25)).heap.size = w.heap.size + 1 := by simp
  go_enter Try.func74, Try.ntmps74
  go_wp2_with fail
  generalize w.alloc (.cells #[.int .i64 0, .int .i64 0, .int .i64 0, .bool false, .slice none 0 0, .slice none 0 0, .int .i64 0, .int .i64 0] 25) = W0 at hZ hc0 ho0 hs0 ⊢
  refine (l8Draw_any lo g A n c code W0 hc0 hn).mono ?_
  rintro e W1 ⟨x, A4, c4, A5, c5, rfl, hsm, h4, h5, hap, hc1, ho1⟩
  have hsm1 := hsm.1
  have hsm2 := hsm.2
  go_upto_region 2 with (fail)
  have hsz1 := ho1.size
  have hD : DS W0 lo g A n c code W1.heap.size x (.slice A4 x.inn.length c4) (.slice A5 x.out.length c5) (W1.alloc (.cells #[.int .i64 x.id, .int .i64 x.kind, .int .i64 x.hold, .bool x.shut, .slice A4 x.inn.length c4, .slice A5 x.out.length c5, .int .i64 x.st, .int .i64 x.done] 25)) :=
    ⟨ho1.trans ((Rep.only_alloc W1 _).mono (by simp)), hc1.alloc _, by omega, heap_alloc_new _ _, Owns.keep h4 (Later.alloc _ _), Owns.keep h5 (Later.alloc _ _), hap, hsz1, fun e => by have := (h4.lt _ e).2; omega, fun e => by have := (h5.lt _ e).2; omega⟩
  clear hc1 ho1 h4 h5 hap hsm
  generalize W1.alloc (.cells #[.int .i64 x.id, .int .i64 x.kind, .int .i64 x.hold, .bool x.shut, .slice A4 x.inn.length c4, .slice A5 x.out.length c5, .int .i64 x.st, .int .i64 x.done] 25) = W2 at hD ⊢
  generalize W1.heap.size = S at hD hsz1 ⊢
  go_wp2_with fail
  refine (l1Below_any lo g A n c code 16 W2 hD.cur hn (by omega) (by omega)).mono ?_
  rintro e W3 ⟨m, hm, rfl, hc3, hg3⟩
  replace hD := hD.step hc3 (only_g hg3)
  clear hg3 hc3
  obtain ⟨t0, ht0⟩ : ∃ y, ((m : Int) == 0) = y := ⟨_, rfl⟩
  cases t0
  rotate_left
  · go_wp2_with fail
    refine (draw_int lo g A n c code [0, 9999, 10000] W3 hD.cur hn (by decide) (by decide)).mono ?_
    rintro e W4 ⟨z, _, rfl, hc4, ho4⟩
    replace hD := hD.step hc4 ho4
    clear hc4 ho4
    have y0 := var_cell hD.box 0
    have yf := var_frozen hD.box 0
    have hlS9 := hD.lt
    have hD2 : DS W0 lo g A n c code S { x with id := z } (.slice A4 x.inn.length c4) (.slice A5 x.out.length c5) (W4.setCell ⟨S, 0, none⟩ (.int .i64 z)) := hD.put 0 _ _ rfl rfl rfl
    clear hD
    go_upto_region 15 with (fail)
    clear y0 yf hlS9
    generalize (W4.setCell ⟨S, 0, none⟩ (.int .i64 z)) = W5 at hD2 ⊢
    obtain ⟨x, hi, hoo, A4, c4, A5, c5, hD⟩ : ∃ x' : Sk, x'.inn.length ≤ 1000 ∧ x'.out.length ≤ 1000 ∧ ∃ A6 c6 A7 c7, DS W0 lo g A n c code S x' (.slice A6 x'.inn.length c6) (.slice A7 x'.out.length c7) W5 := ⟨{ x with id := z }, hsm1, hsm2, A4, c4, A5, c5, hD2⟩
    clear hD2
    have hZ2 := (hD.only.block w.heap.size (by omega) (by simp; omega)).trans hZ
    have hl9 := (Array.getElem?_eq_some_iff.1 hZ2).1
    have hlS := hD.lt
    have z0 := var_cell hZ2 0
    have zf0 := var_frozen hZ2 0
    have b0 := var_cell hD.box 0
    have z1 := var_cell hZ2 1
    have zf1 := var_frozen hZ2 1
    have b1 := var_cell hD.box 1
    have z2 := var_cell hZ2 2
    have zf2 := var_frozen hZ2 2
    have b2 := var_cell hD.box 2
    have z3 := var_cell hZ2 3
    have zf3 := var_frozen hZ2 3
    have b3 := var_cell hD.box 3
    have z4 := var_cell hZ2 4
    have zf4 := var_frozen hZ2 4
    have b4 := var_cell hD.box 4
    have z5 := var_cell hZ2 5
    have zf5 := var_frozen hZ2 5
    have b5 := var_cell hD.box 5
    have z6 := var_cell hZ2 6
    have zf6 := var_frozen hZ2 6
    have b6 := var_cell hD.box 6
    have z7 := var_cell hZ2 7
    have zf7 := var_frozen hZ2 7
    have b7 := var_cell hD.box 7
    have hoi := hD.inn
    have hoo9 := hD.out
    have hap := hD.ap
    have hcu := hD.cur
    have hon := ho0.trans hD.only
    clear hD
    go_wp2_with fail
    refine bodyPost_ret (v := .agg #[.int .i64 x.id, .int .i64 x.kind, .int .i64 x.hold, .bool x.shut, .slice A4 x.inn.length c4, .slice A5 x.out.length c5, .int .i64 x.st, .int .i64 x.done]) (by simp [results, Try.results74, go_sem, z0, z1, z2, z3, z4, z5, z6, z7]) rfl ?_
    have hp8 := put8_only (W := W5) (E := w.heap.size) (.int .i64 x.id) (.int .i64 x.kind) (.int .i64 x.hold) (.bool x.shut) (.slice A4 x.inn.length c4) (.slice A5 x.out.length c5) (.int .i64 x.st) (.int .i64 x.done)
    refine ⟨x, A4, c4, A5, c5, rfl, ⟨by omega, by omega⟩, ?_, ?_, hap, hcu.only hp8 (by simp; omega) (fun a ha => by simp at ha; omega), hon.then hp8 (fun a ha => by simp at ha; subst ha; exact .inr (Nat.le_refl _))⟩
    · exact ownsRow_mono (Rep.ownsRow_block hoi fun k hk => hp8.block k (hoi.lt k (by simpa using hk)).2 (by have := (hoi.lt k (by simpa using hk)).1; simp; omega)) (by omega)
    · exact ownsRow_mono (Rep.ownsRow_block hoo9 fun k hk => hp8.block k (hoo9.lt k (by simpa using hk)).2 (by have := (hoo9.lt k (by simpa using hk)).1; simp; omega)) (by omega)
  obtain ⟨t1, ht1⟩ : ∃ y, ((m : Int) == 1) = y := ⟨_, rfl⟩
  cases t1
  rotate_left
  · go_wp2_with fail
    refine (draw_int lo g A n c code [0, 1, 2, 3] W3 hD.cur hn (by decide) (by decide)).mono ?_
    rintro e W4 ⟨z, _, rfl, hc4, ho4⟩
    replace hD := hD.step hc4 ho4
    clear hc4 ho4
    have y1 := var_cell hD.box 1
    have yf := var_frozen hD.box 1
    have hlS9 := hD.lt
    have hD2 : DS W0 lo g A n c code S { x with kind := z } (.slice A4 x.inn.length c4) (.slice A5 x.out.length c5) (W4.setCell ⟨S, 1, none⟩ (.int .i64 z)) := hD.put 1 _ _ rfl rfl rfl
    clear hD
    go_upto_region 15 with (fail)
    clear y1 yf hlS9
    generalize (W4.setCell ⟨S, 1, none⟩ (.int .i64 z)) = W5 at hD2 ⊢
    obtain ⟨x, hi, hoo, A4, c4, A5, c5, hD⟩ : ∃ x' : Sk, x'.inn.length ≤ 1000 ∧ x'.out.length ≤ 1000 ∧ ∃ A6 c6 A7 c7, DS W0 lo g A n c code S x' (.slice A6 x'.inn.length c6) (.slice A7 x'.out.length c7) W5 := ⟨{ x with kind := z }, hsm1, hsm2, A4, c4, A5, c5, hD2⟩
    clear hD2
    have hZ2 := (hD.only.block w.heap.size (by omega) (by simp; omega)).trans hZ
    have hl9 := (Array.getElem?_eq_some_iff.1 hZ2).1
    have hlS := hD.lt
    have z0 := var_cell hZ2 0
    have zf0 := var_frozen hZ2 0
    have b0 := var_cell hD.box 0
    have z1 := var_cell hZ2 1
    have zf1 := var_frozen hZ2 1
    have b1 := var_cell hD.box 1
    have z2 := var_cell hZ2 2
    have zf2 := var_frozen hZ2 2
    have b2 := var_cell hD.box 2
    have z3 := var_cell hZ2 3
    have zf3 := var_frozen hZ2 3
    have b3 := var_cell hD.box 3
    have z4 := var_cell hZ2 4
    have zf4 := var_frozen hZ2 4
    have b4 := var_cell hD.box 4
    have z5 := var_cell hZ2 5
    have zf5 := var_frozen hZ2 5
    have b5 := var_cell hD.box 5
    have z6 := var_cell hZ2 6
    have zf6 := var_frozen hZ2 6
    have b6 := var_cell hD.box 6
    have z7 := var_cell hZ2 7
    have zf7 := var_frozen hZ2 7
    have b7 := var_cell hD.box 7
    have hoi := hD.inn
    have hoo9 := hD.out
    have hap := hD.ap
    have hcu := hD.cur
    have hon := ho0.trans hD.only
    clear hD
    go_wp2_with fail
    refine bodyPost_ret (v := .agg #[.int .i64 x.id, .int .i64 x.kind, .int .i64 x.hold, .bool x.shut, .slice A4 x.inn.length c4, .slice A5 x.out.length c5, .int .i64 x.st, .int .i64 x.done]) (by simp [results, Try.results74, go_sem, z0, z1, z2, z3, z4, z5, z6, z7]) rfl ?_
    have hp8 := put8_only (W := W5) (E := w.heap.size) (.int .i64 x.id) (.int .i64 x.kind) (.int .i64 x.hold) (.bool x.shut) (.slice A4 x.inn.length c4) (.slice A5 x.out.length c5) (.int .i64 x.st) (.int .i64 x.done)
    refine ⟨x, A4, c4, A5, c5, rfl, ⟨by omega, by omega⟩, ?_, ?_, hap, hcu.only hp8 (by simp; omega) (fun a ha => by simp at ha; omega), hon.then hp8 (fun a ha => by simp at ha; subst ha; exact .inr (Nat.le_refl _))⟩
    · exact ownsRow_mono (Rep.ownsRow_block hoi fun k hk => hp8.block k (hoi.lt k (by simpa using hk)).2 (by have := (hoi.lt k (by simpa using hk)).1; simp; omega)) (by omega)
    · exact ownsRow_mono (Rep.ownsRow_block hoo9 fun k hk => hp8.block k (hoo9.lt k (by simpa using hk)).2 (by have := (hoo9.lt k (by simpa using hk)).1; simp; omega)) (by omega)
  obtain ⟨t2, ht2⟩ : ∃ y, ((m : Int) == 2) = y := ⟨_, rfl⟩
  cases t2
  rotate_left
  · go_wp2_with fail
    refine (draw_int lo g A n c code [0, 4] W3 hD.cur hn (by decide) (by decide)).mono ?_
    rintro e W4 ⟨z, _, rfl, hc4, ho4⟩
    replace hD := hD.step hc4 ho4
    clear hc4 ho4
    have y2 := var_cell hD.box 2
    have yf := var_frozen hD.box 2
    have hlS9 := hD.lt
    have hD2 : DS W0 lo g A n c code S { x with hold := z } (.slice A4 x.inn.length c4) (.slice A5 x.out.length c5) (W4.setCell ⟨S, 2, none⟩ (.int .i64 z)) := hD.put 2 _ _ rfl rfl rfl
    clear hD
    go_upto_region 15 with (fail)
    clear y2 yf hlS9
    generalize (W4.setCell ⟨S, 2, none⟩ (.int .i64 z)) = W5 at hD2 ⊢
    obtain ⟨x, hi, hoo, A4, c4, A5, c5, hD⟩ : ∃ x' : Sk, x'.inn.length ≤ 1000 ∧ x'.out.length ≤ 1000 ∧ ∃ A6 c6 A7 c7, DS W0 lo g A n c code S x' (.slice A6 x'.inn.length c6) (.slice A7 x'.out.length c7) W5 := ⟨{ x with hold := z }, hsm1, hsm2, A4, c4, A5, c5, hD2⟩
    clear hD2
    have hZ2 := (hD.only.block w.heap.size (by omega) (by simp; omega)).trans hZ
    have hl9 := (Array.getElem?_eq_some_iff.1 hZ2).1
    have hlS := hD.lt
    have z0 := var_cell hZ2 0
    have zf0 := var_frozen hZ2 0
    have b0 := var_cell hD.box 0
    have z1 := var_cell hZ2 1
    have zf1 := var_frozen hZ2 1
    have b1 := var_cell hD.box 1
    have z2 := var_cell hZ2 2
    have zf2 := var_frozen hZ2 2
    have b2 := var_cell hD.box 2
    have z3 := var_cell hZ2 3
    have zf3 := var_frozen hZ2 3
    have b3 := var_cell hD.box 3
    have z4 := var_cell hZ2 4
    have zf4 := var_frozen hZ2 4
    have b4 := var_cell hD.box 4
    have z5 := var_cell hZ2 5
    have zf5 := var_frozen hZ2 5
    have b5 := var_cell hD.box 5
    have z6 := var_cell hZ2 6
    have zf6 := var_frozen hZ2 6
    have b6 := var_cell hD.box 6
    have z7 := var_cell hZ2 7
    have zf7 := var_frozen hZ2 7
    have b7 := var_cell hD.box 7
    have hoi := hD.inn
    have hoo9 := hD.out
    have hap := hD.ap
    have hcu := hD.cur
    have hon := ho0.trans hD.only
    clear hD
    go_wp2_with fail
    refine bodyPost_ret (v := .agg #[.int .i64 x.id, .int .i64 x.kind, .int .i64 x.hold, .bool x.shut, .slice A4 x.inn.length c4, .slice A5 x.out.length c5, .int .i64 x.st, .int .i64 x.done]) (by simp [results, Try.results74, go_sem, z0, z1, z2, z3, z4, z5, z6, z7]) rfl ?_
    have hp8 := put8_only (W := W5) (E := w.heap.size) (.int .i64 x.id) (.int .i64 x.kind) (.int .i64 x.hold) (.bool x.shut) (.slice A4 x.inn.length c4) (.slice A5 x.out.length c5) (.int .i64 x.st) (.int .i64 x.done)
    refine ⟨x, A4, c4, A5, c5, rfl, ⟨by omega, by omega⟩, ?_, ?_, hap, hcu.only hp8 (by simp; omega) (fun a ha => by simp at ha; omega), hon.then hp8 (fun a ha => by simp at ha; subst ha; exact .inr (Nat.le_refl _))⟩
    · exact ownsRow_mono (Rep.ownsRow_block hoi fun k hk => hp8.block k (hoi.lt k (by simpa using hk)).2 (by have := (hoi.lt k (by simpa using hk)).1; simp; omega)) (by omega)
    · exact ownsRow_mono (Rep.ownsRow_block hoo9 fun k hk => hp8.block k (hoo9.lt k (by simpa using hk)).2 (by have := (hoo9.lt k (by simpa using hk)).1; simp; omega)) (by omega)
  obtain ⟨t3, ht3⟩ : ∃ y, ((m : Int) == 3) = y := ⟨_, rfl⟩
  cases t3
  rotate_left
  · go_wp2_with fail
    refine (draw_int lo g A n c code [-1, 1, 3] W3 hD.cur hn (by decide) (by decide)).mono ?_
    rintro e W4 ⟨z, _, rfl, hc4, ho4⟩
    replace hD := hD.step hc4 ho4
    clear hc4 ho4
    have y6 := var_cell hD.box 6
    have yf := var_frozen hD.box 6
    have hlS9 := hD.lt
    have hD2 : DS W0 lo g A n c code S { x with st := z } (.slice A4 x.inn.length c4) (.slice A5 x.out.length c5) (W4.setCell ⟨S, 6, none⟩ (.int .i64 z)) := hD.put 6 _ _ rfl rfl rfl
    clear hD
    go_upto_region 15 with (fail)
    clear y6 yf hlS9
    generalize (W4.setCell ⟨S, 6, none⟩ (.int .i64 z)) = W5 at hD2 ⊢
    obtain ⟨x, hi, hoo, A4, c4, A5, c5, hD⟩ : ∃ x' : Sk, x'.inn.length ≤ 1000 ∧ x'.out.length ≤ 1000 ∧ ∃ A6 c6 A7 c7, DS W0 lo g A n c code S x' (.slice A6 x'.inn.length c6) (.slice A7 x'.out.length c7) W5 := ⟨{ x with st := z }, hsm1, hsm2, A4, c4, A5, c5, hD2⟩
    clear hD2
    have hZ2 := (hD.only.block w.heap.size (by omega) (by simp; omega)).trans hZ
    have hl9 := (Array.getElem?_eq_some_iff.1 hZ2).1
    have hlS := hD.lt
    have z0 := var_cell hZ2 0
    have zf0 := var_frozen hZ2 0
    have b0 := var_cell hD.box 0
    have z1 := var_cell hZ2 1
    have zf1 := var_frozen hZ2 1
    have b1 := var_cell hD.box 1
    have z2 := var_cell hZ2 2
    have zf2 := var_frozen hZ2 2
    have b2 := var_cell hD.box 2
    have z3 := var_cell hZ2 3
    have zf3 := var_frozen hZ2 3
    have b3 := var_cell hD.box 3
    have z4 := var_cell hZ2 4
    have zf4 := var_frozen hZ2 4
    have b4 := var_cell hD.box 4
    have z5 := var_cell hZ2 5
    have zf5 := var_frozen hZ2 5
    have b5 := var_cell hD.box 5
    have z6 := var_cell hZ2 6
    have zf6 := var_frozen hZ2 6
    have b6 := var_cell hD.box 6
    have z7 := var_cell hZ2 7
    have zf7 := var_frozen hZ2 7
    have b7 := var_cell hD.box 7
    have hoi := hD.inn
    have hoo9 := hD.out
    have hap := hD.ap
    have hcu := hD.cur
    have hon := ho0.trans hD.only
    clear hD
    go_wp2_with fail
    refine bodyPost_ret (v := .agg #[.int .i64 x.id, .int .i64 x.kind, .int .i64 x.hold, .bool x.shut, .slice A4 x.inn.length c4, .slice A5 x.out.length c5, .int .i64 x.st, .int .i64 x.done]) (by simp [results, Try.results74, go_sem, z0, z1, z2, z3, z4, z5, z6, z7]) rfl ?_
    have hp8 := put8_only (W := W5) (E := w.heap.size) (.int .i64 x.id) (.int .i64 x.kind) (.int .i64 x.hold) (.bool x.shut) (.slice A4 x.inn.length c4) (.slice A5 x.out.length c5) (.int .i64 x.st) (.int .i64 x.done)
    refine ⟨x, A4, c4, A5, c5, rfl, ⟨by omega, by omega⟩, ?_, ?_, hap, hcu.only hp8 (by simp; omega) (fun a ha => by simp at ha; omega), hon.then hp8 (fun a ha => by simp at ha; subst ha; exact .inr (Nat.le_refl _))⟩
    · exact ownsRow_mono (Rep.ownsRow_block hoi fun k hk => hp8.block k (hoi.lt k (by simpa using hk)).2 (by have := (hoi.lt k (by simpa using hk)).1; simp; omega)) (by omega)
    · exact ownsRow_mono (Rep.ownsRow_block hoo9 fun k hk => hp8.block k (hoo9.lt k (by simpa using hk)).2 (by have := (hoo9.lt k (by simpa using hk)).1; simp; omega)) (by omega)
  obtain ⟨t4, ht4⟩ : ∃ y, ((m : Int) == 4) = y := ⟨_, rfl⟩
  cases t4
  rotate_left
  · go_wp2_with fail
    refine (draw_int lo g A n c code [-1, 1, 900] W3 hD.cur hn (by decide) (by decide)).mono ?_
    rintro e W4 ⟨z, _, rfl, hc4, ho4⟩
    replace hD := hD.step hc4 ho4
    clear hc4 ho4
    have y7 := var_cell hD.box 7
    have yf := var_frozen hD.box 7
    have hlS9 := hD.lt
    have hD2 : DS W0 lo g A n c code S { x with done := z } (.slice A4 x.inn.length c4) (.slice A5 x.out.length c5) (W4.setCell ⟨S, 7, none⟩ (.int .i64 z)) := hD.put 7 _ _ rfl rfl rfl
    clear hD
    go_upto_region 15 with (fail)
    clear y7 yf hlS9
    generalize (W4.setCell ⟨S, 7, none⟩ (.int .i64 z)) = W5 at hD2 ⊢
    obtain ⟨x, hi, hoo, A4, c4, A5, c5, hD⟩ : ∃ x' : Sk, x'.inn.length ≤ 1000 ∧ x'.out.length ≤ 1000 ∧ ∃ A6 c6 A7 c7, DS W0 lo g A n c code S x' (.slice A6 x'.inn.length c6) (.slice A7 x'.out.length c7) W5 := ⟨{ x with done := z }, hsm1, hsm2, A4, c4, A5, c5, hD2⟩
    clear hD2
    have hZ2 := (hD.only.block w.heap.size (by omega) (by simp; omega)).trans hZ
    have hl9 := (Array.getElem?_eq_some_iff.1 hZ2).1
    have hlS := hD.lt
    have z0 := var_cell hZ2 0
    have zf0 := var_frozen hZ2 0
    have b0 := var_cell hD.box 0
    have z1 := var_cell hZ2 1
    have zf1 := var_frozen hZ2 1
    have b1 := var_cell hD.box 1
    have z2 := var_cell hZ2 2
    have zf2 := var_frozen hZ2 2
    have b2 := var_cell hD.box 2
    have z3 := var_cell hZ2 3
    have zf3 := var_frozen hZ2 3
    have b3 := var_cell hD.box 3
    have z4 := var_cell hZ2 4
    have zf4 := var_frozen hZ2 4
    have b4 := var_cell hD.box 4
    have z5 := var_cell hZ2 5
    have zf5 := var_frozen hZ2 5
    have b5 := var_cell hD.box 5
    have z6 := var_cell hZ2 6
    have zf6 := var_frozen hZ2 6
    have b6 := var_cell hD.box 6
    have z7 := var_cell hZ2 7
    have zf7 := var_frozen hZ2 7
    have b7 := var_cell hD.box 7
    have hoi := hD.inn
    have hoo9 := hD.out
    have hap := hD.ap
    have hcu := hD.cur
    have hon := ho0.trans hD.only
    clear hD
    go_wp2_with fail
    refine bodyPost_ret (v := .agg #[.int .i64 x.id, .int .i64 x.kind, .int .i64 x.hold, .bool x.shut, .slice A4 x.inn.length c4, .slice A5 x.out.length c5, .int .i64 x.st, .int .i64 x.done]) (by simp [results, Try.results74, go_sem, z0, z1, z2, z3, z4, z5, z6, z7]) rfl ?_
    have hp8 := put8_only (W := W5) (E := w.heap.size) (.int .i64 x.id) (.int .i64 x.kind) (.int .i64 x.hold) (.bool x.shut) (.slice A4 x.inn.length c4) (.slice A5 x.out.length c5) (.int .i64 x.st) (.int .i64 x.done)
    refine ⟨x, A4, c4, A5, c5, rfl, ⟨by omega, by omega⟩, ?_, ?_, hap, hcu.only hp8 (by simp; omega) (fun a ha => by simp at ha; omega), hon.then hp8 (fun a ha => by simp at ha; subst ha; exact .inr (Nat.le_refl _))⟩
    · exact ownsRow_mono (Rep.ownsRow_block hoi fun k hk => hp8.block k (hoi.lt k (by simpa using hk)).2 (by have := (hoi.lt k (by simpa using hk)).1; simp; omega)) (by omega)
    · exact ownsRow_mono (Rep.ownsRow_block hoo9 fun k hk => hp8.block k (hoo9.lt k (by simpa using hk)).2 (by have := (hoo9.lt k (by simpa using hk)).1; simp; omega)) (by omega)
  obtain ⟨t5, ht5⟩ : ∃ y, ((m : Int) == 5) = y := ⟨_, rfl⟩
  cases t5
  · go_upto_region 15 with (fail)
    have hi := hsm1
    have hoo := hsm2
    have hZ2 := (hD.only.block w.heap.size (by omega) (by simp; omega)).trans hZ
    have hl9 := (Array.getElem?_eq_some_iff.1 hZ2).1
    have hlS := hD.lt
    have z0 := var_cell hZ2 0
    have zf0 := var_frozen hZ2 0
    have b0 := var_cell hD.box 0
    have z1 := var_cell hZ2 1
    have zf1 := var_frozen hZ2 1
    have b1 := var_cell hD.box 1
    have z2 := var_cell hZ2 2
    have zf2 := var_frozen hZ2 2
    have b2 := var_cell hD.box 2
    have z3 := var_cell hZ2 3
    have zf3 := var_frozen hZ2 3
    have b3 := var_cell hD.box 3
    have z4 := var_cell hZ2 4
    have zf4 := var_frozen hZ2 4
    have b4 := var_cell hD.box 4
    have z5 := var_cell hZ2 5
    have zf5 := var_frozen hZ2 5
    have b5 := var_cell hD.box 5
    have z6 := var_cell hZ2 6
    have zf6 := var_frozen hZ2 6
    have b6 := var_cell hD.box 6
    have z7 := var_cell hZ2 7
    have zf7 := var_frozen hZ2 7
    have b7 := var_cell hD.box 7
    have hoi := hD.inn
    have hoo9 := hD.out
    have hap := hD.ap
    have hcu := hD.cur
    have hon := ho0.trans hD.only
    clear hD
    go_wp2_with fail
    refine bodyPost_ret (v := .agg #[.int .i64 x.id, .int .i64 x.kind, .int .i64 x.hold, .bool x.shut, .slice A4 x.inn.length c4, .slice A5 x.out.length c5, .int .i64 x.st, .int .i64 x.done]) (by simp [results, Try.results74, go_sem, z0, z1, z2, z3, z4, z5, z6, z7]) rfl ?_
    have hp8 := put8_only (W := W3) (E := w.heap.size) (.int .i64 x.id) (.int .i64 x.kind) (.int .i64 x.hold) (.bool x.shut) (.slice A4 x.inn.length c4) (.slice A5 x.out.length c5) (.int .i64 x.st) (.int .i64 x.done)
    refine ⟨x, A4, c4, A5, c5, rfl, ⟨by omega, by omega⟩, ?_, ?_, hap, hcu.only hp8 (by simp; omega) (fun a ha => by simp at ha; omega), hon.then hp8 (fun a ha => by simp at ha; subst ha; exact .inr (Nat.le_refl _))⟩
    · exact ownsRow_mono (Rep.ownsRow_block hoi fun k hk => hp8.block k (hoi.lt k (by simpa using hk)).2 (by have := (hoi.lt k (by simpa using hk)).1; simp; omega)) (by omega)
    · exact ownsRow_mono (Rep.ownsRow_block hoo9 fun k hk => hp8.block k (hoo9.lt k (by simpa using hk)).2 (by have := (hoo9.lt k (by simpa using hk)).1; simp; omega)) (by omega)
  · go_wp2_with fail
    refine (draw_int lo g A n c code [238, 239, 240, 241] W3 hD.cur hn (by decide) (by decide)).mono ?_
    rintro e W4 ⟨z, hz, rfl, hc4, ho4⟩
    replace hD := hD.step hc4 ho4
    obtain ⟨zn, hzn, hzl⟩ : ∃ zn : Nat, z = (zn : Int) ∧ zn ≤ 241 := by
      simp only [List.mem_cons, List.not_mem_nil, or_false] at hz
      rcases hz with rfl | rfl | rfl | rfl
      · exact ⟨238, rfl, by omega⟩
      · exact ⟨239, rfl, by omega⟩
      · exact ⟨240, rfl, by omega⟩
      · exact ⟨241, rfl, by omega⟩
    subst hzn
    clear hc4 ho4 hz
    go_wp2_with fail
    refine (l1Bytes_any lo g A n c code zn W4 hD.cur hn (by omega)).mono ?_
    rintro e W5 ⟨v, l, hl, rfl, ho5, hc5, hg5⟩
    obtain ⟨A6, c6, rfl, _⟩ := ho5.shape
    have hbk := hD.lt
    have hbs := hD.only.size
    have hoL := (only_g hg5)
    have hDo := hD
    replace hD := hD.step hc5 hoL
    have hll : l.length ≤ 241 := by omega
    have y4 := var_cell hD.box 4
    have yf := var_frozen hD.box 4
    have hlS9 := hD.lt
    have hp := Rep.Only.setCell W5 (p := ⟨S, 4, none⟩) (fp := [S]) (by simp) (.slice A6 l.length c6)
    have hD2 : DS W0 lo g A n c code S { x with inn := l } (.slice A6 l.length c6) (.slice A5 x.out.length c5) (W5.setCell ⟨S, 4, none⟩ (.slice A6 l.length c6)) := by
      have hlo := hD.lo'
      have hgl := hD.gl
      have hfc := hD.cur.from_
      refine ⟨hD.only.then hp (fun a ha => by simp at ha; subst ha; exact .inr hlo), hD.cur.only hp (by simp; omega) (fun a ha => by simp at ha; omega), hD.gl, var_set hD.box 4 _, ?_, ?_, ?_, hD.lo', ?_, hD.n5⟩
      · exact ownsRow_mono (Rep.ownsRow_block ho5 fun k hk => hp.block k (ho5.lt k (by simpa using hk)).2 (by have := (ho5.lt k (by simpa using hk)).1; simp; omega)) hbs
      · exact Rep.ownsRow_block hD.out fun k hk => hp.block k (hD.out.lt k (by simpa using hk)).2 (fun e => hD.n5 (by simp at e; subst e; simpa using hk))
      · intro k h1 h2
        have := (ho5.lt k h1).1
        have := (hDo.out.lt k h2).2
        omega
      · intro h1
        have := (ho5.lt S h1).1
        omega
    clear hD hDo hp ho5 hc5 hg5 hoL hl
    go_upto_region 15 with (fail)
    clear y4 yf hlS9
    generalize (W5.setCell ⟨S, 4, none⟩ (.slice A6 l.length c6)) = W6 at hD2 ⊢
    obtain ⟨x, hi, hoo, A4, c4, A5, c5, hD⟩ : ∃ x' : Sk, x'.inn.length ≤ 1000 ∧ x'.out.length ≤ 1000 ∧ ∃ A6 c6 A7 c7, DS W0 lo g A n c code S x' (.slice A6 x'.inn.length c6) (.slice A7 x'.out.length c7) W6 := ⟨{ x with inn := l }, Nat.le_trans hll (by decide), hsm2, A6, c6, A5, c5, hD2⟩
    clear hD2
    have hZ2 := (hD.only.block w.heap.size (by omega) (by simp; omega)).trans hZ
    have hl9 := (Array.getElem?_eq_some_iff.1 hZ2).1
    have hlS := hD.lt
    have z0 := var_cell hZ2 0
    have zf0 := var_frozen hZ2 0
    have b0 := var_cell hD.box 0
    have z1 := var_cell hZ2 1
    have zf1 := var_frozen hZ2 1
    have b1 := var_cell hD.box 1
    have z2 := var_cell hZ2 2
    have zf2 := var_frozen hZ2 2
    have b2 := var_cell hD.box 2
    have z3 := var_cell hZ2 3
    have zf3 := var_frozen hZ2 3
    have b3 := var_cell hD.box 3
    have z4 := var_cell hZ2 4
    have zf4 := var_frozen hZ2 4
    have b4 := var_cell hD.box 4
    have z5 := var_cell hZ2 5
    have zf5 := var_frozen hZ2 5
    have b5 := var_cell hD.box 5
    have z6 := var_cell hZ2 6
    have zf6 := var_frozen hZ2 6
    have b6 := var_cell hD.box 6
    have z7 := var_cell hZ2 7
    have zf7 := var_frozen hZ2 7
    have b7 := var_cell hD.box 7
    have hoi := hD.inn
    have hoo9 := hD.out
    have hap := hD.ap
    have hcu := hD.cur
    have hon := ho0.trans hD.only
    clear hD
    go_wp2_with fail
    refine bodyPost_ret (v := .agg #[.int .i64 x.id, .int .i64 x.kind, .int .i64 x.hold, .bool x.shut, .slice A4 x.inn.length c4, .slice A5 x.out.length c5, .int .i64 x.st, .int .i64 x.done]) (by simp [results, Try.results74, go_sem, z0, z1, z2, z3, z4, z5, z6, z7]) rfl ?_
    have hp8 := put8_only (W := W6) (E := w.heap.size) (.int .i64 x.id) (.int .i64 x.kind) (.int .i64 x.hold) (.bool x.shut) (.slice A4 x.inn.length c4) (.slice A5 x.out.length c5) (.int .i64 x.st) (.int .i64 x.done)
    refine ⟨x, A4, c4, A5, c5, rfl, ⟨by omega, by omega⟩, ?_, ?_, hap, hcu.only hp8 (by simp; omega) (fun a ha => by simp at ha; omega), hon.then hp8 (fun a ha => by simp at ha; subst ha; exact .inr (Nat.le_refl _))⟩
    · exact ownsRow_mono (Rep.ownsRow_block hoi fun k hk => hp8.block k (hoi.lt k (by simpa using hk)).2 (by have := (hoi.lt k (by simpa using hk)).1; simp; omega)) (by omega)
    · exact ownsRow_mono (Rep.ownsRow_block hoo9 fun k hk => hp8.block k (hoo9.lt k (by simpa using hk)).2 (by have := (hoo9.lt k (by simpa using hk)).1; simp; omega)) (by omega)
def queries : List ByteArray := [⟨#[98, 101, 103, 105, 110]⟩, ⟨#[98, 101, 103, 105, 110]⟩, ⟨#[99, 111, 109, 109, 105, 116]⟩, ⟨#[99, 111, 109, 109, 105, 116]⟩, ⟨#[114, 111, 108, 108, 98, 97, 99, 107]⟩, ⟨#[102, 97, 105, 108]⟩, ⟨#[111, 110, 101]⟩, ⟨#[116, 119, 111]⟩, ⟨#[116, 104, 114, 101, 101]⟩]
theorem queries_small : ∀ q ∈ queries, q.size ≤ 101 := by
  intro q hq
  simp only [queries, List.mem_cons, List.not_mem_nil, or_false] at hq
  rcases hq with rfl | rfl | rfl | rfl | rfl | rfl | rfl | rfl | rfl <;> decide
/-- A text that is drawn. -/
def RetQry (w : World) (lo g : Nat) (A : Option Addr) (n c : Nat) (code : List UInt8) (e : Ending) (w' : World) : Prop :=
  ∃ z : ByteArray, z.size ≤ 101 ∧ e = .returned (.string z) ∧ Cur w' lo g A n c code ∧ Rep.Only w w' [g]
set_option maxHeartbeats 1000000 in
theorem l7Query_any (lo g : Nat) (A : Option Addr) (n c : Nat) (code : List UInt8) (w : World) (h : Cur w lo g A n c code) (hn : n ≤ 140737488351232) :
    Calls Try.prog 93 #[.pointer (some ⟨g, 0, none⟩)] w (RetQry w lo g A n c code) := by
  go_enter Try.func93, Try.ntmps93
  go_wp2_with fail
  refine (draw_str lo g A n c code queries w h hn (by decide) (by decide)).mono ?_
  rintro e w2 ⟨s, hs, rfl, hc, ho⟩
  have hsz := queries_small s hs
  clear hs h
  go_wp2_with fail
  go_ret
  exact ⟨s, hsz, rfl, hc, ho⟩
/-- A socket comes back. -/
def RetSkW (w : World) (e : Ending) (w' : World) : Prop :=
  ∃ x A4 c4 A5 c5, e = .returned (.agg #[.int .i64 x.id, .int .i64 x.kind, .int .i64 x.hold, .bool x.shut, .slice A4 x.inn.length c4, .slice A5 x.out.length c5, .int .i64 x.st, .int .i64 x.done]) ∧ SkSmall x ∧ Owns w' w.heap.size 5 (.slice A4 x.inn.length c4) x.inn ∧ Owns w' w.heap.size 5 (.slice A5 x.out.length c5) x.out ∧ (∀ k, (Value.slice A4 x.inn.length c4).ownBlock = some k → (Value.slice A5 x.out.length c5).ownBlock ≠ some k) ∧ Below w.heap.size w w'
set_option maxHeartbeats 16000000 in
theorem drawAnswer_any (A : Option Addr) (c : Nat) (code : List UInt8) (w : World) (h : Reads w w.heap.size 1 A code.length (bys code)) (hn : code.length ≤ 1048576) :
    Calls Try.prog 33 #[.slice A code.length c] w (RetSkW w) := by
  have hZ := heap_alloc_new w (.cells #[.int .i64 0, .int .i64 0, .int .i64 0, .bool false, .slice none 0 0, .slice none 0 0, .int .i64 0, .int .i64 0] 25)
  have hb0 := Later.alloc w (.cells #[.int .i64 0, .int .i64 0, .int .i64 0, .bool false, .slice none 0 0, .slice none 0 0, .int .i64 0, .int .i64 0] 25)
  have hr0 := (h.below hb0).more hb0.size
  have hs0 : (w.alloc (.cells #[.int .i64 0, .int .i64 0, .int .i64 0, .bool false, .slice none 0 0, .slice none 0 0, .int .i64 0, .int .i64 0] 25)).heap.size = w.heap.size + 1 := by simp
  go_enter Try.func33, Try.ntmps33
  go_wp2_with fail
  generalize w.alloc (.cells #[.int .i64 0, .int .i64 0, .int .i64 0, .bool false, .slice none 0 0, .slice none 0 0, .int .i64 0, .int .i64 0] 25) = W0 at hZ hb0 hr0 hs0 ⊢
  refine (l1New_any A c code W0 hr0 hn).mono ?_
  rintro e V ⟨g, rfl, hcur, hb1⟩
  have hbV : Below w.heap.size w V := Later.trans hb0 hb1
  replace hZ := (hb1.block _ (Array.getElem?_eq_some_iff.1 hZ).1).trans hZ
  have hgV := hcur.lt
  have hfg := hcur.from_
  have hs1 := hb1.size
  clear hb0 hb1 hr0 h
  go_wp2_with fail
  refine (l8Any_any W0.heap.size g A code.length c code V hcur (by omega)).mono ?_
  rintro e W1 ⟨x, A4, c4, A5, c5, rfl, hsm, h4, h5, hap, hc1, ho1⟩
  have hi := hsm.1
  have hoo := hsm.2
  go_upto_region 3 with (fail)
  have hsz1 := ho1.size
  have hD : DS V W0.heap.size g A code.length c code W1.heap.size x (.slice A4 x.inn.length c4) (.slice A5 x.out.length c5) (W1.alloc (.cells #[.int .i64 x.id, .int .i64 x.kind, .int .i64 x.hold, .bool x.shut, .slice A4 x.inn.length c4, .slice A5 x.out.length c5, .int .i64 x.st, .int .i64 x.done] 25)) :=
    ⟨ho1.trans ((Rep.only_alloc W1 _).mono (by simp)), hc1.alloc _, hgV, heap_alloc_new _ _, Owns.keep h4 (Later.alloc _ _), Owns.keep h5 (Later.alloc _ _), hap, hsz1, fun e => by have := (h4.lt _ e).2; omega, fun e => by have := (h5.lt _ e).2; omega⟩
  clear hc1 ho1 h4 h5 hap hsm hcur
  generalize W1.alloc (.cells #[.int .i64 x.id, .int .i64 x.kind, .int .i64 x.hold, .bool x.shut, .slice A4 x.inn.length c4, .slice A5 x.out.length c5, .int .i64 x.st, .int .i64 x.done] 25) = W2 at hD ⊢
  generalize W1.heap.size = S at hD hsz1 ⊢
  go_wp2_with fail
  refine (l1Once_any W0.heap.size g A code.length c code 2 W2 hD.cur (by omega) (by omega) (by omega)).mono ?_
  rintro e W3 ⟨y, rfl, hc3, hg3⟩
  replace hD := hD.step hc3 (only_g hg3)
  clear hg3 hc3
  cases y
  · go_upto_region 8 with (fail)
    have hZ2 := (hD.only.block w.heap.size (by omega) (by simp; omega)).trans hZ
    have hl9 := (Array.getElem?_eq_some_iff.1 hZ2).1
    have hlS := hD.lt
    have z0 := var_cell hZ2 0
    have zf0 := var_frozen hZ2 0
    have b0 := var_cell hD.box 0
    have z1 := var_cell hZ2 1
    have zf1 := var_frozen hZ2 1
    have b1 := var_cell hD.box 1
    have z2 := var_cell hZ2 2
    have zf2 := var_frozen hZ2 2
    have b2 := var_cell hD.box 2
    have z3 := var_cell hZ2 3
    have zf3 := var_frozen hZ2 3
    have b3 := var_cell hD.box 3
    have z4 := var_cell hZ2 4
    have zf4 := var_frozen hZ2 4
    have b4 := var_cell hD.box 4
    have z5 := var_cell hZ2 5
    have zf5 := var_frozen hZ2 5
    have b5 := var_cell hD.box 5
    have z6 := var_cell hZ2 6
    have zf6 := var_frozen hZ2 6
    have b6 := var_cell hD.box 6
    have z7 := var_cell hZ2 7
    have zf7 := var_frozen hZ2 7
    have b7 := var_cell hD.box 7
    have hoi := hD.inn
    have hoo9 := hD.out
    have hap := hD.ap
    have hlow : Below w.heap.size w W3 := Rep.Only.below hbV hD.only hbV.size (fun a ha => by simp at ha; omega)
    clear hD
    go_wp2_with fail
    refine bodyPost_ret (v := .agg #[.int .i64 x.id, .int .i64 x.kind, .int .i64 x.hold, .bool x.shut, .slice A4 x.inn.length c4, .slice A5 x.out.length c5, .int .i64 x.st, .int .i64 x.done]) (by simp [results, Try.results33, go_sem, z0, z1, z2, z3, z4, z5, z6, z7]) rfl ?_
    have hp8 := put8_only (W := W3) (E := w.heap.size) (.int .i64 x.id) (.int .i64 x.kind) (.int .i64 x.hold) (.bool x.shut) (.slice A4 x.inn.length c4) (.slice A5 x.out.length c5) (.int .i64 x.st) (.int .i64 x.done)
    refine ⟨x, A4, c4, A5, c5, rfl, ⟨by omega, by omega⟩, ?_, ?_, hap, Rep.Only.below hlow hp8 hlow.size (fun a ha => by simp at ha; omega)⟩
    · exact ownsRow_mono (Rep.ownsRow_block hoi fun k hk => hp8.block k (hoi.lt k (by simpa using hk)).2 (by have := (hoi.lt k (by simpa using hk)).1; simp; omega)) (by omega)
    · exact ownsRow_mono (Rep.ownsRow_block hoo9 fun k hk => hp8.block k (hoo9.lt k (by simpa using hk)).2 (by have := (hoo9.lt k (by simpa using hk)).1; simp; omega)) (by omega)
  · have y1 := var_cell hD.box 1
    have yf1 := var_frozen hD.box 1
    have hlS9 := hD.lt
    replace hD := hD.put 1 (.int .i64 2) { x with kind := 2 } rfl rfl rfl
    go_upto_region 5 with (fail)
    clear y1 yf1 hlS9
    generalize (W3.setCell ⟨S, 1, none⟩ (.int .i64 2)) = W4 at hD ⊢
    have y3 := var_cell hD.box 3
    have yf3 := var_frozen hD.box 3
    have hlS9 := hD.lt
    replace hD := hD.put 3 (.bool false) { x with kind := 2, shut := false } rfl rfl rfl
    go_upto_region 6 with (fail)
    clear y3 yf3 hlS9
    generalize (W4.setCell ⟨S, 3, none⟩ (.bool false)) = W5 at hD ⊢
    have y7 := var_cell hD.box 7
    have yf7 := var_frozen hD.box 7
    have hlS9 := hD.lt
    replace hD := hD.put 7 (.int .i64 0) { x with kind := 2, shut := false, done := 0 } rfl rfl rfl
    go_upto_region 7 with (fail)
    clear y7 yf7 hlS9
    generalize (W5.setCell ⟨S, 7, none⟩ (.int .i64 0)) = W6 at hD ⊢
    go_wp2_with fail
    refine (l7Query_any W0.heap.size g A code.length c code W6 hD.cur (by omega)).mono ?_
    rintro e W7 ⟨q, hq, rfl, hc7, ho7⟩
    replace hD := hD.step hc7 ho7
    clear hc7 ho7
    obtain ⟨P, hP⟩ : ∃ P, putF ⟨2, q, 0⟩ = P := ⟨_, rfl⟩
    have HP := Lib.hid hP
    have hPl : P.length ≤ 102 := by rw [← hP]; exact putF_len _
    clear hP
    go_wp2_with fail
    refine (putFrameS_any ⟨2, q, 0⟩ W7 (by show q.size ≤ 1048576; omega)).mono ?_
    rw [HP.out]
    rintro e W8 ⟨v, rfl, oP, hbP⟩
    obtain ⟨AP, cP, rfl, _⟩ := oP.shape
    have hDo := hD
    have hbs := hD.only.size
    replace hD := hD.later hbP
    have y5 := var_cell hD.box 5
    have yf5 := var_frozen hD.box 5
    have hlS9 := hD.lt
    have hlSo := hDo.lt
    have hp := Rep.Only.setCell W8 (p := ⟨S, 5, none⟩) (fp := [S]) (by simp) (.slice AP P.length cP)
    have hD2 : DS V W0.heap.size g A code.length c code S { x with kind := 2, shut := false, done := 0, out := P } (.slice A4 x.inn.length c4) (.slice AP P.length cP) (W8.setCell ⟨S, 5, none⟩ (.slice AP P.length cP)) := by
      have hlo := hD.lo'
      have hgl := hD.gl
      have hfc := hD.cur.from_
      refine ⟨hD.only.then hp (fun a ha => by simp at ha; subst ha; exact .inr hlo), hD.cur.only hp (by simp; omega) (fun a ha => by simp at ha; omega), hD.gl, var_set hD.box 5 _, ?_, ?_, ?_, hD.lo', hD.n4, ?_⟩
      · exact Rep.ownsRow_block hD.inn fun k hk => hp.block k (hD.inn.lt k (by simpa using hk)).2 (fun e => hD.n4 (by simp at e; subst e; simpa using hk))
      · exact ownsRow_mono (Rep.ownsRow_block oP fun k hk => hp.block k (oP.lt k (by simpa using hk)).2 (by have := (oP.lt k (by simpa using hk)).1; simp; omega)) hbs
      · intro k h1 h2
        have := (oP.lt k h2).1
        have := (hDo.inn.lt k h1).2
        omega
      · intro h1
        have := (oP.lt S h1).1
        omega
    clear hD hDo hp oP hbP
    go_upto_region 8 with (fail)
    clear y5 yf5 hlS9
    generalize (W8.setCell ⟨S, 5, none⟩ (.slice AP P.length cP)) = W9 at hD2 ⊢
    obtain ⟨x, hi, hoo, A4, c4, A5, c5, hD⟩ : ∃ x' : Sk, x'.inn.length ≤ 1000 ∧ x'.out.length ≤ 1000 ∧ ∃ A6 c6 A7 c7, DS V W0.heap.size g A code.length c code S x' (.slice A6 x'.inn.length c6) (.slice A7 x'.out.length c7) W9 := ⟨{ x with kind := 2, shut := false, done := 0, out := P }, hi, Nat.le_trans hPl (by decide), A4, c4, AP, cP, hD2⟩
    clear hD2
    have hZ2 := (hD.only.block w.heap.size (by omega) (by simp; omega)).trans hZ
    have hl9 := (Array.getElem?_eq_some_iff.1 hZ2).1
    have hlS := hD.lt
    have z0 := var_cell hZ2 0
    have zf0 := var_frozen hZ2 0
    have b0 := var_cell hD.box 0
    have z1 := var_cell hZ2 1
    have zf1 := var_frozen hZ2 1
    have b1 := var_cell hD.box 1
    have z2 := var_cell hZ2 2
    have zf2 := var_frozen hZ2 2
    have b2 := var_cell hD.box 2
    have z3 := var_cell hZ2 3
    have zf3 := var_frozen hZ2 3
    have b3 := var_cell hD.box 3
    have z4 := var_cell hZ2 4
    have zf4 := var_frozen hZ2 4
    have b4 := var_cell hD.box 4
    have z5 := var_cell hZ2 5
    have zf5 := var_frozen hZ2 5
    have b5 := var_cell hD.box 5
    have z6 := var_cell hZ2 6
    have zf6 := var_frozen hZ2 6
    have b6 := var_cell hD.box 6
    have z7 := var_cell hZ2 7
    have zf7 := var_frozen hZ2 7
    have b7 := var_cell hD.box 7
    have hoi := hD.inn
    have hoo9 := hD.out
    have hap := hD.ap
    have hlow : Below w.heap.size w W9 := Rep.Only.below hbV hD.only hbV.size (fun a ha => by simp at ha; omega)
    clear hD
    go_wp2_with fail
    refine bodyPost_ret (v := .agg #[.int .i64 x.id, .int .i64 x.kind, .int .i64 x.hold, .bool x.shut, .slice A4 x.inn.length c4, .slice A5 x.out.length c5, .int .i64 x.st, .int .i64 x.done]) (by simp [results, Try.results33, go_sem, z0, z1, z2, z3, z4, z5, z6, z7]) rfl ?_
    have hp8 := put8_only (W := W9) (E := w.heap.size) (.int .i64 x.id) (.int .i64 x.kind) (.int .i64 x.hold) (.bool x.shut) (.slice A4 x.inn.length c4) (.slice A5 x.out.length c5) (.int .i64 x.st) (.int .i64 x.done)
    refine ⟨x, A4, c4, A5, c5, rfl, ⟨by omega, by omega⟩, ?_, ?_, hap, Rep.Only.below hlow hp8 hlow.size (fun a ha => by simp at ha; omega)⟩
    · exact ownsRow_mono (Rep.ownsRow_block hoi fun k hk => hp8.block k (hoi.lt k (by simpa using hk)).2 (by have := (hoi.lt k (by simpa using hk)).1; simp; omega)) (by omega)
    · exact ownsRow_mono (Rep.ownsRow_block hoo9 fun k hk => hp8.block k (hoo9.lt k (by simpa using hk)).2 (by have := (hoo9.lt k (by simpa using hk)).1; simp; omega)) (by omega)
end Go.Proofs.Ytaigdioimldknaa
