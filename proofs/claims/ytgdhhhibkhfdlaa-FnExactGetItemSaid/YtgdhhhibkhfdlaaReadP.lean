/- Reading an item's bytes: the program's way (what is missing counts as zero), the model's way (a mark for what is missing), in plain lists. -/
import Derived.Test.YtgdhhhibkhfdlaaItemP
import Derived.Test.YtgdhhhibkhfdlaaGetText
namespace Go.Proofs.Ytgdhhhibkhfdlaa
open Go.RowKit
set_option linter.unusedVariables false
set_option linter.unusedSimpArgs false

abbrev St := List UInt8 × Bool
def oct (l : List UInt8) : Int := ((l.getD 0 0).toNat : Int)
/-! the program's -/
def iB (l : List UInt8) : Int × List UInt8 := (oct l, l.drop 1)
def iW (l : List UInt8) : Int × List UInt8 := (gwVal l 0, l.drop 2)
def iM (l : List UInt8) : Int × List UInt8 := (256 * (iW l).1 + (iB (iW l).2).1, (iB (iW l).2).2)
def iT (l : List UInt8) : ByteArray × List UInt8 := (gtS l 0, l.drop (gtN l 0).toNat)
def iAk (l0 : List UInt8) : Ak × List UInt8 :=
  let a := iW l0; let b := iB a.2; let c := iT b.2; let d := iW c.2; let e := iM d.2; let f := iT e.2; let g := iW f.2; let h := iW g.2
  (⟨a.1, c.1, b.1, d.1, e.1, f.1, g.1, h.1⟩, h.2)
def iLn (l0 : List UInt8) : Ln × List UInt8 :=
  let a := iW l0; let b := iB a.2; let c := iT b.2; let d := iW c.2; let e := iM d.2; let f := iW e.2; let g := iW f.2
  (⟨a.1, c.1, d.1, b.1, e.1, f.1, g.1⟩, g.2)
def iIt (b : List UInt8) : It :=
  if oct b = 1 then ⟨1, (iAk (b.drop 1)).1, lnZero⟩ else if oct b = 2 then ⟨2, akZero, (iLn (b.drop 1)).1⟩ else ⟨oct b, akZero, lnZero⟩
def itZero : It := ⟨0, akZero, lnZero⟩
def getI (b : List UInt8) : It × Bool := if b.length ≠ 0 ∧ itemB (iIt b) = b then (iIt b, true) else (itZero, false)
/-! the model's -/
def sB (s : St) : Int × St := if s.2 = true ∨ s.1.length = 0 then (0, (s.1, true)) else (oct s.1, (s.1.drop 1, false))
def sW (s : St) : Int × St := if s.2 = true ∨ s.1.length < 2 then (0, (s.1, true)) else (gwVal s.1 0, (s.1.drop 2, false))
def sT (s : St) : ByteArray × St := if s.2 = true ∨ gtB s.1 0 = false then (⟨#[]⟩, (s.1, true)) else (gtS s.1 0, (s.1.drop (gtN s.1 0).toNat, false))
def sM (s : St) : Int × St := (256 * (sW s).1 + (sB (sW s).2).1, (sB (sW s).2).2)
def sAk (l0 : St) : Ak × St :=
  let a := sW l0; let b := sB a.2; let c := sT b.2; let d := sW c.2; let e := sM d.2; let f := sT e.2; let g := sW f.2; let h := sW g.2
  (⟨a.1, c.1, b.1, d.1, e.1, f.1, g.1, h.1⟩, h.2)
def sLn (l0 : St) : Ln × St :=
  let a := sW l0; let b := sB a.2; let c := sT b.2; let d := sW c.2; let e := sM d.2; let f := sW e.2; let g := sW f.2
  (⟨a.1, c.1, d.1, b.1, e.1, f.1, g.1⟩, g.2)
def sIt (b : List UInt8) : It × Bool :=
  let k := sB (b, false)
  if k.1 = 1 then (⟨k.1, (sAk k.2).1, lnZero⟩, (sAk k.2).2.2) else (⟨k.1, akZero, (sLn k.2).1⟩, (sLn k.2).2.2)

/-! where nothing is missing the two are one -/
theorem sB_ok {s : St} (h : (sB s).2.2 = false) : s.2 = false ∧ s.1.length ≠ 0 ∧ (sB s).1 = (iB s.1).1 ∧ (sB s).2.1 = (iB s.1).2 := by
  unfold sB at h ⊢
  by_cases hc : s.2 = true ∨ s.1.length = 0
  · rw [if_pos hc] at h; cases h
  · rw [if_neg hc]
    exact ⟨by simpa using fun e => hc (.inl e), fun e => hc (.inr e), rfl, rfl⟩
theorem sW_ok {s : St} (h : (sW s).2.2 = false) : s.2 = false ∧ (sW s).1 = (iW s.1).1 ∧ (sW s).2.1 = (iW s.1).2 := by
  unfold sW at h ⊢
  by_cases hc : s.2 = true ∨ s.1.length < 2
  · rw [if_pos hc] at h; cases h
  · rw [if_neg hc]
    exact ⟨by simpa using fun e => hc (.inl e), rfl, rfl⟩
theorem sT_ok {s : St} (h : (sT s).2.2 = false) : s.2 = false ∧ (sT s).1 = (iT s.1).1 ∧ (sT s).2.1 = (iT s.1).2 := by
  unfold sT at h ⊢
  by_cases hc : s.2 = true ∨ gtB s.1 0 = false
  · rw [if_pos hc] at h; cases h
  · rw [if_neg hc]
    exact ⟨by simpa using fun e => hc (.inl e), rfl, rfl⟩
theorem sM_ok {s : St} (h : (sM s).2.2 = false) : s.2 = false ∧ (sM s).1 = (iM s.1).1 ∧ (sM s).2.1 = (iM s.1).2 := by
  obtain ⟨h1, _, h2, h3⟩ := sB_ok (s := (sW s).2) h
  obtain ⟨h4, h5, h6⟩ := sW_ok h1
  refine ⟨h4, ?_, ?_⟩
  · show 256 * (sW s).1 + (sB (sW s).2).1 = _
    rw [h2, h5, h6]; rfl
  · show (sB (sW s).2).2.1 = _
    rw [h3, h6]; rfl
theorem sAk_ok {s : St} (h : (sAk s).2.2 = false) : s.2 = false ∧ (sAk s).1 = (iAk s.1).1 := by
  unfold sAk iAk at *
  dsimp only at h ⊢
  obtain ⟨h, v8, r8⟩ := sW_ok h
  obtain ⟨h, v7, r7⟩ := sW_ok h
  obtain ⟨h, v6, r6⟩ := sT_ok h
  obtain ⟨h, v5, r5⟩ := sM_ok h
  obtain ⟨h, v4, r4⟩ := sW_ok h
  obtain ⟨h, v3, r3⟩ := sT_ok h
  obtain ⟨h, _, v2, r2⟩ := sB_ok h
  obtain ⟨h, v1, r1⟩ := sW_ok h
  exact ⟨h, by simp only [v8, v7, v6, v5, v4, v3, v2, v1, r7, r6, r5, r4, r3, r2, r1]⟩
theorem sLn_ok {s : St} (h : (sLn s).2.2 = false) : s.2 = false ∧ (sLn s).1 = (iLn s.1).1 := by
  unfold sLn iLn at *
  dsimp only at h ⊢
  obtain ⟨h, v7, r7⟩ := sW_ok h
  obtain ⟨h, v6, r6⟩ := sW_ok h
  obtain ⟨h, v5, r5⟩ := sM_ok h
  obtain ⟨h, v4, r4⟩ := sW_ok h
  obtain ⟨h, v3, r3⟩ := sT_ok h
  obtain ⟨h, _, v2, r2⟩ := sB_ok h
  obtain ⟨h, v1, r1⟩ := sW_ok h
  exact ⟨h, by simp only [v7, v6, v5, v4, v3, v2, v1, r6, r5, r4, r3, r2, r1]⟩

/-! what is an encoding is read -/
theorem oct_u8 (n : Int) (t : List UInt8) (h0 : 0 ≤ n) (h1 : n < 256) : oct (u8 n :: t) = n := by
  unfold oct
  simp only [List.getD_cons_zero]
  rw [u8_cell]
  omega
theorem gw_words (n : Int) (t : List UInt8) (h0 : 0 ≤ n) (h1 : n ≤ 65535) : gwVal (wordBytes n ++ t) 0 = n := by
  have h := gw_yes (l := wordBytes n ++ t) (k := 0) (x := u8 (n / 256)) (y := u8 n) (by simp [wordBytes]) rfl rfl
  have e := h.2.1
  have a := u8_cell (n / 256)
  have b := u8_cell n
  have e2 : gwVal (wordBytes n ++ t) 0 = ((u8 (n / 256)).toNat : Int) * 256 + ((u8 n).toNat : Int) := e
  rw [e2, a, b]
  omega
theorem gt_text (s t : List UInt8) (h : okB s = true) : gtO (ptB [] s ++ t) 0 = some (s, 1 + (s.length : Int)) := by
  have hs := okB_len h
  have hu : (u8 (s.length : Int)).toNat = s.length := by have := u8_cell s.length; omega
  have e : ptB [] s ++ t = u8 s.length :: (s ++ t) := by unfold ptB; rw [if_pos h]; simp
  rw [e]
  have h2 := gt_in (l := u8 s.length :: (s ++ t)) (k := 0) (u := u8 s.length) (by simp) (by simp)
  rw [hu] at h2
  have h3 : gtO (u8 s.length :: (s ++ t)) 0 = _ := h2
  rw [h3, if_neg (by simp; omega)]
  have e2 : ((u8 (s.length : Int) :: (s ++ t)).drop (0 + 1)).take s.length = s := by simp
  rw [e2, if_pos h]
  simp
theorem pt_len {s : List UInt8} (h : okB s = true) : (ptB [] s).length = 1 + s.length := by
  unfold ptB; rw [if_pos h]; simp; omega
theorem sW_word (n : Int) (t : List UInt8) (h0 : 0 ≤ n) (h1 : n ≤ 65535) : sW (wordBytes n ++ t, false) = (n, (t, false)) := by
  unfold sW
  rw [if_neg (by simp [wordBytes]), gw_words n t h0 h1]
  rfl
theorem sB_byte (n : Int) (t : List UInt8) (h0 : 0 ≤ n) (h1 : n < 256) : sB ([u8 n] ++ t, false) = (n, (t, false)) := by
  unfold sB
  rw [if_neg (by simp)]
  show (oct (u8 n :: t), _) = _
  rw [oct_u8 n t h0 h1]
  rfl
theorem sT_text (s : ByteArray) (t : List UInt8) (h : okB s.data.toList = true) : sT (ptB [] s.data.toList ++ t, false) = (s, (t, false)) := by
  obtain ⟨e1, e2, e3⟩ := gt_some (gt_text s.data.toList t h)
  unfold sT
  show (if (false = true ∨ gtB (ptB [] s.data.toList ++ t) 0 = false) then _ else _) = _
  rw [if_neg (by rw [e3]; simp)]
  show (gtS (ptB [] s.data.toList ++ t) 0, ((ptB [] s.data.toList ++ t).drop (gtN (ptB [] s.data.toList ++ t) 0).toNat, false)) = _
  rw [e1, e2]
  have hd : (1 + (s.data.toList.length : Int)).toNat = (ptB [] s.data.toList).length := by rw [pt_len h]; omega
  show ((⟨s.data.toList.toArray⟩ : ByteArray), ((ptB [] s.data.toList ++ t).drop (1 + (s.data.toList.length : Int)).toNat, false)) = _
  rw [hd, List.drop_left]
theorem sM_mom (n : Int) (t : List UInt8) (h0 : 0 ≤ n) (h1 : n ≤ 100000) : sM (momB n ++ t, false) = (n, (t, false)) := by
  have e : momB n ++ t = wordBytes (n / 256) ++ ([u8 (n % 256)] ++ t) := by unfold momB; rw [List.append_assoc]
  have a := sW_word (n / 256) ([u8 (n % 256)] ++ t) (by omega) (by omega)
  have b := sB_byte (n % 256) t (by omega) (by omega)
  unfold sM
  rw [e, a]
  dsimp only
  rw [b]
  refine Prod.ext ?_ rfl
  show 256 * (n / 256) + n % 256 = n
  omega
theorem name_ok {s : List UInt8} (h : nameB s = true) : okB s = true := by
  unfold nameB at h
  unfold okB
  simp only [Bool.and_eq_true, List.all_eq_true, decide_eq_true_eq] at h ⊢
  refine ⟨by omega, fun b hb => ?_⟩
  have := h.2 b hb
  unfold lowB at this
  unfold inB
  simp at this ⊢
  omega
/-- What a valid client's fields are. -/
structure AkIn (a : Ak) : Prop where
  sock : 0 ≤ a.sock ∧ a.sock ≤ 65535
  st : 0 ≤ a.st ∧ a.st < 256
  db : okB a.db.data.toList = true
  ticket : 0 ≤ a.ticket ∧ a.ticket ≤ 65535
  since : 0 ≤ a.since ∧ a.since ≤ 100000
  q : okB a.q.data.toList = true
  line : 0 ≤ a.line ∧ a.line ≤ 65535
  lease : 0 ≤ a.lease
structure LnIn (x : Ln) : Prop where
  sock : 0 ≤ x.sock ∧ x.sock ≤ 65535
  st : 0 ≤ x.st ∧ x.st < 256
  db : okB x.db.data.toList = true
  gen : 0 ≤ x.gen ∧ x.gen ≤ 65535
  since : 0 ≤ x.since ∧ x.since ≤ 100000
  asker : 0 ≤ x.asker ∧ x.asker ≤ 65535
  lease : 0 ≤ x.lease
theorem okE : okB (⟨#[]⟩ : ByteArray).data.toList = true := by decide
theorem akB_in {a : Ak} (h : akB a = true) : AkIn a := by
  have hsi := akB_since h
  unfold akB at h
  simp only [Bool.and_eq_true] at h
  obtain ⟨hs, h⟩ := h
  have hs := inI_bd hs
  split at h
  · rename_i h0
    have e := akEqB_true h
    rw [e]
    exact ⟨⟨by (try dsimp only); omega, by (try dsimp only); omega⟩, ⟨by (try dsimp only); omega, by (try dsimp only); omega⟩, okE, ⟨by (try dsimp only); omega, by (try dsimp only); omega⟩, ⟨by (try dsimp only); omega, by (try dsimp only); omega⟩, okE, ⟨by (try dsimp only); omega, by (try dsimp only); omega⟩, by (try dsimp only); omega⟩
  · simp only [Bool.and_eq_true] at h
    obtain ⟨hn, h⟩ := h
    have hn := name_ok hn
    split at h
    · have e := akEqB_true h
      rw [e]
      exact ⟨⟨by (try dsimp only); omega, by (try dsimp only); omega⟩, ⟨by (try dsimp only); omega, by (try dsimp only); omega⟩, hn, ⟨by (try dsimp only); omega, by (try dsimp only); omega⟩, ⟨by (try dsimp only); omega, by (try dsimp only); omega⟩, okE, ⟨by (try dsimp only); omega, by (try dsimp only); omega⟩, by (try dsimp only); omega⟩
    · split at h
      · simp only [Bool.and_eq_true] at h
        have ht := inI_bd h.1
        have e := akEqB_true h.2.2.2
        have hq := h.2.2.1
        rw [e]
        exact ⟨⟨by (try dsimp only); omega, by (try dsimp only); omega⟩, ⟨by (try dsimp only); omega, by (try dsimp only); omega⟩, hn, ⟨by (try dsimp only); omega, by (try dsimp only); omega⟩, hsi, hq, ⟨by (try dsimp only); omega, by (try dsimp only); omega⟩, by (try dsimp only); omega⟩
      · split at h
        · simp only [Bool.and_eq_true, decide_eq_true_eq] at h
          have ht := inI_bd h.1
          have hl := h.2.1
          have e := akEqB_true h.2.2
          rw [e]
          exact ⟨⟨by (try dsimp only); omega, by (try dsimp only); omega⟩, ⟨by (try dsimp only); omega, by (try dsimp only); omega⟩, hn, ⟨by (try dsimp only); omega, by (try dsimp only); omega⟩, ⟨by (try dsimp only); omega, by (try dsimp only); omega⟩, okE, ⟨by (try dsimp only); omega, by (try dsimp only); omega⟩, by show 0 ≤ a.lease; omega⟩
        · split at h
          · simp only [Bool.and_eq_true, decide_eq_true_eq] at h
            have ht := inI_bd h.1
            have hl := h.2.1
            have e := akEqB_true h.2.2
            rw [e]
            exact ⟨⟨by (try dsimp only); omega, by (try dsimp only); omega⟩, ⟨by (try dsimp only); omega, by (try dsimp only); omega⟩, hn, ⟨by (try dsimp only); omega, by (try dsimp only); omega⟩, ⟨by (try dsimp only); omega, by (try dsimp only); omega⟩, okE, ⟨by (try dsimp only); omega, by (try dsimp only); omega⟩, by show 0 ≤ a.lease; omega⟩
          · cases h
theorem lnB_in {x : Ln} (h : lnB x = true) : LnIn x := by
  have hsi := lnB_since h
  unfold lnB at h
  simp only [Bool.and_eq_true] at h
  obtain ⟨hs, hn, hg, h⟩ := h
  have hs := inI_bd hs
  have hg := inI_bd hg
  have hn := name_ok hn
  split at h
  · rename_i h0
    simp only [Bool.and_eq_true, beq_iff_eq] at h
    exact ⟨⟨by (try dsimp only); omega, by (try dsimp only); omega⟩, ⟨by (try dsimp only); omega, by (try dsimp only); omega⟩, hn, ⟨by (try dsimp only); omega, by (try dsimp only); omega⟩, hsi, ⟨by (try dsimp only); omega, by (try dsimp only); omega⟩, by (try dsimp only); omega⟩
  · split at h
    · rename_i h0
      simp only [Bool.and_eq_true, beq_iff_eq, decide_eq_true_eq] at h
      have ha := inI_bd h.2.1
      exact ⟨⟨by (try dsimp only); omega, by (try dsimp only); omega⟩, ⟨by (try dsimp only); omega, by (try dsimp only); omega⟩, hn, ⟨by (try dsimp only); omega, by (try dsimp only); omega⟩, hsi, ⟨by (try dsimp only); omega, by (try dsimp only); omega⟩, by (try dsimp only); omega⟩
    · cases h
theorem sAk_bytes {a : Ak} (h : AkIn a) (hl : a.lease ≤ 65535) : sB (akBytes a, false) = (1, ((akBytes a).drop 1, false)) ∧ sAk ((akBytes a).drop 1, false) = (a, ([], false)) := by
  have e : akBytes a = [u8 1] ++ (wordBytes a.sock ++ ([u8 a.st] ++ (ptB [] a.db.data.toList ++ (wordBytes a.ticket ++ (momB a.since ++ (ptB [] a.q.data.toList ++ (wordBytes a.line ++ (wordBytes a.lease ++ [])))))))) := by
    unfold akBytes
    simp only [List.append_assoc, List.append_nil]
  rw [e]
  refine ⟨sB_byte 1 _ (by omega) (by omega), ?_⟩
  show sAk (wordBytes a.sock ++ ([u8 a.st] ++ (ptB [] a.db.data.toList ++ (wordBytes a.ticket ++ (momB a.since ++ (ptB [] a.q.data.toList ++ (wordBytes a.line ++ (wordBytes a.lease ++ []))))))), false) = _
  unfold sAk
  simp only [sW_word _ _ h.sock.1 h.sock.2, sB_byte _ _ h.st.1 h.st.2, sT_text _ _ h.db, sW_word _ _ h.ticket.1 h.ticket.2, sM_mom _ _ h.since.1 h.since.2, sT_text _ _ h.q, sW_word _ _ h.line.1 h.line.2, sW_word _ _ h.lease hl]
theorem sLn_bytes {a : Ln} (h : LnIn a) (hl : a.lease ≤ 65535) : sB (lnBytes a, false) = (2, ((lnBytes a).drop 1, false)) ∧ sLn ((lnBytes a).drop 1, false) = (a, ([], false)) := by
  have e : lnBytes a = [u8 2] ++ (wordBytes a.sock ++ ([u8 a.st] ++ (ptB [] a.db.data.toList ++ (wordBytes a.gen ++ (momB a.since ++ (wordBytes a.asker ++ (wordBytes a.lease ++ []))))))) := by
    unfold lnBytes
    simp only [List.append_assoc, List.append_nil]
  rw [e]
  refine ⟨sB_byte 2 _ (by omega) (by omega), ?_⟩
  show sLn (wordBytes a.sock ++ ([u8 a.st] ++ (ptB [] a.db.data.toList ++ (wordBytes a.gen ++ (momB a.since ++ (wordBytes a.asker ++ (wordBytes a.lease ++ [])))))), false) = _
  unfold sLn
  simp only [sW_word _ _ h.sock.1 h.sock.2, sB_byte _ _ h.st.1 h.st.2, sT_text _ _ h.db, sW_word _ _ h.gen.1 h.gen.2, sM_mom _ _ h.since.1 h.since.2, sW_word _ _ h.asker.1 h.asker.2, sW_word _ _ h.lease hl]

/-- An item that has bytes is read back of them. -/
theorem item_back {x : It} (h : (itemB x).length ≠ 0) : sIt (itemB x) = (x, false) ∧ iIt (itemB x) = x := by
  obtain ⟨k, a, l⟩ := x
  have key : sIt (itemB ⟨k, a, l⟩) = (⟨k, a, l⟩, false) ∧ ((k = 1 ∧ l = lnZero) ∨ (k = 2 ∧ a = akZero)) := by
    unfold itemB at h ⊢
    split at h
    · rename_i hk
      replace hk : k = 1 := hk
      split at h
      · rename_i hc
        obtain ⟨h1, h2, h3⟩ := hc
        replace h1 : akB a = true := h1
        have e2 : l = lnZero := lnEqB_true h2
        rw [if_pos hk, if_pos ⟨h1, h2, h3⟩]
        obtain ⟨e3, e4⟩ := sAk_bytes (akB_in h1) h3
        refine ⟨?_, .inl ⟨hk, e2⟩⟩
        show sIt (akBytes a) = _
        unfold sIt
        rw [e3]
        dsimp only
        rw [if_pos rfl, e4, hk, e2]
      · exact absurd rfl h
    · rename_i hk1
      split at h
      · rename_i hk
        replace hk : k = 2 := hk
        split at h
        · rename_i hc
          obtain ⟨h1, h2, h3⟩ := hc
          replace h1 : lnB l = true := h1
          have e2 : a = akZero := akEqB_true h2
          rw [if_neg hk1, if_pos hk, if_pos ⟨h1, h2, h3⟩]
          obtain ⟨e3, e4⟩ := sLn_bytes (lnB_in h1) h3
          refine ⟨?_, .inr ⟨hk, e2⟩⟩
          show sIt (lnBytes l) = _
          unfold sIt
          rw [e3]
          dsimp only
          rw [if_neg (by decide), e4, hk, e2]
        · exact absurd rfl h
      · exact absurd rfl h
  obtain ⟨h1, h2⟩ := key
  refine ⟨h1, ?_⟩
  generalize itemB ⟨k, a, l⟩ = b at h h1
  unfold sIt at h1
  have hb : (sB (b, false)).1 = oct b ∧ (sB (b, false)).2 = (b.drop 1, false) := by
    unfold sB
    rw [if_neg (by simp; exact fun e => h (by rw [e]; rfl))]
    exact ⟨rfl, rfl⟩
  dsimp only at h1
  rw [hb.1, hb.2] at h1
  unfold iIt
  split at h1
  · rename_i hk
    rw [if_pos hk]
    injection h1 with h1 h3
    injection h1 with h4 h5 h6
    have := (sAk_ok h3).2
    rw [← h5, ← h6, this, ← h4, hk]
  · rename_i hk
    injection h1 with h1 h3
    injection h1 with h4 h5 h6
    have h7 := (sLn_ok h3).2
    rcases h2 with ⟨hk1, _⟩ | ⟨hk2, ha⟩
    · exact absurd (h4.trans hk1) hk
    · rw [if_neg hk, if_pos (h4.trans hk2), ← h6, h7, hk2, ha]
theorem sIt_getI (b : List UInt8) : (if (sIt b).2 = true ∨ itemB (sIt b).1 ≠ b then (itZero, false) else ((sIt b).1, true)) = getI b := by
  unfold getI
  by_cases hg : b.length ≠ 0 ∧ itemB (iIt b) = b
  · have hl : (itemB (iIt b)).length ≠ 0 := by rw [hg.2]; exact hg.1
    have h := (item_back hl).1
    rw [hg.2] at h
    rw [if_pos hg, h]
    dsimp only
    rw [if_neg]
    simp [hg.2]
  · rw [if_neg hg]
    by_cases hc : (sIt b).2 = true ∨ itemB (sIt b).1 ≠ b
    · rw [if_pos hc]
    · exfalso
      have h1 : itemB (sIt b).1 = b := by simpa using fun e => hc (.inr e)
      have h2 : (sIt b).2 = false := by simpa using fun e => hc (.inl e)
      have hb : b.length ≠ 0 := by
        intro e
        unfold sIt at h2
        have hs : (sB (b, false)).2.2 = true := by unfold sB; rw [if_pos (.inr e)]
        dsimp only at h2
        split at h2
        · have := (sAk_ok h2).1
          rw [hs] at this; cases this
        · have := (sLn_ok h2).1
          rw [hs] at this; cases this
      have h3 := (item_back (x := (sIt b).1) (by rw [h1]; exact hb)).2
      rw [h1] at h3
      exact hg ⟨hb, by rw [h3]; exact h1⟩
end Go.Proofs.Ytgdhhhibkhfdlaa
