/- Journal records in plain lists: when they are right, their bytes, and what bytes say. Over no program. -/
import Derived.Test.YtlnmlfpkpplgoaaDoorTRec
import Derived.Test.YtlnmlfpkpplgoaaDoorParsePure
import Derived.Test.YtlnmlfpkpplgoaaDoorNumPlain
import Derived.Test.YtlnmlfpkpplgoaaDoorTurn
namespace Go.Proofs.YtlnmlfpkpplgoaaDoor
set_option maxRecDepth 100000

/-- Is it the text of a configuration? -/
noncomputable def txtB (s : ByteArray) : Bool := (parseS s.data.toList).2
theorem txtB_I (s : ByteArray) : (parseI s.data.toList).2 = txtB s := by rw [parse_eq]; rfl
def nilB (s : ByteArray) : Bool := s.data.toList.isEmpty

noncomputable def recB (r : Rec) : Bool :=
  decide (1 ≤ r.n ∧ r.n ≤ 60000) && (if r.kind = 1 then decide (r.owner = 0) && txtB r.text else if r.kind = 2 then decide (r.owner = 0) && nilB r.text else decide (r.kind = 3) && (decide (0 ≤ r.owner ∧ r.owner ≤ 1) && nilB r.text))

/-- The bytes ahead of the sum. -/
def recBody (g p : Int) (r : Rec) : List UInt8 := ptB ((((wordBytes g ++ wordBytes p) ++ [u8 r.kind]) ++ wordBytes r.n) ++ [u8 r.owner]) r.text.data.toList
def withSum (b : List UInt8) : List UInt8 := b ++ wordBytes (crc b)
noncomputable def putR (g p : Int) (r : Rec) : List UInt8 := if recB r = true ∧ (0 ≤ g ∧ g ≤ 65535) ∧ (0 ≤ p ∧ p ≤ 65535) then withSum (recBody g p r) else []

/-- What bytes say, whether they are a record's or not. -/
def recAt (b : List UInt8) : Rec := ⟨((b.getD 4 0).toNat : Int), gwVal b 5, ((b.getD 7 0).toNat : Int), gtS b 8⟩
def zeroRec : Rec := ⟨0, 0, 0, ⟨#[]⟩⟩
noncomputable def getOk (b : List UInt8) : Bool := decide (11 ≤ b.length) && (putR (gwVal b 0) (gwVal b 2) (recAt b) == b)

theorem u8_back (b : UInt8) : u8 (b.toNat : Int) = b := by
  have h : b.toNat < 256 := b.toNat_lt
  unfold u8
  have e : ((b.toNat : Int) % 256).toNat = b.toNat := by omega
  rw [e]
  exact UInt8.toNat_inj.1 (by rw [UInt8.toNat_ofNat']; exact Nat.mod_eq_of_lt h)

theorem okB_nil : okB [] = true := by decide

/-- A text that is read may stand in a text. -/
theorem gtS_ok (b : List UInt8) (p : Int) : okB (gtS b p).data.toList = true := by
  unfold gtS
  cases h : gtO b p with
  | none => exact okB_nil
  | some x =>
    show okB x.1 = true
    unfold gtO at h
    split at h
    · cases h
    · split at h
      · cases h
      · split at h
        · injection h with h
          subst h
          assumption
        · cases h

theorem withSum_len (b : List UInt8) : (withSum b).length = b.length + 2 := by simp [withSum, wordBytes]

/-- A text behind other bytes and ahead of more is read. -/
theorem gt_mid {l s t : List UInt8} (h : okB s = true) : gtO (ptB l s ++ t) l.length = some (s, (l.length : Int) + 1 + s.length) := by
  have hs := okB_len h
  have hu : (u8 (s.length : Int)).toNat = s.length := by have := u8_cell s.length; omega
  have e : ptB l s ++ t = l ++ (u8 s.length :: (s ++ t)) := by unfold ptB; rw [if_pos h]; simp
  rw [e, gt_in (u := u8 s.length) (by simp) (by simp), hu]
  rw [if_neg (by simp; omega)]
  have e2 : ((l ++ (u8 (s.length : Int) :: (s ++ t))).drop (l.length + 1)).take s.length = s := by
    rw [List.drop_append]
    simp [List.drop_eq_nil_of_le]
  rw [e2, if_pos h]

/-- Where the bytes are a record's, its text was read. -/
theorem getOk_text {b : List UInt8} (h : getOk b = true) : gtB b 8 = true := by
  unfold getOk at h
  rw [Bool.and_eq_true, decide_eq_true_eq, beq_iff_eq] at h
  obtain ⟨hl, hp⟩ := h
  unfold putR at hp
  split at hp
  · have hok := gtS_ok b 8
    have hm := gt_mid (l := ((((wordBytes (gwVal b 0) ++ wordBytes (gwVal b 2)) ++ [u8 (recAt b).kind]) ++ wordBytes (recAt b).n) ++ [u8 (recAt b).owner])) (t := wordBytes (crc (recBody (gwVal b 0) (gwVal b 2) (recAt b)))) hok
    have e : ptB ((((wordBytes (gwVal b 0) ++ wordBytes (gwVal b 2)) ++ [u8 (recAt b).kind]) ++ wordBytes (recAt b).n) ++ [u8 (recAt b).owner]) (gtS b 8).data.toList ++ wordBytes (crc (recBody (gwVal b 0) (gwVal b 2) (recAt b))) = b := hp
    rw [e] at hm
    have e8 : (((((wordBytes (gwVal b 0) ++ wordBytes (gwVal b 2)) ++ [u8 (recAt b).kind]) ++ wordBytes (recAt b).n) ++ [u8 (recAt b).owner]).length : Int) = 8 := by simp [wordBytes]
    rw [e8] at hm
    unfold gtB
    rw [hm]
    rfl
  · subst hp
    simp at hl

/-- The model's test is the program's. -/
theorem getOk_rec {b : List UInt8} (h : getOk b = true) : recB (recAt b) = true := by
  unfold getOk at h
  rw [Bool.and_eq_true, decide_eq_true_eq, beq_iff_eq] at h
  obtain ⟨hl, hp⟩ := h
  unfold putR at hp
  split at hp
  · rename_i hc
    exact hc.1
  · subst hp
    simp at hl

theorem nilB_iff (s : ByteArray) : nilB s = true ↔ s = ⟨#[]⟩ := by
  unfold nilB
  obtain ⟨a⟩ := s
  obtain ⟨l⟩ := a
  cases l <;> simp

/-- A byte that is turned: the bytes are a record's no more. -/
theorem getOk_turned {b' : List UInt8} (h : b' = withSum (b'.take (b'.length - 2)) → False) : getOk b' = false := by
  rw [Bool.eq_false_iff]
  intro hg
  unfold getOk at hg
  rw [Bool.and_eq_true, decide_eq_true_eq, beq_iff_eq] at hg
  obtain ⟨hl, hp⟩ := hg
  unfold putR at hp
  split at hp
  · refine h ?_
    have e : b'.take (b'.length - 2) = recBody (gwVal b' 0) (gwVal b' 2) (recAt b') := by
      conv => lhs; rw [← hp]
      rw [withSum_len]
      unfold withSum
      rw [Nat.add_sub_cancel, List.take_left']
      rfl
    rw [e]
    exact hp.symm
  · subst hp
    simp at hl

theorem wordBytes_inj {m n : Nat} (hm : m < 65536) (hn : n < 65536) (h : wordBytes (m : Int) = wordBytes (n : Int)) : m = n := by
  unfold wordBytes at h
  injection h with h1 h2
  injection h2 with h2 _
  have a1 := u8_cell ((m : Int) / 256)
  have a2 := u8_cell ((n : Int) / 256)
  have a3 := u8_cell (m : Int)
  have a4 := u8_cell (n : Int)
  rw [h1] at a1
  rw [h2] at a3
  omega

/-- A row of bytes with its sum, one byte turned: its sum is wrong. -/
theorem sum_turned {x : List UInt8} {i : Nat} {c c' : UInt8} (hi : (withSum x)[i]? = some c) (hne : c' ≠ c) : ((withSum x).set i c') = withSum (((withSum x).set i c').take (((withSum x).set i c').length - 2)) → False := by
  intro h
  have hlen : ((withSum x).set i c').length - 2 = x.length := by rw [List.length_set, withSum_len]; omega
  rw [hlen] at h
  by_cases hlt : i < x.length
  · have hx : x[i]? = some c := by rw [← hi]; unfold withSum; rw [List.getElem?_append_left hlt]
    have e1 : (withSum x).set i c' = x.set i c' ++ wordBytes (crc x) := by unfold withSum; rw [List.set_append_left _ _ hlt]
    have e2 : (x.set i c' ++ wordBytes (crc x)).take x.length = x.set i c' := List.take_left' (by simp)
    rw [e1, e2] at h
    unfold withSum at h
    have h2 := List.append_cancel_left h
    exact crc_set hx hne (wordBytes_inj (crc_lt _) (crc_lt _) h2).symm
  · have hge : x.length ≤ i := by omega
    have e1 : (withSum x).set i c' = x ++ (wordBytes (crc x)).set (i - x.length) c' := by unfold withSum; rw [List.set_append_right _ _ hge]
    have e2 : (x ++ (wordBytes (crc x)).set (i - x.length) c').take x.length = x := List.take_left' rfl
    rw [e1, e2] at h
    unfold withSum at h
    have h2 := List.append_cancel_left h
    have hg : (wordBytes (crc x))[i - x.length]? = some c := by rw [← hi]; unfold withSum; rw [List.getElem?_append_right hge]
    rw [← h2] at hg
    rw [List.getElem?_set] at hg
    have hlt2 : i - x.length < (wordBytes (crc x : Int)).length := by
      rcases Nat.lt_or_ge (i - x.length) (wordBytes (crc x : Int)).length with h3 | h3
      · exact h3
      · rw [if_pos rfl, if_neg (by omega)] at hg; cases hg
    rw [if_pos rfl, if_pos hlt2] at hg
    injection hg with hg
    exact hne hg

end Go.Proofs.YtlnmlfpkpplgoaaDoor
