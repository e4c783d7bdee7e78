/- What FnKnown says of states, in plain lists; two states compared. States that are drawn. -/
import Derived.Test.YtlnmlfpkpplgoaaDoorApplyI
import Derived.Test.YtlnmlfpkpplgoaaDoorRecsOf
import Derived.Test.YtlnmlfpkpplgoaaDoorDbNe
import Derived.Test.YtlnmlfpkpplgoaaDoorConfBack
import Derived.Test.YtlnmlfpkpplgoaaDoorDrawRec
namespace Go.Proofs.YtlnmlfpkpplgoaaDoor
open Go.RowKit
set_option maxRecDepth 100000
set_option linter.unusedVariables false

theorem zz60 : (0 : Int) ≤ 0 ∧ (0 : Int) ≤ 60000 := by decide
theorem zz1 : (0 : Int) ≤ 0 ∧ (0 : Int) ≤ 1 := by decide
structure KG (k : Known) : Prop where
  gen : 0 ≤ k.gen ∧ k.gen ≤ 60000
  pGen : 0 ≤ k.pGen ∧ k.pGen ≤ 60000
  epoch : 0 ≤ k.epoch ∧ k.epoch ≤ 60000
  owner : 0 ≤ k.owner ∧ k.owner ≤ 1
  free : k.epoch = 0 → k.owner = 0
  nil_ : k.gen = 0 → nilB k.text = true
  txt : k.gen ≠ 0 → txtB k.text = true
  pNil : k.pGen = 0 → nilB k.pText = true
  pTxt : k.pGen ≠ 0 → txtB k.pText = true
  ord : k.pGen = 0 ∨ k.gen < k.pGen
theorem txtOr_iff {x : Int} {n t : Bool} : txtOr (x == 0) n t = true ↔ (x = 0 → n = true) ∧ (x ≠ 0 → t = true) := by
  unfold txtOr
  by_cases h : x = 0
  · subst h; simp
  · have h2 : (x == 0) = false := by simpa using h
    rw [h2]
    simp [h]
theorem knownB_iff {k : Known} : knownB k = true ↔ KG k := by
  unfold knownB inI
  simp only [Bool.and_eq_true, txtOr_iff, decide_eq_true_eq, Bool.or_eq_true, beq_iff_eq, Bool.not_eq_true', Bool.and_eq_false_iff, Bool.not_eq_false']
  constructor
  · rintro ⟨h1, h2, h3, h4, h5, ⟨h6, h7⟩, ⟨h8, h9⟩, h10⟩
    refine ⟨h1, h2, h3, h4, fun he => ?_, h6, h7, h8, h9, h10⟩
    rcases h5 with h5 | h5
    · simp [he] at h5
    · simpa using h5
  · intro h
    refine ⟨h.gen, h.pGen, h.epoch, h.owner, ?_, ⟨h.nil_, h.txt⟩, ⟨h.pNil, h.pTxt⟩, h.ord⟩
    by_cases he : k.epoch = 0
    · exact .inr (by simpa using h.free he)
    · exact .inl (by simpa using he)
theorem nil_is {s : ByteArray} (h : nilB s = true) : s = ⟨#[]⟩ := (nilB_iff s).1 h
theorem nil_nil : nilB ⟨#[]⟩ = true := rfl
theorem zero_good : KG knownZero := ⟨by decide, by decide, by decide, by decide, fun _ => rfl, fun _ => rfl, fun h => absurd rfl h, fun _ => rfl, fun h => absurd rfl h, .inl rfl⟩

theorem rec_iff {r : Rec} : recB r = true ↔ (1 ≤ r.n ∧ r.n ≤ 60000) ∧ ((r.kind = 1 ∧ r.owner = 0 ∧ txtB r.text = true) ∨ (r.kind = 2 ∧ r.owner = 0 ∧ nilB r.text = true) ∨ (r.kind = 3 ∧ (0 ≤ r.owner ∧ r.owner ≤ 1) ∧ nilB r.text = true)) := by
  unfold recB
  by_cases h1 : r.kind = 1
  · simp [h1]
  · by_cases h2 : r.kind = 2
    · simp [h2]
    · simp [h1, h2]

theorem txt_size {s : ByteArray} (h : txtB s = true) : s.size ≤ 100 := by
  unfold txtB at h
  have h2 := okB_len (parse_ok (xs := (parseS s.data.toList).1) (by rw [← h]))
  simpa using h2
theorem nil_size {s : ByteArray} (h : nilB s = true) : s.size ≤ 100 := by rw [nil_is h]; decide
theorem good_sizes {k : Known} (h : KG k) : k.text.size ≤ 100 ∧ k.pText.size ≤ 100 := by
  refine ⟨?_, ?_⟩
  · by_cases h0 : k.gen = 0
    · exact nil_size (h.nil_ h0)
    · exact txt_size (h.txt h0)
  · by_cases h0 : k.pGen = 0
    · exact nil_size (h.pNil h0)
    · exact txt_size (h.pTxt h0)

/-- How a record that is right acts on a state that is right. -/
theorem apply_act {k : Known} {r : Rec} (hk : KG k) (hr : recB r = true) : applyP k r = if r.kind = 1 then prepP k r else if r.kind = 2 then commP k r else epochP k r := by
  unfold applyP
  rw [knownB_iff.2 hk, hr]
  rfl
theorem prep_good {k : Known} {r : Rec} (hk : KG k) (hr : recB r = true) (h1 : r.kind = 1) (h : k.gen < r.n) : KG ⟨k.gen, k.text, r.n, r.text, k.epoch, k.owner⟩ := by
  obtain ⟨hn, hc⟩ := rec_iff.1 hr
  have ht : txtB r.text = true := by
    rcases hc with hc | hc | hc
    · exact hc.2.2
    · omega
    · omega
  exact ⟨hk.gen, ⟨by show 0 ≤ r.n; omega, hn.2⟩, hk.epoch, hk.owner, hk.free, hk.nil_, hk.txt, fun h0 => by replace h0 : r.n = 0 := h0; omega, fun _ => ht, .inr h⟩
theorem comm_good {k : Known} {r : Rec} (hk : KG k) (hr : recB r = true) (h : r.n = k.pGen) : KG ⟨k.pGen, k.pText, 0, ⟨#[]⟩, k.epoch, k.owner⟩ :=
  ⟨hk.pGen, zz60, hk.epoch, hk.owner, hk.free, hk.pNil, hk.pTxt, fun _ => rfl, fun h => absurd rfl h, .inl rfl⟩
theorem epoch_good {k : Known} {r : Rec} (hk : KG k) (hr : recB r = true) (h1 : r.kind ≠ 1) (h2 : r.kind ≠ 2) (h : k.epoch < r.n) : KG ⟨k.gen, k.text, k.pGen, k.pText, r.n, r.owner⟩ := by
  obtain ⟨hn, hc⟩ := rec_iff.1 hr
  have ho : 0 ≤ r.owner ∧ r.owner ≤ 1 := by
    rcases hc with hc | hc | hc
    · exact absurd hc.1 h1
    · exact absurd hc.1 h2
    · exact hc.2.1
  exact ⟨hk.gen, hk.pGen, ⟨by show 0 ≤ r.n; omega, hn.2⟩, ho, fun h0 => by replace h0 : r.n = 0 := h0; omega, hk.nil_, hk.txt, hk.pNil, hk.pTxt, hk.ord⟩

theorem apply_no {k b : Known} {r : Rec} (h : applyP k r = (b, false)) : b = k := by
  unfold applyP prepP commP epochP at h
  split at h
  · split at h
    · split at h <;> injection h with h1 h2
      · cases h2
      · exact h1.symm
    · split at h
      · split at h <;> injection h with h1 h2
        · cases h2
        · exact h1.symm
      · split at h <;> injection h with h1 h2
        · cases h2
        · exact h1.symm
  · injection h with h1 _
    exact h1.symm
theorem apply_yes {k b : Known} {r : Rec} (h : applyP k r = (b, true)) : KG k ∧ recB r = true ∧ KG b ∧ k.gen ≤ b.gen ∧ k.epoch ≤ b.epoch ∧ (b = k → r.kind = 1 ∧ r.n = k.pGen ∧ r.text = k.pText) := by
  by_cases hc : (knownB k && recB r) = true
  · rw [Bool.and_eq_true] at hc
    have hk := knownB_iff.1 hc.1
    have hr := hc.2
    have hn := (rec_iff.1 hr).1
    rw [apply_act hk hr] at h
    refine ⟨hk, hr, ?_⟩
    by_cases h1 : r.kind = 1
    · rw [if_pos h1] at h
      unfold prepP at h
      split at h
      · rename_i hlt
        injection h with h _
        subst h
        exact ⟨prep_good hk hr h1 hlt, Int.le_refl _, Int.le_refl _, fun e => ⟨h1, congrArg Known.pGen e, congrArg Known.pText e⟩⟩
      · injection h with _ h; cases h
    · rw [if_neg h1] at h
      by_cases h2 : r.kind = 2
      · rw [if_pos h2] at h
        unfold commP at h
        split at h
        · rename_i he
          injection h with h _
          subst h
          have hord : k.gen < k.pGen := by rcases hk.ord with h0 | h0 <;> omega
          exact ⟨comm_good hk hr he, by show k.gen ≤ k.pGen; omega, Int.le_refl _, fun e => by have := congrArg Known.gen e; replace this : k.pGen = k.gen := this; omega⟩
        · injection h with _ h; cases h
      · rw [if_neg h2] at h
        unfold epochP at h
        split at h
        · rename_i hlt
          injection h with h _
          subst h
          exact ⟨epoch_good hk hr h1 h2 hlt, Int.le_refl _, by show k.epoch ≤ r.n; omega, fun e => by have := congrArg Known.epoch e; replace this : r.n = k.epoch := this; omega⟩
        · injection h with _ h; cases h
  · unfold applyP at h
    rw [if_neg hc] at h
    injection h with _ h; cases h
theorem apply_good {k : Known} {r : Rec} (hk : KG k) : KG (applyP k r).1 := by
  cases h : applyP k r with
  | mk b ok =>
    cases ok with
    | false => rw [apply_no h]; exact hk
    | true => exact (apply_yes h).2.2.1

/-- Records applied one after the other, all of them right. -/
noncomputable def chainP : Known → List Rec → Option Known
  | x, [] => some x
  | x, r :: l => if (applyP x r).2 = true ∧ recB r = true then chainP (applyP x r).1 l else none
theorem chain_append : ∀ (l l' : List Rec) (x y : Known), chainP x l = some y → chainP x (l ++ l') = chainP y l' := by
  intro l
  induction l with
  | nil => intro l' x y h; injection h with h; subst h; rfl
  | cons r l ih =>
    intro l' x y h
    show (if (applyP x r).2 = true ∧ recB r = true then chainP (applyP x r).1 (l ++ l') else none) = _
    unfold chainP at h
    split at h
    · rename_i hc
      rw [if_pos hc]
      exact ih l' _ y h
    · cases h
theorem chain_cons {x y : Known} {r : Rec} {l : List Rec} (h : chainP x (r :: l) = some y) : (applyP x r).2 = true ∧ recB r = true ∧ chainP (applyP x r).1 l = some y := by
  unfold chainP at h
  split at h
  · rename_i hc
    exact ⟨hc.1, hc.2, h⟩
  · cases h
theorem chain_step {x y : Known} {r : Rec} {l : List Rec} {z : Option Known} (h : applyP x r = (y, true)) (hr : recB r = true) (hz : chainP y l = z) : chainP x (r :: l) = z := by
  unfold chainP
  rw [h, if_pos ⟨rfl, hr⟩]
  exact hz
theorem recs_chain {k : Known} (hk : KG k) : chainP knownZero (recsL k) = some k := by
  have k1 : KG ⟨k.gen, k.text, 0, ⟨#[]⟩, 0, 0⟩ := ⟨hk.gen, zz60, zz60, zz1, fun _ => rfl, hk.nil_, hk.txt, fun _ => rfl, fun h => absurd rfl h, .inl rfl⟩
  have k2 : KG ⟨k.gen, k.text, k.pGen, k.pText, 0, 0⟩ := ⟨hk.gen, hk.pGen, zz60, zz1, fun _ => rfl, hk.nil_, hk.txt, hk.pNil, hk.pTxt, hk.ord⟩
  have a1 : chainP knownZero (if k.gen = 0 then [] else [⟨1, k.gen, 0, k.text⟩, ⟨2, k.gen, 0, ⟨#[]⟩⟩]) = some ⟨k.gen, k.text, 0, ⟨#[]⟩, 0, 0⟩ := by
    by_cases h0 : k.gen = 0
    · rw [if_pos h0, h0, nil_is (hk.nil_ h0)]
      rfl
    · rw [if_neg h0]
      have hg := hk.gen
      have r1 : recB ⟨1, k.gen, 0, k.text⟩ = true := rec_iff.2 ⟨⟨by show 1 ≤ k.gen; omega, hg.2⟩, .inl ⟨rfl, rfl, hk.txt h0⟩⟩
      have r2 : recB ⟨2, k.gen, 0, ⟨#[]⟩⟩ = true := rec_iff.2 ⟨⟨by show 1 ≤ k.gen; omega, hg.2⟩, .inr (.inl ⟨rfl, rfl, rfl⟩)⟩
      have hlt : knownZero.gen < k.gen := by show 0 < k.gen; omega
      have s1 : applyP knownZero ⟨1, k.gen, 0, k.text⟩ = (⟨0, ⟨#[]⟩, k.gen, k.text, 0, 0⟩, true) := by
        rw [apply_act zero_good r1]
        show prepP knownZero ⟨1, k.gen, 0, k.text⟩ = _
        exact if_pos hlt
      have g1 : KG ⟨0, ⟨#[]⟩, k.gen, k.text, 0, 0⟩ := prep_good (k := knownZero) (r := ⟨1, k.gen, 0, k.text⟩) zero_good r1 rfl hlt
      have s2 : applyP ⟨0, ⟨#[]⟩, k.gen, k.text, 0, 0⟩ ⟨2, k.gen, 0, ⟨#[]⟩⟩ = (⟨k.gen, k.text, 0, ⟨#[]⟩, 0, 0⟩, true) := by
        rw [apply_act g1 r2]
        show commP ⟨0, ⟨#[]⟩, k.gen, k.text, 0, 0⟩ ⟨2, k.gen, 0, ⟨#[]⟩⟩ = _
        exact if_pos rfl
      exact chain_step s1 r1 (chain_step s2 r2 rfl)
  have a2 : chainP ⟨k.gen, k.text, 0, ⟨#[]⟩, 0, 0⟩ (if k.pGen = 0 then [] else [⟨1, k.pGen, 0, k.pText⟩]) = some ⟨k.gen, k.text, k.pGen, k.pText, 0, 0⟩ := by
    by_cases h0 : k.pGen = 0
    · rw [if_pos h0, h0, nil_is (hk.pNil h0)]
      rfl
    · rw [if_neg h0]
      have hg := hk.pGen
      have r1 : recB ⟨1, k.pGen, 0, k.pText⟩ = true := rec_iff.2 ⟨⟨by show 1 ≤ k.pGen; omega, hg.2⟩, .inl ⟨rfl, rfl, hk.pTxt h0⟩⟩
      have hlt : k.gen < k.pGen := by rcases hk.ord with h | h; exact absurd h h0; exact h
      have s1 : applyP ⟨k.gen, k.text, 0, ⟨#[]⟩, 0, 0⟩ ⟨1, k.pGen, 0, k.pText⟩ = (⟨k.gen, k.text, k.pGen, k.pText, 0, 0⟩, true) := by
        rw [apply_act k1 r1]
        show prepP ⟨k.gen, k.text, 0, ⟨#[]⟩, 0, 0⟩ ⟨1, k.pGen, 0, k.pText⟩ = _
        exact if_pos hlt
      exact chain_step s1 r1 rfl
  have a3 : chainP ⟨k.gen, k.text, k.pGen, k.pText, 0, 0⟩ (if k.epoch = 0 then [] else [⟨3, k.epoch, k.owner, ⟨#[]⟩⟩]) = some k := by
    by_cases h0 : k.epoch = 0
    · rw [if_pos h0]
      obtain ⟨g, t, p, pt, e, o⟩ := k
      replace h0 : e = 0 := h0
      have ho : o = 0 := hk.free h0
      subst h0 ho
      rfl
    · rw [if_neg h0]
      have hg := hk.epoch
      have r1 : recB ⟨3, k.epoch, k.owner, ⟨#[]⟩⟩ = true := rec_iff.2 ⟨⟨by show 1 ≤ k.epoch; omega, hg.2⟩, .inr (.inr ⟨rfl, hk.owner, rfl⟩)⟩
      have s1 : applyP ⟨k.gen, k.text, k.pGen, k.pText, 0, 0⟩ ⟨3, k.epoch, k.owner, ⟨#[]⟩⟩ = (k, true) := by
        rw [apply_act k2 r1]
        show epochP ⟨k.gen, k.text, k.pGen, k.pText, 0, 0⟩ ⟨3, k.epoch, k.owner, ⟨#[]⟩⟩ = _
        exact if_pos (by show (0 : Int) < k.epoch; omega)
      exact chain_step s1 r1 rfl
  unfold recsL recsG recsP recsE
  rw [chain_append _ _ _ _ a1, chain_append _ _ _ _ a2]
  exact a3

def knownEqB (x y : Known) : Bool := (x.gen == y.gen) && ((x.text.toList == y.text.toList) && ((x.pGen == y.pGen) && ((x.pText.toList == y.pText.toList) && ((x.epoch == y.epoch) && (x.owner == y.owner)))))
theorem knownEqB_self (x : Known) : knownEqB x x = true := by simp [knownEqB]
theorem knownEqB_true {x y : Known} (h : knownEqB x y = true) : x = y := by
  unfold knownEqB at h
  simp only [Bool.and_eq_true] at h
  obtain ⟨h1, h2, h3, h4, h5, h6⟩ := h
  obtain ⟨a, b, c, d, e, f⟩ := x
  obtain ⟨a', b', c', d', e', f'⟩ := y
  simp only [beq_iff_eq] at h1 h3 h5 h6
  have e2 := list_bytes h2
  have e4 := list_bytes h4
  replace e2 : b = b' := e2
  replace e4 : d = d' := e4
  subst h1 h3 h5 h6 e2 e4
  rfl
theorem Tryd.knownStruct : Tryd.prog.underlying 25 = some (.struct (Tryd.prog.fieldsOf 25)) := by kernel_rfl
theorem Tryd.knownStood : Tryd.prog.stoodInHeld 25 = false := by kernel_rfl
theorem Tryd.knownGuard : Tryd.prog.eqGuardType Tryd.prog.depth 25 = false := by kernel_rfl
theorem Tryd.knownFields : ((Tryd.prog.fieldsOf 25).toList.map fun f => (f.type, f.offset, decide (f.name = "_"))) = [(3, 0, false), (9, 1, false), (3, 2, false), (9, 3, false), (3, 4, false), (3, 5, false)] := by kernel_rfl
theorem six {α : Type} {g : Field → α} {fs : List Field} {a b c d e f : α} (h : fs.map g = [a, b, c, d, e, f]) : ∃ f1 f2 f3 f4 f5 f6, fs = [f1, f2, f3, f4, f5, f6] ∧ g f1 = a ∧ g f2 = b ∧ g f3 = c ∧ g f4 = d ∧ g f5 = e ∧ g f6 = f := by
  match fs, h with
  | [f1, f2, f3, f4, f5, f6], h =>
    simp only [List.map_cons, List.map_nil, List.cons.injEq, and_true] at h
    exact ⟨f1, f2, f3, f4, f5, f6, rfl, h⟩
theorem known_equal (x y : Known) (w : World) : (Op.equalIn 10000 25 (.agg (knownC x).toArray) (.agg (knownC y).toArray)).run Tryd.prog w = .ok (knownEqB x y) w := by
  rw [run_equalIn_struct w 9999 _ _ _ Tryd.knownStruct Tryd.knownStood]
  obtain ⟨f1, f2, f3, f4, f5, f6, hfs, h1, h2, h3, h4, h5, h6⟩ := six Tryd.knownFields
  rw [hfs]
  rw [eqFields_cons 9999 _ _ f1 _ _ _ (.int .i64 x.gen) (.int .i64 y.gen) (x.gen == y.gen) w h1 (run_part_plain w Tryd.intKey rfl) (run_part_plain w Tryd.intKey rfl) (run_equalIn_int w _ _ _ _ _ _ Tryd.underlying3)]
  rw [eqFields_cons 9999 _ _ f2 _ _ _ (.string x.text) (.string y.text) (x.text.toList == y.text.toList) w h2 (run_part_plain w Tryd.strKey rfl) (run_part_plain w Tryd.strKey rfl) (run_equalIn_string w _ _ _ _ Tryd.underlying9)]
  rw [eqFields_cons 9999 _ _ f3 _ _ _ (.int .i64 x.pGen) (.int .i64 y.pGen) (x.pGen == y.pGen) w h3 (run_part_plain w Tryd.intKey rfl) (run_part_plain w Tryd.intKey rfl) (run_equalIn_int w _ _ _ _ _ _ Tryd.underlying3)]
  rw [eqFields_cons 9999 _ _ f4 _ _ _ (.string x.pText) (.string y.pText) (x.pText.toList == y.pText.toList) w h4 (run_part_plain w Tryd.strKey rfl) (run_part_plain w Tryd.strKey rfl) (run_equalIn_string w _ _ _ _ Tryd.underlying9)]
  rw [eqFields_cons 9999 _ _ f5 _ _ _ (.int .i64 x.epoch) (.int .i64 y.epoch) (x.epoch == y.epoch) w h5 (run_part_plain w Tryd.intKey rfl) (run_part_plain w Tryd.intKey rfl) (run_equalIn_int w _ _ _ _ _ _ Tryd.underlying3)]
  rw [eqFields_cons 9999 _ _ f6 _ _ _ (.int .i64 x.owner) (.int .i64 y.owner) (x.owner == y.owner) w h6 (run_part_plain w Tryd.intKey rfl) (run_part_plain w Tryd.intKey rfl) (run_equalIn_int w _ _ _ _ _ _ Tryd.underlying3)]
  unfold knownEqB
  generalize (x.gen == y.gen) = b1
  generalize (x.text.toList == y.text.toList) = b2
  generalize (x.pGen == y.pGen) = b3
  generalize (x.pText.toList == y.pText.toList) = b4
  generalize (x.epoch == y.epoch) = b5
  generalize (x.owner == y.owner) = b6
  cases b1 <;> cases b2 <;> cases b3 <;> cases b4 <;> cases b5 <;> cases b6 <;> simp [Op.eqFields, Sem.run_pure]
theorem known_guard (op : BinOp) (a b : Operand) (x y : Known) (w : World) : (eqGuard op 25 a b (.agg (knownC x).toArray) (.agg (knownC y).toArray)).run Tryd.prog w = .ok () w := run_eqGuard_agg w op _ a b _ _ Tryd.knownGuard

end Go.Proofs.YtlnmlfpkpplgoaaDoor

namespace Go.Proofs.YtlnmlfpkpplgoaaDoor
open Go.RowKit
set_option linter.unusedVariables false

/-- A variable that holds a state lies in block D, the result's box beside it, the cursor elsewhere. -/
structure V6 (w : World) (lo g : Nat) (A : Option Addr) (n c : Nat) (code : List UInt8) (D : Nat) (k : Known) (wr : World) : Prop where
  zero : wr.heap[w.heap.size]? = some (.cells (knownC knownZero).toArray 25 (0, 0))
  var : wr.heap[D]? = some (.cells (knownC k).toArray 25 (0, 0))
  cur : Cur wr lo g A n c code
  only : Rep.Only w wr [g]
  hD : w.heap.size < D
  lt : g < w.heap.size
  from_ : lo ≤ g
theorem V6.step {w1 w2 : World} {w : World} {lo g : Nat} {A : Option Addr} {n c : Nat} {code : List UInt8} {D : Nat} {k : Known} (h : V6 w lo g A n c code D k w1) (hc : Cur w2 lo g A n c code) (ho : Rep.Only w1 w2 [g]) : V6 w lo g A n c code D k w2 :=
  ⟨(ho.block _ (Array.getElem?_eq_some_iff.1 h.zero).1 (by have := h.lt; simp; omega)).trans h.zero, (ho.block _ (Array.getElem?_eq_some_iff.1 h.var).1 (by have := h.lt; have := h.hD; simp; omega)).trans h.var, hc, h.only.then ho (fun a ha => .inl ha), h.hD, h.lt, h.from_⟩
theorem V6.later {w1 w2 : World} {w : World} {lo g : Nat} {A : Option Addr} {n c : Nat} {code : List UInt8} {D : Nat} {k : Known} (h : V6 w lo g A n c code D k w1) (hb : Below w1.heap.size w1 w2) : V6 w lo g A n c code D k w2 :=
  have ho := Rep.only_of_below hb
  h.step (h.cur.only ho (by simp) (fun a ha => by cases ha)) (ho.mono (by simp))
theorem V6.alloc {w1 : World} {w : World} {lo g : Nat} {A : Option Addr} {n c : Nat} {code : List UInt8} {D : Nat} {k : Known} (h : V6 w lo g A n c code D k w1) (ob : Obj) : V6 w lo g A n c code D k (w1.alloc ob) := h.later (Later.alloc w1 ob)
/-- Another block of the call's own is written. -/
theorem V6.beside {w1 : World} {w : World} {lo g : Nat} {A : Option Addr} {n c : Nat} {code : List UInt8} {D : Nat} {k : Known} (h : V6 w lo g A n c code D k w1) {E : Nat} (hE : w.heap.size < E) (hne : E ≠ D) (i : Nat) (u : Value) : V6 w lo g A n c code D k (w1.setCell ⟨E, i, none⟩ u) := by
  have ho := Rep.Only.setCell w1 (p := ⟨E, i, none⟩) (fp := [E]) (by simp) u
  have h1 := h.hD
  have h2 := h.lt
  have h3 := h.from_
  exact ⟨(ho.block _ (Array.getElem?_eq_some_iff.1 h.zero).1 (by simp; omega)).trans h.zero, (ho.block _ (Array.getElem?_eq_some_iff.1 h.var).1 (by simp; omega)).trans h.var, h.cur.only ho (by simp; omega) (fun a ha => by simp at ha; omega), h.only.then ho (fun a ha => .inr (by simp at ha; omega)), h1, h2, h3⟩
theorem V6.set {w1 : World} {w : World} {lo g : Nat} {A : Option Addr} {n c : Nat} {code : List UInt8} {D : Nat} {k : Known} (h : V6 w lo g A n c code D k w1) (i : Nat) (u : Value) (k' : Known) (hr : (knownC k).toArray.setIfInBounds i u = (knownC k').toArray) : V6 w lo g A n c code D k' (w1.setCell ⟨D, i, none⟩ u) := by
  have ho := Rep.Only.setCell w1 (p := ⟨D, i, none⟩) (fp := [D]) (by simp) u
  have h1 := h.hD
  have h2 := h.lt
  have h3 := h.from_
  exact ⟨(ho.block _ (Array.getElem?_eq_some_iff.1 h.zero).1 (by simp; omega)).trans h.zero, by rw [← hr]; exact var_set h.var i u, h.cur.only ho (by simp; omega) (fun a ha => by simp at ha; omega), h.only.then ho (fun a ha => .inr (by simp at ha; omega)), h1, h2, h3⟩
theorem V6.put {w1 : World} {w : World} {lo g : Nat} {A : Option Addr} {n c : Nat} {code : List UInt8} {D : Nat} {k : Known} (h : V6 w lo g A n c code D k w1) (a : Int) (b : ByteArray) (p : Int) (q : ByteArray) (e f : Int) : V6 w lo g A n c code D ⟨a, b, p, q, e, f⟩ ((((((w1.setCell ⟨D, 0, none⟩ (.int .i64 a)).setCell ⟨D, 1, none⟩ (.string b)).setCell ⟨D, 2, none⟩ (.int .i64 p)).setCell ⟨D, 3, none⟩ (.string q)).setCell ⟨D, 4, none⟩ (.int .i64 e)).setCell ⟨D, 5, none⟩ (.int .i64 f)) := by
  obtain ⟨a0, b0, p0, q0, e0, f0⟩ := k
  exact (((((h.set 0 (.int .i64 a) ⟨a, b0, p0, q0, e0, f0⟩ rfl).set 1 (.string b) ⟨a, b, p0, q0, e0, f0⟩ rfl).set 2 (.int .i64 p) ⟨a, b, p, q0, e0, f0⟩ rfl).set 3 (.string q) ⟨a, b, p, q, e0, f0⟩ rfl).set 4 (.int .i64 e) ⟨a, b, p, q, e, f0⟩ rfl).set 5 (.int .i64 f) ⟨a, b, p, q, e, f⟩ rfl
theorem putK6_only (w : World) (D : Nat) (a : Int) (b : ByteArray) (p : Int) (q : ByteArray) (e f : Int) : Rep.Only w ((((((w.setCell ⟨D, 0, none⟩ (.int .i64 a)).setCell ⟨D, 1, none⟩ (.string b)).setCell ⟨D, 2, none⟩ (.int .i64 p)).setCell ⟨D, 3, none⟩ (.string q)).setCell ⟨D, 4, none⟩ (.int .i64 e)).setCell ⟨D, 5, none⟩ (.int .i64 f)) [D] :=
  (((((Rep.Only.setCell w (p := ⟨D, 0, none⟩) (by simp) _).trans (Rep.Only.setCell _ (p := ⟨D, 1, none⟩) (by simp) _)).trans (Rep.Only.setCell _ (p := ⟨D, 2, none⟩) (by simp) _)).trans (Rep.Only.setCell _ (p := ⟨D, 3, none⟩) (by simp) _)).trans (Rep.Only.setCell _ (p := ⟨D, 4, none⟩) (by simp) _)).trans (Rep.Only.setCell _ (p := ⟨D, 5, none⟩) (by simp) _)

/-- A state comes back. -/
def RetKn (w : World) (lo g : Nat) (A : Option Addr) (n c : Nat) (code : List UInt8) (P : Known → Prop) (e : Ending) (w' : World) : Prop :=
  ∃ k : Known, e = .returned (.agg #[.int .i64 k.gen, .string k.text, .int .i64 k.pGen, .string k.pText, .int .i64 k.epoch, .int .i64 k.owner]) ∧ P k ∧ Cur w' lo g A n c code ∧ Rep.Only w w' [g]
def SmallK (k : Known) : Prop := k.text.size ≤ 100 ∧ k.pText.size ≤ 100
theorem V6.ret {w1 : World} {w : World} {lo g : Nat} {A : Option Addr} {n c : Nat} {code : List UInt8} {D : Nat} {P : Known → Prop} {a : Int} {b : ByteArray} {p : Int} {q : ByteArray} {e f : Int} (h : V6 w lo g A n c code D ⟨a, b, p, q, e, f⟩ w1) (hP : P ⟨a, b, p, q, e, f⟩) :
    RetKn w lo g A n c code P (.returned (.agg #[.int .i64 a, .string b, .int .i64 p, .string q, .int .i64 e, .int .i64 f])) ((((((w1.setCell ⟨w.heap.size, 0, none⟩ (.int .i64 a)).setCell ⟨w.heap.size, 1, none⟩ (.string b)).setCell ⟨w.heap.size, 2, none⟩ (.int .i64 p)).setCell ⟨w.heap.size, 3, none⟩ (.string q)).setCell ⟨w.heap.size, 4, none⟩ (.int .i64 e)).setCell ⟨w.heap.size, 5, none⟩ (.int .i64 f)) := by
  have ho := putK6_only w1 w.heap.size a b p q e f
  have h2 := h.lt
  have h3 := h.from_
  exact ⟨⟨a, b, p, q, e, f⟩, rfl, hP, h.cur.only ho (by simp; omega) (fun a ha => by simp at ha; omega), h.only.then ho (fun a ha => .inr (by simp at ha; omega))⟩
theorem RetKB.lit {w w' : World} {a : Int} {b : ByteArray} {p : Int} {q : ByteArray} {e f : Int} {y : Bool} {en : Ending} (h : RetKB w (⟨a, b, p, q, e, f⟩, y) en w') : en = .returned (.tuple #[.agg #[.int .i64 a, .string b, .int .i64 p, .string q, .int .i64 e, .int .i64 f], .bool y]) ∧ Below w.heap.size w w' := h

set_option maxRecDepth 100000 in
set_option maxHeartbeats 8000000 in
theorem l4Known_any (lo g : Nat) (A : Option Addr) (n c : Nat) (code : List UInt8) (w : World) (h : Cur w lo g A n c code) (hn : n ≤ 140737488351232) :
    Calls Tryd.prog 14 #[.pointer (some ⟨g, 0, none⟩)] w (RetKn w lo g A n c code KG) := by
  have hglt := h.lt
  have hlg := h.from_
  have V : V6 w lo g A n c code (w.heap.size + 1) knownZero ((w.alloc (.cells #[.int .i64 0, .string ⟨#[]⟩, .int .i64 0, .string ⟨#[]⟩, .int .i64 0, .int .i64 0] 25)).alloc (.cells #[.int .i64 0, .string ⟨#[]⟩, .int .i64 0, .string ⟨#[]⟩, .int .i64 0, .int .i64 0] 25)) :=
    ⟨(Below.heap_alloc _ _ _ (by simp)).trans (heap_alloc_new w _), heap_alloc_new' _ _ (by simp), (h.alloc _).alloc _, ((Rep.only_alloc w _).mono (by simp)).then (Rep.only_alloc _ _) (fun a ha => by cases ha), Nat.lt_succ_self _, hglt, hlg⟩
  go_enter Tryd.func14, Tryd.ntmps14
  go_wp2_with fail
  generalize (w.alloc (.cells #[.int .i64 0, .string ⟨#[]⟩, .int .i64 0, .string ⟨#[]⟩, .int .i64 0, .int .i64 0] 25)).alloc (.cells #[.int .i64 0, .string ⟨#[]⟩, .int .i64 0, .string ⟨#[]⟩, .int .i64 0, .int .i64 0] 25) = W1 at V ⊢
  clear h
  refine (l1Below_any lo g A n c code 8 W1 V.cur hn (by omega) (by omega)).mono ?_
  rintro e W2 ⟨m, hm, rfl, hc2, hg2⟩
  replace V := V.step hc2 (only_g hg2)
  clear hc2 hg2
  go_wp2_with fail
  obtain ⟨W0, rfl⟩ : ∃ W0 : World, W0 = W2 := ⟨_, rfl⟩
  go_loopw [4] (fun i wr => ∃ (k : Nat) (kn : Known), k ≤ 8 ∧ i = .int .i64 k ∧ Hid (KG kn) ∧ V6 w lo g A n c code (w.heap.size + 1) kn wr) (fun i _ => (intOf i).toNat)
  case atStart => exact ⟨m, knownZero, by omega, rfl, Lib.hid zero_good, V⟩
  case round =>
    clear V hm
    obtain ⟨k, ⟨ka, kb, kp, kq, ke, kf⟩, hk, rfl, hgood, V⟩ := hrel
    by_cases hlt : 0 < k
    · have i1 : (0 : Int) < (k : Int) := by omega
      go_wp2_with fail
      refine (l4Draw_any lo g A n c code wr V.cur hn).mono ?_
      rintro e W3 ⟨⟨rk, rn, ro, rt⟩, rfl, hts, hc3, ho3⟩
      replace hts : rt.size ≤ 100 := hts
      replace V := V.step hc3 ho3
      clear hc3 ho3
      obtain ⟨k, rfl⟩ : ∃ j, k = j + 1 := ⟨k - 1, by omega⟩
      have hE : w.heap.size + 1 < W3.heap.size := (Array.getElem?_eq_some_iff.1 V.var).1
      have HE := Lib.hid (heap_alloc_new W3 (.cells #[.int .i64 rk, .int .i64 rn, .int .i64 ro, .string rt] 32))
      replace V := V.alloc (.cells #[.int .i64 rk, .int .i64 rn, .int .i64 ro, .string rt] 32)
      have hEl : W3.heap.size < (W3.alloc (.cells #[.int .i64 rk, .int .i64 rn, .int .i64 ro, .string rt] 32)).heap.size := by simp
      go_upto_region 6 with (fail)
      generalize W3.alloc (.cells #[.int .i64 rk, .int .i64 rn, .int .i64 ro, .string rt] 32) = W4 at V HE hEl ⊢
      generalize W3.heap.size = E at hE HE hEl ⊢
      by_cases hk2 : rk = 2
      · have bk : (rk == 2) = true := by simpa using hk2
        obtain ⟨e0, e1, e2, e3⟩ := rec_box (r := ⟨rk, rn, ro, rt⟩) HE.out
        clear hk2
        go_wp2_with fail
        refine (l1Once_any lo g A n c code 3 W4 V.cur hn (by omega) (by omega)).mono ?_
        rintro e W5 ⟨y, rfl, hc5, hg5⟩
        have hge : g < E := by have := V.lt; omega
        replace HE := Lib.hid (((only_g hg5).block E hEl (by simp; omega)).trans HE.out)
        replace hEl := Nat.lt_of_lt_of_le hEl hg5.size
        replace V := V.step hc5 (only_g hg5)
        clear hc5 hg5 e0 e1 e2 e3
        cases y
        · obtain ⟨d0, d1, d2, d3, d4, d5⟩ := known_box (r := ⟨ka, kb, kp, kq, ke, kf⟩) V.var
          obtain ⟨e0, e1, e2, e3⟩ := rec_box (r := ⟨rk, rn, ro, rt⟩) HE.out
          have ef1 := var_frozen HE.out 1
          have HE2 := Lib.hid (show (W5.setCell ⟨E, 1, none⟩ (.int .i64 kp)).heap[E]? = some (.cells (recC ⟨rk, kp, ro, rt⟩).toArray 32 (0, 0)) from var_set HE.out 1 (.int .i64 kp))
          have V2 := V.beside (E := E) (by omega) (by omega) 1 (.int .i64 kp)
          have hEl2 : E < (W5.setCell ⟨E, 1, none⟩ (.int .i64 kp)).heap.size := by simpa using hEl
          clear V HE hEl
          go_upto_region 8 with (fail)
          generalize W5.setCell ⟨E, 1, none⟩ (.int .i64 kp) = W6 at V2 HE2 hEl2 ⊢
          clear d0 d1 d2 d3 d4 d5 e0 e1 e2 e3 ef1
          have V := V2
          have HE := HE2
          have hEl := hEl2
          clear V2 HE2 hEl2
          obtain ⟨d0, d1, d2, d3, d4, d5⟩ := known_box (r := ⟨ka, kb, kp, kq, ke, kf⟩) V.var
          obtain ⟨e0, e1, e2, e3⟩ := rec_box (r := ⟨rk, kp, ro, rt⟩) HE.out
          go_wp2_with fail
          refine (applyS_any ⟨ka, kb, kp, kq, ke, kf⟩ ⟨rk, kp, ro, rt⟩ W6).mono ?_
          have HA := Lib.hid (apply_good (r := ⟨rk, kp, ro, rt⟩) hgood.out)
          obtain ⟨⟨⟨na, nb, np, nq, ne, nf⟩, ok⟩, hp⟩ : ∃ p, applyP ⟨ka, kb, kp, kq, ke, kf⟩ ⟨rk, kp, ro, rt⟩ = p := ⟨_, rfl⟩
          rw [hp] at HA ⊢
          rintro e W9 hret
          obtain ⟨rfl, hb⟩ := hret.lit
          replace V := V.later hb
          clear hret hb hp d0 d1 d2 d3 d4 d5 e0 e1 e2 e3 HE hE hEl
          obtain ⟨d0, d1, d2, d3, d4, d5⟩ := known_box (r := ⟨ka, kb, kp, kq, ke, kf⟩) V.var
          have df0 := var_frozen V.var 0
          have df1 := var_frozen V.var 1
          have df2 := var_frozen V.var 2
          have df3 := var_frozen V.var 3
          have df4 := var_frozen V.var 4
          have df5 := var_frozen V.var 5
          have V2 := V.put na nb np nq ne nf
          clear V
          go_wp2_with fail
          go_roundw
          case rel => exact ⟨k, ⟨na, nb, np, nq, ne, nf⟩, by omega, by go_num, HA, V2⟩
          case measure => simp [intOf]
        · obtain ⟨d0, d1, d2, d3, d4, d5⟩ := known_box (r := ⟨ka, kb, kp, kq, ke, kf⟩) V.var
          obtain ⟨e0, e1, e2, e3⟩ := rec_box (r := ⟨rk, rn, ro, rt⟩) HE.out
          go_wp2_with fail
          refine (applyS_any ⟨ka, kb, kp, kq, ke, kf⟩ ⟨rk, rn, ro, rt⟩ W5).mono ?_
          have HA := Lib.hid (apply_good (r := ⟨rk, rn, ro, rt⟩) hgood.out)
          obtain ⟨⟨⟨na, nb, np, nq, ne, nf⟩, ok⟩, hp⟩ : ∃ p, applyP ⟨ka, kb, kp, kq, ke, kf⟩ ⟨rk, rn, ro, rt⟩ = p := ⟨_, rfl⟩
          rw [hp] at HA ⊢
          rintro e W9 hret
          obtain ⟨rfl, hb⟩ := hret.lit
          replace V := V.later hb
          clear hret hb hp d0 d1 d2 d3 d4 d5 e0 e1 e2 e3 HE hE hEl
          obtain ⟨d0, d1, d2, d3, d4, d5⟩ := known_box (r := ⟨ka, kb, kp, kq, ke, kf⟩) V.var
          have df0 := var_frozen V.var 0
          have df1 := var_frozen V.var 1
          have df2 := var_frozen V.var 2
          have df3 := var_frozen V.var 3
          have df4 := var_frozen V.var 4
          have df5 := var_frozen V.var 5
          have V2 := V.put na nb np nq ne nf
          clear V
          go_wp2_with fail
          go_roundw
          case rel => exact ⟨k, ⟨na, nb, np, nq, ne, nf⟩, by omega, by go_num, HA, V2⟩
          case measure => simp [intOf]
      · have bk : (rk == 2) = false := by simpa using hk2
        obtain ⟨d0, d1, d2, d3, d4, d5⟩ := known_box (r := ⟨ka, kb, kp, kq, ke, kf⟩) V.var
        obtain ⟨e0, e1, e2, e3⟩ := rec_box (r := ⟨rk, rn, ro, rt⟩) HE.out
        go_wp2_with fail
        refine (applyS_any ⟨ka, kb, kp, kq, ke, kf⟩ ⟨rk, rn, ro, rt⟩ W4).mono ?_
        have HA := Lib.hid (apply_good (r := ⟨rk, rn, ro, rt⟩) hgood.out)
        obtain ⟨⟨⟨na, nb, np, nq, ne, nf⟩, ok⟩, hp⟩ : ∃ p, applyP ⟨ka, kb, kp, kq, ke, kf⟩ ⟨rk, rn, ro, rt⟩ = p := ⟨_, rfl⟩
        rw [hp] at HA ⊢
        rintro e W9 hret
        obtain ⟨rfl, hb⟩ := hret.lit
        replace V := V.later hb
        clear hret hb hp d0 d1 d2 d3 d4 d5 e0 e1 e2 e3 HE hE hEl
        obtain ⟨d0, d1, d2, d3, d4, d5⟩ := known_box (r := ⟨ka, kb, kp, kq, ke, kf⟩) V.var
        have df0 := var_frozen V.var 0
        have df1 := var_frozen V.var 1
        have df2 := var_frozen V.var 2
        have df3 := var_frozen V.var 3
        have df4 := var_frozen V.var 4
        have df5 := var_frozen V.var 5
        have V2 := V.put na nb np nq ne nf
        clear V
        go_wp2_with fail
        go_roundw
        case rel => exact ⟨k, ⟨na, nb, np, nq, ne, nf⟩, by omega, by go_num, HA, V2⟩
        case measure => simp [intOf]
    · have i1 : ¬ (0 : Int) < (k : Int) := by omega
      have hP := hgood.out
      clear hgood
      obtain ⟨d0, d1, d2, d3, d4, d5⟩ := known_box (r := ⟨ka, kb, kp, kq, ke, kf⟩) V.var
      obtain ⟨z0, z1, z2, z3, z4, z5⟩ := known_box (r := knownZero) V.zero
      have zf0 := var_frozen V.zero 0
      have zf1 := var_frozen V.zero 1
      have zf2 := var_frozen V.zero 2
      have zf3 := var_frozen V.zero 3
      have zf4 := var_frozen V.zero 4
      have zf5 := var_frozen V.zero 5
      have hzl : w.heap.size < wr.heap.size := (Array.getElem?_eq_some_iff.1 V.zero).1
      have hret := V.ret hP
      clear V
      go_wp2_with fail
      exact bodyPost_ret (v := .agg #[.int .i64 ka, .string kb, .int .i64 kp, .string kq, .int .i64 ke, .int .i64 kf]) (by simp [results, Tryd.results14, go_sem, z0, z1, z2, z3, z4, z5]) rfl hret

set_option maxRecDepth 100000 in
set_option maxHeartbeats 8000000 in
theorem l4Loose_any (lo g : Nat) (A : Option Addr) (n c : Nat) (code : List UInt8) (w : World) (h : Cur w lo g A n c code) (hn : n ≤ 140737488351232) :
    Calls Tryd.prog 18 #[.pointer (some ⟨g, 0, none⟩)] w (RetKn w lo g A n c code SmallK) := by
  have hglt := h.lt
  have hlg := h.from_
  go_enter Tryd.func18, Tryd.ntmps18
  go_wp2_with fail
  have ho1 := Rep.only_alloc w (.cells #[.int .i64 0, .string ⟨#[]⟩, .int .i64 0, .string ⟨#[]⟩, .int .i64 0, .int .i64 0] 25)
  have hv1 := heap_alloc_new w (.cells #[.int .i64 0, .string ⟨#[]⟩, .int .i64 0, .string ⟨#[]⟩, .int .i64 0, .int .i64 0] 25)
  have hs1 : (w.alloc (.cells #[.int .i64 0, .string ⟨#[]⟩, .int .i64 0, .string ⟨#[]⟩, .int .i64 0, .int .i64 0] 25)).heap.size = w.heap.size + 1 := by simp
  generalize w.alloc (.cells #[.int .i64 0, .string ⟨#[]⟩, .int .i64 0, .string ⟨#[]⟩, .int .i64 0, .int .i64 0] 25) = W1 at ho1 hv1 hs1 ⊢
  have hc1 := h.only ho1 (by simp) (fun a ha => by cases ha)
  have O1 : Rep.Only w W1 [g] := ho1.mono (by simp)
  have V1 := Lib.hid hv1
  clear ho1 hv1 h
  refine (l4Known_any lo g A n c code W1 hc1 hn).mono ?_
  rintro e W2 ⟨⟨ka, kb, kp, kq, ke, kf⟩, rfl, hgood, hc2, ho⟩
  obtain ⟨hsb, hsq⟩ := good_sizes hgood
  replace hsb : kb.size ≤ 100 := hsb
  replace hsq : kq.size ≤ 100 := hsq
  clear hgood
  have V2 := Rep.var_only V1 ho (by omega) (by simp; omega)
  have O2 := O1.then ho (fun a ha => .inl ha)
  have s2 := ho.size
  have V : V6 w lo g A n c code W2.heap.size ⟨ka, kb, kp, kq, ke, kf⟩ (W2.alloc (.cells #[.int .i64 ka, .string kb, .int .i64 kp, .string kq, .int .i64 ke, .int .i64 kf] 25)) :=
    ⟨(Below.heap_alloc _ _ _ (by omega)).trans V2.out, heap_alloc_new _ _, hc2.alloc _, O2.then (Rep.only_alloc _ _) (fun a ha => by cases ha), by omega, hglt, hlg⟩
  clear hc2 ho hc1 V1 O1 V2 O2
  go_wp2_with fail
  generalize W2.alloc (.cells #[.int .i64 ka, .string kb, .int .i64 kp, .string kq, .int .i64 ke, .int .i64 kf] 25) = W4 at V ⊢
  generalize W2.heap.size = D at V ⊢
  refine (l1Below_any lo g A n c code 14 W4 V.cur hn (by omega) (by omega)).mono ?_
  rintro e W5 ⟨j, hj, rfl, hc5, hg5⟩
  replace V := V.step hc5 (only_g hg5)
  have hne : w.heap.size ≠ D := by have := V.hD; omega
  clear hc5 hg5 s2 hs1
  have split : j = 0 ∨ j = 1 ∨ j = 2 ∨ j = 3 ∨ j = 4 ∨ j = 5 ∨ 6 ≤ j := by omega
  rcases split with rfl | rfl | rfl | rfl | rfl | rfl | h6
  · go_wp2_with fail
    refine (draw_int lo g A n c code [-1, 0, 60000, 60001] W5 V.cur hn (by decide) (by decide)).mono ?_
    rintro e W6 ⟨z, hz, rfl, hc6, ho6⟩
    replace V := V.step hc6 ho6
    clear hc6 ho6 hz
    obtain ⟨d0, d1, d2, d3, d4, d5⟩ := known_box (r := ⟨ka, kb, kp, kq, ke, kf⟩) V.var
    obtain ⟨z0, z1, z2, z3, z4, z5⟩ := known_box (r := knownZero) V.zero
    have dfi := var_frozen V.var 0
    have hDl : D < W6.heap.size := (Array.getElem?_eq_some_iff.1 V.var).1
    have zf0 := var_frozen V.zero 0
    have zf1 := var_frozen V.zero 1
    have zf2 := var_frozen V.zero 2
    have zf3 := var_frozen V.zero 3
    have zf4 := var_frozen V.zero 4
    have zf5 := var_frozen V.zero 5
    have hret := (V.set 0 (.int .i64 z) ⟨z, kb, kp, kq, ke, kf⟩ rfl).ret (P := SmallK) ⟨hsb, hsq⟩
    clear V
    go_wp2_with fail
    exact bodyPost_ret (v := .agg #[.int .i64 z, .string kb, .int .i64 kp, .string kq, .int .i64 ke, .int .i64 kf]) (by simp [results, Tryd.results18, go_sem, z0, z1, z2, z3, z4, z5]) rfl hret
  · go_wp2_with fail
    refine (l3Text_any lo g A n c code W5 V.cur hn).mono ?_
    rintro e W6 ⟨s, rfl, hs, hc6, ho6⟩
    replace V := V.step hc6 ho6
    clear hc6 ho6
    obtain ⟨d0, d1, d2, d3, d4, d5⟩ := known_box (r := ⟨ka, kb, kp, kq, ke, kf⟩) V.var
    obtain ⟨z0, z1, z2, z3, z4, z5⟩ := known_box (r := knownZero) V.zero
    have dfi := var_frozen V.var 1
    have hDl : D < W6.heap.size := (Array.getElem?_eq_some_iff.1 V.var).1
    have zf0 := var_frozen V.zero 0
    have zf1 := var_frozen V.zero 1
    have zf2 := var_frozen V.zero 2
    have zf3 := var_frozen V.zero 3
    have zf4 := var_frozen V.zero 4
    have zf5 := var_frozen V.zero 5
    have hret := (V.set 1 (.string s) ⟨ka, s, kp, kq, ke, kf⟩ rfl).ret (P := SmallK) ⟨hs, hsq⟩
    clear V
    go_wp2_with fail
    exact bodyPost_ret (v := .agg #[.int .i64 ka, .string s, .int .i64 kp, .string kq, .int .i64 ke, .int .i64 kf]) (by simp [results, Tryd.results18, go_sem, z0, z1, z2, z3, z4, z5]) rfl hret
  · go_wp2_with fail
    refine (draw_int lo g A n c code [-1, 0, 1, 60000] W5 V.cur hn (by decide) (by decide)).mono ?_
    rintro e W6 ⟨z, hz, rfl, hc6, ho6⟩
    replace V := V.step hc6 ho6
    clear hc6 ho6 hz
    obtain ⟨d0, d1, d2, d3, d4, d5⟩ := known_box (r := ⟨ka, kb, kp, kq, ke, kf⟩) V.var
    obtain ⟨z0, z1, z2, z3, z4, z5⟩ := known_box (r := knownZero) V.zero
    have dfi := var_frozen V.var 2
    have hDl : D < W6.heap.size := (Array.getElem?_eq_some_iff.1 V.var).1
    have zf0 := var_frozen V.zero 0
    have zf1 := var_frozen V.zero 1
    have zf2 := var_frozen V.zero 2
    have zf3 := var_frozen V.zero 3
    have zf4 := var_frozen V.zero 4
    have zf5 := var_frozen V.zero 5
    have hret := (V.set 2 (.int .i64 z) ⟨ka, kb, z, kq, ke, kf⟩ rfl).ret (P := SmallK) ⟨hsb, hsq⟩
    clear V
    go_wp2_with fail
    exact bodyPost_ret (v := .agg #[.int .i64 ka, .string kb, .int .i64 z, .string kq, .int .i64 ke, .int .i64 kf]) (by simp [results, Tryd.results18, go_sem, z0, z1, z2, z3, z4, z5]) rfl hret
  · go_wp2_with fail
    refine (l3Text_any lo g A n c code W5 V.cur hn).mono ?_
    rintro e W6 ⟨s, rfl, hs, hc6, ho6⟩
    replace V := V.step hc6 ho6
    clear hc6 ho6
    obtain ⟨d0, d1, d2, d3, d4, d5⟩ := known_box (r := ⟨ka, kb, kp, kq, ke, kf⟩) V.var
    obtain ⟨z0, z1, z2, z3, z4, z5⟩ := known_box (r := knownZero) V.zero
    have dfi := var_frozen V.var 3
    have hDl : D < W6.heap.size := (Array.getElem?_eq_some_iff.1 V.var).1
    have zf0 := var_frozen V.zero 0
    have zf1 := var_frozen V.zero 1
    have zf2 := var_frozen V.zero 2
    have zf3 := var_frozen V.zero 3
    have zf4 := var_frozen V.zero 4
    have zf5 := var_frozen V.zero 5
    have hret := (V.set 3 (.string s) ⟨ka, kb, kp, s, ke, kf⟩ rfl).ret (P := SmallK) ⟨hsb, hs⟩
    clear V
    go_wp2_with fail
    exact bodyPost_ret (v := .agg #[.int .i64 ka, .string kb, .int .i64 kp, .string s, .int .i64 ke, .int .i64 kf]) (by simp [results, Tryd.results18, go_sem, z0, z1, z2, z3, z4, z5]) rfl hret
  · go_wp2_with fail
    refine (draw_int lo g A n c code [-1, 0, 60000, 60001] W5 V.cur hn (by decide) (by decide)).mono ?_
    rintro e W6 ⟨z, hz, rfl, hc6, ho6⟩
    replace V := V.step hc6 ho6
    clear hc6 ho6 hz
    obtain ⟨d0, d1, d2, d3, d4, d5⟩ := known_box (r := ⟨ka, kb, kp, kq, ke, kf⟩) V.var
    obtain ⟨z0, z1, z2, z3, z4, z5⟩ := known_box (r := knownZero) V.zero
    have dfi := var_frozen V.var 4
    have hDl : D < W6.heap.size := (Array.getElem?_eq_some_iff.1 V.var).1
    have zf0 := var_frozen V.zero 0
    have zf1 := var_frozen V.zero 1
    have zf2 := var_frozen V.zero 2
    have zf3 := var_frozen V.zero 3
    have zf4 := var_frozen V.zero 4
    have zf5 := var_frozen V.zero 5
    have hret := (V.set 4 (.int .i64 z) ⟨ka, kb, kp, kq, z, kf⟩ rfl).ret (P := SmallK) ⟨hsb, hsq⟩
    clear V
    go_wp2_with fail
    exact bodyPost_ret (v := .agg #[.int .i64 ka, .string kb, .int .i64 kp, .string kq, .int .i64 z, .int .i64 kf]) (by simp [results, Tryd.results18, go_sem, z0, z1, z2, z3, z4, z5]) rfl hret
  · go_wp2_with fail
    refine (draw_int lo g A n c code [-1, 1, 2] W5 V.cur hn (by decide) (by decide)).mono ?_
    rintro e W6 ⟨z, hz, rfl, hc6, ho6⟩
    replace V := V.step hc6 ho6
    clear hc6 ho6 hz
    obtain ⟨d0, d1, d2, d3, d4, d5⟩ := known_box (r := ⟨ka, kb, kp, kq, ke, kf⟩) V.var
    obtain ⟨z0, z1, z2, z3, z4, z5⟩ := known_box (r := knownZero) V.zero
    have dfi := var_frozen V.var 5
    have hDl : D < W6.heap.size := (Array.getElem?_eq_some_iff.1 V.var).1
    have zf0 := var_frozen V.zero 0
    have zf1 := var_frozen V.zero 1
    have zf2 := var_frozen V.zero 2
    have zf3 := var_frozen V.zero 3
    have zf4 := var_frozen V.zero 4
    have zf5 := var_frozen V.zero 5
    have hret := (V.set 5 (.int .i64 z) ⟨ka, kb, kp, kq, ke, z⟩ rfl).ret (P := SmallK) ⟨hsb, hsq⟩
    clear V
    go_wp2_with fail
    exact bodyPost_ret (v := .agg #[.int .i64 ka, .string kb, .int .i64 kp, .string kq, .int .i64 ke, .int .i64 z]) (by simp [results, Tryd.results18, go_sem, z0, z1, z2, z3, z4, z5]) rfl hret
  · have b0 : ((j : Int) == 0) = false := by simp; omega
    have b1 : ((j : Int) == 1) = false := by simp; omega
    have b2 : ((j : Int) == 2) = false := by simp; omega
    have b3 : ((j : Int) == 3) = false := by simp; omega
    have b4 : ((j : Int) == 4) = false := by simp; omega
    have b5 : ((j : Int) == 5) = false := by simp; omega
    obtain ⟨d0, d1, d2, d3, d4, d5⟩ := known_box (r := ⟨ka, kb, kp, kq, ke, kf⟩) V.var
    obtain ⟨z0, z1, z2, z3, z4, z5⟩ := known_box (r := knownZero) V.zero
    have hDl : D < W5.heap.size := (Array.getElem?_eq_some_iff.1 V.var).1
    have zf0 := var_frozen V.zero 0
    have zf1 := var_frozen V.zero 1
    have zf2 := var_frozen V.zero 2
    have zf3 := var_frozen V.zero 3
    have zf4 := var_frozen V.zero 4
    have zf5 := var_frozen V.zero 5
    have hret := V.ret (P := SmallK) ⟨hsb, hsq⟩
    clear V
    go_wp2_with fail
    exact bodyPost_ret (v := .agg #[.int .i64 ka, .string kb, .int .i64 kp, .string kq, .int .i64 ke, .int .i64 kf]) (by simp [results, Tryd.results18, go_sem, z0, z1, z2, z3, z4, z5]) rfl hret

/-- A state comes back. -/
def RetDk (w : World) (P : Known → Prop) (e : Ending) (w' : World) : Prop := ∃ k : Known, e = .returned (.agg #[.int .i64 k.gen, .string k.text, .int .i64 k.pGen, .string k.pText, .int .i64 k.epoch, .int .i64 k.owner]) ∧ P k ∧ Below w.heap.size w w'

set_option maxRecDepth 100000 in
set_option maxHeartbeats 8000000 in
theorem drawKnown_any (A : Option Addr) (c : Nat) (code : List UInt8) (w : World) (h : Reads w w.heap.size 1 A code.length (bys code)) (hn : code.length ≤ 1048576) :
    Calls Tryd.prog 5 #[.slice A code.length c] w (RetDk w KG) := by
  go_enter Tryd.func5, Tryd.ntmps5
  go_wp2_with fail
  have hb0 := Later.alloc w (.cells #[.int .i64 0, .string ⟨#[]⟩, .int .i64 0, .string ⟨#[]⟩, .int .i64 0, .int .i64 0] 25)
  have hv1 := heap_alloc_new w (.cells #[.int .i64 0, .string ⟨#[]⟩, .int .i64 0, .string ⟨#[]⟩, .int .i64 0, .int .i64 0] 25)
  have hs1 : (w.alloc (.cells #[.int .i64 0, .string ⟨#[]⟩, .int .i64 0, .string ⟨#[]⟩, .int .i64 0, .int .i64 0] 25)).heap.size = w.heap.size + 1 := by simp
  have h1 := (h.below hb0).more hb0.size
  generalize w.alloc (.cells #[.int .i64 0, .string ⟨#[]⟩, .int .i64 0, .string ⟨#[]⟩, .int .i64 0, .int .i64 0] 25) = W1 at hb0 hv1 hs1 h1 ⊢
  clear h
  refine (l1New_any A c code W1 h1 hn).mono ?_
  rintro e W2 ⟨g, rfl, hcur, hb1⟩
  have hgl := hcur.from_
  have hglt := hcur.lt
  have hv2 := (hb1.block w.heap.size (by omega)).trans hv1
  have hb2 : Below w.heap.size w W2 := Later.trans hb0 hb1
  clear h1 hv1 hb0 hb1
  go_wp2_with fail
  refine (l4Known_any W1.heap.size g A code.length c code W2 hcur (by omega)).mono ?_
  rintro e W3 ⟨⟨ka, kb, kp, kq, ke, kf⟩, rfl, hgood, hc3, ho3⟩
  have hv3 := (ho3.block w.heap.size (by have := hb2.size; omega) (by simp; omega)).trans hv2
  have hb3 : Below w.heap.size w W3 := Rep.Only.below hb2 ho3 hb2.size (fun a ha => by simp at ha; omega)
  obtain ⟨z0, z1, z2, z3, z4, z5⟩ := known_box (r := knownZero) hv3
  have zf0 := var_frozen hv3 0
  have zf1 := var_frozen hv3 1
  have zf2 := var_frozen hv3 2
  have zf3 := var_frozen hv3 3
  have zf4 := var_frozen hv3 4
  have zf5 := var_frozen hv3 5
  have hzl : w.heap.size < W3.heap.size := (Array.getElem?_eq_some_iff.1 hv3).1
  clear hcur hv2 hb2 hc3 ho3 hv3
  go_wp2_with fail
  refine bodyPost_ret (v := .agg #[.int .i64 ka, .string kb, .int .i64 kp, .string kq, .int .i64 ke, .int .i64 kf]) (by simp [results, Tryd.results5, go_sem, z0, z1, z2, z3, z4, z5]) rfl ⟨⟨ka, kb, kp, kq, ke, kf⟩, rfl, hgood, ?_⟩
  exact (((((hb3.setCell (p := ⟨w.heap.size, 0, none⟩) (Nat.le_refl _) _).setCell (p := ⟨w.heap.size, 1, none⟩) (Nat.le_refl _) _).setCell (p := ⟨w.heap.size, 2, none⟩) (Nat.le_refl _) _).setCell (p := ⟨w.heap.size, 3, none⟩) (Nat.le_refl _) _).setCell (p := ⟨w.heap.size, 4, none⟩) (Nat.le_refl _) _).setCell (p := ⟨w.heap.size, 5, none⟩) (Nat.le_refl _) _

/-- The draw's state and record in their boxes, the results' boxes beside them, the cursor. -/
structure RA (w : World) (lo g : Nat) (A : Option Addr) (n c : Nat) (code : List UInt8) (D : Nat) (k : Known) (E : Nat) (r : Rec) (V : World) : Prop where
  below : Below w.heap.size w V
  cur : Cur V lo g A n c code
  kbox : V.heap[D]? = some (.cells (knownC k).toArray 25 (0, 0))
  rbox : V.heap[E]? = some (.cells (recC r).toArray 32 (0, 0))
  z1 : V.heap[w.heap.size]? = some (.cells (knownC knownZero).toArray 25 (0, 0))
  z2 : V.heap[w.heap.size + 1]? = some (.cells (recC zeroRec).toArray 32 (0, 0))
  low : w.heap.size + 1 < lo
  hDg : D ≠ g
  hEg : E ≠ g
  hD : w.heap.size + 1 < D
  hE : w.heap.size + 1 < E
  hDE : D ≠ E
  hloE : lo ≤ E
theorem RA.step {V2 : World} {w V : World} {lo g : Nat} {A : Option Addr} {n c : Nat} {code : List UInt8} {D E : Nat} {k : Known} {r : Rec} (h : RA w lo g A n c code D k E r V) (hc : Cur V2 lo g A n c code) (ho : Rep.Only V V2 [g]) : RA w lo g A n c code D k E r V2 := by
  have hf := h.cur.from_
  have hl := h.low
  exact ⟨Rep.Only.below h.below ho h.below.size (fun a ha => by simp at ha; omega), hc, (ho.block _ (Array.getElem?_eq_some_iff.1 h.kbox).1 (by simpa using h.hDg)).trans h.kbox, (ho.block _ (Array.getElem?_eq_some_iff.1 h.rbox).1 (by simpa using h.hEg)).trans h.rbox, (ho.block _ (Array.getElem?_eq_some_iff.1 h.z1).1 (by simp; omega)).trans h.z1, (ho.block _ (Array.getElem?_eq_some_iff.1 h.z2).1 (by simp; omega)).trans h.z2, h.low, h.hDg, h.hEg, h.hD, h.hE, h.hDE, h.hloE⟩
theorem RA.drew {w V : World} {lo g : Nat} {A : Option Addr} {n c : Nat} {code : List UInt8} {D E : Nat} {k : Known} {r : Rec} (h : RA w lo g A n c code D k E r V) : RA w lo g A n c code D k E r V.drew := h.step h.cur.drew ((Rep.only_drew V).mono (by simp))
theorem RA.setN {w V : World} {lo g : Nat} {A : Option Addr} {n c : Nat} {code : List UInt8} {D E : Nat} {k : Known} {r : Rec} (h : RA w lo g A n c code D k E r V) (x : Int) : RA w lo g A n c code D k E ⟨r.kind, x, r.owner, r.text⟩ (V.setCell ⟨E, 1, none⟩ (.int .i64 x)) := by
  have ho := Rep.Only.setCell V (p := ⟨E, 1, none⟩) (fp := [E]) (by simp) (.int .i64 x)
  have hl := h.low
  have hE := h.hE
  have hD := h.hD
  have hf := h.cur.from_
  have hg := h.hEg
  have hde := h.hDE
  have hle := h.hloE
  refine ⟨h.below.setCell (p := ⟨E, 1, none⟩) (by show w.heap.size ≤ E; omega) _, h.cur.only ho (by simp; omega) (fun a ha => by simp at ha; omega), (ho.block _ (Array.getElem?_eq_some_iff.1 h.kbox).1 (by simp; omega)).trans h.kbox, ?_, (ho.block _ (Array.getElem?_eq_some_iff.1 h.z1).1 (by simp; omega)).trans h.z1, (ho.block _ (Array.getElem?_eq_some_iff.1 h.z2).1 (by simp; omega)).trans h.z2, h.low, h.hDg, h.hEg, h.hD, h.hE, h.hDE, h.hloE⟩
  obtain ⟨a, b, c, d⟩ := r
  exact var_set h.rbox 1 (.int .i64 x)
theorem setK6_box {W : World} {R : Nat} {k0 : Known} (h : W.heap[R]? = some (.cells (knownC k0).toArray 25 (0, 0))) (a : Int) (b : ByteArray) (p : Int) (q : ByteArray) (e f : Int) : ((((((W.setCell ⟨R, 0, none⟩ (.int .i64 a)).setCell ⟨R, 1, none⟩ (.string b)).setCell ⟨R, 2, none⟩ (.int .i64 p)).setCell ⟨R, 3, none⟩ (.string q)).setCell ⟨R, 4, none⟩ (.int .i64 e)).setCell ⟨R, 5, none⟩ (.int .i64 f)).heap[R]? = some (.cells (knownC ⟨a, b, p, q, e, f⟩).toArray 25 (0, 0)) := by
  obtain ⟨a0, b0, p0, q0, e0, f0⟩ := k0
  exact var_set (var_set (var_set (var_set (var_set (var_set h 0 (.int .i64 a)) 1 (.string b)) 2 (.int .i64 p)) 3 (.string q)) 4 (.int .i64 e)) 5 (.int .i64 f)
theorem setR4_box {W : World} {R : Nat} {r0 : Rec} (h : W.heap[R]? = some (.cells (recC r0).toArray 32 (0, 0))) (a b c : Int) (d : ByteArray) : ((((W.setCell ⟨R, 0, none⟩ (.int .i64 a)).setCell ⟨R, 1, none⟩ (.int .i64 b)).setCell ⟨R, 2, none⟩ (.int .i64 c)).setCell ⟨R, 3, none⟩ (.string d)).heap[R]? = some (.cells (recC ⟨a, b, c, d⟩).toArray 32 (0, 0)) := by
  obtain ⟨a0, b0, c0, d0⟩ := r0
  exact var_set (var_set (var_set (var_set h 0 (.int .i64 a)) 1 (.int .i64 b)) 2 (.int .i64 c)) 3 (.string d)

/-- A state and a record come back. -/
def RetDa (w : World) (e : Ending) (w' : World) : Prop := ∃ (k : Known) (r : Rec), e = .returned (.tuple #[.agg #[.int .i64 k.gen, .string k.text, .int .i64 k.pGen, .string k.pText, .int .i64 k.epoch, .int .i64 k.owner], .agg #[.int .i64 r.kind, .int .i64 r.n, .int .i64 r.owner, .string r.text]]) ∧ SmallK k ∧ r.text.size ≤ 100 ∧ Below w.heap.size w w'

set_option maxRecDepth 100000 in
set_option maxHeartbeats 8000000 in
theorem drawApply_any (A : Option Addr) (c : Nat) (code : List UInt8) (w : World) (h : Reads w w.heap.size 1 A code.length (bys code)) (hn : code.length ≤ 1048576) :
    Calls Tryd.prog 9 #[.slice A code.length c] w (RetDa w) := by
  go_enter Tryd.func9, Tryd.ntmps9
  go_wp2_with fail
  have hb0 : Below w.heap.size w ((w.alloc (.cells #[.int .i64 0, .string ⟨#[]⟩, .int .i64 0, .string ⟨#[]⟩, .int .i64 0, .int .i64 0] 25)).alloc (.cells #[.int .i64 0, .int .i64 0, .int .i64 0, .string ⟨#[]⟩] 32)) := Later.trans (Later.alloc w _) (Later.alloc _ _)
  have hv1 : ((w.alloc (.cells #[.int .i64 0, .string ⟨#[]⟩, .int .i64 0, .string ⟨#[]⟩, .int .i64 0, .int .i64 0] 25)).alloc (.cells #[.int .i64 0, .int .i64 0, .int .i64 0, .string ⟨#[]⟩] 32)).heap[w.heap.size]? = some (.cells (knownC knownZero).toArray 25 (0, 0)) := (Below.heap_alloc _ _ _ (by simp)).trans (heap_alloc_new w _)
  have hv2 : ((w.alloc (.cells #[.int .i64 0, .string ⟨#[]⟩, .int .i64 0, .string ⟨#[]⟩, .int .i64 0, .int .i64 0] 25)).alloc (.cells #[.int .i64 0, .int .i64 0, .int .i64 0, .string ⟨#[]⟩] 32)).heap[w.heap.size + 1]? = some (.cells (recC zeroRec).toArray 32 (0, 0)) := heap_alloc_new' _ _ (by simp)
  have hs1 : ((w.alloc (.cells #[.int .i64 0, .string ⟨#[]⟩, .int .i64 0, .string ⟨#[]⟩, .int .i64 0, .int .i64 0] 25)).alloc (.cells #[.int .i64 0, .int .i64 0, .int .i64 0, .string ⟨#[]⟩] 32)).heap.size = w.heap.size + 2 := by simp
  have h1 := (h.below hb0).more hb0.size
  generalize (w.alloc (.cells #[.int .i64 0, .string ⟨#[]⟩, .int .i64 0, .string ⟨#[]⟩, .int .i64 0, .int .i64 0] 25)).alloc (.cells #[.int .i64 0, .int .i64 0, .int .i64 0, .string ⟨#[]⟩] 32) = W1 at hb0 hv1 hv2 hs1 h1 ⊢
  clear h
  refine (l1New_any A c code W1 h1 hn).mono ?_
  rintro e W2 ⟨g, rfl, hcur, hb1⟩
  have hgl := hcur.from_
  have hglt := hcur.lt
  replace hv1 := (hb1.block w.heap.size (by omega)).trans hv1
  replace hv2 := (hb1.block (w.heap.size + 1) (by omega)).trans hv2
  have hb2 : Below w.heap.size w W2 := Later.trans hb0 hb1
  clear h1 hb0 hb1
  go_wp2_with fail
  refine (l4Loose_any W1.heap.size g A code.length c code W2 hcur (by omega)).mono ?_
  rintro e W3 ⟨⟨ka, kb, kp, kq, ke, kf⟩, rfl, hsm, hc3, ho3⟩
  replace hsm : kb.size ≤ 100 ∧ kq.size ≤ 100 := hsm
  have HSM := Lib.hid hsm
  have hs3 := ho3.size
  replace hv1 := (ho3.block w.heap.size (by omega) (by simp; omega)).trans hv1
  replace hv2 := (ho3.block (w.heap.size + 1) (by omega) (by simp; omega)).trans hv2
  have hb3 : Below w.heap.size w W3 := Rep.Only.below hb2 ho3 hb2.size (fun a ha => by simp at ha; omega)
  have hk4 := heap_alloc_new W3 (.cells #[.int .i64 ka, .string kb, .int .i64 kp, .string kq, .int .i64 ke, .int .i64 kf] 25)
  replace hv1 := (Below.heap_alloc W3 (.cells #[.int .i64 ka, .string kb, .int .i64 kp, .string kq, .int .i64 ke, .int .i64 kf] 25) w.heap.size (by omega)).trans hv1
  replace hv2 := (Below.heap_alloc W3 (.cells #[.int .i64 ka, .string kb, .int .i64 kp, .string kq, .int .i64 ke, .int .i64 kf] 25) (w.heap.size + 1) (by omega)).trans hv2
  have hc4 := hc3.alloc (.cells #[.int .i64 ka, .string kb, .int .i64 kp, .string kq, .int .i64 ke, .int .i64 kf] 25)
  have hb4 : Below w.heap.size w (W3.alloc (.cells #[.int .i64 ka, .string kb, .int .i64 kp, .string kq, .int .i64 ke, .int .i64 kf] 25)) := Later.trans hb3 (Later.alloc W3 _)
  have hs4 : (W3.alloc (.cells #[.int .i64 ka, .string kb, .int .i64 kp, .string kq, .int .i64 ke, .int .i64 kf] 25)).heap.size = W3.heap.size + 1 := by simp
  have hgD : g < W3.heap.size := hc3.lt
  clear hsm hcur hb2 hc3 ho3 hb3
  go_wp2_with fail
  generalize W3.alloc (.cells #[.int .i64 ka, .string kb, .int .i64 kp, .string kq, .int .i64 ke, .int .i64 kf] 25) = W4 at hk4 hv1 hv2 hc4 hb4 hs4 ⊢
  refine (l4Any_any W1.heap.size g A code.length c code W4 hc4 (by omega)).mono ?_
  rintro e W5 ⟨⟨rk, rn, ro, rt⟩, rfl, hts, hc5, ho5⟩
  replace hts : rt.size ≤ 100 := hts
  have hs5 := ho5.size
  have R : RA w W1.heap.size g A code.length c code W3.heap.size ⟨ka, kb, kp, kq, ke, kf⟩ W5.heap.size ⟨rk, rn, ro, rt⟩ (W5.alloc (.cells #[.int .i64 rk, .int .i64 rn, .int .i64 ro, .string rt] 32)) :=
    ⟨Later.trans (Rep.Only.below hb4 ho5 hb4.size (fun a ha => by simp at ha; omega)) (Later.alloc W5 _), hc5.alloc _, (Below.heap_alloc _ _ _ (by omega)).trans ((ho5.block _ (by omega) (by simp; omega)).trans hk4), heap_alloc_new _ _, (Below.heap_alloc _ _ _ (by omega)).trans ((ho5.block _ (by omega) (by simp; omega)).trans hv1), (Below.heap_alloc _ _ _ (by omega)).trans ((ho5.block _ (by omega) (by simp; omega)).trans hv2), by omega, by omega, by omega, by omega, by omega, by omega, by omega⟩
  clear hk4 hv1 hv2 hc4 hb4 hc5 ho5
  go_upto_region 4 with (fail)
  generalize W5.alloc (.cells #[.int .i64 rk, .int .i64 rn, .int .i64 ro, .string rt] 32) = W6 at R ⊢
  generalize W5.heap.size = E at R ⊢
  generalize W3.heap.size = D at R ⊢
  clear hs1 hs3 hs4 hs5 hgl hglt hgD
  by_cases hk2 : rk = 2
  · have bk : (rk == 2) = true := by simpa using hk2
    obtain ⟨e0, e1, e2, e3⟩ := rec_box (r := ⟨rk, rn, ro, rt⟩) R.rbox
    clear hk2
    go_wp2_with fail
    refine (l1Once_any W1.heap.size g A code.length c code 3 W6 R.cur (by omega) (by omega) (by omega)).mono ?_
    rintro e W7 ⟨y, rfl, hc7, hg7⟩
    replace R := R.step hc7 (only_g hg7)
    clear hc7 hg7 e0 e1 e2 e3
    cases y
    · obtain ⟨d0, d1, d2, d3, d4, d5⟩ := known_box (r := ⟨ka, kb, kp, kq, ke, kf⟩) R.kbox
      obtain ⟨e0, e1, e2, e3⟩ := rec_box (r := ⟨rk, rn, ro, rt⟩) R.rbox
      have ef1 := var_frozen R.rbox 1
      have R2 := R.setN kp
      replace R2 : RA w W1.heap.size g A code.length c code D ⟨ka, kb, kp, kq, ke, kf⟩ E ⟨rk, kp, ro, rt⟩ (W7.setCell ⟨E, 1, none⟩ (.int .i64 kp)) := R2
      clear R
      go_wp2_with fail
      generalize W7.setCell ⟨E, 1, none⟩ (.int .i64 kp) = W8 at R2 ⊢
      clear d0 d1 d2 d3 d4 d5 e0 e1 e2 e3 ef1
      have R := R2
      clear R2
      refine wp_region_lex' 100 [0, 1] [2, 3] (fun w' => w'.heap[D]? = some (.cells (knownC ⟨ka, kb, kp, kq, ke, kf⟩).toArray 25 (0, 0)) ∧ w'.heap[E]? = some (.cells (recC ⟨rk, kp, ro, rt⟩).toArray 32 (0, 0))) (by kernel_rfl) (by kernel_rfl) ⟨R.kbox, R.rbox⟩ ?_
      replace R := R.drew
      iterate 2 (refine LexR.cons rfl ?_ (fun w' hw => ?_) ?_; rotate_left; focus (obtain ⟨h1, h2⟩ := hw; obtain ⟨d0, d1, d2, d3, d4, d5⟩ := known_box (r := ⟨ka, kb, kp, kq, ke, kf⟩) h1; obtain ⟨e0, e1, e2, e3⟩ := rec_box (r := ⟨rk, kp, ro, rt⟩) h2; clear h1 h2; go_simp; (try exact rfl)); (try go_frame))
      refine LexR.nil (LexW.cons rfl ?_)
      try go_frame
      generalize W8.drew = VA at R ⊢
      obtain ⟨z0, z1, z2, z3, z4, z5⟩ := known_box (r := knownZero) R.z1
      have zf0 := var_frozen R.z1 0
      have zf1 := var_frozen R.z1 1
      have zf2 := var_frozen R.z1 2
      have zf3 := var_frozen R.z1 3
      have zf4 := var_frozen R.z1 4
      have zf5 := var_frozen R.z1 5
      have hzl : w.heap.size < VA.heap.size := (Array.getElem?_eq_some_iff.1 R.z1).1
      have o1 := putK6_only VA w.heap.size ka kb kp kq ke kf
      have hlo := R.hD
      have hlE := R.hE
      have x1 := setK6_box R.z1 ka kb kp kq ke kf
      have x2 := (o1.block (w.heap.size + 1) (Array.getElem?_eq_some_iff.1 R.z2).1 (by simp)).trans R.z2
      have x3 := (o1.block D (Array.getElem?_eq_some_iff.1 R.kbox).1 (by simp; omega)).trans R.kbox
      have x4 := (o1.block E (Array.getElem?_eq_some_iff.1 R.rbox).1 (by simp; omega)).trans R.rbox
      have x5 : Below w.heap.size w ((((((VA.setCell ⟨w.heap.size, 0, none⟩ (.int .i64 ka)).setCell ⟨w.heap.size, 1, none⟩ (.string kb)).setCell ⟨w.heap.size, 2, none⟩ (.int .i64 kp)).setCell ⟨w.heap.size, 3, none⟩ (.string kq)).setCell ⟨w.heap.size, 4, none⟩ (.int .i64 ke)).setCell ⟨w.heap.size, 5, none⟩ (.int .i64 kf)) := Rep.Only.below R.below o1 R.below.size (fun a ha => by simp at ha; omega)
      clear R o1
      go_wp2_with fail
      generalize ((((((VA.setCell ⟨w.heap.size, 0, none⟩ (.int .i64 ka)).setCell ⟨w.heap.size, 1, none⟩ (.string kb)).setCell ⟨w.heap.size, 2, none⟩ (.int .i64 kp)).setCell ⟨w.heap.size, 3, none⟩ (.string kq)).setCell ⟨w.heap.size, 4, none⟩ (.int .i64 ke)).setCell ⟨w.heap.size, 5, none⟩ (.int .i64 kf)) = VB at x1 x2 x3 x4 x5 ⊢
      refine ⟨fun _ => ⟨x3, x4⟩, LexW.cons rfl ?_⟩
      clear z0 z1 z2 z3 z4 z5 zf0 zf1 zf2 zf3 zf4 zf5 hzl
      try go_frame
      obtain ⟨y0, y1, y2, y3⟩ := rec_box (r := zeroRec) x2
      have yf0 := var_frozen x2 0
      have yf1 := var_frozen x2 1
      have yf2 := var_frozen x2 2
      have yf3 := var_frozen x2 3
      have hyl : w.heap.size + 1 < VB.heap.size := (Array.getElem?_eq_some_iff.1 x2).1
      have o2 := putR4_only VB (w.heap.size + 1) (.int .i64 rk) (.int .i64 kp) (.int .i64 ro) (.string rt)
      have u2 := setR4_box x2 rk kp ro rt
      have u1 := (o2.block w.heap.size (Array.getElem?_eq_some_iff.1 x1).1 (by simp)).trans x1
      have u3 := (o2.block D (Array.getElem?_eq_some_iff.1 x3).1 (by simp; omega)).trans x3
      have u4 := (o2.block E (Array.getElem?_eq_some_iff.1 x4).1 (by simp; omega)).trans x4
      have u5 : Below w.heap.size w ((((VB.setCell ⟨w.heap.size + 1, 0, none⟩ (.int .i64 rk)).setCell ⟨w.heap.size + 1, 1, none⟩ (.int .i64 kp)).setCell ⟨w.heap.size + 1, 2, none⟩ (.int .i64 ro)).setCell ⟨w.heap.size + 1, 3, none⟩ (.string rt)) := Rep.Only.below x5 o2 x5.size (fun a ha => by simp at ha; omega)
      clear x1 x2 x3 x4 x5 o2
      go_wp2_with fail
      generalize ((((VB.setCell ⟨w.heap.size + 1, 0, none⟩ (.int .i64 rk)).setCell ⟨w.heap.size + 1, 1, none⟩ (.int .i64 kp)).setCell ⟨w.heap.size + 1, 2, none⟩ (.int .i64 ro)).setCell ⟨w.heap.size + 1, 3, none⟩ (.string rt)) = VC at u1 u2 u3 u4 u5 ⊢
      refine ⟨fun _ => ⟨u3, u4⟩, LexW.nil ?_⟩
      clear y0 y1 y2 y3 yf0 yf1 yf2 yf3 hyl
      obtain ⟨z0, z1, z2, z3, z4, z5⟩ := known_box (r := ⟨ka, kb, kp, kq, ke, kf⟩) u1
      obtain ⟨y0, y1, y2, y3⟩ := rec_box (r := ⟨rk, kp, ro, rt⟩) u2
      clear u1 u2 u3 u4
      go_wp2_with fail
      exact bodyPost_ret (v := .tuple #[.agg #[.int .i64 ka, .string kb, .int .i64 kp, .string kq, .int .i64 ke, .int .i64 kf], .agg #[.int .i64 rk, .int .i64 kp, .int .i64 ro, .string rt]]) (by simp [results, Tryd.results9, go_sem, z0, z1, z2, z3, z4, z5, y0, y1, y2, y3]) rfl ⟨⟨ka, kb, kp, kq, ke, kf⟩, ⟨rk, kp, ro, rt⟩, rfl, HSM.out, hts, u5⟩
    · go_wp2_with fail
      refine wp_region_lex' 100 [0, 1] [2, 3] (fun w' => w'.heap[D]? = some (.cells (knownC ⟨ka, kb, kp, kq, ke, kf⟩).toArray 25 (0, 0)) ∧ w'.heap[E]? = some (.cells (recC ⟨rk, rn, ro, rt⟩).toArray 32 (0, 0))) (by kernel_rfl) (by kernel_rfl) ⟨R.kbox, R.rbox⟩ ?_
      replace R := R.drew
      iterate 2 (refine LexR.cons rfl ?_ (fun w' hw => ?_) ?_; rotate_left; focus (obtain ⟨h1, h2⟩ := hw; obtain ⟨d0, d1, d2, d3, d4, d5⟩ := known_box (r := ⟨ka, kb, kp, kq, ke, kf⟩) h1; obtain ⟨e0, e1, e2, e3⟩ := rec_box (r := ⟨rk, rn, ro, rt⟩) h2; clear h1 h2; go_simp; (try exact rfl)); (try go_frame))
      refine LexR.nil (LexW.cons rfl ?_)
      try go_frame
      generalize W7.drew = VA at R ⊢
      obtain ⟨z0, z1, z2, z3, z4, z5⟩ := known_box (r := knownZero) R.z1
      have zf0 := var_frozen R.z1 0
      have zf1 := var_frozen R.z1 1
      have zf2 := var_frozen R.z1 2
      have zf3 := var_frozen R.z1 3
      have zf4 := var_frozen R.z1 4
      have zf5 := var_frozen R.z1 5
      have hzl : w.heap.size < VA.heap.size := (Array.getElem?_eq_some_iff.1 R.z1).1
      have o1 := putK6_only VA w.heap.size ka kb kp kq ke kf
      have hlo := R.hD
      have hlE := R.hE
      have x1 := setK6_box R.z1 ka kb kp kq ke kf
      have x2 := (o1.block (w.heap.size + 1) (Array.getElem?_eq_some_iff.1 R.z2).1 (by simp)).trans R.z2
      have x3 := (o1.block D (Array.getElem?_eq_some_iff.1 R.kbox).1 (by simp; omega)).trans R.kbox
      have x4 := (o1.block E (Array.getElem?_eq_some_iff.1 R.rbox).1 (by simp; omega)).trans R.rbox
      have x5 : Below w.heap.size w ((((((VA.setCell ⟨w.heap.size, 0, none⟩ (.int .i64 ka)).setCell ⟨w.heap.size, 1, none⟩ (.string kb)).setCell ⟨w.heap.size, 2, none⟩ (.int .i64 kp)).setCell ⟨w.heap.size, 3, none⟩ (.string kq)).setCell ⟨w.heap.size, 4, none⟩ (.int .i64 ke)).setCell ⟨w.heap.size, 5, none⟩ (.int .i64 kf)) := Rep.Only.below R.below o1 R.below.size (fun a ha => by simp at ha; omega)
      clear R o1
      go_wp2_with fail
      generalize ((((((VA.setCell ⟨w.heap.size, 0, none⟩ (.int .i64 ka)).setCell ⟨w.heap.size, 1, none⟩ (.string kb)).setCell ⟨w.heap.size, 2, none⟩ (.int .i64 kp)).setCell ⟨w.heap.size, 3, none⟩ (.string kq)).setCell ⟨w.heap.size, 4, none⟩ (.int .i64 ke)).setCell ⟨w.heap.size, 5, none⟩ (.int .i64 kf)) = VB at x1 x2 x3 x4 x5 ⊢
      refine ⟨fun _ => ⟨x3, x4⟩, LexW.cons rfl ?_⟩
      clear z0 z1 z2 z3 z4 z5 zf0 zf1 zf2 zf3 zf4 zf5 hzl
      try go_frame
      obtain ⟨y0, y1, y2, y3⟩ := rec_box (r := zeroRec) x2
      have yf0 := var_frozen x2 0
      have yf1 := var_frozen x2 1
      have yf2 := var_frozen x2 2
      have yf3 := var_frozen x2 3
      have hyl : w.heap.size + 1 < VB.heap.size := (Array.getElem?_eq_some_iff.1 x2).1
      have o2 := putR4_only VB (w.heap.size + 1) (.int .i64 rk) (.int .i64 rn) (.int .i64 ro) (.string rt)
      have u2 := setR4_box x2 rk rn ro rt
      have u1 := (o2.block w.heap.size (Array.getElem?_eq_some_iff.1 x1).1 (by simp)).trans x1
      have u3 := (o2.block D (Array.getElem?_eq_some_iff.1 x3).1 (by simp; omega)).trans x3
      have u4 := (o2.block E (Array.getElem?_eq_some_iff.1 x4).1 (by simp; omega)).trans x4
      have u5 : Below w.heap.size w ((((VB.setCell ⟨w.heap.size + 1, 0, none⟩ (.int .i64 rk)).setCell ⟨w.heap.size + 1, 1, none⟩ (.int .i64 rn)).setCell ⟨w.heap.size + 1, 2, none⟩ (.int .i64 ro)).setCell ⟨w.heap.size + 1, 3, none⟩ (.string rt)) := Rep.Only.below x5 o2 x5.size (fun a ha => by simp at ha; omega)
      clear x1 x2 x3 x4 x5 o2
      go_wp2_with fail
      generalize ((((VB.setCell ⟨w.heap.size + 1, 0, none⟩ (.int .i64 rk)).setCell ⟨w.heap.size + 1, 1, none⟩ (.int .i64 rn)).setCell ⟨w.heap.size + 1, 2, none⟩ (.int .i64 ro)).setCell ⟨w.heap.size + 1, 3, none⟩ (.string rt)) = VC at u1 u2 u3 u4 u5 ⊢
      refine ⟨fun _ => ⟨u3, u4⟩, LexW.nil ?_⟩
      clear y0 y1 y2 y3 yf0 yf1 yf2 yf3 hyl
      obtain ⟨z0, z1, z2, z3, z4, z5⟩ := known_box (r := ⟨ka, kb, kp, kq, ke, kf⟩) u1
      obtain ⟨y0, y1, y2, y3⟩ := rec_box (r := ⟨rk, rn, ro, rt⟩) u2
      clear u1 u2 u3 u4
      go_wp2_with fail
      exact bodyPost_ret (v := .tuple #[.agg #[.int .i64 ka, .string kb, .int .i64 kp, .string kq, .int .i64 ke, .int .i64 kf], .agg #[.int .i64 rk, .int .i64 rn, .int .i64 ro, .string rt]]) (by simp [results, Tryd.results9, go_sem, z0, z1, z2, z3, z4, z5, y0, y1, y2, y3]) rfl ⟨⟨ka, kb, kp, kq, ke, kf⟩, ⟨rk, rn, ro, rt⟩, rfl, HSM.out, hts, u5⟩
  · have bk : (rk == 2) = false := by simpa using hk2
    obtain ⟨e0, e1, e2, e3⟩ := rec_box (r := ⟨rk, rn, ro, rt⟩) R.rbox
    go_wp2_with fail
    clear e0 e1 e2 e3
    refine wp_region_lex' 100 [0, 1] [2, 3] (fun w' => w'.heap[D]? = some (.cells (knownC ⟨ka, kb, kp, kq, ke, kf⟩).toArray 25 (0, 0)) ∧ w'.heap[E]? = some (.cells (recC ⟨rk, rn, ro, rt⟩).toArray 32 (0, 0))) (by kernel_rfl) (by kernel_rfl) ⟨R.kbox, R.rbox⟩ ?_
    replace R := R.drew
    iterate 2 (refine LexR.cons rfl ?_ (fun w' hw => ?_) ?_; rotate_left; focus (obtain ⟨h1, h2⟩ := hw; obtain ⟨d0, d1, d2, d3, d4, d5⟩ := known_box (r := ⟨ka, kb, kp, kq, ke, kf⟩) h1; obtain ⟨e0, e1, e2, e3⟩ := rec_box (r := ⟨rk, rn, ro, rt⟩) h2; clear h1 h2; go_simp; (try exact rfl)); (try go_frame))
    refine LexR.nil (LexW.cons rfl ?_)
    try go_frame
    generalize W6.drew = VA at R ⊢
    obtain ⟨z0, z1, z2, z3, z4, z5⟩ := known_box (r := knownZero) R.z1
    have zf0 := var_frozen R.z1 0
    have zf1 := var_frozen R.z1 1
    have zf2 := var_frozen R.z1 2
    have zf3 := var_frozen R.z1 3
    have zf4 := var_frozen R.z1 4
    have zf5 := var_frozen R.z1 5
    have hzl : w.heap.size < VA.heap.size := (Array.getElem?_eq_some_iff.1 R.z1).1
    have o1 := putK6_only VA w.heap.size ka kb kp kq ke kf
    have hlo := R.hD
    have hlE := R.hE
    have x1 := setK6_box R.z1 ka kb kp kq ke kf
    have x2 := (o1.block (w.heap.size + 1) (Array.getElem?_eq_some_iff.1 R.z2).1 (by simp)).trans R.z2
    have x3 := (o1.block D (Array.getElem?_eq_some_iff.1 R.kbox).1 (by simp; omega)).trans R.kbox
    have x4 := (o1.block E (Array.getElem?_eq_some_iff.1 R.rbox).1 (by simp; omega)).trans R.rbox
    have x5 : Below w.heap.size w ((((((VA.setCell ⟨w.heap.size, 0, none⟩ (.int .i64 ka)).setCell ⟨w.heap.size, 1, none⟩ (.string kb)).setCell ⟨w.heap.size, 2, none⟩ (.int .i64 kp)).setCell ⟨w.heap.size, 3, none⟩ (.string kq)).setCell ⟨w.heap.size, 4, none⟩ (.int .i64 ke)).setCell ⟨w.heap.size, 5, none⟩ (.int .i64 kf)) := Rep.Only.below R.below o1 R.below.size (fun a ha => by simp at ha; omega)
    clear R o1
    go_wp2_with fail
    generalize ((((((VA.setCell ⟨w.heap.size, 0, none⟩ (.int .i64 ka)).setCell ⟨w.heap.size, 1, none⟩ (.string kb)).setCell ⟨w.heap.size, 2, none⟩ (.int .i64 kp)).setCell ⟨w.heap.size, 3, none⟩ (.string kq)).setCell ⟨w.heap.size, 4, none⟩ (.int .i64 ke)).setCell ⟨w.heap.size, 5, none⟩ (.int .i64 kf)) = VB at x1 x2 x3 x4 x5 ⊢
    refine ⟨fun _ => ⟨x3, x4⟩, LexW.cons rfl ?_⟩
    clear z0 z1 z2 z3 z4 z5 zf0 zf1 zf2 zf3 zf4 zf5 hzl
    try go_frame
    obtain ⟨y0, y1, y2, y3⟩ := rec_box (r := zeroRec) x2
    have yf0 := var_frozen x2 0
    have yf1 := var_frozen x2 1
    have yf2 := var_frozen x2 2
    have yf3 := var_frozen x2 3
    have hyl : w.heap.size + 1 < VB.heap.size := (Array.getElem?_eq_some_iff.1 x2).1
    have o2 := putR4_only VB (w.heap.size + 1) (.int .i64 rk) (.int .i64 rn) (.int .i64 ro) (.string rt)
    have u2 := setR4_box x2 rk rn ro rt
    have u1 := (o2.block w.heap.size (Array.getElem?_eq_some_iff.1 x1).1 (by simp)).trans x1
    have u3 := (o2.block D (Array.getElem?_eq_some_iff.1 x3).1 (by simp; omega)).trans x3
    have u4 := (o2.block E (Array.getElem?_eq_some_iff.1 x4).1 (by simp; omega)).trans x4
    have u5 : Below w.heap.size w ((((VB.setCell ⟨w.heap.size + 1, 0, none⟩ (.int .i64 rk)).setCell ⟨w.heap.size + 1, 1, none⟩ (.int .i64 rn)).setCell ⟨w.heap.size + 1, 2, none⟩ (.int .i64 ro)).setCell ⟨w.heap.size + 1, 3, none⟩ (.string rt)) := Rep.Only.below x5 o2 x5.size (fun a ha => by simp at ha; omega)
    clear x1 x2 x3 x4 x5 o2
    go_wp2_with fail
    generalize ((((VB.setCell ⟨w.heap.size + 1, 0, none⟩ (.int .i64 rk)).setCell ⟨w.heap.size + 1, 1, none⟩ (.int .i64 rn)).setCell ⟨w.heap.size + 1, 2, none⟩ (.int .i64 ro)).setCell ⟨w.heap.size + 1, 3, none⟩ (.string rt)) = VC at u1 u2 u3 u4 u5 ⊢
    refine ⟨fun _ => ⟨u3, u4⟩, LexW.nil ?_⟩
    clear y0 y1 y2 y3 yf0 yf1 yf2 yf3 hyl
    obtain ⟨z0, z1, z2, z3, z4, z5⟩ := known_box (r := ⟨ka, kb, kp, kq, ke, kf⟩) u1
    obtain ⟨y0, y1, y2, y3⟩ := rec_box (r := ⟨rk, rn, ro, rt⟩) u2
    clear u1 u2 u3 u4
    go_wp2_with fail
    exact bodyPost_ret (v := .tuple #[.agg #[.int .i64 ka, .string kb, .int .i64 kp, .string kq, .int .i64 ke, .int .i64 kf], .agg #[.int .i64 rk, .int .i64 rn, .int .i64 ro, .string rt]]) (by simp [results, Tryd.results9, go_sem, z0, z1, z2, z3, z4, z5, y0, y1, y2, y3]) rfl ⟨⟨ka, kb, kp, kq, ke, kf⟩, ⟨rk, rn, ro, rt⟩, rfl, HSM.out, hts, u5⟩

end Go.Proofs.YtlnmlfpkpplgoaaDoor
