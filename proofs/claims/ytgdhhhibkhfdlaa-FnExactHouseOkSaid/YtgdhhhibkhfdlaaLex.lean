/- A region that draws its order, whose reads may all be taken first and whose writing operations are then forced into one order: walked so. What the reads look at is named by one condition S on the world; S is to be shown behind every writing operation but the last one, number z. Over any program. -/
import Derived.OrdersHeld
import Derived.Deep.RegionHeld3
import Derived.Tactics
import Derived.KernelRfl
import Derived.WalkKit
namespace Go.Proofs.Ytgdhhhibkhfdlaa
set_option linter.unusedVariables false

section
variable {P : Program} {ops : Array Oper} {Q : Exit → Act → World → Prop} {md : Region.Mode} {S : World → Prop} {z : Nat}

def wpAnyL (P : Program) (md : Region.Mode) (ops : Array Oper) (Q : Exit → Act → World → Prop) (S : World → Prop) (z : Nat) : Nat → Array Bool → Act → World → Prop
  | 0, listed, a, w => Region.ready md ops listed = [] ∧ Q .normal a w
  | fuel + 1, listed, a, w =>
    (Region.ready md ops listed = [] → Q .normal a w) ∧
    ∀ i ∈ Region.ready md ops listed, wpOp P ops Q i (fun a' w' => (i ≠ z → S w') ∧ wpAnyL P md ops Q S z fuel (listed.setIfInBounds i true) a' w') a w

theorem wpAny_of_lex : ∀ (fuel : Nat) (listed : Array Bool) (a : Act) (w : World), wpAnyL P md ops Q S z fuel listed a w → wpAny P md ops Q fuel listed a w
  | 0, _, _, _, h => h
  | fuel + 1, _, _, _, h => ⟨h.1, fun i hi => wpOp_mono (fun a' w' h' => wpAny_of_lex fuel _ a' w' h'.2) (h.2 i hi)⟩

theorem wpAnyL_first {i : Nat} {oi : Oper} {v : Value} (hi : ops[i]? = some oi) (hsel : ∀ (j : Nat) (o : Oper) cs b, ops[j]? = some o → o.op ≠ .select cs b)
    (hQ : ∀ c a w, Q (.panic c) (a.put oi.dst v) w → Q (.panic c) a w) (hz : ∀ oz, ops[z]? = some oz → ∃ e ∈ oz.after, Region.binds md e = true ∧ e.on = i) :
    ∀ (fuel : Nat) (listed : Array Bool) (a : Act) (w : World),
      (∀ j oj, ops[j]? = some oj → j ≠ i → listed.getD j true = false → (∀ e ∈ oj.after, Region.binds md e = true → e.on ≠ i) → oi.apart ops oj = true) →
      i ∈ Region.ready md ops listed → YieldsIf P ops S oi v a → S w →
      wpAnyL P md ops Q S z fuel (listed.setIfInBounds i true) (a.put oi.dst v) w → wpAnyL P md ops Q S z (fuel + 1) listed a w := by
  intro fuel
  induction fuel with
  | zero =>
    intro listed a w _ hr hy hS H
    refine ⟨fun h => (by rw [h] at hr; cases hr), fun j hj => ?_⟩
    by_cases hji : j = i
    · subst hji; exact hy.wpOp hi hS ⟨fun _ => hS, H⟩
    · have := ready_mono hj hji
      rw [H.1] at this
      cases this
  | succ fuel ih =>
    intro listed a w hfree hr hy hS H
    refine ⟨fun h => (by rw [h] at hr; cases hr), fun j hj => ?_⟩
    by_cases hji : j = i
    · subst hji; exact hy.wpOp hi hS ⟨fun _ => hS, H⟩
    · have h1 := H.2 j (ready_mono hj hji)
      obtain ⟨hjun, oj, hoj, hall⟩ := mem_ready.1 hj
      have hnot : ∀ e ∈ oj.after, Region.binds md e = true → e.on ≠ i := fun e he hb heq => by
        have h1 := hall e he hb
        have h0 := (mem_ready.1 hr).1
        rw [heq] at h1
        rcases Nat.lt_or_ge i listed.size with h' | h'
        · simp [h'] at h0 h1; rw [h0] at h1; cases h1
        · simp [Array.getElem?_eq_none h'] at h1
      have hjz : j ≠ z := fun e => by
        subst e
        obtain ⟨e, he, hb, hon⟩ := hz oj hoj
        exact hnot e he hb hon
      have h2 := wpOp_putIf hoj (hfree j oj hoj hji hjun hnot) (fun cs b => hsel i oi cs b hi) (fun cs b => hsel j oj cs b hoj) hQ hy h1
      have hfree' : ∀ k ok, ops[k]? = some ok → k ≠ i → (listed.setIfInBounds j true).getD k true = false →
          (∀ e ∈ ok.after, Region.binds md e = true → e.on ≠ i) → oi.apart ops ok = true := fun k ok hk hki hun hno => by
        refine hfree k ok hk hki ?_ hno
        by_cases hjk : j = k
        · subst hjk; exact hjun
        · rw [getD_set_ne true hjk] at hun; exact hun
      refine wpOp_mono (fun a' w' h3 => ⟨fun _ => h3.2.1 hjz, ih (listed.setIfInBounds j true) a' w' hfree' (ready_mono hr (Ne.symm hji)) h3.1 (h3.2.1 hjz) ?_⟩) h2
      rw [Array.setIfInBounds_comm _ _ hji]
      exact h3.2.2

/-! ### the two lists: the reads, in the order in which they are taken; the writing operations, in the order into which they are forced -/

def lexReads (md : Region.Mode) (ops : Array Oper) (z : Nat) : List Nat → Array Bool → Option (Array Bool)
  | [], L => some L
  | i :: r, L => if Region.free md ops L i && (Region.ready md ops L).contains i && ((ops[z]?).map (fun oz => oz.after.any fun e => Region.binds md e && e.on == i)).getD true && ((ops[i]?).map (fun o => o.guard.isNone)).getD false then lexReads md ops z r (L.setIfInBounds i true) else none
def lexWrites (md : Region.Mode) (ops : Array Oper) (z : Nat) : List Nat → Array Bool → Bool
  | [], L => (Region.ready md ops L).isEmpty
  | i :: r, L => (Region.ready md ops L == [i]) && (i != z || r.isEmpty) && lexWrites md ops z r (L.setIfInBounds i true)
def lexCheck (ops : Array Oper) (z : Nat) (rs ws : List Nat) : Bool :=
  Region.noSelect ops && (rs.length + ws.length == ops.size) && match lexReads .any ops z rs (Array.replicate ops.size false) with
    | some L => lexWrites .any ops z ws L
    | none => false

/-- The reads, one after the other: each yields one value in every world that meets S. -/
def LexR (P : Program) (ops : Array Oper) (S : World → Prop) : List Nat → (Act → Prop) → Act → Prop
  | [], K, a => K a
  | i :: r, K, a => ∃ o v, ops[i]? = some o ∧ (∀ w, S w → (execOp a.eval o).run P w = .ok (.value v) w) ∧ LexR P ops S r K (a.put o.dst v)

/-- The writing operations. -/
def LexW (P : Program) (ops : Array Oper) (Q : Exit → Act → World → Prop) (S : World → Prop) (z : Nat) : List Nat → Act → World → Prop
  | [], a, w => Q .normal a w
  | i :: r, a, w => ∃ o, ops[i]? = some o ∧ wpList P ops (Exit.then (fun a' w' => (i ≠ z → S w') ∧ LexW P ops Q S z r a' w') Q) [o] a w

theorem Oper.wp_post {o : Oper} {a : Act} {w : World} {K next : Act → World → Prop} (h : o.wp P a w K (Exit.then next Q)) : o.wp P a w K Q := by
  unfold Oper.wp at *
  generalize (execOp a.eval o).run P w = r at *
  cases r with
  | ok n w' =>
    cases n <;> simp only [Oper.upon] at h ⊢ <;>
      first
        | exact h
        | exact (Calls.mono h (fun e w'' he => by (cases e <;> exact he)))
        | exact (Rows.mono h (fun _ _ he => he))
  | halt x w' => cases x <;> simp only [Oper.upon] at h ⊢ <;> exact h

theorem lexWrites_sound : ∀ (ws : List Nat) (L : Array Bool) (a : Act) (w : World), lexWrites md ops z ws L = true → LexW P ops Q S z ws a w → wpAnyL P md ops Q S z ws.length L a w
  | [], L, a, w, hc, h => by
    simp only [lexWrites, List.isEmpty_iff] at hc
    exact ⟨hc, h⟩
  | i :: r, L, a, w, hc, h => by
    simp only [lexWrites, Bool.and_eq_true, beq_iff_eq] at hc
    obtain ⟨⟨hr, hz⟩, hc⟩ := hc
    obtain ⟨o, ho, h⟩ := h
    refine ⟨(fun h0 => by rw [hr] at h0; cases h0), fun j hj => ?_⟩
    rw [hr] at hj
    obtain rfl : j = i := by simpa using hj
    unfold wpOp
    simp only [ho]
    unfold wpList at h
    split at h
    · rename_i hw
      simp only [hw, if_true]
      rcases h with h | ⟨h1, h2⟩
      · refine .inl (Oper.wp_post (Oper.wp_mono (fun a' w' h3 => ?_) h))
        have h4 : (j ≠ z → S w') ∧ LexW P ops Q S z r a' w' := h3
        exact ⟨h4.1, lexWrites_sound r _ a' w' hc h4.2⟩
      · exact .inr ⟨h1, h2⟩
    · rename_i hw
      simp only [hw]
      have h4 : (j ≠ z → S w) ∧ LexW P ops Q S z r (a.put o.dst undef) w := h
      exact ⟨h4.1, lexWrites_sound r _ _ w hc h4.2⟩

theorem lexReads_sound (hs : Region.noSelect ops = true) (hQ : ∀ c a d v w, Q (.panic c) (Act.put a d v) w → Q (.panic c) a w) : ∀ (rs : List Nat) (L L' : Array Bool) (fuel : Nat) (K : Act → Prop) (a : Act) (w : World), lexReads md ops z rs L = some L' → S w → LexR P ops S rs K a →
    (∀ a', K a' → wpAnyL P md ops Q S z fuel L' a' w) → wpAnyL P md ops Q S z (rs.length + fuel) L a w
  | [], L, L', fuel, K, a, w, hc, hS, h, hk => by
    simp only [lexReads] at hc
    injection hc with hc
    subst hc
    rw [List.length_nil, Nat.zero_add]
    exact hk a h
  | i :: r, L, L', fuel, K, a, w, hc, hS, h, hk => by
    simp only [lexReads] at hc
    split at hc
    · rename_i hb
      simp only [Bool.and_eq_true] at hb
      obtain ⟨⟨⟨hf, hr⟩, hz⟩, hg⟩ := hb
      obtain ⟨o, v, ho, hv, h⟩ := h
      have ih := lexReads_sound hs hQ r _ L' fuel K (a.put o.dst v) w hc hS h hk
      have e : (i :: r).length + fuel = (r.length + fuel) + 1 := by simp only [List.length_cons]; omega
      rw [e]
      have hgd : o.guard = none := by simpa [ho] using hg
      refine wpAnyL_first ho (Region.noSelect_spec hs) (fun c a w => hQ c a o.dst v w) (fun oz hoz => ?_) _ L a w (Region.free_spec ho hf) (by simpa using hr) (.inl ⟨by simp [Region.wanted, hgd], hv⟩) hS ih
      simp only [hoz, Option.map_some, Option.getD_some] at hz
      obtain ⟨e, he, hb⟩ := Array.any_eq_true'.1 hz
      simp only [Bool.and_eq_true, beq_iff_eq] at hb
      exact ⟨e, he, hb.1, hb.2⟩
    · cases hc

/-- THE REGION: the reads 'rs' first, then the writing operations 'ws', the last of them number z. -/
theorem wp_region_lex {id : Nat} {a : Act} {w : World} (z : Nat) (rs ws : List Nat) (S : World → Prop) (hm : P.follows .mixedOrders = true) (hc : lexCheck ops z rs ws = true) (hQ : ∀ c a d v w, Q (.panic c) (Act.put a d v) w → Q (.panic c) a w)
    (hS : S w.drew) (h : LexR P ops S rs (fun a' => LexW P ops Q S z ws a' w.drew) a) : (Code.region id ops true).wp P Q a w := by
  simp only [lexCheck, Bool.and_eq_true, beq_iff_eq] at hc
  obtain ⟨⟨hs, hn⟩, hc⟩ := hc
  split at hc
  · rename_i L hL
    refine wp_region_any hm (wpAny_of_lex (S := S) (z := z) _ _ _ _ ?_)
    rw [← hn]
    rw [← hn] at hL
    exact lexReads_sound hs hQ rs _ L ws.length _ a _ hL hS h fun a' ha => lexWrites_sound ws L a' _ hc ha
  · cases hc

/-- The same where the post of a panic may hang on the frame: the region is shown not to panic. -/
theorem wp_region_lex' {id : Nat} {a : Act} {w : World} (z : Nat) (rs ws : List Nat) (S : World → Prop) (hm : P.follows .mixedOrders = true) (hc : lexCheck ops z rs ws = true)
    (hS : S w.drew) (h : LexR P ops S rs (fun a' => LexW P ops (NoPanic Q) S z ws a' w.drew) a) : (Code.region id ops true).wp P Q a w :=
  wp_region_noPanic (wp_region_lex z rs ws S hm hc (fun _ _ _ _ _ h => h) hS h)

theorem LexR.cons {i : Nat} {r : List Nat} {K : Act → Prop} {a : Act} {o : Oper} (ho : ops.toList[i]? = some o) (v : Value) (hv : ∀ w, S w → (execOp a.eval o).run P w = .ok (.value v) w) (h : LexR P ops S r K (a.put o.dst v)) : LexR P ops S (i :: r) K a := ⟨o, v, by simpa using ho, hv, h⟩
theorem LexR.nil {K : Act → Prop} {a : Act} (h : K a) : LexR P ops S [] K a := h
theorem LexW.nil {a : Act} {w : World} (h : Q .normal a w) : LexW P ops (NoPanic Q) S z [] a w := NoPanic.normal h
theorem LexW.cons {i : Nat} {r : List Nat} {a : Act} {w : World} {o : Oper} (ho : ops.toList[i]? = some o) (h : wpList P ops (Exit.then (fun a' w' => (i ≠ z → S w') ∧ LexW P ops Q S z r a' w') Q) [o] a w) : LexW P ops Q S z (i :: r) a w := ⟨o, by simpa using ho, h⟩

/-! ### where a store may come early or late: the orders parted by hand -/

/-- The operations rs are done. -/
def doneL (L : Array Bool) : List Nat → Array Bool
  | [] => L
  | i :: r => doneL (L.setIfInBounds i true) r
theorem lexReads_done : ∀ (rs : List Nat) (L L' : Array Bool), lexReads md ops z rs L = some L' → L' = doneL L rs
  | [], L, L', h => by
    simp only [lexReads] at h
    injection h with h
    exact h.symm
  | i :: r, L, L', h => by
    simp only [lexReads] at h
    split at h
    · exact lexReads_done r _ L' h
    · cases h

/-- The region, its orders still open. -/
theorem wp_region_open {id : Nat} {a : Act} {w : World} (z : Nat) (S : World → Prop) (hm : P.follows .mixedOrders = true) (h : wpAnyL P .any ops (NoPanic Q) S z ops.size (Array.replicate ops.size false) a w.drew) : (Code.region id ops true).wp P Q a w :=
  wp_region_noPanic (wp_region_any hm (wpAny_of_lex (S := S) (z := z) _ _ _ _ h))

/-- The reads rs may be taken first. -/
theorem wpAnyL_reads (rs : List Nat) {fuel : Nat} {L : Array Bool} {a : Act} {w : World} (hc : (Region.noSelect ops && (lexReads .any ops z rs L).isSome) = true) (hS : S w)
    (h : LexR P ops S rs (fun a' => wpAnyL P .any ops (NoPanic Q) S z fuel (doneL L rs) a' w) a) : wpAnyL P .any ops (NoPanic Q) S z (rs.length + fuel) L a w := by
  simp only [Bool.and_eq_true] at hc
  rcases hL : lexReads .any ops z rs L with _ | L'
  · rw [hL] at hc; cases hc.2
  · exact lexReads_sound hc.1 (fun _ _ _ _ _ h => h) rs L L' fuel _ a w hL hS h fun a' ha => by rw [lexReads_done rs L L' hL]; exact ha

theorem wpAnyL_step {i : Nat} {fuel : Nat} {L : Array Bool} {a : Act} {w : World} (h : ∃ o, ops[i]? = some o ∧ wpList P ops (Exit.then (fun a' w' => (i ≠ z → S w') ∧ wpAnyL P md ops Q S z fuel (L.setIfInBounds i true) a' w') Q) [o] a w) :
    wpOp P ops Q i (fun a' w' => (i ≠ z → S w') ∧ wpAnyL P md ops Q S z fuel (L.setIfInBounds i true) a' w') a w := by
  obtain ⟨o, ho, h⟩ := h
  unfold wpOp
  simp only [ho]
  unfold wpList at h
  split at h
  · rename_i hw
    simp only [hw, if_true]
    rcases h with h | ⟨h1, h2⟩
    · exact .inl (Oper.wp_post (Oper.wp_mono (fun a' w' h3 => h3) h))
    · exact .inr ⟨h1, h2⟩
  · rename_i hw
    simp only [hw]
    exact h

/-- Two operations are ready. -/
theorem wpAnyL_two {i j : Nat} {fuel : Nat} {L : Array Bool} {a : Act} {w : World} (hr : (Region.ready md ops L == [i, j]) = true)
    (h1 : ∃ o, ops[i]? = some o ∧ wpList P ops (Exit.then (fun a' w' => (i ≠ z → S w') ∧ wpAnyL P md ops Q S z fuel (L.setIfInBounds i true) a' w') Q) [o] a w)
    (h2 : ∃ o, ops[j]? = some o ∧ wpList P ops (Exit.then (fun a' w' => (j ≠ z → S w') ∧ wpAnyL P md ops Q S z fuel (L.setIfInBounds j true) a' w') Q) [o] a w) : wpAnyL P md ops Q S z (fuel + 1) L a w := by
  rw [beq_iff_eq] at hr
  refine ⟨(fun h0 => by rw [hr] at h0; cases h0), fun k hk => ?_⟩
  rw [hr] at hk
  simp only [List.mem_cons, List.not_mem_nil, or_false] at hk
  rcases hk with rfl | rfl
  · exact wpAnyL_step h1
  · exact wpAnyL_step h2
/-- One operation is ready. -/
theorem wpAnyL_one {i : Nat} {fuel : Nat} {L : Array Bool} {a : Act} {w : World} (hr : (Region.ready md ops L == [i]) = true)
    (h1 : ∃ o, ops[i]? = some o ∧ wpList P ops (Exit.then (fun a' w' => (i ≠ z → S w') ∧ wpAnyL P md ops Q S z fuel (L.setIfInBounds i true) a' w') Q) [o] a w) : wpAnyL P md ops Q S z (fuel + 1) L a w := by
  rw [beq_iff_eq] at hr
  refine ⟨(fun h0 => by rw [hr] at h0; cases h0), fun k hk => ?_⟩
  rw [hr] at hk
  simp only [List.mem_cons, List.not_mem_nil, or_false] at hk
  subst hk
  exact wpAnyL_step h1
/-- From here on the order is forced. -/
theorem wpAnyL_writes (ws : List Nat) {L : Array Bool} {a : Act} {w : World} (hc : lexWrites md ops z ws L = true) (h : LexW P ops Q S z ws a w) : wpAnyL P md ops Q S z ws.length L a w := lexWrites_sound ws L a w hc h
theorem lexA_get {i : Nat} {o : Oper} {K : Oper → Prop} (ho : ops.toList[i]? = some o) (h : K o) : ∃ o, ops[i]? = some o ∧ K o := ⟨o, by simpa using ho, h⟩
end
end Go.Proofs.Ytgdhhhibkhfdlaa
