/- ParseConf of the program. -/
import Derived.Test.YtlnmlfpkpplgoaaDoorReadConf
import Derived.Test.YtlnmlfpkpplgoaaDoorAs
namespace Go.Proofs.YtlnmlfpkpplgoaaDoor
open Go.RowKit
set_option maxRecDepth 100000
set_option linter.unusedVariables false

theorem endDb_five {ps : List (List UInt8)} {d : Db} (h : endDb ps = some d) : ps.length = 5 := by
  rcases ps with _ | ⟨n, _ | ⟨a, _ | ⟨b, _ | ⟨c, _ | ⟨e, _ | ⟨f, ps⟩⟩⟩⟩⟩⟩
  · cases h
  · cases h
  · cases h
  · cases h
  · cases h
  · rfl
  · cases h
theorem run_len : ∀ (n : Nat) (T cur : List UInt8) (ps : List (List UInt8)) (xs ys : List Db), T.length ≤ n → runC T cur ps xs = some ys → 5 * ys.length ≤ 5 * xs.length + ps.length + T.length := by
  intro n
  induction n with
  | zero =>
    intro T cur ps xs ys h h1
    obtain rfl : T = [] := List.eq_nil_of_length_eq_zero (by omega)
    have h2 : some xs = some ys := h1
    injection h2 with h2
    subst h2
    omega
  | succ n ih =>
    intro T cur ps xs ys h h1
    cases T with
    | nil =>
      have h2 : some xs = some ys := h1
      injection h2 with h2
      subst h2
      omega
    | cons b r =>
      have hl : r.length ≤ n := by simp at h; omega
      rw [runC_cons] at h1
      split at h1
      · have := ih _ _ _ _ _ hl h1; simp; omega
      · split at h1
        · cases h1
        · split at h1
          · split at h1
            · cases h1
            · rename_i d hd
              have h5 := endDb_five hd
              have := ih _ _ _ _ _ hl h1
              simp at this h5 ⊢; omega
          · have := ih _ _ _ _ _ hl h1; simp at this ⊢; omega
theorem endDb_name {ps : List (List UInt8)} {d : Db} {N : Nat} (h : endDb ps = some d) (hp : ∀ p, p ∈ ps → p.length ≤ N) : d.name.size ≤ N := by
  rcases ps with _ | ⟨n, _ | ⟨a, _ | ⟨b, _ | ⟨c, _ | ⟨e, _ | ⟨f, ps⟩⟩⟩⟩⟩⟩
  · cases h
  · cases h
  · cases h
  · cases h
  · cases h
  · have h' : mk5 65535 n a b c e = some d := h
    obtain ⟨_, rfl⟩ := mk5_some h'
    have := hp n (by simp)
    show n.toArray.size ≤ N
    simpa using this
  · cases h
theorem run_fit {N : Nat} : ∀ (n : Nat) (T cur : List UInt8) (ps : List (List UInt8)) (xs ys : List Db), T.length ≤ n → cur.length + T.length ≤ N + 1 → (∀ p, p ∈ ps → p.length ≤ N) → (∀ d, d ∈ xs → d.name.size ≤ N) → runC T cur ps xs = some ys → ∀ d, d ∈ ys → d.name.size ≤ N := by
  intro n
  induction n with
  | zero =>
    intro T cur ps xs ys h _ _ hx h1
    obtain rfl : T = [] := List.eq_nil_of_length_eq_zero (by omega)
    have h2 : some xs = some ys := h1
    injection h2 with h2
    subst h2
    exact hx
  | succ n ih =>
    intro T cur ps xs ys h hc hp hx h1
    cases T with
    | nil =>
      have h2 : some xs = some ys := h1
      injection h2 with h2
      subst h2
      exact hx
    | cons b r =>
      have hl : r.length ≤ n := by simp at h; omega
      have hcr : cur.length + r.length + 1 ≤ N + 1 := by simp at hc; omega
      have hp' : ∀ p, p ∈ ps ++ [cur] → p.length ≤ N := fun p h => by
        rcases List.mem_append.1 h with h | h
        · exact hp p h
        · rw [List.mem_singleton.1 h]; omega
      rw [runC_cons] at h1
      split at h1
      · exact ih _ _ _ _ _ hl (by simp; omega) hp hx h1
      · split at h1
        · cases h1
        · split at h1
          · split at h1
            · cases h1
            · rename_i d hd
              refine ih _ _ _ _ _ hl (by simp; omega) (fun p h => by cases h) (fun z hz => ?_) h1
              rcases List.mem_append.1 hz with h | h
              · exact hx z h
              · rw [List.mem_singleton.1 h]; exact endDb_name hd hp'
          · exact ih _ _ _ _ _ hl (by simp; omega) hp' hx h1

set_option maxRecDepth 100000 in
set_option maxHeartbeats 4000000 in
theorem parseConf_any (s : ByteArray) (w : World) (ht : Tab w) (hg : w.cell? ⟨0, 0, none⟩ = some (.iface 106 (.agg #[.pointer (some ⟨4, 65, none⟩)]))) (hs : s.size ≤ 1048576) : Calls Tryd.prog 29 #[.string s] w (RetConf w (parseI s.data.toList)) := by
  obtain ⟨res, hres⟩ : ∃ res, parseI s.data.toList = res := ⟨_, rfl⟩
  have HR := Lib.hid hres
  rw [hres]
  have hsl : s.data.toList.length = s.size := by simp
  have HSL := Lib.hid hsl
  have HG := Lib.hid hg
  have h0 : 0 < w.heap.size := World.block_lt_of_cell? w ⟨0, 0, none⟩ hg
  clear hres hsl hg
  go_enter Tryd.func29, Tryd.ntmps29
  go_wp2_with fail
  refine (readConf_any s w ht (by omega)).mono ?_
  rintro e W1 (⟨hn, ⟨n, rfl⟩, hb⟩ | ⟨A, c, xs, fp, hy, rfl, hown, hb⟩)
  · have HN := Lib.hid (show res = ([], false) by rw [← HR.out]; unfold parseI; rw [hn]; rfl)
    clear hn
    have hgA : (W1.alloc (.cells #[.int .i64 0] 69)).cell? ⟨0, 0, none⟩ = some (.iface 106 (.agg #[.pointer (some ⟨4, 65, none⟩)])) := (((Below.refl W1.heap.size W1).alloc (Nat.le_refl _) _).cell (show 0 < W1.heap.size by have := hb.size; omega)).trans ((hb.cell h0).trans HG.out)
    have V := heap_alloc_new W1 (.cells #[.int .i64 0] 69)
    have htA : (W1.alloc (.cells #[.int .i64 0] 69)).cell? ⟨W1.heap.size, 0, none⟩ = some (.int .i64 0) := var_cell V 0
    have hfA : (W1.alloc (.cells #[.int .i64 0] 69)).frozen? ⟨W1.heap.size, 0, none⟩ = false := var_frozen V 0
    have hbA : Below w.heap.size w (W1.alloc (.cells #[.int .i64 0] 69)) := hb.alloc hb.size _
    have hb1 := hb.size
    have C := as_hit n ⟨W1.heap.size, 0, none⟩ (.int .i64 0) _ hgA htA hfA
    have HC := Lib.hid C
    clear C V hgA htA hfA
    go_wp2_with fail
    refine HC.out.mono ?_
    rintro e W2 ⟨rfl, rfl⟩
    have hb2 : Below w.heap.size w _ := Below.setCell ((((hbA.alloc hbA.size (.cells #[.pointer (some ⟨W1.heap.size, 0, none⟩)] 71)).alloc (by simp; omega) (.cells #[.pointer (some ⟨4, 71, none⟩), .pointer (some ⟨(W1.alloc (.cells #[.int .i64 0] 69)).heap.size, 0, none⟩), .int .u64 150] 92)).alloc (by simp; omega) (.cells #[.pointer (some ⟨4, 71, none⟩), .pointer (some ⟨(W1.alloc (.cells #[.int .i64 0] 69)).heap.size, 0, none⟩), .int .u64 150] 92)).alloc (by simp; omega) (.cells #[.int .i64 n] 69)) (p := ⟨W1.heap.size, 0, none⟩) hb1 (.int .i64 n)
    generalize hW : World.setCell _ _ _ = W3 at hb2 ⊢
    clear hW HC
    go_wp2_with fail
    go_ret2
    exact retNone hb2 HN.out
  · have hlen := run_len _ _ _ _ _ _ (Nat.le_refl _) hy
    have hfit := run_fit (N := s.size) _ _ _ _ _ _ (Nat.le_refl _) (by simp) (fun p h => by cases h) (fun d h => by cases h) hy
    have HF := Lib.hid (show FitsDbs xs from ⟨by simp at hlen; omega, fun x hx => by have := hfit x hx; omega⟩)
    obtain ⟨y, hyy⟩ : ∃ y, confB xs = y := ⟨_, rfl⟩
    have HRes := Lib.hid (show res = if y = true then (xs, true) else ([], false) by rw [← HR.out, ← hyy]; unfold parseI; rw [hy]; rfl)
    have HY := Lib.hid hyy
    clear hy hlen hfit hyy
    have hown2 := hown.alloc (.cells #[.int .i64 0] 69)
    have hbA : Below w.heap.size w (W1.alloc (.cells #[.int .i64 0] 69)) := hb.alloc hb.size _
    have hle : xs.length ≤ c := by
      obtain ⟨A', c', he, hle, _, _⟩ := hown.reads
      injection he with _ _ he
      omega
    have C := as_nil (.iface 71 (.pointer (some ⟨W1.heap.size, 0, none⟩))) (W1.alloc (.cells #[.int .i64 0] 69))
    have HC := Lib.hid C
    clear C
    go_wp2_with fail
    refine HC.out.mono ?_
    generalize W1.alloc (.cells #[.int .i64 0] 69) = W3 at hown2 hbA ⊢
    rintro e w9 ⟨rfl, rfl⟩
    clear HC hown hb
    obtain ⟨A', c', he, _, _, hrows⟩ := hown2.reads
    injection he with he1 he2 he3
    subst he1
    clear he2 he3
    have HO := Lib.hid hown2
    have C := confOk_any A c xs _ hrows hle HF.out
    have HC := Lib.hid C
    clear C hrows hown2
    go_wp2_with fail
    refine HC.out.mono ?_
    rintro e W4 ⟨rfl, hb4⟩
    rw [HY.out]
    have hb5 := hbA.trans (hb4.mono hbA.size)
    have hO4 := Lib.hid (HO.out.of_below hb4)
    clear HC hb4
    cases y
    · go_wp2_with fail
      go_ret2
      exact retNone hb5 HRes.out
    · go_wp2_with fail
      go_ret2
      exact ⟨A, c, fp, by rw [HRes.out]; rfl, by rw [HRes.out]; exact ⟨_, rfl, hO4.out⟩, hb5⟩
end Go.Proofs.YtlnmlfpkpplgoaaDoor
