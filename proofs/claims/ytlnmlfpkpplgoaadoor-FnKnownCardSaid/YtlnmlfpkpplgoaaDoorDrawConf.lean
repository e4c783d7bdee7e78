/- What FnConfs says of configurations, in plain lists. The draws of chapter 3: a database, a configuration, any list of databases, a text. Any list of databases that is drawn. Texts of configurations that are drawn; bytes that are bent. The draws of FnConfs. -/
import Derived.Test.YtlnmlfpkpplgoaaDoorConfBack
import Derived.Test.YtlnmlfpkpplgoaaDoorConfAt
import Derived.Test.YtlnmlfpkpplgoaaDoorDbNe
import Derived.Test.YtlnmlfpkpplgoaaDoorCur
import Derived.Test.YtlnmlfpkpplgoaaDoorConfTextS
import Derived.Test.YtlnmlfpkpplgoaaDoorParseConfS
import Derived.Deep.Cut
import Derived.Deep.CutBlock
import Derived.Test.YtlnmlfpkpplgoaaDoorTurn
import Derived.Laws.IdiomStrings
import Derived.Lib.ConvBytes
namespace Go.Proofs.YtlnmlfpkpplgoaaDoor
open Go.RowKit
set_option maxRecDepth 100000
set_option linter.unusedVariables false

theorem confT_no {xs : List Db} (h : confB xs = false) : confT xs = ⟨#[]⟩ := by unfold confT; rw [h]; rfl
theorem confT_yes {xs : List Db} (h : confB xs = true) : (confT xs).data.toList = Lib.join (xs.map dbL) [59] := by unfold confT; rw [h]; rfl
theorem parse_nil : parseS [] = ([], false) := by
  cases h : parseS [] with
  | mk ys b =>
    cases b with
    | true =>
      obtain ⟨hc, hj⟩ := parse_back h
      have h1 : 1 ≤ ys.length := (confB_good hc).1.1
      match ys, h1 with
      | x :: r, _ =>
        have h2 := congrArg List.length hj
        rw [List.map_cons, Lib.join_cons] at h2
        simp [dbL] at h2
    | false =>
      unfold parseS at h
      split at h
      · exact h.symm
      · unfold okOf at h
        split at h
        · split at h
          · injection h with _ h2; cases h2
          · exact h.symm
        · exact h.symm
theorem confT_len (xs : List Db) : (confT xs).size ≤ 100 := by
  cases h : confB xs with
  | false => rw [confT_no h]; exact Nat.zero_le _
  | true =>
    have h1 := confT_yes h
    obtain ⟨hd, hl⟩ := conf_dbs h
    have h2 := join_le3 (l := xs.map dbL) (fun p hp => by obtain ⟨d, hm, rfl⟩ := List.mem_map.1 hp; exact (dbOf_text (hd d hm)).2.2) (by simpa using hl)
    rw [← h1] at h2
    simpa using h2
theorem parse_confT_no {xs : List Db} (h : confB xs = false) : parseS (confT xs).data.toList = ([], false) := by rw [confT_no h]; exact parse_nil
theorem parse_confT {xs : List Db} (h : confB xs = true) : parseS (confT xs).data.toList = (xs, true) := by rw [confT_yes h]; exact parse_text h
theorem confT_back {s : ByteArray} {xs : List Db} (h : parseS s.data.toList = (xs, true)) : confT xs = s := by
  obtain ⟨hc, hj⟩ := parse_back h
  have h1 := confT_yes hc
  rw [hj] at h1
  obtain ⟨⟨l⟩⟩ := s
  generalize confT xs = t at h1
  obtain ⟨⟨m⟩⟩ := t
  simp at h1
  rw [h1]
theorem dbAt_own {xs : List Db} {i : Nat} {x : Db} (h : confB xs = true) (hx : xs[i]? = some x) : dbAt xs x.name = (x, true) := by
  refine dbAt_hit (k := i) (fun j y hj hy => ?_) hx (by simp)
  cases hb : (y.name.toList == x.name.toList) with
  | false => rfl
  | true => exact absurd (list_bytes hb) ((confB_good h).2.2 i j x y hj (List.getElem?_eq_some_iff.1 hx).1 hx hy)

end Go.Proofs.YtlnmlfpkpplgoaaDoor

namespace Go.Proofs.YtlnmlfpkpplgoaaDoor
open Go.RowKit
set_option linter.unusedVariables false

theorem db_own_nil {w : World} {base : Nat} {cs : List Value} {d : Db} {fp : List Nat} (h : dbR.own w base cs d fp) : cs = dbC d ∧ fp = [] := by
  refine ⟨db_cells (Rep.reads dbR h), ?_⟩
  obtain ⟨f1, g1, ⟨_, rfl⟩, ⟨f2, g2, ⟨_, rfl⟩, ⟨f3, g3, ⟨_, rfl⟩, ⟨f4, g4, ⟨_, rfl⟩, ⟨_, rfl⟩, rfl, _⟩, rfl, _⟩, rfl, _⟩, rfl, _⟩ := h
  rfl

/-- A field of an element of a row of the call's own is stored. -/
theorem dbs_field {w : World} {base g n cap k : Nat} {xs : List Db} {fp : List Nat} {x : Db} (h : Rep.OwnRows dbR 79 w base (.slice (some ⟨g, 0, none⟩) n cap) xs fp) (hx : xs[k]? = some x) (x' : Db) (j : Nat) (u : Value) (hj : j < 5) (hu : (dbC x).set j u = dbC x') :
    Rep.OwnRows dbR 79 (w.setCell ⟨g, k * 5 + j, none⟩ u) base (.slice (some ⟨g, 0, none⟩) n cap) (xs.set k x') fp := by
  obtain ⟨c, f, hown, _, _, _, _, _, _, _, _, hset⟩ := h.open_ hx
  obtain ⟨rfl, rfl⟩ := db_own_nil hown
  exact hset x' j u hj (by rw [hu]; exact db_own _ _ x')

/-- Not many, and no long names. -/
def FewDbs (m : Nat) (xs : List Db) : Prop := xs.length ≤ m ∧ ∀ x, x ∈ xs → x.name.size ≤ 100
theorem FewDbs.fits {m : Nat} {xs : List Db} (h : FewDbs m xs) (hm : m ≤ 1048576) : FitsDbs xs := ⟨Nat.le_trans h.1 hm, fun x hx => by have := h.2 x hx; omega⟩
theorem FewDbs.push {m : Nat} {xs : List Db} {x : Db} (h : FewDbs m xs) (hx : x.name.size ≤ 100) : FewDbs (m + 1) (xs ++ [x]) :=
  ⟨by have := h.1; simp; omega, fun y hy => by rcases List.mem_append.1 hy with hy | hy; exact h.2 y hy; rw [List.mem_singleton.1 hy]; exact hx⟩
theorem FewDbs.set {m k : Nat} {xs : List Db} {x : Db} (h : FewDbs m xs) (hx : x.name.size ≤ 100) : FewDbs m (xs.set k x) :=
  ⟨by simpa using h.1, fun y hy => by rcases List.mem_or_eq_of_mem_set hy with hy | rfl; exact h.2 y hy; exact hx⟩
theorem FewDbs.more {m m' : Nat} {xs : List Db} (h : FewDbs m xs) (hm : m ≤ m') : FewDbs m' xs := ⟨Nat.le_trans h.1 hm, h.2⟩

/-- A list of databases of the call's own comes back; what was there stands, but for the cursor. -/
def RetDraw3 (w : World) (lo g : Nat) (A : Option Addr) (n c : Nat) (code : List UInt8) (P : List Db → Prop) (e : Ending) (w' : World) : Prop :=
  ∃ A2 c2 xs fp, e = .returned (.slice A2 xs.length c2) ∧ P xs ∧ dbsR.own w' w.heap.size [.slice A2 xs.length c2] xs fp ∧ Cur w' lo g A n c code ∧ Rep.Only w w' [g]
/-- A database comes back. -/
def RetDb3 (w : World) (lo g : Nat) (A : Option Addr) (n c : Nat) (code : List UInt8) (e : Ending) (w' : World) : Prop :=
  ∃ x : Db, e = .returned (.agg #[.string x.name, .int .i64 x.size, .int .i64 x.queue, .int .i64 x.wait, .int .i64 x.idle]) ∧ x.name.size ≤ 100 ∧ Cur w' lo g A n c code ∧ Rep.Only w w' [g]

theorem putD5_only (w : World) (D : Nat) (a b c d e : Value) : Rep.Only w (((((w.setCell ⟨D, 0, none⟩ a).setCell ⟨D, 1, none⟩ b).setCell ⟨D, 2, none⟩ c).setCell ⟨D, 3, none⟩ d).setCell ⟨D, 4, none⟩ e) [D] :=
  ((((Rep.Only.setCell w (p := ⟨D, 0, none⟩) (by simp) a).trans (Rep.Only.setCell _ (p := ⟨D, 1, none⟩) (by simp) b)).trans (Rep.Only.setCell _ (p := ⟨D, 2, none⟩) (by simp) c)).trans (Rep.Only.setCell _ (p := ⟨D, 3, none⟩) (by simp) d)).trans (Rep.Only.setCell _ (p := ⟨D, 4, none⟩) (by simp) e)

set_option maxRecDepth 100000 in
set_option maxHeartbeats 4000000 in
theorem l3One_any (lo g : Nat) (A : Option Addr) (n c : Nat) (code : List UInt8) (w : World) (h : Cur w lo g A n c code) (hn : n ≤ 140737488351232) :
    Calls Tryd.prog 44 #[.pointer (some ⟨g, 0, none⟩)] w (RetDb3 w lo g A n c code) := by
  have hglt := h.lt
  have hlg := h.from_
  go_enter Tryd.func44, Tryd.ntmps44
  go_wp2_with fail
  have ho1 := Rep.only_alloc w (.cells #[.string ⟨#[]⟩, .int .i64 0, .int .i64 0, .int .i64 0, .int .i64 0] 79)
  have hv1 := heap_alloc_new w (.cells #[.string ⟨#[]⟩, .int .i64 0, .int .i64 0, .int .i64 0, .int .i64 0] 79)
  have hs1 : (w.alloc (.cells #[.string ⟨#[]⟩, .int .i64 0, .int .i64 0, .int .i64 0, .int .i64 0] 79)).heap.size = w.heap.size + 1 := by simp
  generalize hgW : w.alloc (.cells #[.string ⟨#[]⟩, .int .i64 0, .int .i64 0, .int .i64 0, .int .i64 0] 79) = W1 at ho1 hv1 hs1 ⊢
  clear hgW
  have hc1 := h.only ho1 (by simp) (fun a ha => by cases ha)
  have O1 : Rep.Only w W1 [g] := ho1.mono (by simp)
  have V1 := Lib.hid hv1
  clear ho1 hv1 h
  rw [← hs1]
  refine (draw_str lo g A n c code [⟨#[109, 97, 105, 110]⟩, ⟨#[109, 97, 105, 110]⟩, ⟨#[108, 111, 103, 115]⟩, ⟨#[120]⟩] W1 hc1 hn (by decide) (by decide)).mono ?_
  rintro e W2 ⟨x1, hx1, rfl, hc2, ho⟩
  have X1 : x1.size ≤ 100 := by simp only [List.mem_cons, List.not_mem_nil, or_false] at hx1; rcases hx1 with rfl | rfl | rfl | rfl <;> decide
  have V2 := Rep.var_only V1 ho (by omega) (by simp; omega)
  have O2 := O1.then ho (fun a ha => .inl ha)
  have s2 := ho.size
  clear ho hc1 V1 O1 hx1
  go_wp2_with fail
  refine (l1Below_any lo g A n c code 3 W2 hc2 hn (by omega) (by omega)).mono ?_
  rintro e W3 ⟨x2, hx2, rfl, hc3, hg⟩
  have ho := only_g hg
  have V3 := Rep.var_only V2 ho (by omega) (by simp; omega)
  have O3 := O2.then ho (fun a ha => .inl ha)
  have s3 := ho.size
  clear ho hg hc2 V2 O2
  go_wp2_with fail
  refine (l1Below_any lo g A n c code 5 W3 hc3 hn (by omega) (by omega)).mono ?_
  rintro e W4 ⟨x3, hx3, rfl, hc4, hg⟩
  have ho := only_g hg
  have V4 := Rep.var_only V3 ho (by omega) (by simp; omega)
  have O4 := O3.then ho (fun a ha => .inl ha)
  have s4 := ho.size
  clear ho hg hc3 V3 O3
  go_wp2_with fail
  refine (draw_int lo g A n c code [1, 2, 5, 20] W4 hc4 hn (by decide) (by decide)).mono ?_
  rintro e W5 ⟨x4, hx4, rfl, hc5, ho⟩
  have V5 := Rep.var_only V4 ho (by omega) (by simp; omega)
  have O5 := O4.then ho (fun a ha => .inl ha)
  have s5 := ho.size
  clear ho hx4 hc4 V4 O4
  go_wp2_with fail
  refine (draw_int lo g A n c code [1, 3, 20] W5 hc5 hn (by decide) (by decide)).mono ?_
  rintro e W6 ⟨x5, hx5, rfl, hc6, ho⟩
  have V6 := Rep.var_only V5 ho (by omega) (by simp; omega)
  have O6 := O5.then ho (fun a ha => .inl ha)
  have s6 := ho.size
  clear ho hx5 hc5 V5 O5
  have q0 : W6.cell? ⟨w.heap.size, 0, none⟩ = some (.string ⟨#[]⟩) := var_cell V6.out 0
  have q1 : W6.cell? ⟨w.heap.size, 1, none⟩ = some (.int .i64 0) := var_cell V6.out 1
  have q2 : W6.cell? ⟨w.heap.size, 2, none⟩ = some (.int .i64 0) := var_cell V6.out 2
  have q3 : W6.cell? ⟨w.heap.size, 3, none⟩ = some (.int .i64 0) := var_cell V6.out 3
  have q4 : W6.cell? ⟨w.heap.size, 4, none⟩ = some (.int .i64 0) := var_cell V6.out 4
  have f0 := var_frozen V6.out 0
  have f1 := var_frozen V6.out 1
  have f2 := var_frozen V6.out 2
  have f3 := var_frozen V6.out 3
  have f4 := var_frozen V6.out 4
  have hlt : w.heap.size < W6.heap.size := by omega
  have o8 := putD5_only W6 w.heap.size (.string x1) (.int .i64 (1 + (x2 : Int))) (.int .i64 (x3 : Int)) (.int .i64 x4) (.int .i64 x5)
  have HE := Lib.hid (And.intro (hc6.only o8 (by simp; omega) (fun a ha => by simp at ha; omega)) (O6.then o8 (fun a ha => .inr (by simp at ha; omega))))
  clear hc6 O6 o8 V6
  go_wp2_with fail
  refine bodyPost_ret (v := .agg #[.string x1, .int .i64 (1 + (x2 : Int)), .int .i64 (x3 : Int), .int .i64 x4, .int .i64 x5]) (by simp [results, Tryd.results44, go_sem, q0, q1, q2, q3, q4]) rfl ⟨⟨x1, 1 + (x2 : Int), (x3 : Int), x4, x5⟩, rfl, X1, HE.out.1, HE.out.2⟩

theorem RetDb.lit {w w' : World} {p : Db × Bool} {e : Ending} (h : RetDb w p e w') : e = .returned (.tuple #[.agg #[.string p.1.name, .int .i64 p.1.size, .int .i64 p.1.queue, .int .i64 p.1.wait, .int .i64 p.1.idle], .bool p.2]) ∧ Below w.heap.size w w' := h

/-- A row of databases of the call's own, beside the cursor. -/
structure L3 (w : World) (lo g : Nat) (A : Option Addr) (n c : Nat) (code : List UInt8) (v : Value) (xs : List Db) (fp : List Nat) (wr : World) : Prop where
  own : Rep.OwnRows dbR 79 wr w.heap.size v xs fp
  cur : Cur wr lo g A n c code
  only : Rep.Only w wr [g]
  lt : g < w.heap.size
  from_ : lo ≤ g
theorem L3.step {w w1 w2 : World} {lo g : Nat} {A : Option Addr} {n c : Nat} {code : List UInt8} {v : Value} {xs : List Db} {fp : List Nat} (h : L3 w lo g A n c code v xs fp w1) (hc : Cur w2 lo g A n c code) (ho : Rep.Only w1 w2 [g]) : L3 w lo g A n c code v xs fp w2 :=
  ⟨h.own.kept fun a ha => ho.block a (h.own.lt a ha).2 (by have := (h.own.lt a ha).1; have := h.lt; simp; omega), hc, h.only.then ho (fun a ha => .inl ha), h.lt, h.from_⟩
theorem L3.later {w w1 w2 : World} {lo g : Nat} {A : Option Addr} {n c : Nat} {code : List UInt8} {v : Value} {xs : List Db} {fp : List Nat} (h : L3 w lo g A n c code v xs fp w1) (hb : Below w1.heap.size w1 w2) : L3 w lo g A n c code v xs fp w2 :=
  have ho := Rep.only_of_below hb
  h.step (h.cur.only ho (by simp) (fun a ha => by cases ha)) (ho.mono (by simp))
theorem L3.alloc {w w1 : World} {lo g : Nat} {A : Option Addr} {n c : Nat} {code : List UInt8} {v : Value} {xs : List Db} {fp : List Nat} (h : L3 w lo g A n c code v xs fp w1) (o : Obj) : L3 w lo g A n c code v xs fp (w1.alloc o) := h.later (Later.alloc w1 o)
theorem L3.other {w w1 w2 : World} {lo g : Nat} {A : Option Addr} {n c : Nat} {code : List UInt8} {v v2 : Value} {xs xs2 : List Db} {fp fp2 : List Nat} (h : L3 w lo g A n c code v xs fp w1) (hown : Rep.OwnRows dbR 79 w2 w.heap.size v2 xs2 fp2) (ho : Rep.Only w1 w2 fp) : L3 w lo g A n c code v2 xs2 fp2 w2 :=
  have hf : ∀ a, a ∈ fp → w.heap.size ≤ a := fun a ha => (h.own.lt a ha).1
  ⟨hown, h.cur.only ho (fun hm => by have := hf _ hm; have := h.lt; omega) (fun a ha => by have := hf _ ha; have := h.lt; have := h.from_; omega), h.only.then ho (fun a ha => .inr (hf a ha)), h.lt, h.from_⟩
theorem L3.grown {w w1 w2 : World} {lo g : Nat} {A : Option Addr} {n c : Nat} {code : List UInt8} {v v2 : Value} {xs xs2 : List Db} {fp fp2 : List Nat} (h : L3 w lo g A n c code v xs fp w1) (hown : Rep.OwnRows dbR 79 w2 w.heap.size v2 xs2 fp2) (hg : w1.grownBy w2 v.ownBlock) (hv : ∀ k, v.ownBlock = some k → w.heap.size ≤ k ∧ k ∈ fp) : L3 w lo g A n c code v2 xs2 fp2 w2 :=
  h.other hown (Rep.Only.of_grown hg fun k hk => (hv k hk).2)
theorem L3.set {w w1 : World} {lo g : Nat} {A : Option Addr} {n c : Nat} {code : List UInt8} {G m cap k : Nat} {xs : List Db} {fp : List Nat} {x : Db} (h : L3 w lo g A n c code (.slice (some ⟨G, 0, none⟩) m cap) xs fp w1) (hx : xs[k]? = some x) (x' : Db) (j : Nat) (u : Value) (hj : j < 5) (hu : (dbC x).set j u = dbC x') : L3 w lo g A n c code (.slice (some ⟨G, 0, none⟩) m cap) (xs.set k x') fp (w1.setCell ⟨G, k * 5 + j, none⟩ u) := by
  have hG : G ∈ fp := by
    obtain ⟨_, _, _, _, h7, _⟩ := (h.own.open_ hx).choose_spec.choose_spec
    exact h7
  exact h.other (dbs_field h.own hx x' j u hj hu) (Rep.Only.setCell w1 (p := ⟨G, k * 5 + j, none⟩) hG u)
theorem L3.ret {w w1 : World} {lo g : Nat} {A : Option Addr} {n c : Nat} {code : List UInt8} {v : Value} {xs : List Db} {fp : List Nat} {P : List Db → Prop} (h : L3 w lo g A n c code v xs fp w1) (hP : P xs) : RetDraw3 w lo g A n c code P (.returned v) w1 := by
  obtain ⟨A2, c2, rfl, _, _, _⟩ := h.own.reads
  exact ⟨A2, c2, xs, fp, rfl, hP, ⟨_, rfl, h.own⟩, h.cur, h.only⟩

/-- What the loop of l3Draw keeps of the list: k are to be drawn. -/
def Pool (k : Nat) (xs : List Db) : Prop := (xs.length + k ≤ 3 ∧ ∀ x, x ∈ xs → x.name.size ≤ 100) ∧ (xs.length = 0 → 0 < k)

set_option maxRecDepth 100000 in
set_option maxHeartbeats 4000000 in
theorem l3Draw_any (lo g : Nat) (A : Option Addr) (n c : Nat) (code : List UInt8) (w : World) (h : Cur w lo g A n c code) (hn : n ≤ 140737488351232) :
    Calls Tryd.prog 35 #[.pointer (some ⟨g, 0, none⟩)] w (RetDraw3 w lo g A n c code (fun xs => FewDbs 3 xs ∧ 1 ≤ xs.length)) := by
  obtain ⟨j0, hj0, hz0, hz1, hz2⟩ := info_parts Tryd.infoDb
  have hown0 := rows_lit' w 79 dbR (by decide) (Nat.le_refl _)
  have L : L3 w lo g A n c code (.slice (some ⟨w.heap.size, 0, none⟩) 0 0) [] [w.heap.size] (w.alloc (.cells #[] 79)) :=
    ⟨hown0, h.alloc _, (Rep.only_alloc w _).mono (by simp), h.lt, h.from_⟩
  clear hown0 h
  go_enter Tryd.func35, Tryd.ntmps35
  go_wp2_with fail
  generalize w.alloc (.cells #[] 79) = W1 at L ⊢
  refine (l1Below_any lo g A n c code 3 W1 L.cur hn (by omega) (by omega)).mono ?_
  rintro e W2 ⟨x, hx, rfl, hc2, hg⟩
  replace L := L.step hc2 (only_g hg)
  clear hc2 hg
  go_wp2_with fail
  obtain ⟨W0, rfl⟩ : ∃ W0 : World, W0 = W2 := ⟨_, rfl⟩
  go_loopw [3, 4] (fun v i wr => ∃ (k : Nat) (xs : List Db) (fp : List Nat), k ≤ 3 ∧ i = .int .i64 k ∧ Hid (Pool k xs) ∧ L3 w lo g A n c code v xs fp wr) (fun _ i _ => (intOf i).toNat)
  case atStart => exact ⟨1 + x, [], _, by omega, by go_num, Lib.hid ⟨⟨by simp; omega, by simp⟩, fun _ => by omega⟩, L⟩
  case round =>
    clear L hx
    obtain ⟨k, xs, fp, hk, rfl, hp, L⟩ := hrel
    by_cases hlt : 0 < k
    · have i1 : (0 : Int) < (k : Int) := by omega
      go_wp2_with fail
      refine (l3One_any lo g A n c code wr L.cur hn).mono ?_
      rintro e W3 ⟨x, rfl, hxs, hc3, ho3⟩
      replace L := L.step hc3 ho3
      obtain ⟨A9, c9, rfl, _, _, _⟩ := L.own.reads
      clear hc3 ho3
      go_wp2_with fail
      have V := Lib.hid (heap_alloc_new W3 (.cells #[.string x.name, .int .i64 x.size, .int .i64 x.queue, .int .i64 x.wait, .int .i64 x.idle] 79))
      replace L := L.alloc (.cells #[.string x.name, .int .i64 x.size, .int .i64 x.queue, .int .i64 x.wait, .int .i64 x.idle] 79)
      generalize W3.alloc (.cells #[.string x.name, .int .i64 x.size, .int .i64 x.queue, .int .i64 x.wait, .int .i64 x.idle] 79) = W4 at V L ⊢
      generalize W3.heap.size = D at V ⊢
      obtain ⟨A8, c8, he8, _, _, hrows⟩ := L.own.reads
      injection he8 with he8 _ he9
      subst he8 he9
      obtain ⟨⟨d, y⟩, hd⟩ : ∃ p, dbAt xs x.name = p := ⟨_, rfl⟩
      have HD := Lib.hid hd
      have hlen := hp.out.1.1
      refine (dbAtS_any A9 c9 xs x.name W4 hrows (by omega)).mono ?_
      rw [hd]
      rintro e W5 hret
      obtain ⟨rfl, hb⟩ := hret.lit
      replace L := L.later hb
      replace V := Keeps.keeps (F := fun w' => Hid (w'.heap[D]? = some (.cells #[.string x.name, .int .i64 x.size, .int .i64 x.queue, .int .i64 x.wait, .int .i64 x.idle] 79 (0, 0)))) hb V
      clear hb hd hrows
      have v0 : W5.cell? ⟨D, 0, none⟩ = some (.string x.name) := var_cell V.out 0
      have v1 : W5.cell? ⟨D, 1, none⟩ = some (.int .i64 x.size) := var_cell V.out 1
      have v2 : W5.cell? ⟨D, 2, none⟩ = some (.int .i64 x.queue) := var_cell V.out 2
      have v3 : W5.cell? ⟨D, 3, none⟩ = some (.int .i64 x.wait) := var_cell V.out 3
      have v4 : W5.cell? ⟨D, 4, none⟩ = some (.int .i64 x.idle) := var_cell V.out 4
      have hDl : D < W5.heap.size := (Array.getElem?_eq_some_iff.1 V.out).1
      have HK := Lib.hid hlen
      clear hlen
      cases y
      · go_wp2_with (at_builtin
                     replace L := L.alloc (.cells #[.string d.name, .int .i64 d.size, .int .i64 d.queue, .int .i64 d.wait, .int .i64 d.idle] 79)
                     have hnew := reads_lit (W5.alloc (.cells #[.string d.name, .int .i64 d.size, .int .i64 d.queue, .int .i64 d.wait, .int .i64 d.idle] 79)) #[.string x.name, .int .i64 x.size, .int .i64 x.queue, .int .i64 x.wait, .int .i64 x.idle] 5 1 79 (g := W5.heap.size + 1) (by simp) rfl (by simp [maxLen])
                     replace L := L.alloc (.cells #[.string x.name, .int .i64 x.size, .int .i64 x.queue, .int .i64 x.wait, .int .i64 x.idle] 79)
                     go_must (refine Rep.wpList_push _ rfl (.tmp 27) (.tmp 29) _ rfl dbR w.heap.size 79 j0 _ 48 Tryd.underlying55 hj0 hz0 hz1 hz2 rfl (by decide) (.slice A9 xs.length c9) xs fp rfl L.own _ 1 _ x [] rfl hnew (by simp [Value.oneCell']) (db_own _ _ x) (fun g hg hg' => by cases hg) (by have := HK.out; simp only [maxLen]; omega) (by have := HK.out; omega) (by have := L.only.size; exact this) ?_)
                     intro A2 c2 w2 fp2 hown2 hg2 hf2 hv2
                     clear hnew)
        have L2 := L.grown hown2 hg2 hv2
        clear L hown2 hg2 hf2 hv2
        obtain ⟨k, rfl⟩ : ∃ j, k = j + 1 := ⟨k - 1, by omega⟩
        go_roundw
        case rel => exact ⟨k, xs ++ [x], fp2, by omega, by go_num, Lib.hid ⟨⟨by have := hp.out.1.1; simp; omega, fun z hz => by rcases List.mem_append.1 hz with hz | hz; exact hp.out.1.2 z hz; rw [List.mem_singleton.1 hz]; exact hxs⟩, fun hz => by simp at hz⟩, by simpa using L2⟩
        case measure => simp [intOf]
      · have hne : ¬ xs.length = 0 := by
          intro h0
          have := HD.out
          rw [List.eq_nil_of_length_eq_zero h0] at this
          cases this
        clear v0 v1 v2 v3 v4
        go_wp2_with fail
        replace L := L.alloc (.cells #[.string d.name, .int .i64 d.size, .int .i64 d.queue, .int .i64 d.wait, .int .i64 d.idle] 79)
        obtain ⟨k, rfl⟩ : ∃ j, k = j + 1 := ⟨k - 1, by omega⟩
        go_roundw
        case rel => exact ⟨k, xs, fp, by omega, by go_num, Lib.hid ⟨⟨by have := hp.out.1.1; omega, hp.out.1.2⟩, fun hz => absurd hz hne⟩, L⟩
        case measure => simp [intOf]
    · have i1 : ¬ (0 : Int) < (k : Int) := by omega
      go_wp2_with fail
      go_ret
      exact L.ret ⟨⟨by have := hp.out.1.1; omega, hp.out.1.2⟩, by have := hp.out.2; omega⟩

end Go.Proofs.YtlnmlfpkpplgoaaDoor

namespace Go.Proofs.YtlnmlfpkpplgoaaDoor
open Go.RowKit
set_option linter.unusedVariables false

def flatL (xs : List Db) : List Value := xs.flatMap dbC
theorem flatL_append (xs ys : List Db) : flatL (xs ++ ys) = flatL xs ++ flatL ys := by simp [flatL]
theorem flatL_length (xs : List Db) : (flatL xs).length = xs.length * 5 := by
  induction xs with
  | nil => rfl
  | cons x r ih =>
    show (dbC x ++ flatL r).length = (r.length + 1) * 5
    rw [List.length_append, ih]
    show 5 + r.length * 5 = (r.length + 1) * 5
    omega
theorem seg_flat : ∀ (xs : List Db) (i : Nat) (x : Db), xs[i]? = some x → Rep.seg 5 i (flatL xs) = dbC x := by
  intro xs
  induction xs with
  | nil => intro i x h; simp at h
  | cons y r ih =>
    intro i x h
    cases i with
    | zero =>
      have h2 : y = x := by simpa using h
      subst h2
      rfl
    | succ i =>
      have h2 : r[i]? = some x := by simpa using h
      rw [← ih i x h2]
      show ((dbC y ++ flatL r).drop ((i + 1) * 5)).take 5 = ((flatL r).drop (i * 5)).take 5
      have e : (i + 1) * 5 = (dbC y).length + i * 5 := by show (i + 1) * 5 = 5 + i * 5; omega
      rw [e, List.drop_length_add_append]
theorem flat_of : ∀ (xs : List Db) (cells : List Value), cells.length = xs.length * 5 → (∀ i x, xs[i]? = some x → Rep.seg 5 i cells = dbC x) → cells = flatL xs := by
  intro xs
  induction xs with
  | nil => intro cells hl _; exact List.eq_nil_of_length_eq_zero (by simpa using hl)
  | cons y r ih =>
    intro cells hl h
    have h0 : cells.take 5 = dbC y := by simpa [Rep.seg] using h 0 y rfl
    have h1 := ih (cells.drop 5) (by simp at hl ⊢; omega) fun i x hx => by
      rw [← h (i + 1) x (by simpa using hx)]
      unfold Rep.seg
      rw [List.drop_drop]
      congr 2
      omega
    show cells = dbC y ++ flatL r
    rw [← h0, ← h1, List.take_append_drop]
theorem one_flat (xs : List Db) : ∀ u ∈ flatL xs, u.oneCell' = true := by
  intro u hu
  obtain ⟨x, _, hx⟩ := List.mem_flatMap.1 hu
  simp only [dbC, List.mem_cons, List.not_mem_nil, or_false] at hx
  rcases hx with rfl | rfl | rfl | rfl | rfl <;> rfl
theorem rows_flat {w : World} {base : Nat} {v : Value} {xs : List Db} {fp : List Nat} (h : Rep.OwnRows dbR 79 w base v xs fp) : w.ownsRow base 79 5 v xs.length (flatL xs) ∧ ∀ k, v.ownBlock = some k → base ≤ k ∧ k ∈ fp := by
  obtain ⟨cells, fps, hrow, hl, he, hfp, hn⟩ := h
  have hc := flat_of xs cells hrow.1 fun i x hx => by
    obtain ⟨f, hf⟩ := Rep.getElem?_of_lt hl (List.getElem?_eq_some_iff.1 hx).1
    exact (db_own_nil (he i x f hx hf)).1
  rw [← hc]
  exact ⟨hrow, fun k hk => ⟨(hrow.lt k hk).1, by rw [hfp, hk]; simp⟩⟩
theorem rows_of {w : World} {base : Nat} {v : Value} {xs : List Db} (h : w.ownsRow base 79 5 v xs.length (flatL xs)) : ∃ fp, Rep.OwnRows dbR 79 w base v xs fp := by
  refine ⟨_, flatL xs, List.replicate xs.length [], h, by simp, fun i x f hx hf => ?_, rfl, ?_⟩
  · have hf2 : f = [] := by
      rw [List.getElem?_replicate] at hf
      split at hf
      · injection hf with hf; exact hf.symm
      · cases hf
    subst hf2
    show dbR.own w base (Rep.seg 5 i (flatL xs)) x []
    rw [seg_flat xs i x hx]
    exact db_own w base x
  · rw [show (List.replicate xs.length ([] : List Nat)).flatten = [] by simp, List.append_nil]
    exact Rep.nodup_toList _
theorem rows_reads {w : World} {B n : Nat} {A : Option Addr} {xs : List Db} (h : Rep.RowsAt dbR w B A n xs) : Reads w B 5 A n (flatL xs) := by
  obtain ⟨hl, cells, hr, he⟩ := h
  subst hl
  have hc := flat_of xs cells hr.1 fun i x hx => db_cells (he i x hx)
  rw [← hc]
  exact hr

theorem L3.block {w wr : World} {lo g : Nat} {A : Option Addr} {n c : Nat} {code : List UInt8} {v : Value} {xs : List Db} {fp : List Nat} (h : L3 w lo g A n c code v xs fp wr) (h0 : 0 < xs.length) : ∃ G cap, v = .slice (some ⟨G, 0, none⟩) xs.length cap := by
  obtain ⟨cells, fps, hrow, _⟩ := h.own
  rcases hrow.2 with ⟨_, h1⟩ | ⟨G, cap, cur, rfl, _⟩
  · omega
  · exact ⟨G, cap, rfl⟩
theorem L3.of_draw {w w1 w2 : World} {lo g : Nat} {A : Option Addr} {n c : Nat} {code : List UInt8} {A2 : Option Addr} {c2 : Nat} {xs : List Db} {fp : List Nat} (hown : dbsR.own w2 w1.heap.size [.slice A2 xs.length c2] xs fp) (hc : Cur w2 lo g A n c code) (ho : Rep.Only w1 w2 [g]) (h0 : Rep.Only w w1 [g]) (hlt : g < w.heap.size) (hlo : lo ≤ g) : L3 w lo g A n c code (.slice A2 xs.length c2) xs fp w2 := by
  obtain ⟨v, hv, hr⟩ := hown
  injection hv with hv _
  subst hv
  exact ⟨hr.low h0.size, hc, h0.trans ho, hlt, hlo⟩
/-- An element's cells. -/
theorem L3.cells {w wr : World} {lo g : Nat} {A : Option Addr} {n c : Nat} {code : List UInt8} {G m cap k : Nat} {xs : List Db} {fp : List Nat} {x : Db} (h : L3 w lo g A n c code (.slice (some ⟨G, 0, none⟩) m cap) xs fp wr) (hx : xs[k]? = some x) :
    (wr.cell? ⟨G, k * 5, none⟩ = some (.string x.name) ∧ wr.cell? ⟨G, k * 5 + 1, none⟩ = some (.int .i64 x.size) ∧ wr.cell? ⟨G, k * 5 + 2, none⟩ = some (.int .i64 x.queue) ∧ wr.cell? ⟨G, k * 5 + 3, none⟩ = some (.int .i64 x.wait) ∧ wr.cell? ⟨G, k * 5 + 4, none⟩ = some (.int .i64 x.idle)) ∧ (∀ j, wr.frozen? ⟨G, j, none⟩ = false) ∧ G < wr.heap.size := by
  obtain ⟨cs, f, hown, hc, hfz, _, _, _, _, hlt, _⟩ := h.own.open_ hx
  obtain ⟨rfl, rfl⟩ := db_own_nil hown
  exact ⟨⟨hc 0 _ rfl, hc 1 _ rfl, hc 2 _ rfl, hc 3 _ rfl, hc 4 _ rfl⟩, hfz, hlt⟩

end Go.Proofs.YtlnmlfpkpplgoaaDoor

namespace Go.Proofs.YtlnmlfpkpplgoaaDoor
open Go.RowKit
set_option linter.unusedVariables false

/-- A short text comes back. -/
def RetText (w : World) (lo g : Nat) (A : Option Addr) (n c : Nat) (code : List UInt8) (e : Ending) (w' : World) : Prop :=
  ∃ s : ByteArray, e = .returned (.string s) ∧ s.size ≤ 100 ∧ Cur w' lo g A n c code ∧ Rep.Only w w' [g]
def texts3 : List ByteArray := [⟨#[]⟩, ⟨#[109, 97, 105, 110]⟩, ⟨#[109, 97, 105, 110, 58, 49]⟩, ⟨#[109, 97, 105, 110, 58, 49, 47, 50, 47, 51]⟩, ⟨#[109, 97, 105, 110, 58, 48, 49, 47, 50, 47, 51, 47, 52]⟩, ⟨#[109, 97, 105, 110, 58, 49, 47, 50, 47, 51, 47, 52, 59]⟩, ⟨#[59, 109, 97, 105, 110, 58, 49, 47, 50, 47, 51, 47, 52]⟩, ⟨#[109, 97, 105, 110, 58, 49, 47, 50, 47, 51, 47, 52, 59, 109, 97, 105, 110, 58, 49, 47, 49, 47, 49, 47, 49]⟩, ⟨#[109, 97, 105, 110, 58, 49, 47, 50, 47, 51, 47, 52, 47, 53]⟩, ⟨#[109, 97, 105, 110, 58, 52, 47, 50, 47, 51, 47, 52]⟩, ⟨#[109, 97, 105, 110, 58, 49, 47, 53, 47, 51, 47, 52]⟩, ⟨#[109, 97, 105, 110, 58, 49, 47, 50, 47, 48, 47, 52]⟩, ⟨#[109, 97, 105, 110, 58, 49, 47, 50, 47, 51, 47, 49, 48, 48]⟩, ⟨#[77, 97, 105, 110, 58, 49, 47, 50, 47, 51, 47, 52]⟩, ⟨#[109, 97, 105, 110, 58, 49, 47, 50, 47, 51, 47, 52, 32]⟩, ⟨#[58, 49, 47, 50, 47, 51, 47, 52]⟩, ⟨#[97, 58, 49, 47, 48, 47, 49, 47, 49, 59, 98, 58, 49, 47, 48, 47, 49, 47, 49, 59, 99, 58, 49, 47, 48, 47, 49, 47, 49, 59, 100, 58, 49, 47, 48, 47, 49, 47, 49]⟩, ⟨#[97, 58, 98, 58, 49, 47, 50, 47, 51, 47, 52]⟩]
theorem texts3_size : ∀ z, z ∈ texts3 → z.size ≤ 100 := by decide

set_option maxRecDepth 100000 in
set_option maxHeartbeats 4000000 in
theorem l3Text_any (lo g : Nat) (A : Option Addr) (n c : Nat) (code : List UInt8) (w : World) (h : Cur w lo g A n c code) (hn : n ≤ 140737488351232) :
    Calls Tryd.prog 31 #[.pointer (some ⟨g, 0, none⟩)] w (RetText w lo g A n c code) := by
  have hglt := h.lt
  have hlg := h.from_
  go_enter Tryd.func31, Tryd.ntmps31
  go_wp2_with fail
  refine (l1Once_any lo g A n c code 3 w h hn (by omega) (by omega)).mono ?_
  rintro e W1 ⟨y, rfl, hc1, hg1⟩
  have ho1 := only_g hg1
  clear hg1 h
  cases y
  · go_wp2_with fail
    refine (l3Draw_any lo g A n c code W1 hc1 hn).mono ?_
    rintro e W2 ⟨A2, c2, xs, fp, rfl, hP, hown, hc2, ho2⟩
    have L := L3.of_draw hown hc2 ho2 ho1 hglt hlg
    obtain ⟨hfew, h1⟩ := hP
    clear hown hc2 ho2 hc1 ho1
    obtain ⟨A8, c8, he8, _, _, hrows⟩ := L.own.reads
    injection he8 with he8 _ he9
    subst he8 he9
    go_wp2_with fail
    refine (confTextS_any A2 c2 xs W2 hrows (hfew.fits (by omega))).mono ?_
    rintro e W3 ⟨rfl, hb⟩
    replace L := L.later hb
    clear hrows hb
    go_wp2_with fail
    go_ret
    exact ⟨confT xs, rfl, confT_len xs, L.cur, L.only⟩
  · go_wp2_with fail
    refine (draw_str lo g A n c code texts3 W1 hc1 hn (by decide) (by decide)).mono ?_
    rintro e W2 ⟨z, hz, rfl, hc2, ho2⟩
    have hzs := texts3_size z hz
    clear hz
    go_wp2_with fail
    go_ret
    exact ⟨z, rfl, hzs, hc2, ho1.trans ho2⟩

/-- Bytes come back, hardly more than were given. -/
def RetBend (w : World) (lo g : Nat) (A : Option Addr) (n c : Nat) (code l : List UInt8) (e : Ending) (w' : World) : Prop :=
  ∃ A2 c2 l', e = .returned (.slice A2 l'.length c2) ∧ l'.length ≤ l.length + 1 ∧ l'.length ≤ c2 ∧ Reads w' w'.heap.size 1 A2 l'.length (bys l') ∧ Cur w' lo g A n c code ∧ Rep.Only w w' [g]

theorem reads_take {w : World} {B n k : Nat} {A : Option Addr} {l : List UInt8} (h : Reads w B 1 A n (bys l)) (hn : l.length = n) (hk : k ≤ n) : Reads w B 1 A (l.take k).length (bys (l.take k)) := by
  refine ⟨by simp [bys], fun h0 => ?_⟩
  have hk2 : (l.take k).length = k := by simp; omega
  rw [hk2] at h0
  obtain ⟨ad, hA, hb, hc⟩ := h.2 (by omega)
  refine ⟨ad, hA, hb, fun j u hu => hc j u ?_⟩
  have hu2 : (bys l)[j]? = some u := by
    unfold bys at hu ⊢
    rw [List.getElem?_map, List.getElem?_take] at hu
    rw [List.getElem?_map]
    split at hu
    · exact hu
    · cases hu
  exact hu2

end Go.Proofs.YtlnmlfpkpplgoaaDoor

namespace Go.Proofs.YtlnmlfpkpplgoaaDoor
open Go.RowKit
set_option linter.unusedVariables false

theorem bytes_later (w : World) (e : TypeId) (s : ByteArray) : Later w (Lib.bytesWorld w e s) :=
  ⟨rfl, rfl, rfl, by rw [Lib.bytesWorld_size]; omega, fun k hk => Lib.bytesWorld_at_old w e s k hk⟩
theorem bytes_reads (w : World) (e : TypeId) (s : ByteArray) : Reads (Lib.bytesWorld w e s) (Lib.bytesWorld w e s).heap.size 1 (some ⟨w.heap.size, 0, none⟩) s.data.toList.length (bys s.data.toList) := by
  refine ⟨by simp [bys], fun h0 => ⟨_, rfl, by rw [Lib.bytesWorld_size]; exact Nat.lt_succ_self _, fun j u hu => ?_⟩⟩
  have hj : j < s.data.toList.length := by
    have := (List.getElem?_eq_some_iff.1 hu).1
    simpa [bys] using this
  have hc := Lib.bytesWorld_cell w e s j hj
  have h2 : (bys s.data.toList)[j]? = some (.int .u8 ((s.data.toList.getD j 0).toNat : Int)) := by
    unfold bys
    rw [List.getElem?_map, List.getD_eq_getElem?_getD, List.getElem?_eq_getElem hj]
    rfl
  rw [h2] at hu
  injection hu with hu
  rw [← hu]
  have e0 : (Addr.add ⟨w.heap.size, 0, none⟩ j) = ⟨w.heap.size, j, none⟩ := by simp [Addr.add]; exact fun h => h.symm
  rw [e0]
  exact hc

/-- Lists of databases come back. -/
def RetRows (w : World) (e : Ending) (w' : World) : Prop :=
  ∃ A2 c2 xs, e = .returned (.slice A2 xs.length c2) ∧ FewDbs 7 xs ∧ dbsR.at_ w' w'.heap.size [.slice A2 xs.length c2] xs ∧ Below w.heap.size w w'
def RetRows2 (w : World) (e : Ending) (w' : World) : Prop :=
  ∃ A1 c1 xs A2 c2 ys, e = .returned (.tuple #[.slice A1 xs.length c1, .slice A2 ys.length c2]) ∧ FewDbs 7 xs ∧ FewDbs 7 ys ∧ dbsR.at_ w' w'.heap.size [.slice A1 xs.length c1] xs ∧ dbsR.at_ w' w'.heap.size [.slice A2 ys.length c2] ys ∧ Below w.heap.size w w'
theorem L3.at_ {w wr : World} {lo g : Nat} {A : Option Addr} {n c : Nat} {code : List UInt8} {v : Value} {xs : List Db} {fp : List Nat} (h : L3 w lo g A n c code v xs fp wr) : dbsR.at_ wr wr.heap.size [v] xs := Rep.reads dbsR (⟨_, rfl, h.own⟩ : dbsR.own wr w.heap.size [v] xs fp)

end Go.Proofs.YtlnmlfpkpplgoaaDoor
