/- The draws of chapter 3: a database, a configuration, any list of databases, a text. -/
import Derived.Test.YtannedjfmgflpaaDoorCur
import Derived.Test.YtannedjfmgflpaaDoorConfTextS
import Derived.Test.YtannedjfmgflpaaDoorParseConfS
import Derived.Deep.Cut
import Derived.Deep.CutBlock
namespace Go.Proofs.YtannedjfmgflpaaDoor
open Go.RowKit
set_option maxRecDepth 100000
set_option linter.unusedVariables false

theorem db_own_nil {w : World} {base : Nat} {cs : List Value} {d : Db} {fp : List Nat} (h : dbR.own w base cs d fp) : cs = dbC d ∧ fp = [] := by
  refine ⟨db_cells (Rep.reads dbR h), ?_⟩
  obtain ⟨f1, g1, ⟨_, rfl⟩, ⟨f2, g2, ⟨_, rfl⟩, ⟨f3, g3, ⟨_, rfl⟩, ⟨f4, g4, ⟨_, rfl⟩, ⟨_, rfl⟩, rfl, _⟩, rfl, _⟩, rfl, _⟩, rfl, _⟩ := h
  rfl

/-- A field of an element of a row of the call's own is stored. -/
theorem dbs_field {w : World} {base g n cap k : Nat} {xs : List Db} {fp : List Nat} {x : Db} (h : Rep.OwnRows dbR 35 w base (.slice (some ⟨g, 0, none⟩) n cap) xs fp) (hx : xs[k]? = some x) (x' : Db) (j : Nat) (u : Value) (hj : j < 5) (hu : (dbC x).set j u = dbC x') :
    Rep.OwnRows dbR 35 (w.setCell ⟨g, k * 5 + j, none⟩ u) base (.slice (some ⟨g, 0, none⟩) n cap) (xs.set k x') fp := by
  obtain ⟨c, f, hown, _, _, _, _, _, _, _, _, hset⟩ := h.open_ hx
  obtain ⟨rfl, rfl⟩ := db_own_nil hown
  exact hset x' j u hj (by rw [hu]; exact db_own _ _ x')

/-- Not many, and no long names. -/
def FewDbs (m : Nat) (xs : List Db) : Prop := xs.length ≤ m ∧ ∀ x, x ∈ xs → x.name.size ≤ 100
theorem FewDbs.fits {m : Nat} {xs : List Db} (h : FewDbs m xs) (hm : m ≤ 1048576) : FitsDbs xs := ⟨Nat.le_trans h.1 hm, fun x hx => by have := h.2 x hx; omega⟩
theorem FewDbs.push {m : Nat} {xs : List Db} {x : Db} (h : FewDbs m xs) (hx : x.name.size ≤ 100) : FewDbs (m + 1) (xs ++ [x]) :=
  ⟨by have := h.1; simp; omega, fun y hy => by rcases List.mem_append.1 hy with hy | hy; exact h.2 y hy; rw [List.mem_singleton.1 hy]; exact hx⟩
theorem FewDbs.set {m k : Nat} {xs : List Db} {x : Db} (h : FewDbs m xs) (hx : x.name.size ≤ 100) : FewDbs m (xs.set k x) :=
  ⟨by simpa using h.1, fun y hy => by rcases List.mem_or_eq_of_mem_set hy with hy | rfl; exact h.2 y hy; exact hx⟩
theorem FewDbs.more {m m' : Nat} {xs : List Db} (h : FewDbs m xs) (hm : m ≤ m') : FewDbs m' xs := ⟨Nat.le_trans h.1 hm, h.2⟩

/-- A list of databases of the call's own comes back; what was there stands, but for the cursor. -/
def RetDraw3 (w : World) (lo g : Nat) (A : Option Addr) (n c : Nat) (code : List UInt8) (P : List Db → Prop) (e : Ending) (w' : World) : Prop :=
  ∃ A2 c2 xs fp, e = .returned (.slice A2 xs.length c2) ∧ P xs ∧ dbsR.own w' w.heap.size [.slice A2 xs.length c2] xs fp ∧ Cur w' lo g A n c code ∧ Rep.Only w w' [g]
/-- A database comes back. -/
def RetDb3 (w : World) (lo g : Nat) (A : Option Addr) (n c : Nat) (code : List UInt8) (e : Ending) (w' : World) : Prop :=
  ∃ x : Db, e = .returned (.agg #[.string x.name, .int .i64 x.size, .int .i64 x.queue, .int .i64 x.wait, .int .i64 x.idle]) ∧ x.name.size ≤ 100 ∧ Cur w' lo g A n c code ∧ Rep.Only w w' [g]

theorem putD5_only (w : World) (D : Nat) (a b c d e : Value) : Rep.Only w (((((w.setCell ⟨D, 0, none⟩ a).setCell ⟨D, 1, none⟩ b).setCell ⟨D, 2, none⟩ c).setCell ⟨D, 3, none⟩ d).setCell ⟨D, 4, none⟩ e) [D] :=
  ((((Rep.Only.setCell w (p := ⟨D, 0, none⟩) (by simp) a).trans (Rep.Only.setCell _ (p := ⟨D, 1, none⟩) (by simp) b)).trans (Rep.Only.setCell _ (p := ⟨D, 2, none⟩) (by simp) c)).trans (Rep.Only.setCell _ (p := ⟨D, 3, none⟩) (by simp) d)).trans (Rep.Only.setCell _ (p := ⟨D, 4, none⟩) (by simp) e)

set_option maxRecDepth 100000 in
set_option maxHeartbeats 4000000 in
theorem l3One_any (lo g : Nat) (A : Option Addr) (n c : Nat) (code : List UInt8) (w : World) (h : Cur w lo g A n c code) (hn : n ≤ 140737488351232) :
    Calls Tryd.prog 84 #[.pointer (some ⟨g, 0, none⟩)] w (RetDb3 w lo g A n c code) := by
  have hglt := h.lt
  have hlg := h.from_
  go_enter Tryd.func84, Tryd.ntmps84
  go_wp2_with fail
  have ho1 := Rep.only_alloc w (.cells #[.string ⟨#[]⟩, .int .i64 0, .int .i64 0, .int .i64 0, .int .i64 0] 35)
  have hv1 := heap_alloc_new w (.cells #[.string ⟨#[]⟩, .int .i64 0, .int .i64 0, .int .i64 0, .int .i64 0] 35)
  have hs1 : (w.alloc (.cells #[.string ⟨#[]⟩, .int .i64 0, .int .i64 0, .int .i64 0, .int .i64 0] 35)).heap.size = w.heap.size + 1 := by simp
  generalize hgW : w.alloc (.cells #[.string ⟨#[]⟩, .int .i64 0, .int .i64 0, .int .i64 0, .int .i64 0] 35) = W1 at ho1 hv1 hs1 ⊢
  clear hgW
  have hc1 := h.only ho1 (by simp) (fun a ha => by cases ha)
  have O1 : Rep.Only w W1 [g] := ho1.mono (by simp)
  have V1 := Lib.hid hv1
  clear ho1 hv1 h
  rw [← hs1]
  refine (draw_str lo g A n c code [⟨#[109, 97, 105, 110]⟩, ⟨#[109, 97, 105, 110]⟩, ⟨#[108, 111, 103, 115]⟩, ⟨#[120]⟩] W1 hc1 hn (by decide) (by decide)).mono ?_
  rintro e W2 ⟨x1, hx1, rfl, hc2, ho⟩
  have X1 : x1.size ≤ 100 := by simp only [List.mem_cons, List.not_mem_nil, or_false] at hx1; rcases hx1 with rfl | rfl | rfl | rfl <;> decide
  have V2 := Rep.var_only V1 ho (by omega) (by simp; omega)
  have O2 := O1.then ho (fun a ha => .inl ha)
  have s2 := ho.size
  clear ho hc1 V1 O1 hx1
  go_wp2_with fail
  refine (l1Below_any lo g A n c code 3 W2 hc2 hn (by omega) (by omega)).mono ?_
  rintro e W3 ⟨x2, hx2, rfl, hc3, hg⟩
  have ho := only_g hg
  have V3 := Rep.var_only V2 ho (by omega) (by simp; omega)
  have O3 := O2.then ho (fun a ha => .inl ha)
  have s3 := ho.size
  clear ho hg hc2 V2 O2
  go_wp2_with fail
  refine (l1Below_any lo g A n c code 5 W3 hc3 hn (by omega) (by omega)).mono ?_
  rintro e W4 ⟨x3, hx3, rfl, hc4, hg⟩
  have ho := only_g hg
  have V4 := Rep.var_only V3 ho (by omega) (by simp; omega)
  have O4 := O3.then ho (fun a ha => .inl ha)
  have s4 := ho.size
  clear ho hg hc3 V3 O3
  go_wp2_with fail
  refine (draw_int lo g A n c code [1, 2, 5, 20] W4 hc4 hn (by decide) (by decide)).mono ?_
  rintro e W5 ⟨x4, hx4, rfl, hc5, ho⟩
  have V5 := Rep.var_only V4 ho (by omega) (by simp; omega)
  have O5 := O4.then ho (fun a ha => .inl ha)
  have s5 := ho.size
  clear ho hx4 hc4 V4 O4
  go_wp2_with fail
  refine (draw_int lo g A n c code [1, 3, 20] W5 hc5 hn (by decide) (by decide)).mono ?_
  rintro e W6 ⟨x5, hx5, rfl, hc6, ho⟩
  have V6 := Rep.var_only V5 ho (by omega) (by simp; omega)
  have O6 := O5.then ho (fun a ha => .inl ha)
  have s6 := ho.size
  clear ho hx5 hc5 V5 O5
  have q0 : W6.cell? ⟨w.heap.size, 0, none⟩ = some (.string ⟨#[]⟩) := var_cell V6.out 0
  have q1 : W6.cell? ⟨w.heap.size, 1, none⟩ = some (.int .i64 0) := var_cell V6.out 1
  have q2 : W6.cell? ⟨w.heap.size, 2, none⟩ = some (.int .i64 0) := var_cell V6.out 2
  have q3 : W6.cell? ⟨w.heap.size, 3, none⟩ = some (.int .i64 0) := var_cell V6.out 3
  have q4 : W6.cell? ⟨w.heap.size, 4, none⟩ = some (.int .i64 0) := var_cell V6.out 4
  have f0 := var_frozen V6.out 0
  have f1 := var_frozen V6.out 1
  have f2 := var_frozen V6.out 2
  have f3 := var_frozen V6.out 3
  have f4 := var_frozen V6.out 4
  have hlt : w.heap.size < W6.heap.size := by omega
  have o8 := putD5_only W6 w.heap.size (.string x1) (.int .i64 (1 + (x2 : Int))) (.int .i64 (x3 : Int)) (.int .i64 x4) (.int .i64 x5)
  have HE := Lib.hid (And.intro (hc6.only o8 (by simp; omega) (fun a ha => by simp at ha; omega)) (O6.then o8 (fun a ha => .inr (by simp at ha; omega))))
  clear hc6 O6 o8 V6
  go_wp2_with fail
  refine bodyPost_ret (v := .agg #[.string x1, .int .i64 (1 + (x2 : Int)), .int .i64 (x3 : Int), .int .i64 x4, .int .i64 x5]) (by simp [results, Tryd.results84, go_sem, q0, q1, q2, q3, q4]) rfl ⟨⟨x1, 1 + (x2 : Int), (x3 : Int), x4, x5⟩, rfl, X1, HE.out.1, HE.out.2⟩

theorem RetDb.lit {w w' : World} {p : Db × Bool} {e : Ending} (h : RetDb w p e w') : e = .returned (.tuple #[.agg #[.string p.1.name, .int .i64 p.1.size, .int .i64 p.1.queue, .int .i64 p.1.wait, .int .i64 p.1.idle], .bool p.2]) ∧ Below w.heap.size w w' := h

/-- A row of databases of the call's own, beside the cursor. -/
structure L3 (w : World) (lo g : Nat) (A : Option Addr) (n c : Nat) (code : List UInt8) (v : Value) (xs : List Db) (fp : List Nat) (wr : World) : Prop where
  own : Rep.OwnRows dbR 35 wr w.heap.size v xs fp
  cur : Cur wr lo g A n c code
  only : Rep.Only w wr [g]
  lt : g < w.heap.size
  from_ : lo ≤ g
theorem L3.step {w w1 w2 : World} {lo g : Nat} {A : Option Addr} {n c : Nat} {code : List UInt8} {v : Value} {xs : List Db} {fp : List Nat} (h : L3 w lo g A n c code v xs fp w1) (hc : Cur w2 lo g A n c code) (ho : Rep.Only w1 w2 [g]) : L3 w lo g A n c code v xs fp w2 :=
  ⟨h.own.kept fun a ha => ho.block a (h.own.lt a ha).2 (by have := (h.own.lt a ha).1; have := h.lt; simp; omega), hc, h.only.then ho (fun a ha => .inl ha), h.lt, h.from_⟩
theorem L3.later {w w1 w2 : World} {lo g : Nat} {A : Option Addr} {n c : Nat} {code : List UInt8} {v : Value} {xs : List Db} {fp : List Nat} (h : L3 w lo g A n c code v xs fp w1) (hb : Below w1.heap.size w1 w2) : L3 w lo g A n c code v xs fp w2 :=
  have ho := Rep.only_of_below hb
  h.step (h.cur.only ho (by simp) (fun a ha => by cases ha)) (ho.mono (by simp))
theorem L3.alloc {w w1 : World} {lo g : Nat} {A : Option Addr} {n c : Nat} {code : List UInt8} {v : Value} {xs : List Db} {fp : List Nat} (h : L3 w lo g A n c code v xs fp w1) (o : Obj) : L3 w lo g A n c code v xs fp (w1.alloc o) := h.later (Later.alloc w1 o)
theorem L3.other {w w1 w2 : World} {lo g : Nat} {A : Option Addr} {n c : Nat} {code : List UInt8} {v v2 : Value} {xs xs2 : List Db} {fp fp2 : List Nat} (h : L3 w lo g A n c code v xs fp w1) (hown : Rep.OwnRows dbR 35 w2 w.heap.size v2 xs2 fp2) (ho : Rep.Only w1 w2 fp) : L3 w lo g A n c code v2 xs2 fp2 w2 :=
  have hf : ∀ a, a ∈ fp → w.heap.size ≤ a := fun a ha => (h.own.lt a ha).1
  ⟨hown, h.cur.only ho (fun hm => by have := hf _ hm; have := h.lt; omega) (fun a ha => by have := hf _ ha; have := h.lt; have := h.from_; omega), h.only.then ho (fun a ha => .inr (hf a ha)), h.lt, h.from_⟩
theorem L3.grown {w w1 w2 : World} {lo g : Nat} {A : Option Addr} {n c : Nat} {code : List UInt8} {v v2 : Value} {xs xs2 : List Db} {fp fp2 : List Nat} (h : L3 w lo g A n c code v xs fp w1) (hown : Rep.OwnRows dbR 35 w2 w.heap.size v2 xs2 fp2) (hg : w1.grownBy w2 v.ownBlock) (hv : ∀ k, v.ownBlock = some k → w.heap.size ≤ k ∧ k ∈ fp) : L3 w lo g A n c code v2 xs2 fp2 w2 :=
  h.other hown (Rep.Only.of_grown hg fun k hk => (hv k hk).2)
theorem L3.set {w w1 : World} {lo g : Nat} {A : Option Addr} {n c : Nat} {code : List UInt8} {G m cap k : Nat} {xs : List Db} {fp : List Nat} {x : Db} (h : L3 w lo g A n c code (.slice (some ⟨G, 0, none⟩) m cap) xs fp w1) (hx : xs[k]? = some x) (x' : Db) (j : Nat) (u : Value) (hj : j < 5) (hu : (dbC x).set j u = dbC x') : L3 w lo g A n c code (.slice (some ⟨G, 0, none⟩) m cap) (xs.set k x') fp (w1.setCell ⟨G, k * 5 + j, none⟩ u) := by
  have hG : G ∈ fp := by
    obtain ⟨_, _, _, _, h7, _⟩ := (h.own.open_ hx).choose_spec.choose_spec
    exact h7
  exact h.other (dbs_field h.own hx x' j u hj hu) (Rep.Only.setCell w1 (p := ⟨G, k * 5 + j, none⟩) hG u)
theorem L3.ret {w w1 : World} {lo g : Nat} {A : Option Addr} {n c : Nat} {code : List UInt8} {v : Value} {xs : List Db} {fp : List Nat} {P : List Db → Prop} (h : L3 w lo g A n c code v xs fp w1) (hP : P xs) : RetDraw3 w lo g A n c code P (.returned v) w1 := by
  obtain ⟨A2, c2, rfl, _, _, _⟩ := h.own.reads
  exact ⟨A2, c2, xs, fp, rfl, hP, ⟨_, rfl, h.own⟩, h.cur, h.only⟩

/-- What the loop of l3Draw keeps of the list: k are to be drawn. -/
def Pool (k : Nat) (xs : List Db) : Prop := (xs.length + k ≤ 3 ∧ ∀ x, x ∈ xs → x.name.size ≤ 100) ∧ (xs.length = 0 → 0 < k)

set_option maxRecDepth 100000 in
set_option maxHeartbeats 4000000 in
theorem l3Draw_any (lo g : Nat) (A : Option Addr) (n c : Nat) (code : List UInt8) (w : World) (h : Cur w lo g A n c code) (hn : n ≤ 140737488351232) :
    Calls Tryd.prog 61 #[.pointer (some ⟨g, 0, none⟩)] w (RetDraw3 w lo g A n c code (fun xs => FewDbs 3 xs ∧ 1 ≤ xs.length)) := by
  obtain ⟨j0, hj0, hz0, hz1, hz2⟩ := info_parts Tryd.infoDb
  have hown0 := rows_lit' w 35 dbR (by decide) (Nat.le_refl _)
  have L : L3 w lo g A n c code (.slice (some ⟨w.heap.size, 0, none⟩) 0 0) [] [w.heap.size] (w.alloc (.cells #[] 35)) :=
    ⟨hown0, h.alloc _, (Rep.only_alloc w _).mono (by simp), h.lt, h.from_⟩
  clear hown0 h
  go_enter Tryd.func61, Tryd.ntmps61
  go_wp2_with fail
  generalize w.alloc (.cells #[] 35) = W1 at L ⊢
  refine (l1Below_any lo g A n c code 3 W1 L.cur hn (by omega) (by omega)).mono ?_
  rintro e W2 ⟨x, hx, rfl, hc2, hg⟩
  replace L := L.step hc2 (only_g hg)
  clear hc2 hg
  go_wp2_with fail
  obtain ⟨W0, rfl⟩ : ∃ W0 : World, W0 = W2 := ⟨_, rfl⟩
  go_loopw [3, 4] (fun v i wr => ∃ (k : Nat) (xs : List Db) (fp : List Nat), k ≤ 3 ∧ i = .int .i64 k ∧ Hid (Pool k xs) ∧ L3 w lo g A n c code v xs fp wr) (fun _ i _ => (intOf i).toNat)
  case atStart => exact ⟨1 + x, [], _, by omega, by go_num, Lib.hid ⟨⟨by simp; omega, by simp⟩, fun _ => by omega⟩, L⟩
  case round =>
    clear L hx
    obtain ⟨k, xs, fp, hk, rfl, hp, L⟩ := hrel
    by_cases hlt : 0 < k
    · have i1 : (0 : Int) < (k : Int) := by omega
      go_wp2_with fail
      refine (l3One_any lo g A n c code wr L.cur hn).mono ?_
      rintro e W3 ⟨x, rfl, hxs, hc3, ho3⟩
      replace L := L.step hc3 ho3
      obtain ⟨A9, c9, rfl, _, _, _⟩ := L.own.reads
      clear hc3 ho3
      go_wp2_with fail
      have V := Lib.hid (heap_alloc_new W3 (.cells #[.string x.name, .int .i64 x.size, .int .i64 x.queue, .int .i64 x.wait, .int .i64 x.idle] 35))
      replace L := L.alloc (.cells #[.string x.name, .int .i64 x.size, .int .i64 x.queue, .int .i64 x.wait, .int .i64 x.idle] 35)
      generalize W3.alloc (.cells #[.string x.name, .int .i64 x.size, .int .i64 x.queue, .int .i64 x.wait, .int .i64 x.idle] 35) = W4 at V L ⊢
      generalize W3.heap.size = D at V ⊢
      obtain ⟨A8, c8, he8, _, _, hrows⟩ := L.own.reads
      injection he8 with he8 _ he9
      subst he8 he9
      obtain ⟨⟨d, y⟩, hd⟩ : ∃ p, dbAt xs x.name = p := ⟨_, rfl⟩
      have HD := Lib.hid hd
      have hlen := hp.out.1.1
      refine (dbAtS_any A9 c9 xs x.name W4 hrows (by omega)).mono ?_
      rw [hd]
      rintro e W5 hret
      obtain ⟨rfl, hb⟩ := hret.lit
      replace L := L.later hb
      replace V := Keeps.keeps (F := fun w' => Hid (w'.heap[D]? = some (.cells #[.string x.name, .int .i64 x.size, .int .i64 x.queue, .int .i64 x.wait, .int .i64 x.idle] 35 (0, 0)))) hb V
      clear hb hd hrows
      have v0 : W5.cell? ⟨D, 0, none⟩ = some (.string x.name) := var_cell V.out 0
      have v1 : W5.cell? ⟨D, 1, none⟩ = some (.int .i64 x.size) := var_cell V.out 1
      have v2 : W5.cell? ⟨D, 2, none⟩ = some (.int .i64 x.queue) := var_cell V.out 2
      have v3 : W5.cell? ⟨D, 3, none⟩ = some (.int .i64 x.wait) := var_cell V.out 3
      have v4 : W5.cell? ⟨D, 4, none⟩ = some (.int .i64 x.idle) := var_cell V.out 4
      have hDl : D < W5.heap.size := (Array.getElem?_eq_some_iff.1 V.out).1
      have HK := Lib.hid hlen
      clear hlen
      cases y
      · go_wp2_with (at_builtin
                     replace L := L.alloc (.cells #[.string d.name, .int .i64 d.size, .int .i64 d.queue, .int .i64 d.wait, .int .i64 d.idle] 35)
                     have hnew := reads_lit (W5.alloc (.cells #[.string d.name, .int .i64 d.size, .int .i64 d.queue, .int .i64 d.wait, .int .i64 d.idle] 35)) #[.string x.name, .int .i64 x.size, .int .i64 x.queue, .int .i64 x.wait, .int .i64 x.idle] 5 1 35 (g := W5.heap.size + 1) (by simp) rfl (by simp [maxLen])
                     replace L := L.alloc (.cells #[.string x.name, .int .i64 x.size, .int .i64 x.queue, .int .i64 x.wait, .int .i64 x.idle] 35)
                     go_must (refine Rep.wpList_push _ rfl (.tmp 27) (.tmp 29) _ rfl dbR w.heap.size 35 j0 _ 48 Tryd.underlying24 hj0 hz0 hz1 hz2 rfl (by decide) (.slice A9 xs.length c9) xs fp rfl L.own _ 1 _ x [] rfl hnew (by simp [Value.oneCell']) (db_own _ _ x) (fun g hg hg' => by cases hg) (by have := HK.out; simp only [maxLen]; omega) (by have := HK.out; omega) (by have := L.only.size; exact this) ?_)
                     intro A2 c2 w2 fp2 hown2 hg2 hf2 hv2
                     clear hnew)
        have L2 := L.grown hown2 hg2 hv2
        clear L hown2 hg2 hf2 hv2
        obtain ⟨k, rfl⟩ : ∃ j, k = j + 1 := ⟨k - 1, by omega⟩
        go_roundw
        case rel => exact ⟨k, xs ++ [x], fp2, by omega, by go_num, Lib.hid ⟨⟨by have := hp.out.1.1; simp; omega, fun z hz => by rcases List.mem_append.1 hz with hz | hz; exact hp.out.1.2 z hz; rw [List.mem_singleton.1 hz]; exact hxs⟩, fun hz => by simp at hz⟩, by simpa using L2⟩
        case measure => simp [intOf]
      · have hne : ¬ xs.length = 0 := by
          intro h0
          have := HD.out
          rw [List.eq_nil_of_length_eq_zero h0] at this
          cases this
        clear v0 v1 v2 v3 v4
        go_wp2_with fail
        replace L := L.alloc (.cells #[.string d.name, .int .i64 d.size, .int .i64 d.queue, .int .i64 d.wait, .int .i64 d.idle] 35)
        obtain ⟨k, rfl⟩ : ∃ j, k = j + 1 := ⟨k - 1, by omega⟩
        go_roundw
        case rel => exact ⟨k, xs, fp, by omega, by go_num, Lib.hid ⟨⟨by have := hp.out.1.1; omega, hp.out.1.2⟩, fun hz => absurd hz hne⟩, L⟩
        case measure => simp [intOf]
    · have i1 : ¬ (0 : Int) < (k : Int) := by omega
      go_wp2_with fail
      go_ret
      exact L.ret ⟨⟨by have := hp.out.1.1; omega, hp.out.1.2⟩, by have := hp.out.2; omega⟩

end Go.Proofs.YtannedjfmgflpaaDoor
