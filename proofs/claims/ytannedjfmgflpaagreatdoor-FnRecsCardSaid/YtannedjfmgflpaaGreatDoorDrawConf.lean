/- The draws of chapter 3: a database, a configuration, any list of databases, a text. Any list of databases that is drawn. Texts of configurations that are drawn; bytes that are bent. The draws of FnConfs. -/
import Derived.Test.YtannedjfmgflpaaGreatDoorCur
import Derived.Test.YtannedjfmgflpaaGreatDoorConfTextS
import Derived.Test.YtannedjfmgflpaaGreatDoorParseConfS
import Derived.Deep.Cut
import Derived.Deep.CutBlock
import Derived.Test.YtannedjfmgflpaaGreatDoorConfLaw
import Derived.Test.YtannedjfmgflpaaGreatDoorTurn
import Derived.Laws.IdiomStrings
import Derived.Lib.ConvBytes
namespace Go.Proofs.YtannedjfmgflpaaGreatDoor
open Go.RowKit
set_option maxRecDepth 100000
set_option linter.unusedVariables false

theorem db_own_nil {w : World} {base : Nat} {cs : List Value} {d : Db} {fp : List Nat} (h : dbR.own w base cs d fp) : cs = dbC d ∧ fp = [] := by
  refine ⟨db_cells (Rep.reads dbR h), ?_⟩
  obtain ⟨f1, g1, ⟨_, rfl⟩, ⟨f2, g2, ⟨_, rfl⟩, ⟨f3, g3, ⟨_, rfl⟩, ⟨f4, g4, ⟨_, rfl⟩, ⟨_, rfl⟩, rfl, _⟩, rfl, _⟩, rfl, _⟩, rfl, _⟩ := h
  rfl

/-- A field of an element of a row of the call's own is stored. -/
theorem dbs_field {w : World} {base g n cap k : Nat} {xs : List Db} {fp : List Nat} {x : Db} (h : Rep.OwnRows dbR 76 w base (.slice (some ⟨g, 0, none⟩) n cap) xs fp) (hx : xs[k]? = some x) (x' : Db) (j : Nat) (u : Value) (hj : j < 5) (hu : (dbC x).set j u = dbC x') :
    Rep.OwnRows dbR 76 (w.setCell ⟨g, k * 5 + j, none⟩ u) base (.slice (some ⟨g, 0, none⟩) n cap) (xs.set k x') fp := by
  obtain ⟨c, f, hown, _, _, _, _, _, _, _, _, hset⟩ := h.open_ hx
  obtain ⟨rfl, rfl⟩ := db_own_nil hown
  exact hset x' j u hj (by rw [hu]; exact db_own _ _ x')

/-- Not many, and no long names. -/
def FewDbs (m : Nat) (xs : List Db) : Prop := xs.length ≤ m ∧ ∀ x, x ∈ xs → x.name.size ≤ 100
theorem FewDbs.fits {m : Nat} {xs : List Db} (h : FewDbs m xs) (hm : m ≤ 1048576) : FitsDbs xs := ⟨Nat.le_trans h.1 hm, fun x hx => by have := h.2 x hx; omega⟩
theorem FewDbs.push {m : Nat} {xs : List Db} {x : Db} (h : FewDbs m xs) (hx : x.name.size ≤ 100) : FewDbs (m + 1) (xs ++ [x]) :=
  ⟨by have := h.1; simp; omega, fun y hy => by rcases List.mem_append.1 hy with hy | hy; exact h.2 y hy; rw [List.mem_singleton.1 hy]; exact hx⟩
theorem FewDbs.set {m k : Nat} {xs : List Db} {x : Db} (h : FewDbs m xs) (hx : x.name.size ≤ 100) : FewDbs m (xs.set k x) :=
  ⟨by simpa using h.1, fun y hy => by rcases List.mem_or_eq_of_mem_set hy with hy | rfl; exact h.2 y hy; exact hx⟩
theorem FewDbs.more {m m' : Nat} {xs : List Db} (h : FewDbs m xs) (hm : m ≤ m') : FewDbs m' xs := ⟨Nat.le_trans h.1 hm, h.2⟩

/-- A list of databases of the call's own comes back; what was there stands, but for the cursor. -/
def RetDraw3 (w : World) (lo g : Nat) (A : Option Addr) (n c : Nat) (code : List UInt8) (P : List Db → Prop) (e : Ending) (w' : World) : Prop :=
  ∃ A2 c2 xs fp, e = .returned (.slice A2 xs.length c2) ∧ P xs ∧ dbsR.own w' w.heap.size [.slice A2 xs.length c2] xs fp ∧ Cur w' lo g A n c code ∧ Rep.Only w w' [g]
/-- A database comes back. -/
def RetDb3 (w : World) (lo g : Nat) (A : Option Addr) (n c : Nat) (code : List UInt8) (e : Ending) (w' : World) : Prop :=
  ∃ x : Db, e = .returned (.agg #[.string x.name, .int .i64 x.size, .int .i64 x.queue, .int .i64 x.wait, .int .i64 x.idle]) ∧ x.name.size ≤ 100 ∧ Cur w' lo g A n c code ∧ Rep.Only w w' [g]

theorem putD5_only (w : World) (D : Nat) (a b c d e : Value) : Rep.Only w (((((w.setCell ⟨D, 0, none⟩ a).setCell ⟨D, 1, none⟩ b).setCell ⟨D, 2, none⟩ c).setCell ⟨D, 3, none⟩ d).setCell ⟨D, 4, none⟩ e) [D] :=
  ((((Rep.Only.setCell w (p := ⟨D, 0, none⟩) (by simp) a).trans (Rep.Only.setCell _ (p := ⟨D, 1, none⟩) (by simp) b)).trans (Rep.Only.setCell _ (p := ⟨D, 2, none⟩) (by simp) c)).trans (Rep.Only.setCell _ (p := ⟨D, 3, none⟩) (by simp) d)).trans (Rep.Only.setCell _ (p := ⟨D, 4, none⟩) (by simp) e)

set_option maxRecDepth 100000 in
set_option maxHeartbeats 4000000 in
theorem l3One_any (lo g : Nat) (A : Option Addr) (n c : Nat) (code : List UInt8) (w : World) (h : Cur w lo g A n c code) (hn : n ≤ 140737488351232) :
    Calls Tryz.prog 56 #[.pointer (some ⟨g, 0, none⟩)] w (RetDb3 w lo g A n c code) := by
  have hglt := h.lt
  have hlg := h.from_
  go_enter Tryz.func56, Tryz.ntmps56
  go_wp2_with fail
  have ho1 := Rep.only_alloc w (.cells #[.string ⟨#[]⟩, .int .i64 0, .int .i64 0, .int .i64 0, .int .i64 0] 76)
  have hv1 := heap_alloc_new w (.cells #[.string ⟨#[]⟩, .int .i64 0, .int .i64 0, .int .i64 0, .int .i64 0] 76)
  have hs1 : (w.alloc (.cells #[.string ⟨#[]⟩, .int .i64 0, .int .i64 0, .int .i64 0, .int .i64 0] 76)).heap.size = w.heap.size + 1 := by simp
  generalize hgW : w.alloc (.cells #[.string ⟨#[]⟩, .int .i64 0, .int .i64 0, .int .i64 0, .int .i64 0] 76) = W1 at ho1 hv1 hs1 ⊢
  clear hgW
  have hc1 := h.only ho1 (by simp) (fun a ha => by cases ha)
  have O1 : Rep.Only w W1 [g] := ho1.mono (by simp)
  have V1 := Lib.hid hv1
  clear ho1 hv1 h
  rw [← hs1]
  refine (draw_str lo g A n c code [⟨#[109, 97, 105, 110]⟩, ⟨#[109, 97, 105, 110]⟩, ⟨#[108, 111, 103, 115]⟩, ⟨#[120]⟩] W1 hc1 hn (by decide) (by decide)).mono ?_
  rintro e W2 ⟨x1, hx1, rfl, hc2, ho⟩
  have X1 : x1.size ≤ 100 := by simp only [List.mem_cons, List.not_mem_nil, or_false] at hx1; rcases hx1 with rfl | rfl | rfl | rfl <;> decide
  have V2 := Rep.var_only V1 ho (by omega) (by simp; omega)
  have O2 := O1.then ho (fun a ha => .inl ha)
  have s2 := ho.size
  clear ho hc1 V1 O1 hx1
  go_wp2_with fail
  refine (l1Below_any lo g A n c code 3 W2 hc2 hn (by omega) (by omega)).mono ?_
  rintro e W3 ⟨x2, hx2, rfl, hc3, hg⟩
  have ho := only_g hg
  have V3 := Rep.var_only V2 ho (by omega) (by simp; omega)
  have O3 := O2.then ho (fun a ha => .inl ha)
  have s3 := ho.size
  clear ho hg hc2 V2 O2
  go_wp2_with fail
  refine (l1Below_any lo g A n c code 5 W3 hc3 hn (by omega) (by omega)).mono ?_
  rintro e W4 ⟨x3, hx3, rfl, hc4, hg⟩
  have ho := only_g hg
  have V4 := Rep.var_only V3 ho (by omega) (by simp; omega)
  have O4 := O3.then ho (fun a ha => .inl ha)
  have s4 := ho.size
  clear ho hg hc3 V3 O3
  go_wp2_with fail
  refine (draw_int lo g A n c code [1, 2, 5, 20] W4 hc4 hn (by decide) (by decide)).mono ?_
  rintro e W5 ⟨x4, hx4, rfl, hc5, ho⟩
  have V5 := Rep.var_only V4 ho (by omega) (by simp; omega)
  have O5 := O4.then ho (fun a ha => .inl ha)
  have s5 := ho.size
  clear ho hx4 hc4 V4 O4
  go_wp2_with fail
  refine (draw_int lo g A n c code [1, 3, 20] W5 hc5 hn (by decide) (by decide)).mono ?_
  rintro e W6 ⟨x5, hx5, rfl, hc6, ho⟩
  have V6 := Rep.var_only V5 ho (by omega) (by simp; omega)
  have O6 := O5.then ho (fun a ha => .inl ha)
  have s6 := ho.size
  clear ho hx5 hc5 V5 O5
  have q0 : W6.cell? ⟨w.heap.size, 0, none⟩ = some (.string ⟨#[]⟩) := var_cell V6.out 0
  have q1 : W6.cell? ⟨w.heap.size, 1, none⟩ = some (.int .i64 0) := var_cell V6.out 1
  have q2 : W6.cell? ⟨w.heap.size, 2, none⟩ = some (.int .i64 0) := var_cell V6.out 2
  have q3 : W6.cell? ⟨w.heap.size, 3, none⟩ = some (.int .i64 0) := var_cell V6.out 3
  have q4 : W6.cell? ⟨w.heap.size, 4, none⟩ = some (.int .i64 0) := var_cell V6.out 4
  have f0 := var_frozen V6.out 0
  have f1 := var_frozen V6.out 1
  have f2 := var_frozen V6.out 2
  have f3 := var_frozen V6.out 3
  have f4 := var_frozen V6.out 4
  have hlt : w.heap.size < W6.heap.size := by omega
  have o8 := putD5_only W6 w.heap.size (.string x1) (.int .i64 (1 + (x2 : Int))) (.int .i64 (x3 : Int)) (.int .i64 x4) (.int .i64 x5)
  have HE := Lib.hid (And.intro (hc6.only o8 (by simp; omega) (fun a ha => by simp at ha; omega)) (O6.then o8 (fun a ha => .inr (by simp at ha; omega))))
  clear hc6 O6 o8 V6
  go_wp2_with fail
  refine bodyPost_ret (v := .agg #[.string x1, .int .i64 (1 + (x2 : Int)), .int .i64 (x3 : Int), .int .i64 x4, .int .i64 x5]) (by simp [results, Tryz.results56, go_sem, q0, q1, q2, q3, q4]) rfl ⟨⟨x1, 1 + (x2 : Int), (x3 : Int), x4, x5⟩, rfl, X1, HE.out.1, HE.out.2⟩

theorem RetDb.lit {w w' : World} {p : Db × Bool} {e : Ending} (h : RetDb w p e w') : e = .returned (.tuple #[.agg #[.string p.1.name, .int .i64 p.1.size, .int .i64 p.1.queue, .int .i64 p.1.wait, .int .i64 p.1.idle], .bool p.2]) ∧ Below w.heap.size w w' := h

/-- A row of databases of the call's own, beside the cursor. -/
structure L3 (w : World) (lo g : Nat) (A : Option Addr) (n c : Nat) (code : List UInt8) (v : Value) (xs : List Db) (fp : List Nat) (wr : World) : Prop where
  own : Rep.OwnRows dbR 76 wr w.heap.size v xs fp
  cur : Cur wr lo g A n c code
  only : Rep.Only w wr [g]
  lt : g < w.heap.size
  from_ : lo ≤ g
theorem L3.step {w w1 w2 : World} {lo g : Nat} {A : Option Addr} {n c : Nat} {code : List UInt8} {v : Value} {xs : List Db} {fp : List Nat} (h : L3 w lo g A n c code v xs fp w1) (hc : Cur w2 lo g A n c code) (ho : Rep.Only w1 w2 [g]) : L3 w lo g A n c code v xs fp w2 :=
  ⟨h.own.kept fun a ha => ho.block a (h.own.lt a ha).2 (by have := (h.own.lt a ha).1; have := h.lt; simp; omega), hc, h.only.then ho (fun a ha => .inl ha), h.lt, h.from_⟩
theorem L3.later {w w1 w2 : World} {lo g : Nat} {A : Option Addr} {n c : Nat} {code : List UInt8} {v : Value} {xs : List Db} {fp : List Nat} (h : L3 w lo g A n c code v xs fp w1) (hb : Below w1.heap.size w1 w2) : L3 w lo g A n c code v xs fp w2 :=
  have ho := Rep.only_of_below hb
  h.step (h.cur.only ho (by simp) (fun a ha => by cases ha)) (ho.mono (by simp))
theorem L3.alloc {w w1 : World} {lo g : Nat} {A : Option Addr} {n c : Nat} {code : List UInt8} {v : Value} {xs : List Db} {fp : List Nat} (h : L3 w lo g A n c code v xs fp w1) (o : Obj) : L3 w lo g A n c code v xs fp (w1.alloc o) := h.later (Later.alloc w1 o)
theorem L3.other {w w1 w2 : World} {lo g : Nat} {A : Option Addr} {n c : Nat} {code : List UInt8} {v v2 : Value} {xs xs2 : List Db} {fp fp2 : List Nat} (h : L3 w lo g A n c code v xs fp w1) (hown : Rep.OwnRows dbR 76 w2 w.heap.size v2 xs2 fp2) (ho : Rep.Only w1 w2 fp) : L3 w lo g A n c code v2 xs2 fp2 w2 :=
  have hf : ∀ a, a ∈ fp → w.heap.size ≤ a := fun a ha => (h.own.lt a ha).1
  ⟨hown, h.cur.only ho (fun hm => by have := hf _ hm; have := h.lt; omega) (fun a ha => by have := hf _ ha; have := h.lt; have := h.from_; omega), h.only.then ho (fun a ha => .inr (hf a ha)), h.lt, h.from_⟩
theorem L3.grown {w w1 w2 : World} {lo g : Nat} {A : Option Addr} {n c : Nat} {code : List UInt8} {v v2 : Value} {xs xs2 : List Db} {fp fp2 : List Nat} (h : L3 w lo g A n c code v xs fp w1) (hown : Rep.OwnRows dbR 76 w2 w.heap.size v2 xs2 fp2) (hg : w1.grownBy w2 v.ownBlock) (hv : ∀ k, v.ownBlock = some k → w.heap.size ≤ k ∧ k ∈ fp) : L3 w lo g A n c code v2 xs2 fp2 w2 :=
  h.other hown (Rep.Only.of_grown hg fun k hk => (hv k hk).2)
theorem L3.set {w w1 : World} {lo g : Nat} {A : Option Addr} {n c : Nat} {code : List UInt8} {G m cap k : Nat} {xs : List Db} {fp : List Nat} {x : Db} (h : L3 w lo g A n c code (.slice (some ⟨G, 0, none⟩) m cap) xs fp w1) (hx : xs[k]? = some x) (x' : Db) (j : Nat) (u : Value) (hj : j < 5) (hu : (dbC x).set j u = dbC x') : L3 w lo g A n c code (.slice (some ⟨G, 0, none⟩) m cap) (xs.set k x') fp (w1.setCell ⟨G, k * 5 + j, none⟩ u) := by
  have hG : G ∈ fp := by
    obtain ⟨_, _, _, _, h7, _⟩ := (h.own.open_ hx).choose_spec.choose_spec
    exact h7
  exact h.other (dbs_field h.own hx x' j u hj hu) (Rep.Only.setCell w1 (p := ⟨G, k * 5 + j, none⟩) hG u)
theorem L3.ret {w w1 : World} {lo g : Nat} {A : Option Addr} {n c : Nat} {code : List UInt8} {v : Value} {xs : List Db} {fp : List Nat} {P : List Db → Prop} (h : L3 w lo g A n c code v xs fp w1) (hP : P xs) : RetDraw3 w lo g A n c code P (.returned v) w1 := by
  obtain ⟨A2, c2, rfl, _, _, _⟩ := h.own.reads
  exact ⟨A2, c2, xs, fp, rfl, hP, ⟨_, rfl, h.own⟩, h.cur, h.only⟩

/-- What the loop of l3Draw keeps of the list: k are to be drawn. -/
def Pool (k : Nat) (xs : List Db) : Prop := (xs.length + k ≤ 3 ∧ ∀ x, x ∈ xs → x.name.size ≤ 100) ∧ (xs.length = 0 → 0 < k)

set_option maxRecDepth 100000 in
set_option maxHeartbeats 4000000 in
theorem l3Draw_any (lo g : Nat) (A : Option Addr) (n c : Nat) (code : List UInt8) (w : World) (h : Cur w lo g A n c code) (hn : n ≤ 140737488351232) :
    Calls Tryz.prog 46 #[.pointer (some ⟨g, 0, none⟩)] w (RetDraw3 w lo g A n c code (fun xs => FewDbs 3 xs ∧ 1 ≤ xs.length)) := by
  obtain ⟨j0, hj0, hz0, hz1, hz2⟩ := info_parts Tryz.infoDb
  have hown0 := rows_lit' w 76 dbR (by decide) (Nat.le_refl _)
  have L : L3 w lo g A n c code (.slice (some ⟨w.heap.size, 0, none⟩) 0 0) [] [w.heap.size] (w.alloc (.cells #[] 76)) :=
    ⟨hown0, h.alloc _, (Rep.only_alloc w _).mono (by simp), h.lt, h.from_⟩
  clear hown0 h
  go_enter Tryz.func46, Tryz.ntmps46
  go_wp2_with fail
  generalize w.alloc (.cells #[] 76) = W1 at L ⊢
  refine (l1Below_any lo g A n c code 3 W1 L.cur hn (by omega) (by omega)).mono ?_
  rintro e W2 ⟨x, hx, rfl, hc2, hg⟩
  replace L := L.step hc2 (only_g hg)
  clear hc2 hg
  go_wp2_with fail
  obtain ⟨W0, rfl⟩ : ∃ W0 : World, W0 = W2 := ⟨_, rfl⟩
  go_loopw [3, 4] (fun v i wr => ∃ (k : Nat) (xs : List Db) (fp : List Nat), k ≤ 3 ∧ i = .int .i64 k ∧ Hid (Pool k xs) ∧ L3 w lo g A n c code v xs fp wr) (fun _ i _ => (intOf i).toNat)
  case atStart => exact ⟨1 + x, [], _, by omega, by go_num, Lib.hid ⟨⟨by simp; omega, by simp⟩, fun _ => by omega⟩, L⟩
  case round =>
    clear L hx
    obtain ⟨k, xs, fp, hk, rfl, hp, L⟩ := hrel
    by_cases hlt : 0 < k
    · have i1 : (0 : Int) < (k : Int) := by omega
      go_wp2_with fail
      refine (l3One_any lo g A n c code wr L.cur hn).mono ?_
      rintro e W3 ⟨x, rfl, hxs, hc3, ho3⟩
      replace L := L.step hc3 ho3
      obtain ⟨A9, c9, rfl, _, _, _⟩ := L.own.reads
      clear hc3 ho3
      go_wp2_with fail
      have V := Lib.hid (heap_alloc_new W3 (.cells #[.string x.name, .int .i64 x.size, .int .i64 x.queue, .int .i64 x.wait, .int .i64 x.idle] 76))
      replace L := L.alloc (.cells #[.string x.name, .int .i64 x.size, .int .i64 x.queue, .int .i64 x.wait, .int .i64 x.idle] 76)
      generalize W3.alloc (.cells #[.string x.name, .int .i64 x.size, .int .i64 x.queue, .int .i64 x.wait, .int .i64 x.idle] 76) = W4 at V L ⊢
      generalize W3.heap.size = D at V ⊢
      obtain ⟨A8, c8, he8, _, _, hrows⟩ := L.own.reads
      injection he8 with he8 _ he9
      subst he8 he9
      obtain ⟨⟨d, y⟩, hd⟩ : ∃ p, dbAt xs x.name = p := ⟨_, rfl⟩
      have HD := Lib.hid hd
      have hlen := hp.out.1.1
      refine (dbAtS_any A9 c9 xs x.name W4 hrows (by omega)).mono ?_
      rw [hd]
      rintro e W5 hret
      obtain ⟨rfl, hb⟩ := hret.lit
      replace L := L.later hb
      replace V := Keeps.keeps (F := fun w' => Hid (w'.heap[D]? = some (.cells #[.string x.name, .int .i64 x.size, .int .i64 x.queue, .int .i64 x.wait, .int .i64 x.idle] 76 (0, 0)))) hb V
      clear hb hd hrows
      have v0 : W5.cell? ⟨D, 0, none⟩ = some (.string x.name) := var_cell V.out 0
      have v1 : W5.cell? ⟨D, 1, none⟩ = some (.int .i64 x.size) := var_cell V.out 1
      have v2 : W5.cell? ⟨D, 2, none⟩ = some (.int .i64 x.queue) := var_cell V.out 2
      have v3 : W5.cell? ⟨D, 3, none⟩ = some (.int .i64 x.wait) := var_cell V.out 3
      have v4 : W5.cell? ⟨D, 4, none⟩ = some (.int .i64 x.idle) := var_cell V.out 4
      have hDl : D < W5.heap.size := (Array.getElem?_eq_some_iff.1 V.out).1
      have HK := Lib.hid hlen
      clear hlen
      cases y
      · go_wp2_with (at_builtin
                     replace L := L.alloc (.cells #[.string d.name, .int .i64 d.size, .int .i64 d.queue, .int .i64 d.wait, .int .i64 d.idle] 76)
                     have hnew := reads_lit (W5.alloc (.cells #[.string d.name, .int .i64 d.size, .int .i64 d.queue, .int .i64 d.wait, .int .i64 d.idle] 76)) #[.string x.name, .int .i64 x.size, .int .i64 x.queue, .int .i64 x.wait, .int .i64 x.idle] 5 1 76 (g := W5.heap.size + 1) (by simp) rfl (by simp [maxLen])
                     replace L := L.alloc (.cells #[.string x.name, .int .i64 x.size, .int .i64 x.queue, .int .i64 x.wait, .int .i64 x.idle] 76)
                     go_must (refine Rep.wpList_push _ rfl (.tmp 27) (.tmp 29) _ rfl dbR w.heap.size 76 j0 _ 48 Tryz.underlying67 hj0 hz0 hz1 hz2 rfl (by decide) (.slice A9 xs.length c9) xs fp rfl L.own _ 1 _ x [] rfl hnew (by simp [Value.oneCell']) (db_own _ _ x) (fun g hg hg' => by cases hg) (by have := HK.out; simp only [maxLen]; omega) (by have := HK.out; omega) (by have := L.only.size; exact this) ?_)
                     intro A2 c2 w2 fp2 hown2 hg2 hf2 hv2
                     clear hnew)
        have L2 := L.grown hown2 hg2 hv2
        clear L hown2 hg2 hf2 hv2
        obtain ⟨k, rfl⟩ : ∃ j, k = j + 1 := ⟨k - 1, by omega⟩
        go_roundw
        case rel => exact ⟨k, xs ++ [x], fp2, by omega, by go_num, Lib.hid ⟨⟨by have := hp.out.1.1; simp; omega, fun z hz => by rcases List.mem_append.1 hz with hz | hz; exact hp.out.1.2 z hz; rw [List.mem_singleton.1 hz]; exact hxs⟩, fun hz => by simp at hz⟩, by simpa using L2⟩
        case measure => simp [intOf]
      · have hne : ¬ xs.length = 0 := by
          intro h0
          have := HD.out
          rw [List.eq_nil_of_length_eq_zero h0] at this
          cases this
        clear v0 v1 v2 v3 v4
        go_wp2_with fail
        replace L := L.alloc (.cells #[.string d.name, .int .i64 d.size, .int .i64 d.queue, .int .i64 d.wait, .int .i64 d.idle] 76)
        obtain ⟨k, rfl⟩ : ∃ j, k = j + 1 := ⟨k - 1, by omega⟩
        go_roundw
        case rel => exact ⟨k, xs, fp, by omega, by go_num, Lib.hid ⟨⟨by have := hp.out.1.1; omega, hp.out.1.2⟩, fun hz => absurd hz hne⟩, L⟩
        case measure => simp [intOf]
    · have i1 : ¬ (0 : Int) < (k : Int) := by omega
      go_wp2_with fail
      go_ret
      exact L.ret ⟨⟨by have := hp.out.1.1; omega, hp.out.1.2⟩, by have := hp.out.2; omega⟩

end Go.Proofs.YtannedjfmgflpaaGreatDoor

namespace Go.Proofs.YtannedjfmgflpaaGreatDoor
open Go.RowKit
set_option linter.unusedVariables false

def flatL (xs : List Db) : List Value := xs.flatMap dbC
theorem flatL_append (xs ys : List Db) : flatL (xs ++ ys) = flatL xs ++ flatL ys := by simp [flatL]
theorem flatL_length (xs : List Db) : (flatL xs).length = xs.length * 5 := by
  induction xs with
  | nil => rfl
  | cons x r ih =>
    show (dbC x ++ flatL r).length = (r.length + 1) * 5
    rw [List.length_append, ih]
    show 5 + r.length * 5 = (r.length + 1) * 5
    omega
theorem seg_flat : ∀ (xs : List Db) (i : Nat) (x : Db), xs[i]? = some x → Rep.seg 5 i (flatL xs) = dbC x := by
  intro xs
  induction xs with
  | nil => intro i x h; simp at h
  | cons y r ih =>
    intro i x h
    cases i with
    | zero =>
      have h2 : y = x := by simpa using h
      subst h2
      rfl
    | succ i =>
      have h2 : r[i]? = some x := by simpa using h
      rw [← ih i x h2]
      show ((dbC y ++ flatL r).drop ((i + 1) * 5)).take 5 = ((flatL r).drop (i * 5)).take 5
      have e : (i + 1) * 5 = (dbC y).length + i * 5 := by show (i + 1) * 5 = 5 + i * 5; omega
      rw [e, List.drop_length_add_append]
theorem flat_of : ∀ (xs : List Db) (cells : List Value), cells.length = xs.length * 5 → (∀ i x, xs[i]? = some x → Rep.seg 5 i cells = dbC x) → cells = flatL xs := by
  intro xs
  induction xs with
  | nil => intro cells hl _; exact List.eq_nil_of_length_eq_zero (by simpa using hl)
  | cons y r ih =>
    intro cells hl h
    have h0 : cells.take 5 = dbC y := by simpa [Rep.seg] using h 0 y rfl
    have h1 := ih (cells.drop 5) (by simp at hl ⊢; omega) fun i x hx => by
      rw [← h (i + 1) x (by simpa using hx)]
      unfold Rep.seg
      rw [List.drop_drop]
      congr 2
      omega
    show cells = dbC y ++ flatL r
    rw [← h0, ← h1, List.take_append_drop]
theorem one_flat (xs : List Db) : ∀ u ∈ flatL xs, u.oneCell' = true := by
  intro u hu
  obtain ⟨x, _, hx⟩ := List.mem_flatMap.1 hu
  simp only [dbC, List.mem_cons, List.not_mem_nil, or_false] at hx
  rcases hx with rfl | rfl | rfl | rfl | rfl <;> rfl
theorem rows_flat {w : World} {base : Nat} {v : Value} {xs : List Db} {fp : List Nat} (h : Rep.OwnRows dbR 76 w base v xs fp) : w.ownsRow base 76 5 v xs.length (flatL xs) ∧ ∀ k, v.ownBlock = some k → base ≤ k ∧ k ∈ fp := by
  obtain ⟨cells, fps, hrow, hl, he, hfp, hn⟩ := h
  have hc := flat_of xs cells hrow.1 fun i x hx => by
    obtain ⟨f, hf⟩ := Rep.getElem?_of_lt hl (List.getElem?_eq_some_iff.1 hx).1
    exact (db_own_nil (he i x f hx hf)).1
  rw [← hc]
  exact ⟨hrow, fun k hk => ⟨(hrow.lt k hk).1, by rw [hfp, hk]; simp⟩⟩
theorem rows_of {w : World} {base : Nat} {v : Value} {xs : List Db} (h : w.ownsRow base 76 5 v xs.length (flatL xs)) : ∃ fp, Rep.OwnRows dbR 76 w base v xs fp := by
  refine ⟨_, flatL xs, List.replicate xs.length [], h, by simp, fun i x f hx hf => ?_, rfl, ?_⟩
  · have hf2 : f = [] := by
      rw [List.getElem?_replicate] at hf
      split at hf
      · injection hf with hf; exact hf.symm
      · cases hf
    subst hf2
    show dbR.own w base (Rep.seg 5 i (flatL xs)) x []
    rw [seg_flat xs i x hx]
    exact db_own w base x
  · rw [show (List.replicate xs.length ([] : List Nat)).flatten = [] by simp, List.append_nil]
    exact Rep.nodup_toList _
theorem rows_reads {w : World} {B n : Nat} {A : Option Addr} {xs : List Db} (h : Rep.RowsAt dbR w B A n xs) : Reads w B 5 A n (flatL xs) := by
  obtain ⟨hl, cells, hr, he⟩ := h
  subst hl
  have hc := flat_of xs cells hr.1 fun i x hx => db_cells (he i x hx)
  rw [← hc]
  exact hr

theorem L3.block {w wr : World} {lo g : Nat} {A : Option Addr} {n c : Nat} {code : List UInt8} {v : Value} {xs : List Db} {fp : List Nat} (h : L3 w lo g A n c code v xs fp wr) (h0 : 0 < xs.length) : ∃ G cap, v = .slice (some ⟨G, 0, none⟩) xs.length cap := by
  obtain ⟨cells, fps, hrow, _⟩ := h.own
  rcases hrow.2 with ⟨_, h1⟩ | ⟨G, cap, cur, rfl, _⟩
  · omega
  · exact ⟨G, cap, rfl⟩
theorem L3.of_draw {w w1 w2 : World} {lo g : Nat} {A : Option Addr} {n c : Nat} {code : List UInt8} {A2 : Option Addr} {c2 : Nat} {xs : List Db} {fp : List Nat} (hown : dbsR.own w2 w1.heap.size [.slice A2 xs.length c2] xs fp) (hc : Cur w2 lo g A n c code) (ho : Rep.Only w1 w2 [g]) (h0 : Rep.Only w w1 [g]) (hlt : g < w.heap.size) (hlo : lo ≤ g) : L3 w lo g A n c code (.slice A2 xs.length c2) xs fp w2 := by
  obtain ⟨v, hv, hr⟩ := hown
  injection hv with hv _
  subst hv
  exact ⟨hr.low h0.size, hc, h0.trans ho, hlt, hlo⟩
/-- An element's cells. -/
theorem L3.cells {w wr : World} {lo g : Nat} {A : Option Addr} {n c : Nat} {code : List UInt8} {G m cap k : Nat} {xs : List Db} {fp : List Nat} {x : Db} (h : L3 w lo g A n c code (.slice (some ⟨G, 0, none⟩) m cap) xs fp wr) (hx : xs[k]? = some x) :
    (wr.cell? ⟨G, k * 5, none⟩ = some (.string x.name) ∧ wr.cell? ⟨G, k * 5 + 1, none⟩ = some (.int .i64 x.size) ∧ wr.cell? ⟨G, k * 5 + 2, none⟩ = some (.int .i64 x.queue) ∧ wr.cell? ⟨G, k * 5 + 3, none⟩ = some (.int .i64 x.wait) ∧ wr.cell? ⟨G, k * 5 + 4, none⟩ = some (.int .i64 x.idle)) ∧ (∀ j, wr.frozen? ⟨G, j, none⟩ = false) ∧ G < wr.heap.size := by
  obtain ⟨cs, f, hown, hc, hfz, _, _, _, _, hlt, _⟩ := h.own.open_ hx
  obtain ⟨rfl, rfl⟩ := db_own_nil hown
  exact ⟨⟨hc 0 _ rfl, hc 1 _ rfl, hc 2 _ rfl, hc 3 _ rfl, hc 4 _ rfl⟩, hfz, hlt⟩

end Go.Proofs.YtannedjfmgflpaaGreatDoor

namespace Go.Proofs.YtannedjfmgflpaaGreatDoor
open Go.RowKit
set_option linter.unusedVariables false

/-- A short text comes back. -/
def RetText (w : World) (lo g : Nat) (A : Option Addr) (n c : Nat) (code : List UInt8) (e : Ending) (w' : World) : Prop :=
  ∃ s : ByteArray, e = .returned (.string s) ∧ s.size ≤ 100 ∧ Cur w' lo g A n c code ∧ Rep.Only w w' [g]
def texts3 : List ByteArray := [⟨#[]⟩, ⟨#[109, 97, 105, 110]⟩, ⟨#[109, 97, 105, 110, 58, 49]⟩, ⟨#[109, 97, 105, 110, 58, 49, 47, 50, 47, 51]⟩, ⟨#[109, 97, 105, 110, 58, 48, 49, 47, 50, 47, 51, 47, 52]⟩, ⟨#[109, 97, 105, 110, 58, 49, 47, 50, 47, 51, 47, 52, 59]⟩, ⟨#[59, 109, 97, 105, 110, 58, 49, 47, 50, 47, 51, 47, 52]⟩, ⟨#[109, 97, 105, 110, 58, 49, 47, 50, 47, 51, 47, 52, 59, 109, 97, 105, 110, 58, 49, 47, 49, 47, 49, 47, 49]⟩, ⟨#[109, 97, 105, 110, 58, 49, 47, 50, 47, 51, 47, 52, 47, 53]⟩, ⟨#[109, 97, 105, 110, 58, 52, 47, 50, 47, 51, 47, 52]⟩, ⟨#[109, 97, 105, 110, 58, 49, 47, 53, 47, 51, 47, 52]⟩, ⟨#[109, 97, 105, 110, 58, 49, 47, 50, 47, 48, 47, 52]⟩, ⟨#[109, 97, 105, 110, 58, 49, 47, 50, 47, 51, 47, 49, 48, 48]⟩, ⟨#[77, 97, 105, 110, 58, 49, 47, 50, 47, 51, 47, 52]⟩, ⟨#[109, 97, 105, 110, 58, 49, 47, 50, 47, 51, 47, 52, 32]⟩, ⟨#[58, 49, 47, 50, 47, 51, 47, 52]⟩, ⟨#[97, 58, 49, 47, 48, 47, 49, 47, 49, 59, 98, 58, 49, 47, 48, 47, 49, 47, 49, 59, 99, 58, 49, 47, 48, 47, 49, 47, 49, 59, 100, 58, 49, 47, 48, 47, 49, 47, 49]⟩, ⟨#[97, 58, 98, 58, 49, 47, 50, 47, 51, 47, 52]⟩]
theorem texts3_size : ∀ z, z ∈ texts3 → z.size ≤ 100 := by decide

set_option maxRecDepth 100000 in
set_option maxHeartbeats 4000000 in
theorem l3Text_any (lo g : Nat) (A : Option Addr) (n c : Nat) (code : List UInt8) (w : World) (h : Cur w lo g A n c code) (hn : n ≤ 140737488351232) :
    Calls Tryz.prog 40 #[.pointer (some ⟨g, 0, none⟩)] w (RetText w lo g A n c code) := by
  have hglt := h.lt
  have hlg := h.from_
  go_enter Tryz.func40, Tryz.ntmps40
  go_wp2_with fail
  refine (l1Once_any lo g A n c code 3 w h hn (by omega) (by omega)).mono ?_
  rintro e W1 ⟨y, rfl, hc1, hg1⟩
  have ho1 := only_g hg1
  clear hg1 h
  cases y
  · go_wp2_with fail
    refine (l3Draw_any lo g A n c code W1 hc1 hn).mono ?_
    rintro e W2 ⟨A2, c2, xs, fp, rfl, hP, hown, hc2, ho2⟩
    have L := L3.of_draw hown hc2 ho2 ho1 hglt hlg
    obtain ⟨hfew, h1⟩ := hP
    clear hown hc2 ho2 hc1 ho1
    obtain ⟨A8, c8, he8, _, _, hrows⟩ := L.own.reads
    injection he8 with he8 _ he9
    subst he8 he9
    go_wp2_with fail
    refine (confTextS_any A2 c2 xs W2 hrows (hfew.fits (by omega))).mono ?_
    rintro e W3 ⟨rfl, hb⟩
    replace L := L.later hb
    clear hrows hb
    go_wp2_with fail
    go_ret
    exact ⟨confT xs, rfl, confT_len xs, L.cur, L.only⟩
  · go_wp2_with fail
    refine (draw_str lo g A n c code texts3 W1 hc1 hn (by decide) (by decide)).mono ?_
    rintro e W2 ⟨z, hz, rfl, hc2, ho2⟩
    have hzs := texts3_size z hz
    clear hz
    go_wp2_with fail
    go_ret
    exact ⟨z, rfl, hzs, hc2, ho1.trans ho2⟩

/-- Bytes come back, hardly more than were given. -/
def RetBend (w : World) (lo g : Nat) (A : Option Addr) (n c : Nat) (code l : List UInt8) (e : Ending) (w' : World) : Prop :=
  ∃ A2 c2 l', e = .returned (.slice A2 l'.length c2) ∧ l'.length ≤ l.length + 1 ∧ l'.length ≤ c2 ∧ Reads w' w'.heap.size 1 A2 l'.length (bys l') ∧ Cur w' lo g A n c code ∧ Rep.Only w w' [g]

theorem reads_take {w : World} {B n k : Nat} {A : Option Addr} {l : List UInt8} (h : Reads w B 1 A n (bys l)) (hn : l.length = n) (hk : k ≤ n) : Reads w B 1 A (l.take k).length (bys (l.take k)) := by
  refine ⟨by simp [bys], fun h0 => ?_⟩
  have hk2 : (l.take k).length = k := by simp; omega
  rw [hk2] at h0
  obtain ⟨ad, hA, hb, hc⟩ := h.2 (by omega)
  refine ⟨ad, hA, hb, fun j u hu => hc j u ?_⟩
  have hu2 : (bys l)[j]? = some u := by
    unfold bys at hu ⊢
    rw [List.getElem?_map, List.getElem?_take] at hu
    rw [List.getElem?_map]
    split at hu
    · exact hu
    · cases hu
  exact hu2

set_option maxRecDepth 100000 in
set_option maxHeartbeats 4000000 in
theorem l1Bend_any (lo g : Nat) (A B : Option Addr) (n c d : Nat) (code l : List UInt8) (w : World) (h : Cur w lo g A n c code) (hn : n ≤ 140737488351232) (h' : Reads w w.heap.size 1 B l.length (bys l)) (hl : l.length ≤ 1000) :
    Calls Tryz.prog 28 #[.pointer (some ⟨g, 0, none⟩), .slice B l.length d] w (RetBend w lo g A n c code l) := by
  obtain ⟨i0, hi0, hz0, hz1, hz2⟩ := info_parts Tryz.info8
  have hglt := h.lt
  have hlg := h.from_
  have hb0 : Below w.heap.size w (w.alloc (.cells #[] 5)) := (Below.refl _ _).alloc (Nat.le_refl _) _
  have hown0 : (w.alloc (.cells #[] 5)).ownsRow w.heap.size 5 1 (.slice (some ⟨w.heap.size, 0, none⟩) 0 0) 0 [] := World.ownsRow_lit w #[] 0 (Nat.le_refl _) (by simp) rfl
  go_enter Tryz.func28, Tryz.ntmps28
  go_wp2_with (first
     | (at_builtin
        refine wpList_append_any _ rfl (.tmp 7) (.tmp 8) _ rfl w.heap.size 5 i0 _ 1 1 Tryz.underlying22 hi0 hz0 hz1 hz2 rfl (by omega) _ 0 [] rfl hown0 w.heap.size B l.length d (bys l) rfl (h'.below hb0) (bys_one l) (by simp only [maxLen]; omega) (by omega) hb0.size ?_
        intro v2 w2 hown2 hg2 hat2
        have hb2 : Below w.heap.size w w2 := hb0.grown hg2 hb0.size (fun k hk => (hown0.lt k hk).1)
        clear hown0 hg2 hat2
        have hown3 : Owns w2 w.heap.size 5 v2 l := by simpa [Owns] using hown2
        clear hown2
        obtain ⟨A2, c2, rfl, hlc, hcm, _, hA2⟩ := hown3.shape)
     | fail)
  have ho2 : Rep.Only w w2 [g] := (Rep.only_of_below hb2).mono (by simp)
  have hc2 := h.only (Rep.only_of_below hb2) (by simp) (fun a ha => by cases ha)
  clear h h' hb0 hb2
  refine (l1Below_any lo g A n c code 8 w2 hc2 hn (by omega) (by omega)).mono ?_
  rintro e W3 ⟨k, hk, rfl, hc3, hg3⟩
  have hne : ∀ W W' : World, (hO : Owns W w.heap.size 5 (.slice A2 l.length c2) l) → (ho : W.grownBy W' (some g)) → Owns W' w.heap.size 5 (.slice A2 l.length c2) l := fun W W' hO ho => World.ownsRow.kept hO ho (.inr fun e => by have := (hO.lt g e).1; omega)
  have hown4 := hne _ _ hown3 hg3
  have ho3 := ho2.trans (only_g hg3)
  clear hc2 ho2 hg3 hown3
  have HN := Lib.hid hne
  clear hne
  have split : (k = 0 ∧ 0 < l.length) ∨ (k = 0 ∧ l.length = 0) ∨ (k = 1 ∧ 0 < l.length) ∨ (k = 1 ∧ l.length = 0) ∨ k = 2 ∨ 3 ≤ k := by omega
  rcases split with ⟨rfl, hl0⟩ | ⟨rfl, hl0⟩ | ⟨rfl, hl0⟩ | ⟨rfl, hl0⟩ | rfl | h3
  · have i0' : (0 : Int) < (l.length : Int) := by omega
    go_wp2_with fail
    refine (l1Below_any lo g A n c code l.length W3 hc3 hn (by omega) hl0).mono ?_
    rintro e W4 ⟨p, hp, rfl, hc4, hg4⟩
    have hown5 := HN.out _ _ hown4 hg4
    have ho4 := ho3.trans (only_g hg4)
    clear hc3 ho3 hg4 hown4
    obtain ⟨ad, hA, _⟩ := (hown5.reads).2 hl0
    obtain ⟨G, hG, hG1, hG2⟩ := hA2 ad hA
    obtain rfl : A2 = some ⟨G, 0, none⟩ := by rw [hA, hG]
    have hlp : l[p]? = some l[p] := List.getElem?_eq_getElem hp
    have hcell : W4.cell? ⟨G, p, none⟩ = some (.int .u8 ((l[p]).toNat : Int)) := (hown5.cellAt p (by omega)).trans (bys_get hlp)
    have hb256 : (l[p]).toNat < 256 := (l[p]).toNat_lt
    have j0 : (0 : Int) ≤ (p : Int) := by omega
    have j1 : (p : Int) < (l.length : Int) := by omega
    have HG := Lib.hid (show g ≠ G ∧ G < W4.heap.size ∧ w.heap.size ≤ G from ⟨by omega, by have := World.block_lt_of_cell? _ _ hcell; exact this, hG1⟩)
    have HLP := Lib.hid hlp
    clear hlp hA hG hG1 hG2 hA2
    have hGg : G ≠ g := fun e => HG.out.1 e.symm
    have hGl := HG.out.2.1
    go_wp2_with fail
    refine wp_region_lex' 12 [0, 1, 2, 3, 4, 5, 6] [7, 8, 9, 10, 11, 12] (fun w' => w'.cell? ⟨G, p, none⟩ = some (.int .u8 ((l[p]).toNat : Int))) (by kernel_rfl) (by kernel_rfl) hcell ?_
    iterate 7 (refine LexR.cons rfl ?_ (fun w' hw => ?_) ?_; rotate_left; focus (go_simp; (try exact rfl)); (try go_frame))
    refine LexR.nil (LexW.cons rfl ?_)
    try go_frame
    go_wp2_with fail
    refine (l1Below_any lo g A n c code 255 _ hc4.drew hn (by omega) (by omega)).mono ?_
    rintro e W5 ⟨z, hz, rfl, hc5, hg5⟩
    have hown6 := HN.out _ _ (hown5.drewN 1) hg5
    have hcell5 : W5.cell? ⟨G, p, none⟩ = some (.int .u8 ((l[p]).toNat : Int)) := ((only_g hg5).cell (b := G) (o := p) hGl (by simpa using hGg)).trans hcell
    have ho5 : Rep.Only w W5 [g] := (ho4.then (Rep.only_drew W4) (fun a ha => by cases ha)).trans (only_g hg5)
    have hfr := hown6.frozenAt p
    have hGl5 : G < W5.heap.size := Nat.lt_of_lt_of_le hGl hg5.size
    clear hc4 hg5 hown5 ho4
    go_wp2_with fail
    refine ⟨fun _ => hcell5, LexW.cons rfl ?_⟩
    try go_frame
    go_wp2_with fail
    refine ⟨fun _ => hcell5, LexW.cons rfl ?_⟩
    try go_frame
    go_wp2_with fail
    refine ⟨fun _ => hcell5, LexW.cons rfl ?_⟩
    try go_frame
    go_wp2_with fail
    refine ⟨fun _ => hcell5, LexW.cons rfl ?_⟩
    try go_frame
    go_wp2_with fail
    refine ⟨fun _ => hcell5, LexW.cons rfl ?_⟩
    try go_frame
    go_wp2_with fail
    refine ⟨fun h => absurd rfl h, LexW.nil ?_⟩
    go_wp2_with fail
    have hx : bits .xor .u8 ((l[p]).toNat : Int) (1 + (z : Int)) = (((UInt8.ofNat ((l[p]).toNat ^^^ (1 + z))).toNat : Nat) : Int) := by
      have e1 : (1 + (z : Int)) = ((1 + z : Nat) : Int) := by omega
      have e2 : (l[p]).toNat ^^^ (1 + z) < 2 ^ 8 := Nat.xor_lt_two_pow (by omega) (by omega)
      rw [e1, u8_xor_nat _ _ hb256 (by omega), UInt8.toNat_ofNat', Nat.mod_eq_of_lt (by omega)]
    rw [hx]
    generalize UInt8.ofNat ((l[p]).toNat ^^^ (1 + z)) = b'
    have hst := (hown6.stored p (.int .u8 (b'.toNat : Int))).1
    rw [show (bys l).set p (.int .u8 (b'.toNat : Int)) = bys (l.set p b') by simp [bys, List.map_set]] at hst
    have hO : Owns (W5.setCell ⟨G, p, none⟩ (.int .u8 (b'.toNat : Int))) w.heap.size 5 (.slice (some ⟨G, 0, none⟩) (l.set p b').length c2) (l.set p b') := by
      unfold Owns
      rw [List.length_set]
      exact hst
    have os := Rep.Only.setCell W5 (p := ⟨G, p, none⟩) (fp := [G]) (by simp) (.int .u8 (b'.toNat : Int))
    obtain ⟨hg1, hg2, hg3⟩ := HG.out
    go_ret
    exact ⟨some ⟨G, 0, none⟩, c2, l.set p b', by rw [List.length_set]; rfl, by simp, by simpa using hlc, hO.reads, hc5.only os (by simpa using hg1) (fun a ha => by simp at ha; omega), ho5.then os (fun a ha => .inr (by simp at ha; omega))⟩
  · obtain rfl : l = [] := List.eq_nil_of_length_eq_zero hl0
    clear hl0
    go_wp2_with fail
    go_ret
    exact ⟨A2, c2, [], rfl, by simp, Nat.zero_le _, hown4.reads, hc3, ho3⟩
  · have i0' : (0 : Int) < (l.length : Int) := by omega
    go_wp2_with fail
    refine (l1Below_any lo g A n c code l.length W3 hc3 hn (by omega) hl0).mono ?_
    rintro e W4 ⟨p, hp, rfl, hc4, hg4⟩
    have hown5 := HN.out _ _ hown4 hg4
    have ho4 := ho3.trans (only_g hg4)
    have j0 : (0 : Int) ≤ (p : Int) := by omega
    have j1 : (p : Int) ≤ (c2 : Int) := by omega
    have hr := reads_take hown5.reads rfl (k := p) (by omega)
    have hlen : (l.take p).length = p := by simp; omega
    clear hc3 ho3 hg4 hown4
    go_wp2_with fail
    go_ret
    exact ⟨A2, c2, l.take p, by rw [hlen]; rfl, by omega, by omega, hr, hc4, ho4⟩
  · obtain rfl : l = [] := List.eq_nil_of_length_eq_zero hl0
    clear hl0
    go_wp2_with fail
    go_ret
    exact ⟨A2, c2, [], rfl, by simp, Nat.zero_le _, hown4.reads, hc3, ho3⟩
  · go_wp2_with fail
    refine (l1Byte_any lo g A n c code W3 hc3 hn).mono ?_
    rintro e W4 ⟨x, hx0, hx1, rfl, hc4, hg4⟩
    have hown5 := HN.out _ _ hown4 hg4
    have ho4 := ho3.trans (only_g hg4)
    have hx256 : x < 256 := by omega
    clear hc3 ho3 hg4 hown4
    go_wp2_with (at_builtin
                 have hnew := Reads.of_own (World.ownsRow_lit (base := 0) (e := 5) (size := 1) W4 #[.int .u8 x] 1 (Nat.zero_le _) (by simp [maxLen]) rfl)
                 go_must (refine wpList_append_any _ rfl (.tmp 46) (.tmp 50) _ rfl w.heap.size 5 i0 _ 1 1 Tryz.underlying22 hi0 hz0 hz1 hz2 rfl (by omega) (.slice A2 l.length c2) l.length (bys l) rfl (hown5.alloc _) _ _ 1 _ _ rfl hnew (by simp; rfl) (by simp only [maxLen]; omega) (by omega) (Nat.le_trans ho4.size (by simp)) ?_)
                 clear hnew
                 intro v2 w5 hown6 hg6 hat6)
    have hown7 : Owns w5 w.heap.size 5 v2 (l ++ [UInt8.ofNat x.toNat]) := by
      unfold Owns
      rw [bys_append, List.length_append, show bys [UInt8.ofNat x.toNat] = [.int .u8 x] by simp only [bys, List.map_cons, List.map_nil]; rw [← byte_back hx0 hx1]]
      exact hown6
    obtain ⟨A7, c7, rfl, hlc7, _, _, _⟩ := hown7.shape
    have hoA := Rep.only_alloc W4 (.cells #[.int .u8 x] 5)
    have hrow : ∀ j, (Value.slice A2 l.length c2).ownBlock = some j → w.heap.size ≤ j := fun j hj => (hown5.lt j hj).1
    have hoB : Rep.Only (W4.alloc (.cells #[.int .u8 x] 5)) w5 ((Value.slice A2 l.length c2).ownBlock.toList) := Rep.Only.of_grown hg6 (fun k hk => by rw [hk]; simp)
    have hmem : ∀ a, a ∈ (Value.slice A2 l.length c2).ownBlock.toList → w.heap.size ≤ a := fun a ha => hrow a (by simpa using ha)
    have hcF := (hc4.only hoA (by simp) (fun a ha => by cases ha)).only hoB (fun hm => by have := hmem _ hm; omega) (fun a ha => by have := hmem _ ha; omega)
    have hoF : Rep.Only w w5 [g] := (ho4.then hoA (fun a ha => by cases ha)).then hoB (fun a ha => .inr (hmem a ha))
    clear hown6 hg6 hat6 hoA hoB hown5 hc4 ho4
    go_wp2_with fail
    go_ret
    exact ⟨A7, c7, _, rfl, by simp, hlc7, hown7.reads, hcF, hoF⟩
  · have b0 : ((k : Int) == 0) = false := by simp; omega
    have b1 : ((k : Int) == 1) = false := by simp; omega
    have b2 : ((k : Int) == 2) = false := by simp; omega
    go_wp2_with fail
    go_ret
    exact ⟨A2, c2, l, rfl, by omega, hlc, hown4.reads, hc3, ho3⟩

end Go.Proofs.YtannedjfmgflpaaGreatDoor

namespace Go.Proofs.YtannedjfmgflpaaGreatDoor
open Go.RowKit
set_option linter.unusedVariables false

theorem bytes_later (w : World) (e : TypeId) (s : ByteArray) : Later w (Lib.bytesWorld w e s) :=
  ⟨rfl, rfl, rfl, by rw [Lib.bytesWorld_size]; omega, fun k hk => Lib.bytesWorld_at_old w e s k hk⟩
theorem bytes_reads (w : World) (e : TypeId) (s : ByteArray) : Reads (Lib.bytesWorld w e s) (Lib.bytesWorld w e s).heap.size 1 (some ⟨w.heap.size, 0, none⟩) s.data.toList.length (bys s.data.toList) := by
  refine ⟨by simp [bys], fun h0 => ⟨_, rfl, by rw [Lib.bytesWorld_size]; exact Nat.lt_succ_self _, fun j u hu => ?_⟩⟩
  have hj : j < s.data.toList.length := by
    have := (List.getElem?_eq_some_iff.1 hu).1
    simpa [bys] using this
  have hc := Lib.bytesWorld_cell w e s j hj
  have h2 : (bys s.data.toList)[j]? = some (.int .u8 ((s.data.toList.getD j 0).toNat : Int)) := by
    unfold bys
    rw [List.getElem?_map, List.getD_eq_getElem?_getD, List.getElem?_eq_getElem hj]
    rfl
  rw [h2] at hu
  injection hu with hu
  rw [← hu]
  have e0 : (Addr.add ⟨w.heap.size, 0, none⟩ j) = ⟨w.heap.size, j, none⟩ := by simp [Addr.add]; exact fun h => h.symm
  rw [e0]
  exact hc

/-- Lists of databases come back. -/
def RetRows (w : World) (e : Ending) (w' : World) : Prop :=
  ∃ A2 c2 xs, e = .returned (.slice A2 xs.length c2) ∧ FewDbs 7 xs ∧ dbsR.at_ w' w'.heap.size [.slice A2 xs.length c2] xs ∧ Below w.heap.size w w'
def RetRows2 (w : World) (e : Ending) (w' : World) : Prop :=
  ∃ A1 c1 xs A2 c2 ys, e = .returned (.tuple #[.slice A1 xs.length c1, .slice A2 ys.length c2]) ∧ FewDbs 7 xs ∧ FewDbs 7 ys ∧ dbsR.at_ w' w'.heap.size [.slice A1 xs.length c1] xs ∧ dbsR.at_ w' w'.heap.size [.slice A2 ys.length c2] ys ∧ Below w.heap.size w w'
theorem L3.at_ {w wr : World} {lo g : Nat} {A : Option Addr} {n c : Nat} {code : List UInt8} {v : Value} {xs : List Db} {fp : List Nat} (h : L3 w lo g A n c code v xs fp wr) : dbsR.at_ wr wr.heap.size [v] xs := Rep.reads dbsR (⟨_, rfl, h.own⟩ : dbsR.own wr w.heap.size [v] xs fp)

end Go.Proofs.YtannedjfmgflpaaGreatDoor
