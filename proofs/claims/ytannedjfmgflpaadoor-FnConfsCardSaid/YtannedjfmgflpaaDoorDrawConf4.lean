/- The draws of FnConfs. -/
import Derived.Test.YtannedjfmgflpaaDoorDrawConf3
import Derived.Lib.ConvBytes
namespace Go.Proofs.YtannedjfmgflpaaDoor
open Go.RowKit
set_option maxRecDepth 100000
set_option linter.unusedVariables false

theorem bytes_later (w : World) (e : TypeId) (s : ByteArray) : Later w (Lib.bytesWorld w e s) :=
  ⟨rfl, rfl, rfl, by rw [Lib.bytesWorld_size]; omega, fun k hk => Lib.bytesWorld_at_old w e s k hk⟩
theorem bytes_reads (w : World) (e : TypeId) (s : ByteArray) : Reads (Lib.bytesWorld w e s) (Lib.bytesWorld w e s).heap.size 1 (some ⟨w.heap.size, 0, none⟩) s.data.toList.length (bys s.data.toList) := by
  refine ⟨by simp [bys], fun h0 => ⟨_, rfl, by rw [Lib.bytesWorld_size]; exact Nat.lt_succ_self _, fun j u hu => ?_⟩⟩
  have hj : j < s.data.toList.length := by
    have := (List.getElem?_eq_some_iff.1 hu).1
    simpa [bys] using this
  have hc := Lib.bytesWorld_cell w e s j hj
  have h2 : (bys s.data.toList)[j]? = some (.int .u8 ((s.data.toList.getD j 0).toNat : Int)) := by
    unfold bys
    rw [List.getElem?_map, List.getD_eq_getElem?_getD, List.getElem?_eq_getElem hj]
    rfl
  rw [h2] at hu
  injection hu with hu
  rw [← hu]
  have e0 : (Addr.add ⟨w.heap.size, 0, none⟩ j) = ⟨w.heap.size, j, none⟩ := by simp [Addr.add]; exact fun h => h.symm
  rw [e0]
  exact hc

/-- Lists of databases come back. -/
def RetRows (w : World) (e : Ending) (w' : World) : Prop :=
  ∃ A2 c2 xs, e = .returned (.slice A2 xs.length c2) ∧ FewDbs 7 xs ∧ dbsR.at_ w' w'.heap.size [.slice A2 xs.length c2] xs ∧ Below w.heap.size w w'
def RetRows2 (w : World) (e : Ending) (w' : World) : Prop :=
  ∃ A1 c1 xs A2 c2 ys, e = .returned (.tuple #[.slice A1 xs.length c1, .slice A2 ys.length c2]) ∧ FewDbs 7 xs ∧ FewDbs 7 ys ∧ dbsR.at_ w' w'.heap.size [.slice A1 xs.length c1] xs ∧ dbsR.at_ w' w'.heap.size [.slice A2 ys.length c2] ys ∧ Below w.heap.size w w'
theorem L3.at_ {w wr : World} {lo g : Nat} {A : Option Addr} {n c : Nat} {code : List UInt8} {v : Value} {xs : List Db} {fp : List Nat} (h : L3 w lo g A n c code v xs fp wr) : dbsR.at_ wr wr.heap.size [v] xs := Rep.reads dbsR (⟨_, rfl, h.own⟩ : dbsR.own wr w.heap.size [v] xs fp)

set_option maxRecDepth 100000 in
set_option maxHeartbeats 4000000 in
theorem drawConfText_any (A : Option Addr) (c : Nat) (code : List UInt8) (w : World) (h : Reads w w.heap.size 1 A code.length (bys code)) (hn : code.length ≤ 1048576) :
    Calls Tryd.prog 7 #[.slice A code.length c] w (RetRows w) := by
  go_enter Tryd.func7, Tryd.ntmps7
  go_wp2_with fail
  refine (l1New_any A c code w h hn).mono ?_
  rintro e W1 ⟨g, rfl, hcur, hb1⟩
  have hgl := hcur.from_
  have hglt := hcur.lt
  clear h
  go_wp2_with fail
  refine (l3Any_any w.heap.size g A code.length c code W1 hcur (by omega)).mono ?_
  rintro e W2 ⟨A2, c2, xs, fp, rfl, hfew, hown, hc2, ho2⟩
  have L := L3.of_draw hown hc2 ho2 (Rep.Only.refl W1 [g]) hglt hgl
  have hb2 : Below w.heap.size w W2 := Rep.Only.below hb1 L.only hb1.size (fun a ha => by simp at ha; omega)
  clear hown hc2 ho2 hcur hb1
  go_wp2_with fail
  go_ret
  exact ⟨A2, c2, xs, rfl, hfew, L.at_, hb2⟩

set_option maxRecDepth 100000 in
set_option maxHeartbeats 4000000 in
theorem drawSameConf_any (A : Option Addr) (c : Nat) (code : List UInt8) (w : World) (h : Reads w w.heap.size 1 A code.length (bys code)) (hn : code.length ≤ 1048576) :
    Calls Tryd.prog 12 #[.slice A code.length c] w (RetRows2 w) := by
  obtain ⟨j0, hj0, hz0, hz1, hz2⟩ := info_parts Tryd.infoDb
  go_enter Tryd.func12, Tryd.ntmps12
  go_wp2_with fail
  refine (l1New_any A c code w h hn).mono ?_
  rintro e W1 ⟨g, rfl, hcur, hb1⟩
  have hgl := hcur.from_
  have hglt := hcur.lt
  clear h
  go_wp2_with fail
  refine (l3Any_any w.heap.size g A code.length c code W1 hcur (by omega)).mono ?_
  rintro e W2 ⟨A2, c2, xs, fp, rfl, hfew, hown, hc2, ho2⟩
  have L := L3.of_draw hown hc2 ho2 (Rep.Only.refl W1 [g]) hglt hgl
  have hlen := hfew.1
  clear hown hc2 ho2 hcur
  go_wp2_with fail
  refine (l1Once_any w.heap.size g A code.length c code 2 W2 L.cur (by omega) (by omega) (by omega)).mono ?_
  rintro e W3 ⟨y, rfl, hc3, hg3⟩
  replace L := L.step hc3 (only_g hg3)
  clear hc3 hg3
  cases y
  · go_wp2_with fail
    refine (l3Any_any w.heap.size g A code.length c code W3 L.cur (by omega)).mono ?_
    rintro e W4 ⟨A4, c4, ys, fq, rfl, hfew4, hown4, hc4, ho4⟩
    replace L := L.step hc4 ho4
    have hat4 := Rep.reads dbsR hown4
    have hb4 : Below w.heap.size w W4 := Rep.Only.below hb1 L.only hb1.size (fun a ha => by simp at ha; omega)
    clear hown4 hc4 ho4 hb1
    go_wp2_with fail
    go_ret2
    exact ⟨A2, c2, xs, A4, c4, ys, rfl, hfew, hfew4, L.at_, hat4, hb4⟩
  · have hown0 : (W3.alloc (.cells #[] 35)).ownsRow W3.heap.size 35 5 (.slice (some ⟨W3.heap.size, 0, none⟩) 0 0) 0 [] := World.ownsRow_lit W3 #[] 0 (Nat.le_refl _) (by simp) (by simp)
    have La := L.alloc (.cells #[] 35)
    obtain ⟨A8, c8, he8, _, _, hrows⟩ := La.own.reads
    injection he8 with he8 _ he9
    subst he8 he9
    have hrd := rows_reads hrows
    clear hrows
    go_wp2_with (at_builtin
                 go_must (refine wpList_append_any _ rfl (.tmp 13) (.tmp 14) _ rfl W3.heap.size 35 j0 _ 5 48 Tryd.underlying24 hj0 hz0 hz1 hz2 rfl (by omega) (.slice (some ⟨W3.heap.size, 0, none⟩) 0 0) 0 [] rfl hown0 _ _ xs.length _ (flatL xs) rfl hrd (one_flat _) (by simp only [maxLen]; omega) (by omega) (by simp) ?_)
                 intro v2 w2 hown2 hg2 hat2)
    have hb2 : Below W3.heap.size W3 w2 := (Later.alloc W3 (.cells #[] 35)).grown hg2 (by simp) (fun k hk => (hown0.lt k hk).1)
    have hown3 : w2.ownsRow W3.heap.size 35 5 v2 xs.length (flatL xs) := by simpa using hown2
    obtain ⟨fq, hfq⟩ := rows_of hown3
    obtain ⟨A9, c9, rfl, _, _, _⟩ := hfq.reads
    have hat9 : dbsR.at_ w2 w2.heap.size [.slice A9 xs.length c9] xs := Rep.reads dbsR (⟨_, rfl, hfq⟩ : dbsR.own w2 W3.heap.size [.slice A9 xs.length c9] xs fq)
    replace L := L.later hb2
    have hb4 : Below w.heap.size w w2 := Rep.Only.below hb1 L.only hb1.size (fun a ha => by simp at ha; omega)
    clear hown0 La hrd hown2 hg2 hat2 hb2 hown3 hfq hb1
    go_wp2_with fail
    go_ret2
    exact ⟨A2, c2, xs, A9, c9, xs, rfl, hfew, hfew, L.at_, hat9, hb4⟩

set_option maxRecDepth 100000 in
set_option maxHeartbeats 4000000 in
theorem drawParseConf_any (A : Option Addr) (c : Nat) (code : List UInt8) (w : World) (h : Reads w w.heap.size 1 A code.length (bys code)) (hn : code.length ≤ 1048576) :
    Calls Tryd.prog 10 #[.slice A code.length c] w fun e w' => ∃ s : ByteArray, e = .returned (.string s) ∧ s.size ≤ 101 ∧ Below w.heap.size w w' := by
  go_enter Tryd.func10, Tryd.ntmps10
  go_wp2_with fail
  refine (l1New_any A c code w h hn).mono ?_
  rintro e W1 ⟨g, rfl, hcur, hb1⟩
  have hgl := hcur.from_
  have hglt := hcur.lt
  clear h
  go_wp2_with fail
  refine (l3Text_any w.heap.size g A code.length c code W1 hcur (by omega)).mono ?_
  rintro e W2 ⟨s, rfl, hs, hc2, ho2⟩
  clear hcur
  go_wp2_with fail
  refine (l1Once_any w.heap.size g A code.length c code 6 W2 hc2 (by omega) (by omega) (by omega)).mono ?_
  rintro e W3 ⟨y, rfl, hc3, hg3⟩
  have ho3 := ho2.trans (only_g hg3)
  clear hc2 hg3 ho2
  cases y
  · have hb3 : Below w.heap.size w W3 := Rep.Only.below hb1 ho3 hb1.size (fun a ha => by simp at ha; omega)
    go_wp2_with fail
    go_ret
    exact ⟨s, rfl, by omega, hb3⟩
  · have hcv := Lib.run_convert_string_bytes (P := Tryd.prog) W3 9 22 5 s Tryd.underlying9 Tryd.underlying22 Tryd.underlying5
    have hlb := bytes_later W3 5 s
    have hrb := bytes_reads W3 5 s
    generalize Lib.bytesWorld W3 5 s = W4 at hcv hlb hrb
    have ho := Rep.only_of_below hlb
    have hc4 := hc3.only ho (by simp) (fun a ha => by cases ha)
    have ho4 := ho3.then ho (fun a ha => by cases ha)
    clear hc3 ho3 ho hlb
    go_wp2_with fail
    have hsl : s.data.toList.length = s.size := by simp
    refine (l1Bend_any w.heap.size g A (some ⟨W3.heap.size, 0, none⟩) code.length c _ code s.data.toList W4 hc4 (by omega) hrb (by omega)).mono ?_
    rintro e W5 ⟨A5, c5, l', rfl, hl5, _, hr5, hc5, ho5⟩
    have hst := string_run (P := Tryd.prog) (c := c5) Tryd.underlying22 Tryd.underlying5 Tryd.underlying9 hr5
    have hb5 : Below w.heap.size w W5 := Rep.Only.below hb1 (ho4.trans ho5) hb1.size (fun a ha => by simp at ha; omega)
    clear hr5 hrb hcv hc4 ho4 hc5 ho5 hb1
    go_wp2_with fail
    go_ret
    exact ⟨⟨l'.toArray⟩, rfl, by show l'.toArray.size ≤ 101; simp; omega, hb5⟩

end Go.Proofs.YtannedjfmgflpaaDoor
