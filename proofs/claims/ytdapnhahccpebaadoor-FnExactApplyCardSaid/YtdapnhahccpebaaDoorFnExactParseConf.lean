/- The walk of the exact law of ParseConf. -/
import Derived.Test.YtdapnhahccpebaaDoorParseConfI
import Derived.Test.YtdapnhahccpebaaDoorParsePure
import Derived.Test.YtdapnhahccpebaaDoorMarkDb
namespace Go.Proofs.YtdapnhahccpebaaDoor
open Go.RowKit
set_option maxRecDepth 100000
set_option linter.unusedVariables false

/-- What errors.As compares with. -/
def ErrG (w : World) : Prop := w.cell? ⟨0, 0, none⟩ = some (.iface 151 (.agg #[.pointer (some ⟨5, 78, none⟩)]))
instance ErrG.keeps : Keeps ErrG := ⟨fun h x => (h.cell (World.block_lt_of_cell? _ _ x)).trans x⟩
/-- What the program reads of the library's own variables. -/
def Given (w : World) : Prop := Tab w ∧ ErrG w
instance Given.keeps : Keeps Given := ⟨fun h x => ⟨Keeps.keeps (F := Tab) h x.1, Keeps.keeps (F := ErrG) h x.2⟩⟩

/-- ParseConf of the program, said as of the model. -/
theorem parseConf_ok (s : ByteArray) (w : World) (hg : Given w) (hs : s.size ≤ 1048576) : Calls Tryd.prog 14 #[.string s] w (RetConf w (parseS s.data.toList)) := by
  rw [← parse_eq]
  exact parseConf_any s w hg.1 hg.2 hs
theorem own_row {w : World} {base c : Nat} {A : Option Addr} {xs : List Db} {fp : List Nat} (h : dbsR.own w base [.slice A xs.length c] xs fp) : ∃ cells, w.ownsRow base 35 5 (.slice A xs.length c) xs.length cells := by
  obtain ⟨v, hv, cells, fps, ho, _⟩ := h
  injection hv with hv
  subst hv
  exact ⟨cells, ho⟩
theorem parse_small {s : List UInt8} : (parseS s).1.length ≤ 3 := by
  unfold parseS
  split
  · simp
  · unfold okOf
    split
    · split
      · rename_i hc
        exact (conf_dbs hc).2
      · simp
    · simp

set_option maxRecDepth 100000 in
set_option maxHeartbeats 4000000 in
theorem walk_FnExactParseConf (w : World) (s : ByteArray) (_hs : s.size ≤ maxLen) (hg : Given w) :
    Calls Tryd.prog 5 #[.string s] w fun e w' => e = .returned (.bool true) ∧ Below w.heap.size w w' := by
  have S : All (fun w' => Below w.heap.size w w' ∧ Given w') w := ⟨Below.refl _ _, hg⟩
  clear hg
  unfold maxLen at _hs
  by_cases hbig : 1048576 < s.size
  · go_enter Tryd.func5, Tryd.ntmps5
    go_wp2
    go_ret
    exact ⟨rfl, S.out.1⟩
  · have hsm := parse_small (s := s.data.toList)
    obtain ⟨p, hp⟩ : ∃ p, parseS s.data.toList = p := ⟨_, rfl⟩
    rw [hp] at hsm
    have HP := Lib.hid hp
    have HL := Lib.hid (show s.size ≤ 1048576 by omega)
    clear hp
    obtain ⟨xs, ok⟩ := p
    replace hsm : xs.length ≤ 3 := hsm
    have hok : (ok != ok) = false := by simp
    have h0 : ¬ ((1 + xs.length * 5 : Nat) : Int) < 0 := by omega
    have h0' : (((1 + xs.length * 5 : Nat) : Int) != ((1 + xs.length * 5 : Nat) : Int)) = false := by simp
    go_enter Tryd.func5, Tryd.ntmps5
    go_wp2_with fail
    refine (parseConfS_any s w).mono ?_
    rw [HP.out]
    rintro e W1 ⟨A0, c0, fp0, rfl, O0, hb⟩
    replace S := S.later hb
    have S0 : All (fun w' => dbsR.at_ w' w'.heap.size [.slice A0 xs.length c0] xs) W1 := ⟨Rep.reads dbsR O0⟩
    clear hb O0
    go_wp2_with fail
    refine (parseConf_ok s W1 S.out.2 HL.out).mono ?_
    rw [HP.out]
    rintro e W2 ⟨A1, c1, fp1, rfl, O1, hb⟩
    have HB := Lib.hid hb
    have hsz := hb.size
    have S2 := S.later hb
    have S02 := S0.later hb
    obtain ⟨cells, hrow⟩ := own_row O1
    have R1 := (dbs_rows (Rep.reads dbsR O1)).2
    have HR := Lib.hid hrow
    clear hb O1 hrow
    go_wp2_with fail
    refine (eqDbS_same A1 A0 c1 c0 xs W2 R1 (dbs_rows S02.out).2 (by omega)).mono ?_
    rintro e W3 ⟨rfl, hb⟩
    have HB3 := Lib.hid (HB.out.trans (hb.mono HB.out.size))
    have HR3 := Lib.hid (ownsRow_below HR.out hb (Nat.le_refl _))
    have hsz3 := hb.size
    clear hb R1 S2 S02 HB HR
    go_wp2_with fail
    refine (markDbS_any _ 1 xs.length cells W3 W1.heap.size HR3.out (by omega) (by omega) (by omega)).mono ?_
    rintro e W4 ⟨rfl, hfl, hb⟩
    have HB4 := HB3.out.trans hb
    replace S := S.later HB4
    replace S0 := S0.later HB4
    have hcl := flat_cells hfl
    have HFL := Lib.hid hfl
    clear HB3 HR3 hb HB4 hfl
    go_wp2_with fail
    refine (heldDbS_any A1 c1 1 xs.length W4 hcl (by omega) (by omega)).mono ?_
    rintro e W5 ⟨rfl, hb⟩
    have HFL5 := Lib.hid (HFL.out.later hb)
    replace S := S.later hb
    replace S0 := S0.later hb
    clear HFL hb hcl
    go_wp2_with fail
    refine (parseConf_ok s W5 S.out.2 HL.out).mono ?_
    rw [HP.out]
    rintro e W6 ⟨A2, c2, fp2, rfl, O2, hb⟩
    have R2 := (dbs_rows (Rep.reads dbsR O2)).2
    have HFL6 := Lib.hid (HFL5.out.later hb)
    replace S := S.later hb
    replace S0 := S0.later hb
    clear HFL5 hb O2
    go_wp2_with fail
    refine (eqDbS_same A2 A0 c2 c0 xs W6 R2 (dbs_rows S0.out).2 (by omega)).mono ?_
    rintro e W7 ⟨rfl, hb⟩
    have hcl := flat_cells (HFL6.out.later hb)
    replace S := S.later hb
    clear hb R2 HFL6 S0
    go_wp2_with fail
    refine (heldDbS_any A1 c1 1 xs.length W7 hcl (by omega) (by omega)).mono ?_
    rintro e W8 ⟨rfl, hb⟩
    replace S := S.later hb
    clear hb hcl
    go_wp2_with fail
    go_ret
    exact ⟨rfl, S.out.1⟩

end Go.Proofs.YtdapnhahccpebaaDoor
