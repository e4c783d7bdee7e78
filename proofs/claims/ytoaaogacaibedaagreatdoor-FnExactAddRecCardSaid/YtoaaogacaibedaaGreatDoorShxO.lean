/- What is wanted besides. -/
import Derived.Test.YtoaaogacaibedaaGreatDoorShx
import Derived.Deep.RegionHeld3

namespace Go.Proofs.YtoaaogacaibedaaGreatDoor
open Go.RowKit
set_option maxRecDepth 2000000
set_option linter.unusedVariables false
theorem byt_opens : Rep.Opens Tryz.prog 22 byR (fun _ => True) := Rep.Opens.bytes Tryz.underlying22 Tryz.underlying5 (by kernel_rfl)

theorem wr_opens : Rep.Opens Tryz.prog 145 wrR (fun x => (Lit.int .i64 x.n).wf = true) := by
  intro H enc w base spare held fuel cs x h
  obtain ⟨xs, n, rfl, _, hl, hxl, hf⟩ := DataW.trod_struct Tryz.underlying145 h
  have hl' : cs.length = 2 := hl.trans (by kernel_rfl)
  obtain ⟨y0, h0, k0⟩ := (Rep.Opens.int Tryz.underlying3).field (hf 0 _ rfl) (by rw [hxl]; decide) (sz := 1) (by kernel_rfl)
  obtain ⟨y1, h1, k1⟩ := byt_opens.field (hf 1 _ rfl) (by rw [hxl]; decide) (sz := 1) (by kernel_rfl)
  match cs, hl' with
  | [a, b], _ => exact ⟨⟨y0, y1⟩, ⟨h0, h1⟩, k0⟩

theorem disk_opens : Rep.Opens Tryz.prog 50 diskR (fun d => (∀ x, x ∈ d.cache → (Lit.int .i64 x.n).wf = true) ∧ (Lit.int .i64 d.fuse).wf = true) := by
  intro H enc w base spare held fuel cs x h
  obtain ⟨xs, n, rfl, _, hl, hxl, hf⟩ := DataW.trod_struct Tryz.underlying50 h
  have hl' : cs.length = 4 := hl.trans (by kernel_rfl)
  obtain ⟨y0, h0, k0⟩ := (Rep.Opens.rows (e' := 22) Tryz.underlying24 (by kernel_rfl) (by decide) byt_opens).field (hf 0 _ rfl) (by rw [hxl]; decide) (sz := 1) (by kernel_rfl)
  obtain ⟨y1, h1, k1⟩ := (Rep.Opens.rows (e' := 100) Tryz.underlying48 (by kernel_rfl) (by decide) wr_opens).field (hf 1 _ rfl) (by rw [hxl]; decide) (sz := 1) (by kernel_rfl)
  obtain ⟨y2, h2, k2⟩ := (Rep.Opens.int Tryz.underlying3).field (hf 2 _ rfl) (by rw [hxl]; decide) (sz := 1) (by kernel_rfl)
  obtain ⟨y3, h3, k3⟩ := (Rep.Opens.bool Tryz.underlying4).field (hf 3 _ rfl) (by rw [hxl]; decide) (sz := 1) (by kernel_rfl)
  match cs, hl' with
  | [a, b, e, u], _ => exact ⟨⟨y0, y1, y2, y3⟩, ⟨h0, h1, h2, h3⟩, k1, k2⟩

end Go.Proofs.YtoaaogacaibedaaGreatDoor

namespace Go.Proofs.YtoaaogacaibedaaGreatDoor
open Go.RowKit
set_option maxRecDepth 2000000
set_option linter.unusedVariables false
theorem disk_opens_ok : Rep.Opens Tryz.prog 50 diskR OkDisk := disk_opens


end Go.Proofs.YtoaaogacaibedaaGreatDoor
