/- A disk that came in as an argument. -/
import Derived.Test.YtjhfnfffpofagaaDiskCopy
import Derived.Test.YtjhfnfffpofagaaOpen
namespace Go.Proofs.Ytjhfnfffpofagaa
open Go.RowKit
set_option linter.unusedVariables false

theorem byt_opens : Rep.Opens Try.prog 22 byR (fun _ => True) := Rep.Opens.bytes Try.underlying22 Try.underlying5 (by kernel_rfl)

theorem wr_opens : Rep.Opens Try.prog 90 wrR (fun x => (Lit.int .i64 x.n).wf = true) := by
  intro H enc w base spare held fuel cs x h
  obtain ⟨xs, n, rfl, _, hl, hxl, hf⟩ := DataW.trod_struct Try.underlying90 h
  have hl' : cs.length = 2 := hl.trans (by kernel_rfl)
  obtain ⟨y0, h0, k0⟩ := (Rep.Opens.int Try.underlying3).field (hf 0 _ rfl) (by rw [hxl]; decide) (sz := 1) (by kernel_rfl)
  obtain ⟨y1, h1, k1⟩ := byt_opens.field (hf 1 _ rfl) (by rw [hxl]; decide) (sz := 1) (by kernel_rfl)
  match cs, hl' with
  | [a, b], _ => exact ⟨⟨y0, y1⟩, ⟨h0, h1⟩, k0⟩

theorem disk_opens : Rep.Opens Try.prog 48 diskR (fun d => (∀ x, x ∈ d.cache → (Lit.int .i64 x.n).wf = true) ∧ (Lit.int .i64 d.fuse).wf = true) := by
  intro H enc w base spare held fuel cs x h
  obtain ⟨xs, n, rfl, _, hl, hxl, hf⟩ := DataW.trod_struct Try.underlying48 h
  have hl' : cs.length = 4 := hl.trans (by kernel_rfl)
  obtain ⟨y0, h0, k0⟩ := (Rep.Opens.rows (e' := 22) Try.underlying24 (by kernel_rfl) (by decide) byt_opens).field (hf 0 _ rfl) (by rw [hxl]; decide) (sz := 1) (by kernel_rfl)
  obtain ⟨y1, h1, k1⟩ := (Rep.Opens.rows (e' := 42) Try.underlying46 (by kernel_rfl) (by decide) wr_opens).field (hf 1 _ rfl) (by rw [hxl]; decide) (sz := 1) (by kernel_rfl)
  obtain ⟨y2, h2, k2⟩ := (Rep.Opens.int Try.underlying3).field (hf 2 _ rfl) (by rw [hxl]; decide) (sz := 1) (by kernel_rfl)
  obtain ⟨y3, h3, k3⟩ := (Rep.Opens.bool Try.underlying4).field (hf 3 _ rfl) (by rw [hxl]; decide) (sz := 1) (by kernel_rfl)
  match cs, hl' with
  | [a, b, e, u], _ => exact ⟨⟨y0, y1, y2, y3⟩, ⟨h0, h1, h2, h3⟩, k1, k2⟩

end Go.Proofs.Ytjhfnfffpofagaa
