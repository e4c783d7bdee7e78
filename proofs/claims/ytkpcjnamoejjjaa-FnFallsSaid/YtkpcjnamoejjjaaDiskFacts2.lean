/- What is read after a write, a sync and a failure. Plain facts. -/
import Derived.Test.YtkpcjnamoejjjaaDrawDisk0
namespace Go.Proofs.Ytkpcjnamoejjjaa
open Go.RowKit Go.Maps
set_option linter.unusedVariables false

theorem readSec_same (d : Disk) (f : Int) (dn : Bool) (hg : DiskGood d) (hf1 : -1 ≤ f) (hf2 : f ≤ 1000) (i : Int) (hi : InSec d i) : readSec ⟨d.secs, d.cache, f, dn⟩ i = readSec d i := by
  have h2 : DiskGood ⟨d.secs, d.cache, f, dn⟩ := ⟨hg.1, hg.2.1, hg.2.2.1, hf1, hf2⟩
  have h3 : InSec ⟨d.secs, d.cache, f, dn⟩ i := hi
  rw [readSec_yes h2 h3, readSec_yes hg hi]
  rfl
theorem readSec_push {d : Disk} {n : Int} {b : List UInt8} (hg : WriteGood d n b) (h0 : d.fuse ≠ 0) (i : Int) (hi : InSec d i) : readSec (writeSec d n b) i = if n = i then b else readSec d i := by
  have hx := good_write hg
  have hin : InSec (writeSec d n b) i := by
    rw [writeSec_go hg h0]
    exact hi
  rw [readSec_yes hx hin, readSec_yes hg.1 hi, writeSec_go hg h0]
  show readTo ⟨d.secs, d.cache ++ [⟨n, b⟩], fuseAfter d.fuse, d.down⟩ i (d.cache ++ [(⟨n, b⟩ : Wr)]).length = _
  rw [show (d.cache ++ [(⟨n, b⟩ : Wr)]).length = d.cache.length + 1 by simp]
  exact readTo_push d n b _ _ i
theorem fall_synced {x : Disk} (hg : DiskGood x) (hd : x.down = false) (h0 : x.fuse ≠ 0) : fallDisk (syncDisk x) 0 = ⟨flushSecs x (idxC (key x.cache) x.cache.length), [], -1, false⟩ := by
  have hs : SyncGood x := ⟨hg, hd⟩
  have h1 := good_syncDisk hg
  rw [fallDisk_go 0 h1]
  rw [syncDisk_go hs h0]
  congr 1
  exact flush_nil _ _ _ _
theorem readSec_synced {x : Disk} (hg : DiskGood x) (hd : x.down = false) (h0 : x.fuse ≠ 0) (i : Int) (hi : InSec x i) : readSec (fallDisk (syncDisk x) 0) i = readSec x i := by
  have h1 := good_fallDisk (good_syncDisk hg) 0
  rw [fall_synced hg hd h0] at h1 ⊢
  obtain ⟨k, rfl⟩ := Int.eq_ofNat_of_zero_le hi.1
  have hk : k < x.secs.length := by have := hi.2; omega
  have hin : InSec ⟨flushSecs x (idxC (key x.cache) x.cache.length), [], -1, false⟩ (k : Int) := ⟨by omega, by show (k : Int) < ((flushSecs x _).length : Int); rw [flushSecs_length]; exact hi.2⟩
  rw [readSec_yes h1 hin, readSec_yes hg hi]
  exact read_flush hk _ _
theorem fits_read (d : Disk) (h : Fits d) (i : Int) : (readSec d i).length ≤ 1048576 := fits_readSec h i

end Go.Proofs.Ytkpcjnamoejjjaa
