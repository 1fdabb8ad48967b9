/-
  An array of bytes equals itself. No condition.
-/
import Derived.Test.YtoghjdcfbbhjnaaDoorMac
namespace Go.Proofs.YtoghjdcfbbhjnaaDoor
open Go.RowKit

theorem eq32 (l : List UInt8) (hl : l.length = 32) (W : World) : (Op.equalIn 10000 24 (.agg (bvs l).toArray) (.agg (bvs l).toArray)).run Tryd.prog W = .ok true W := by
  have h := run_equalIn_bytes (P := Tryd.prog) W 9998 24 5 32 Tryd.underlying24 Tryd.underlying5 size_u8b l l hl hl
  have e1 : l.map Extern.Stop.cell = bvs l := rfl
  rw [e1] at h
  simpa using h
theorem eq16 (l : List UInt8) (hl : l.length = 16) (W : World) : (Op.equalIn 10000 28 (.agg (bvs l).toArray) (.agg (bvs l).toArray)).run Tryd.prog W = .ok true W := by
  have h := run_equalIn_bytes (P := Tryd.prog) W 9998 28 5 16 Tryd.underlying28 Tryd.underlying5 size_u8b l l hl hl
  have e1 : l.map Extern.Stop.cell = bvs l := rfl
  rw [e1] at h
  simpa using h

end Go.Proofs.YtoghjdcfbbhjnaaDoor
