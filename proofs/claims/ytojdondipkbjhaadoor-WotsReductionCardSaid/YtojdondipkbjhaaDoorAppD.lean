/-
  One digest appended: what is read of its box. No condition.
-/
import Derived.Test.YtojdondipkbjhaaDoorProg
import Derived.Test.YtojdondipkbjhaaDoorFlat
namespace Go.Proofs.YtojdondipkbjhaaDoor
open Go.RowKit

theorem info_dig : (Tryd.prog.info? 23).map (fun i => (i.zero, i.size, i.bytes)) = some (some (.agg (Array.replicate 16 (.int .u8 0))), 16, 16) := by kernel_rfl
theorem Src.boxRow {P : Program} {tx e' : TypeId} (hk : P.underlying tx = some (.slice e')) (w : World) (cs : List Value) (t : TypeId) (size : Nat) (hs : cs.length = size) (h1 : ∀ u ∈ cs, u.oneCell' = true) (c : Nat) :
    Src P size tx (.slice (some ⟨w.heap.size, 0, none⟩) 1 c) 1 cs (w.alloc (.cells cs.toArray t)) :=
  Src.ofSlice _ hk _ 1 c cs (by omega) (World.news_of_block (cs := cs.toArray) (Go.heap_alloc_new w _)) h1
end Go.Proofs.YtojdondipkbjhaaDoor
