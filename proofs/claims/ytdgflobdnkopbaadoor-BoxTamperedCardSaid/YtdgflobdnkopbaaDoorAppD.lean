/-
  One digest appended: what is read of its box. No condition.
-/
import Derived.Test.YtdgflobdnkopbaaDoorProg
import Derived.Test.YtdgflobdnkopbaaDoorFlat
namespace Go.Proofs.YtdgflobdnkopbaaDoor
open Go.RowKit

theorem info_dig : (Tryd.prog.info? 23).map (fun i => (i.zero, i.size, i.bytes)) = some (some (.agg (Array.replicate 16 (.int .u8 0))), 16, 16) := by kernel_rfl
/-- A new slice of digests comes back; nothing that was there has changed. -/
def GivesDS (ds : List (List UInt8)) (w : World) (e : Ending) (w' : World) : Prop :=
  ∃ v, e = .returned v ∧ w'.ownsRow w.heap.size 23 16 v ds.length (bvs ds.flatten) ∧ Below w.heap.size w w'
theorem Src.boxRow {P : Program} {tx e' : TypeId} (hk : P.underlying tx = some (.slice e')) (w : World) (cs : List Value) (t : TypeId) (size : Nat) (hs : cs.length = size) (h1 : ∀ u ∈ cs, u.oneCell' = true) (c : Nat) :
    Src P size tx (.slice (some ⟨w.heap.size, 0, none⟩) 1 c) 1 cs (w.alloc (.cells cs.toArray t)) :=
  Src.ofSlice _ hk _ 1 c cs (by omega) (World.news_of_block (cs := cs.toArray) (Go.heap_alloc_new w _)) h1
theorem own_digs {w : World} {base n : Nat} {v : Value} {ds : List (List UInt8)} (h : w.ownsRow base 23 16 v n (bvs ds.flatten)) (h16 : Len16 ds) : ∃ A c, v = .slice A n c ∧ n ≤ c ∧ ReadsD w A n ds := by
  obtain ⟨A, c, e, hc, _, hr⟩ := own_form h
  exact ⟨A, c, e, hc, hr, h16⟩
end Go.Proofs.YtdgflobdnkopbaaDoor
