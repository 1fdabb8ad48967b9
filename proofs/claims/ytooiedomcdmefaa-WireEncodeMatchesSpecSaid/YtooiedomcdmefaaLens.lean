/-
  How long layer 1's encodings are. Numbers and lists alone.
-/
import Derived.Test.YtooiedomcdmefaaMath3
namespace Go.Proofs.Ytooiedomcdmefaa
theorem encInt_len (n : Int) (h : I64 n) : (encInt n).length ≤ 10 := leb_le10 _ (zz_lt _ h.1 h.2)
theorem encBytes_len (s : List UInt8) (h : s.length ≤ 4611686018427387903) : (encBytes s).length ≤ s.length + 10 := by
  have := encInt_len (s.length : Int) ⟨by omega, by omega⟩
  unfold encBytes; rw [List.length_append]; omega
theorem encInts_len (l : List Int) (hi : ∀ x ∈ l, I64 x) (h : l.length ≤ 4611686018427387903) : (encInts l).length ≤ 10 * l.length + 10 := by
  have h1 := encAll_len l hi
  have := encInt_len (l.length : Int) ⟨by omega, by omega⟩
  unfold encInts; rw [List.length_append]; omega
theorem encDigs_len (ds : List (List UInt8)) (h16 : Len16 ds) (h : ds.length ≤ 4611686018427387903) : (encDigs ds).length ≤ 16 * ds.length + 10 := by
  have h1 := flatten_len ds h16
  have := encInt_len (ds.length : Int) ⟨by omega, by omega⟩
  unfold encDigs; rw [List.length_append]; omega
end Go.Proofs.Ytooiedomcdmefaa
