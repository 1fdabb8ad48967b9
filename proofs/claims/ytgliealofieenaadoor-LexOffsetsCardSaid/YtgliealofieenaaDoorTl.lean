/-
  Strings as lists of bytes. No condition.
-/

namespace Go.Proofs.YtgliealofieenaaDoor

/-! ## Bytes -/
def tl (s : ByteArray) : List UInt8 := s.data.toList
def mk (l : List UInt8) : ByteArray := ⟨l.toArray⟩
theorem ba_ext {s t : ByteArray} (h : tl s = tl t) : s = t := by
  unfold tl at h
  cases s; cases t
  simp at h
  rw [h]
theorem tl_mk (l : List UInt8) : tl (mk l) = l := by simp [tl, mk]
theorem mk_tl (s : ByteArray) : mk (tl s) = s := ba_ext (tl_mk _)
theorem tl_app (s t : ByteArray) : tl (s ++ t) = tl s ++ tl t := by simp [tl, ByteArray.data_append]
theorem tl_len (s : ByteArray) : (tl s).length = s.size := by simp [tl]
theorem mk_size (l : List UInt8) : (mk l).size = l.length := by rw [← tl_len, tl_mk]
theorem tl_extract (s : ByteArray) (i j : Nat) : tl (s.extract i j) = ((tl s).drop i).take (j - i) := by
  unfold tl
  rw [ByteArray.data_extract, Array.toList_extract]
end Go.Proofs.YtgliealofieenaaDoor
