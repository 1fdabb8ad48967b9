/-
  What two writes of one sector leave: plain facts for DeviceTorn; and two-element literals of structs. No condition.
-/
import Derived.Test.YtkepmhkakkkliaaSan9
import Derived.Test.YtkepmhkakkkliaaDvL
import Derived.Test.YtkepmhkakkkliaaBuild3
namespace Go.Proofs.Ytkepmhkakkkliaa
open Go.RowKit

/-- Bytes with zeros behind them. -/
def padS (l : List UInt8) : ByteArray := mk (l ++ List.replicate (256 - l.length) 0)
theorem padS_size {l : List UInt8} (h : l.length ≤ 256) : (padS l).size = 256 := by unfold padS; rw [mk_size, List.length_append, List.length_replicate]; omega
theorem padS_code {l : List UInt8} : (⟨l.toArray⟩ : ByteArray) ++ (fullS 0).extract l.length 256 = padS l := by
  refine ba_ext ?_
  rw [tl_app, tl_extract, tl_full]
  unfold padS
  rw [tl_mk]
  have e1 : tl (⟨l.toArray⟩ : ByteArray) = l := by simp [tl]
  rw [e1, List.drop_replicate, List.take_of_length_le (by rw [List.length_replicate]; omega)]
def tornN (f : DvF) : Nat := if f.cut then (min 256 (max f.n 0)).toNat else 256
theorem tornN_le (f : DvF) : tornN f ≤ 256 := by unfold tornN; split <;> omega
theorem torn_flW {b old : ByteArray} (hb : b.size = 256) (ho : old.size = 256) (f : DvF) : flW b (dvCut f) old = b.extract 0 (tornN f) ++ old.extract (tornN f) 256 := by
  have hc : flW b (dvCut f) old = flW b ((tornN f : Nat) : Int) old := by
    unfold tornN dvCut
    cases f.cut with
    | false => rw [if_neg (by decide), if_neg (by decide), flW_whole (flWhole_neg (by decide)), flW_whole (flWhole_far (by decide))]
    | true =>
      rw [if_pos rfl, if_pos rfl]
      congr 1
      omega
  rw [hc]
  have hle := tornN_le f
  by_cases h : tornN f < 256
  · have e := flW_code (b := b) h old
    rw [ho, Nat.min_eq_left hle] at e
    exact e.symm
  · have e : tornN f = 256 := by omega
    rw [e, flW_whole (flWhole_far (by decide))]
    refine ba_ext ?_
    rw [tl_app, tl_extract, tl_extract, List.drop_zero, Nat.sub_zero, List.take_of_length_le (by rw [tl_len, hb]; exact Nat.le_refl _), List.drop_of_length_le (by rw [tl_len, ho]; exact Nat.le_refl _)]
    simp
def tornA (k : Nat) (s : ByteArray) : DvA := ⟨4, 0, (k : Int), s⟩
def tornS : DvS := ⟨[[0, 0, 0]], s9F, List.replicate 16 0⟩
theorem tornS_new : dvNew (List.replicate 16 0) [1] = tornS := rfl
set_option maxRecDepth 100000 in
theorem tornS_sm : dvSm tornS := ⟨by decide, by decide, by show s9F.length ≤ _; rw [s9_len]; decide⟩
section
variable {k : Nat} {was new : ByteArray} {f : DvF}
theorem torn_err (s : DvS) (hk : k < s.fs.length) (hz : was.size = 256) : dvErr s (tornA k was) = 0 := by
  unfold tornA
  rw [dvErr_write (bad_no4 _ _) rfl]
  exact flWErr_yes (flIn_nat hk) hz
theorem torn_st (s : DvS) : dvSt s (tornA k was) f = { s with fs := flWrite s.fs (k : Int) was (dvCut f) } := by unfold tornA; rw [dvSt_write (bad_no4 _ _) rfl]
theorem torn_all (hk : k < 128) (hw : was.size = 256) (hn : new.size = 256) :
    ∃ rs, dvAll tornS [] [tornA k was, tornA k new] [noF, f] = ({ tornS with fs := s9F.set k (new.extract 0 (tornN f) ++ was.extract (tornN f) 256) }, rs, 0) ∧ rs.length = if f.cut then 1 else 2 := by
  have hl : k < s9F.length := by rw [s9_len]; exact hk
  obtain ⟨z, hz⟩ : ∃ z, s9F[k]? = some z := ⟨_, List.getElem?_eq_getElem hl⟩
  have e1 : dvSt tornS (tornA k was) noF = { tornS with fs := s9F.set k was } := by
    rw [torn_st]
    show ({ tornS with fs := flWrite s9F (k : Int) was (dvCut noF) } : DvS) = _
    rw [flWrite_nat hz hw, flW_whole (flWhole_neg (by decide))]
  have hz2 : (s9F.set k was)[k]? = some was := by rw [List.getElem?_set, if_pos rfl, if_pos hl]
  have e2 : dvSt { tornS with fs := s9F.set k was } (tornA k new) f = { tornS with fs := s9F.set k (new.extract 0 (tornN f) ++ was.extract (tornN f) 256) } := by
    rw [torn_st]
    show ({ tornS with fs := flWrite (s9F.set k was) (k : Int) new (dvCut f) } : DvS) = _
    rw [flWrite_nat hz2 hn, List.set_set, torn_flW hn hw]
  have h1 : dvErr tornS (tornA k was) = 0 := torn_err tornS hl hw
  have h2 : dvErr { tornS with fs := s9F.set k was } (tornA k new) = 0 := torn_err _ (by show k < (s9F.set k was).length; rw [List.length_set]; exact hl) hn
  rw [dvAll_go h1 rfl]
  simp only [List.headD_cons, List.tail_cons]
  rw [e1]
  cases hc : f.cut with
  | true =>
    rw [dvAll_cut h2 (by simpa using hc)]
    exact ⟨_, by simp only [List.headD_cons]; rw [e2], by simp⟩
  | false =>
    rw [dvAll_go h2 (by simpa using hc), dvAll_nil]
    exact ⟨_, by simp only [List.headD_cons]; rw [e2], by simp⟩
end
section
variable {P : Program}
theorem exec_slice2 {ρ : Operand → Value} {o : Oper} (w : World) (t e : TypeId) (x y : Operand) (ho : o.op = .buildSlice t 2 #[(0, x), (1, y)]) (ht : P.underlying t = some (.slice e)) (i : TypeInfo) (z : Value) (hi : P.info? e = some i) (hz : i.zero = some z)
    (a b : List Value) (s : Nat) (hs : i.size = s) (hpos : 0 < s) (hsmall : s ≤ 1000) (ha : a.length = s) (hb : b.length = s) (hx : ρ x = .agg a.toArray) (hy : ρ y = .agg b.toArray) :
    (execOp ρ o).run P w = .ok (.value (.slice (some ⟨w.heap.size, 0, none⟩) 2 2)) (w.alloc (.cells (a ++ b).toArray e)) := by
  have h := exec_sliceN (P := P) (ρ := ρ) (o := o) w t e 2 _ ho ht i z hi hz s [a, b] hs hpos (by omega) rfl (by omega) (fun l hl => by
    simp only [List.mem_cons, List.not_mem_nil, or_false] at hl
    rcases hl with rfl | rfl <;> assumption) (by simp [rowParts, hx, hy])
  have e2 : [a, b].flatten = a ++ b := by simp
  rw [h, e2]
end
theorem info_ac : (Try.prog.info? 33).map (fun i => (i.zero, i.size, i.bytes)) = some (some (.agg zeroA.toArray), 4, 40) := by kernel_rfl
theorem info_ft : (Try.prog.info? 35).map (fun i => (i.zero, i.size, i.bytes)) = some (some (.agg zeroT.toArray), 3, 24) := by kernel_rfl
theorem torn_new (W : World) (A : Option Addr) (c : Nat) (hr : Reads W W.heap.size 1 A 1 (ivz [1])) : Calls Try.prog 12 #[.agg (bvs (List.replicate 16 0)).toArray, .slice A 1 c] W (GivesE (fun _ => False) tornS 0 W) := by
  have h0 := dnew_any9 (List.replicate 16 0) rfl A 1 c [1] W hr (by decide)
  rw [show fuNewE [1] = 0 from rfl, tornS_new] at h0
  exact h0
end Go.Proofs.Ytkepmhkakkkliaa
