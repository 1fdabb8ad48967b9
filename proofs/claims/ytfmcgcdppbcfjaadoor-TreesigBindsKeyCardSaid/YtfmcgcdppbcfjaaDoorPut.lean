/-
  A part of a row is stored; a row of equal parts is made; a part of an array value is read; 68 digests in a row. Over any program. No condition.
-/
import Derived.Test.YtfmcgcdppbcfjaaDoorSumM
import Derived.Test.YtfmcgcdppbcfjaaDoorFlat
namespace Go.Proofs.YtfmcgcdppbcfjaaDoor
open Go.RowKit

theorem add_row (g n : Nat) : (⟨g, 0, none⟩ : Addr).add n = ⟨g, n, none⟩ := by
  unfold Addr.add
  split
  · rename_i h; rw [h]
  · simp
section
variable {P : Program}
theorem run_store_part (w : World) (ty : TypeId) (g j : Nat) (e : TypeId) (cs : List Value) (hr : Row w g e cs) (news : List Value) (h1 : ∀ u ∈ news, u.oneCell' = true) (hj : j + news.length ≤ cs.length) (hi : (P.info? ty).map (·.size) = some news.length) :
    ∃ w', (storeVar ty ⟨g, j, none⟩ (.agg news.toArray)).run P w = .ok () w' ∧ Row w' g e (cs.take j ++ news ++ cs.drop (j + news.length)) ∧ w.grownBy w' (some g) := by
  have hst := run_storeCells_at P g j e news 0 cs.toArray w hr (by simp; omega) h1
  refine ⟨w.setRow g (cs.take j ++ news ++ cs.drop (j + news.length)).toArray, ?_, setRow_heap w g _ _ e _ hr, ⟨rfl, rfl, rfl, by simp, fun k _ hk => setRow_other w g k _ (fun he => hk (by rw [he]))⟩⟩
  cases hq : P.info? ty with
  | none => simp [hq] at hi
  | some i =>
    have hs : i.size = news.length := by simpa [hq] using hi
    simp only [Nat.add_zero] at hst
    simp [storeVar, Sem.run_bind, sizeOf, typeInfo, hq, hs, Value.cells, hst]
section
variable {ops : Array Oper} {rest : List Oper} {o : Oper} {a : Act} {w : World} {Q : Exit → Act → World → Prop}
theorem wpList_store_part (hgd : o.guard = none) (ty : TypeId) (x v : Operand) (ho : o.op = .store ty x v) (g j : Nat) (ad : Addr) (hx : a.eval x = .pointer (some ad)) (had : ad = ⟨g, j, none⟩) (e : TypeId) (cs : List Value) (hr : Row w g e cs) (news : List Value) (hv : a.eval v = .agg news.toArray)
    (h1 : ∀ u ∈ news, u.oneCell' = true) (hj : j + news.length ≤ cs.length) (hi : (P.info? ty).map (·.size) = some news.length)
    (h : ∀ w', Row w' g e (cs.take j ++ news ++ cs.drop (j + news.length)) → w.grownBy w' (some g) → wpList P ops Q rest (a.put o.dst undef) w') : wpList P ops Q (o :: rest) a w := by
  obtain ⟨w', hrun, h2, h4⟩ := run_store_part w ty g j e cs hr news h1 hj hi
  subst had
  refine wpList_plain hgd fun K hK => ?_
  unfold Oper.wp execOp
  simp only [ho, hx, hv, Instr.storeAt, Instr.sureAddr, Sem.run_bind, Sem.run_pure, Result.andThen_ok, hrun]
  exact hK _ _ (h _ h2 h4)
theorem step_store_part {K : Act → World → Prop} {E : Prop} (hgd : o.guard = none) (ty : TypeId) (x v : Operand) (ho : o.op = .store ty x v) (g j : Nat) (ad : Addr) (hx : a.eval x = .pointer (some ad)) (had : ad = ⟨g, j, none⟩) (e : TypeId) (cs : List Value) (hr : Row w g e cs) (news : List Value) (hv : a.eval v = .agg news.toArray)
    (h1 : ∀ u ∈ news, u.oneCell' = true) (hj : j + news.length ≤ cs.length) (hi : (P.info? ty).map (·.size) = some news.length)
    (h : ∀ w', Row w' g e (cs.take j ++ news ++ cs.drop (j + news.length)) → w.grownBy w' (some g) → K (a.put o.dst undef) w') : if Region.wanted o (yielded ops a.tmps) = true then Oper.wp P o a w K Q else E := by
  obtain ⟨w', hrun, h2, h4⟩ := run_store_part w ty g j e cs hr news h1 hj hi
  subst had
  rw [if_pos (wanted_plain hgd)]
  unfold Oper.wp execOp
  simp only [ho, hx, hv, Instr.storeAt, Instr.sureAddr, Sem.run_bind, Sem.run_pure, Result.andThen_ok, hrun]
  exact h _ h2 h4
/-- A new slice of n elements of 16 zero bytes each. -/
theorem wpList_make_digs (hgd : o.guard = none) (t : TypeId) (x y : Operand) (ho : o.op = .makeSlice t x y) (e : TypeId) (ht : P.underlying t = some (.slice e)) (hi : (P.info? e).map (fun i => (i.zero, i.size, i.bytes)) = some (some (.agg (Array.replicate 16 (.int .u8 0))), 16, 16))
    (kl kc : IntKind) (n : Nat) (hx : a.eval x = .int kl (n : Int)) (hy : a.eval y = .int kc (n : Int)) (hb : n ≤ 1000000)
    (h : ∀ w', Row w' w.heap.size e (bvs (List.replicate (n * 16) 0)) → w.heap.size < w'.heap.size → w.grownBy w' none → wpList P ops Q rest (a.put o.dst (.slice (some ⟨w.heap.size, 0, none⟩) n n)) w') : wpList P ops Q (o :: rest) a w := by
  obtain ⟨i, hi1, hi2, hi3, hi4⟩ := info_parts hi
  have hr := run_make (P := P) w t e i _ ht hi1 hi2 kl kc (n : Int) (n : Int) (by omega) (by omega) (by rw [hi4]; omega) (by omega)
  rw [Int.toNat_natCast, hi3] at hr
  have hm : madeCells (Value.agg (Array.replicate 16 (.int .u8 0))).cells (n * 16) = (bvs (List.replicate (n * 16) 0)).toArray := by
    apply Array.ext
    · simp [size_madeCells, bvs_length]
    · intro j h1 h2
      have hj : j % 16 < 16 := Nat.mod_lt _ (by omega)
      simp [madeCells, Value.cells, bvs, bv, hj]
  rw [hm] at hr
  refine wpList_valueW hgd (.slice (some ⟨w.heap.size, 0, none⟩) n n) ?_ (h _ (row_alloc w e _) (by simp) (World.grownBy_alloc w _ none))
  unfold execOp
  simp [ho, hx, hy, hr]
end
theorem run_index_part (w : World) (t e : TypeId) (n s : Nat) (ht : P.underlying t = some (.array n e)) (ha : ∀ w, (isAgg e).run P w = .ok true w) (hsz : ∀ w, (sizeOf e).run P w = .ok s w) (cs : List Value) (k : IntKind) (i : Nat) (hi : i < n) :
    (Instr.index t (.agg cs.toArray) (.int k (i : Int))).run P w = .ok (.agg ((cs.drop (i * s)).take s).toArray) w := by
  simp [Instr.index, asIntOf, run_underlying ht, part, ha, hsz, hi]
theorem wpList_index_part {ops : Array Oper} {rest : List Oper} {o : Oper} {a : Act} {w : World} {Q : Exit → Act → World → Prop} (hgd : o.guard = none) (t : TypeId) (x ix : Operand) (ho : o.op = .index t x ix) (e : TypeId) (n s : Nat)
    (ht : P.underlying t = some (.array n e)) (ha : ∀ w, (isAgg e).run P w = .ok true w) (hsz : ∀ w, (sizeOf e).run P w = .ok s w) (cs : List Value) (hx : a.eval x = .agg cs.toArray) (k : IntKind) (i : Nat) (hix : a.eval ix = .int k (i : Int)) (hi : i < n) (d : List Value) (hd : (cs.drop (i * s)).take s = d)
    (h : wpList P ops Q rest (a.put o.dst (.agg d.toArray)) w) : wpList P ops Q (o :: rest) a w := by
  refine wpList_value hgd (.agg d.toArray) ?_ h
  subst hd
  unfold execOp
  simp only [ho, hx, hix]
  rw [Sem.run_bind, run_index_part w t e n s ht ha hsz cs k i hi]
  rfl
end
theorem agg_dig (w : World) : (isAgg 23).run Tryd.prog w = .ok true w := by
  unfold isAgg
  rw [Sem.run_bind, run_underlying Tryd.underlying23 w]
  rfl
theorem size_dig (w : World) : (sizeOf 23).run Tryd.prog w = .ok 16 w := by
  have h : (Tryd.prog.info? 23).map (·.size) = some 16 := by kernel_rfl
  cases hq : Tryd.prog.info? 23 with
  | none => simp [hq] at h
  | some i =>
    have hs : i.size = 16 := by simpa [hq] using h
    simp [sizeOf, typeInfo, hq, hs]

/-! ## 68 digests -/
theorem flatten_set (ds : List (List UInt8)) (h : Len16 ds) (k : Nat) (hk : k < ds.length) (d : List UInt8) (hd : d.length = 16) :
    (bvs ds.flatten).take (k * 16) ++ bvs d ++ (bvs ds.flatten).drop (k * 16 + (bvs d).length) = bvs (ds.set k d).flatten := by
  rw [bvs_length, hd, List.set_eq_take_append_cons_drop, if_pos hk, List.flatten_append, List.flatten_cons, flatten_take ds h, flatten_drop ds h, bvs_append, bvs_append, show (k + 1) * 16 = k * 16 + 16 by omega]
  unfold bvs
  rw [List.map_take, List.map_drop, List.append_assoc]
theorem flatten_part (ds : List (List UInt8)) (h : Len16 ds) {k : Nat} {d : List UInt8} (hd : ds[k]? = some d) : ((bvs ds.flatten).drop (k * 16)).take 16 = bvs d := by
  have hk : k < ds.length := (List.getElem?_eq_some_iff.1 hd).1
  have e := flatten_drop ds h k
  have e2 : ds.drop k = d :: ds.drop (k + 1) := by rw [List.drop_eq_getElem_cons hk, (List.getElem?_eq_some_iff.1 hd).2]
  have hl : d.length = 16 := h d (List.mem_of_getElem? hd)
  unfold bvs
  rw [← List.map_drop, ← e, e2, List.flatten_cons, List.map_append, List.take_append_of_le_length (by rw [List.length_map, hl]; exact Nat.le_refl _), List.take_of_length_le (by rw [List.length_map, hl]; exact Nat.le_refl _)]
/-- 68 digests of which the first k are f's. -/
def Ends (f : Nat → List UInt8) (k : Nat) (ds : List (List UInt8)) : Prop := Len16 ds ∧ ds.length = 68 ∧ ∀ j, j < k → ds[j]? = some (f j)
def zero68 : List (List UInt8) := List.replicate 68 (List.replicate 16 0)
section
variable {f : Nat → List UInt8} {k : Nat} {ds : List (List UInt8)}
theorem Ends.zero : Ends f 0 zero68 :=
  ⟨fun d hd => by rw [(List.mem_replicate.1 hd).2]; rfl, List.length_replicate, fun j hj => absurd hj (by omega)⟩
theorem Ends.next (h : Ends f k ds) (hk : k < 68) (hl : (f k).length = 16) : Ends f (k + 1) (ds.set k (f k)) := by
  refine ⟨fun d hd => ?_, by rw [List.length_set]; exact h.2.1, fun j hj => ?_⟩
  · rcases List.mem_or_eq_of_mem_set hd with hd | rfl
    · exact h.1 d hd
    · exact hl
  · rw [List.getElem?_set]
    by_cases hjk : k = j
    · subst hjk
      rw [if_pos rfl, if_pos (by rw [h.2.1]; exact hk)]
    · rw [if_neg hjk]
      exact h.2.2 j (by omega)
theorem Ends.all (h : Ends f 68 ds) : ds = (List.range 68).map f := by
  apply List.ext_getElem?
  intro j
  by_cases hj : j < 68
  · rw [h.2.2 j hj, List.getElem?_map, List.getElem?_range hj]
    rfl
  · rw [List.getElem?_eq_none (by rw [h.2.1]; omega), List.getElem?_eq_none (by rw [List.length_map, List.length_range]; omega)]
end
theorem zero68_flat : zero68.flatten = List.replicate (68 * 16) 0 := List.flatten_replicate_replicate
/-- A row of 68 digests, as a slice value: it owns its cells. -/
theorem Row.owns_digs {w : World} {g : Nat} {e : TypeId} {ds : List (List UInt8)} (h : Row w g e (bvs ds.flatten)) (h16 : Len16 ds) (hl : ds.length = 68) {base : Nat} (hb : base ≤ g) :
    w.ownsRow base e 16 (.slice (some ⟨g, 0, none⟩) 68 68) 68 (bvs ds.flatten) := by
  have hs : (bvs ds.flatten).length = 68 * 16 := by rw [bvs_length, flatten_len ds h16, hl]
  exact ⟨hs, .inr ⟨g, 68, (bvs ds.flatten).toArray, rfl, hb, h, Nat.le_refl _, by unfold maxLen; omega, by rw [List.size_toArray, hs], by rw [← hs]; simp⟩⟩
end Go.Proofs.YtfmcgcdppbcfjaaDoor
