/-
  Outcomes and accesses are compared. No condition.
-/
import Derived.Test.YtfclifolniefpaaDoorStWB
import Derived.Test.YtfclifolniefpaaDoorBase
set_option linter.unusedSimpArgs false
set_option linter.unusedVariables false
namespace Go.Proofs.YtfclifolniefpaaDoor
open Go.RowKit

section
variable {P : Program} (w : World)
theorem eqFields_cons (d : Nat) (xs ys : Array Value) (f : Field) (fs : List Field) (u v : Value) (b : Bool) (hx : (part f.type xs f.offset).run P w = .ok u w) (hy : (part f.type ys f.offset).run P w = .ok v w)
    (he : (Op.equalIn d f.type u v).run P w = .ok true w) (hr : (Op.eqFields d xs ys fs).run P w = .ok b w) : (Op.eqFields d xs ys (f :: fs)).run P w = .ok b w := by
  rw [Op.eqFields]
  by_cases hn : f.name = "_"
  · simp [hn, hr]
  · simp [hn, hx, hy, he, hr]
theorem eqFields_stop (d : Nat) (xs ys : Array Value) (f : Field) (fs : List Field) (u v : Value) (hn : f.name ≠ "_") (hx : (part f.type xs f.offset).run P w = .ok u w) (hy : (part f.type ys f.offset).run P w = .ok v w)
    (he : (Op.equalIn d f.type u v).run P w = .ok false w) : (Op.eqFields d xs ys (f :: fs)).run P w = .ok false w := by
  rw [Op.eqFields]
  simp [hn, hx, hy, he]
theorem part_one (e : TypeId) (cs : Array Value) (i : Nat) (v : Value) (ha : (isAgg e).run P w = .ok false w) (hv : cs[i]? = some v) : (part e cs i).run P w = .ok v w := by
  simp [part, ha, hv]
end
theorem str_eqb (s t : ByteArray) : (s.toList == t.toList) = decide (s = t) := by
  rw [ByteArray.toList_eq, ByteArray.toList_eq, Bool.eq_iff_iff, beq_iff_eq, decide_eq_true_eq]
  exact ⟨ba_ext, fun h => by rw [h]⟩
def stEq (a b : StO) : Bool := decide (a.s = b.s) && (decide (a.n = b.n) && decide (a.e = b.e))
theorem stEq_self (a : StO) : stEq a a = true := by unfold stEq; simp
theorem stEq_iff {a b : StO} : stEq a b = true ↔ a = b := by
  unfold stEq
  rw [Bool.and_eq_true, Bool.and_eq_true, decide_eq_true_eq, decide_eq_true_eq, decide_eq_true_eq]
  cases a; cases b
  simp
theorem fields_so : (Tryd.prog.fieldsOf 33).toList.map (fun f => (f.type, f.offset, f.name == "_")) = [(9, 0, false), (3, 1, false), (31, 2, false)] := by kernel_rfl
theorem eq_so (w : World) (a b : StO) : (Op.equalIn 10000 33 (.agg a.cs.toArray) (.agg b.cs.toArray)).run Tryd.prog w = .ok (stEq a b) w := by
  obtain ⟨s, n, x⟩ := a
  obtain ⟨t, m, y⟩ := b
  have hu : Tryd.prog.underlying 33 = some (.struct (Tryd.prog.fieldsOf 33)) := by kernel_rfl
  have hp : Tryd.prog.stoodInHeld 33 = false := by kernel_rfl
  have hf := fields_so
  rw [run_equalIn_agg w 9999 _ _ _ hu hp]
  generalize (Tryd.prog.fieldsOf 33).toList = fs at hf
  rcases fs with _ | ⟨f0, _ | ⟨f1, _ | ⟨f2, _ | ⟨f3, r⟩⟩⟩⟩
  · simp at hf
  · simp at hf
  · simp at hf
  rotate_left
  · simp at hf
  · simp only [List.map_cons, List.map_nil, List.cons.injEq, Prod.mk.injEq, and_true] at hf
    obtain ⟨⟨h0, o0, n0⟩, ⟨h1, o1, n1⟩, h2, o2, n2⟩ := hf
    have n0 : f0.name ≠ "_" := by simpa using n0
    have n1 : f1.name ≠ "_" := by simpa using n1
    have n2 : f2.name ≠ "_" := by simpa using n2
    have ha0 : ∀ w, (isAgg 9).run Tryd.prog w = .ok false w := fun w => by kernel_rfl
    have ha1 : ∀ w, (isAgg 3).run Tryd.prog w = .ok false w := fun w => by kernel_rfl
    have ha2 : ∀ w, (isAgg 31).run Tryd.prog w = .ok false w := fun w => by kernel_rfl
    have x0 : (part f0.type (⟨s, n, x⟩ : StO).cs.toArray f0.offset).run Tryd.prog w = .ok (.string s) w := by rw [h0, o0]; exact part_one w _ _ 0 _ (ha0 w) rfl
    have y0 : (part f0.type (⟨t, m, y⟩ : StO).cs.toArray f0.offset).run Tryd.prog w = .ok (.string t) w := by rw [h0, o0]; exact part_one w _ _ 0 _ (ha0 w) rfl
    have x1 : (part f1.type (⟨s, n, x⟩ : StO).cs.toArray f1.offset).run Tryd.prog w = .ok (.int .i64 n) w := by rw [h1, o1]; exact part_one w _ _ 1 _ (ha1 w) rfl
    have y1 : (part f1.type (⟨t, m, y⟩ : StO).cs.toArray f1.offset).run Tryd.prog w = .ok (.int .i64 m) w := by rw [h1, o1]; exact part_one w _ _ 1 _ (ha1 w) rfl
    have x2 : (part f2.type (⟨s, n, x⟩ : StO).cs.toArray f2.offset).run Tryd.prog w = .ok (.int .i64 x) w := by rw [h2, o2]; exact part_one w _ _ 2 _ (ha2 w) rfl
    have y2 : (part f2.type (⟨t, m, y⟩ : StO).cs.toArray f2.offset).run Tryd.prog w = .ok (.int .i64 y) w := by rw [h2, o2]; exact part_one w _ _ 2 _ (ha2 w) rfl
    have e0 : (Op.equalIn 9999 f0.type (.string s) (.string t)).run Tryd.prog w = .ok (decide (s = t)) w := by rw [h0, run_equalIn_string w 9998 9 s t Tryd.underlying9, ← str_eqb]
    have e1 : (Op.equalIn 9999 f1.type (.int .i64 n) (.int .i64 m)).run Tryd.prog w = .ok (decide (n = m)) w := by
      rw [h1, run_equalIn_int w 9998 3 .i64 .i64 n m Tryd.underlying3]
      congr 1
    have e2 : (Op.equalIn 9999 f2.type (.int .i64 x) (.int .i64 y)).run Tryd.prog w = .ok (decide (x = y)) w := by
      rw [h2, run_equalIn_int w 9998 31 .i64 .i64 x y Tryd.underlying31]
      congr 1
    unfold stEq
    simp only
    by_cases q0 : s = t
    · rw [decide_eq_true q0] at e0 ⊢
      rw [Bool.true_and]
      refine eqFields_cons w 9999 _ _ f0 [f1, f2] _ _ _ x0 y0 e0 ?_
      by_cases q1 : n = m
      · rw [decide_eq_true q1] at e1 ⊢
        rw [Bool.true_and]
        refine eqFields_cons w 9999 _ _ f1 [f2] _ _ _ x1 y1 e1 ?_
        by_cases q2 : x = y
        · rw [decide_eq_true q2] at e2 ⊢
          exact eqFields_cons w 9999 _ _ f2 [] _ _ _ x2 y2 e2 (by simp [Op.eqFields])
        · rw [decide_eq_false q2] at e2 ⊢
          exact eqFields_stop w 9999 _ _ f2 [] _ _ n2 x2 y2 e2
      · rw [decide_eq_false q1] at e1 ⊢
        rw [Bool.false_and]
        exact eqFields_stop w 9999 _ _ f1 [f2] _ _ n1 x1 y1 e1
    · rw [decide_eq_false q0] at e0 ⊢
      rw [Bool.false_and]
      exact eqFields_stop w 9999 _ _ f0 [f1, f2] _ _ n0 x0 y0 e0
theorem exec_eqlO {ρ : Operand → Value} {o : Oper} (w : World) (x y : Operand) (ho : o.op = .binOp .eql 33 x y 33) (a b : StO) (h1 : ρ x = .agg a.cs.toArray) (h2 : ρ y = .agg b.cs.toArray) :
    (execOp ρ o).run Tryd.prog w = .ok (.value (.bool (stEq a b))) w := by
  have hg : Tryd.prog.eqGuardType Tryd.prog.depth 33 = false := by kernel_rfl
  unfold execOp
  simp only [ho, h1, h2, Sem.run_bind, run_eqGuard_agg w _ _ _ _ _ _ hg, Result.andThen_ok, run_eql_struct, eq_so w a b]
  rfl
theorem exec_neqO {ρ : Operand → Value} {o : Oper} (w : World) (x y : Operand) (ho : o.op = .binOp .neq 33 x y 33) (a b : StO) (h1 : ρ x = .agg a.cs.toArray) (h2 : ρ y = .agg b.cs.toArray) :
    (execOp ρ o).run Tryd.prog w = .ok (.value (.bool (!stEq a b))) w := by
  have hg : Tryd.prog.eqGuardType Tryd.prog.depth 33 = false := by kernel_rfl
  unfold execOp
  simp only [ho, h1, h2, Sem.run_bind, run_eqGuard_agg w _ _ _ _ _ _ hg, Result.andThen_ok, run_neq_struct, eq_so w a b]
  rfl
theorem fields_ac : (Tryd.prog.fieldsOf 40).toList.map (fun f => (f.type, f.offset)) = [(3, 0), (3, 1), (3, 2), (9, 3)] := by kernel_rfl
theorem eq_ac (w : World) (a : StA) : (Op.equalIn 10000 40 (.agg a.cs.toArray) (.agg a.cs.toArray)).run Tryd.prog w = .ok true w := by
  obtain ⟨k, b, c, s⟩ := a
  have hu : Tryd.prog.underlying 40 = some (.struct (Tryd.prog.fieldsOf 40)) := by kernel_rfl
  have hp : Tryd.prog.stoodInHeld 40 = false := by kernel_rfl
  have hf := fields_ac
  rw [run_equalIn_agg w 9999 _ _ _ hu hp]
  generalize (Tryd.prog.fieldsOf 40).toList = fs at hf
  rcases fs with _ | ⟨f0, _ | ⟨f1, _ | ⟨f2, _ | ⟨f3, _ | ⟨f4, r⟩⟩⟩⟩⟩
  · simp at hf
  · simp at hf
  · simp at hf
  · simp at hf
  rotate_left
  · simp at hf
  · simp only [List.map_cons, List.map_nil, List.cons.injEq, Prod.mk.injEq, and_true] at hf
    obtain ⟨⟨h0, o0⟩, ⟨h1, o1⟩, ⟨h2, o2⟩, h3, o3⟩ := hf
    have ha0 : ∀ w, (isAgg 3).run Tryd.prog w = .ok false w := fun w => by kernel_rfl
    have ha1 : ∀ w, (isAgg 9).run Tryd.prog w = .ok false w := fun w => by kernel_rfl
    have hi : ∀ (w : World) (n : Int), (Op.equalIn 9999 3 (.int .i64 n) (.int .i64 n)).run Tryd.prog w = .ok true w := fun w n => by rw [run_equalIn_int w 9998 3 .i64 .i64 n n Tryd.underlying3]; simp
    exact eqFields_cons w 9999 _ _ f0 [f1, f2, f3] (.int .i64 k) (.int .i64 k) true (by rw [h0, o0]; exact part_one w _ _ 0 _ (ha0 w) rfl) (by rw [h0, o0]; exact part_one w _ _ 0 _ (ha0 w) rfl) (by rw [h0]; exact hi w k)
      (eqFields_cons w 9999 _ _ f1 [f2, f3] (.int .i64 b) (.int .i64 b) true (by rw [h1, o1]; exact part_one w _ _ 1 _ (ha0 w) rfl) (by rw [h1, o1]; exact part_one w _ _ 1 _ (ha0 w) rfl) (by rw [h1]; exact hi w b)
        (eqFields_cons w 9999 _ _ f2 [f3] (.int .i64 c) (.int .i64 c) true (by rw [h2, o2]; exact part_one w _ _ 2 _ (ha0 w) rfl) (by rw [h2, o2]; exact part_one w _ _ 2 _ (ha0 w) rfl) (by rw [h2]; exact hi w c)
          (eqFields_cons w 9999 _ _ f3 [] (.string s) (.string s) true (by rw [h3, o3]; exact part_one w _ _ 3 _ (ha1 w) rfl) (by rw [h3, o3]; exact part_one w _ _ 3 _ (ha1 w) rfl) (by rw [h3]; rw [run_equalIn_string w 9998 9 s s Tryd.underlying9]; simp) (by simp [Op.eqFields]))))
theorem exec_eqlA {ρ : Operand → Value} {o : Oper} (w : World) (x y : Operand) (ho : o.op = .binOp .eql 40 x y 40) (a : StA) (h1 : ρ x = .agg a.cs.toArray) (h2 : ρ y = .agg a.cs.toArray) :
    (execOp ρ o).run Tryd.prog w = .ok (.value (.bool true)) w := by
  have hg : Tryd.prog.eqGuardType Tryd.prog.depth 40 = false := by kernel_rfl
  unfold execOp
  simp only [ho, h1, h2, Sem.run_bind, run_eqGuard_agg w _ _ _ _ _ _ hg, Result.andThen_ok, run_eql_struct, eq_ac w a]
  rfl
end Go.Proofs.YtfclifolniefpaaDoor

/-
  append onto a slice of the call's own, with the block that it writes; rows of other types lie apart. Over any program. No condition.
-/
namespace Go.Proofs.YtfclifolniefpaaDoor
open Go.RowKit

section
variable {P : Program} {w : World}
theorem run_append_at9 (base : Nat) (t tx ty e : TypeId) (i : TypeInfo) (z : Value) (size bytes : Nat) (ht : P.underlying t = some (.slice e)) (hi : P.info? e = some i) (hz : i.zero = some z)
    (hsize : i.size = size) (hby : i.bytes = bytes) (hzs : z.cells.size = size)
    (v : Value) (n : Nat) (xs : List Value) (hown : w.ownsRow base e size v n xs) (x : Value) (m : Nat) (news : List Value) (hs : Src P size tx x m news w)
    (h63 : n + m ≤ maxLen) (hbytes : (n + m) * bytes ≤ 140737488355328) (hbase : base ≤ w.heap.size) :
    ∃ v' w', (Builtin.append_ #[t, tx] ty #[v, x]).run P w = .ok v' w' ∧ w'.ownsRow base e size v' (n + m) (xs ++ news) ∧ w.grownBy w' v.ownBlock ∧ (v'.ownBlock = v.ownBlock ∨ v'.ownBlock = some w.heap.size) := by
  subst hsize
  subst hby
  have hlen : (xs ++ news).length = (n + m) * i.size := by rw [List.length_append, hown.1, hs.newsLen, Nat.add_mul]
  have hsmall : ((n + m : Nat) : Int) ≤ 9223372036854775807 := by simp only [maxLen] at h63; omega
  rcases hown.2 with ⟨rfl, rfl⟩ | ⟨g, cap, cur, rfl, hbg, hg, hnc, hcm, hcs, htake⟩
  · have hx : xs = [] := List.eq_nil_of_length_eq_zero (by simpa using hown.1)
    subst hx
    by_cases hm : m = 0
    · subst hm
      have hn : news = [] := List.eq_nil_of_length_eq_zero (by simpa using hs.newsLen)
      subst hn
      refine ⟨.slice none 0 0, w, ?_, World.ownsRow_nil w base e i.size, World.grownBy.refl w _, .inl rfl⟩
      rcases hs.kind with ⟨e', hk⟩ | hk <;> simp [Builtin.append_, run_underlying ht, run_underlying hk, sizeOf, typeInfo, hi, hs.len, hs.cells]
    · have hr := run_append_grow_src (P := P) w t tx ty e i z ht hi hz none 0 0 [] (run_firstCells_none w.drew i.size 0 0 0) x m news hs (by omega) hsmall (growslice_fits (by omega) hbytes)
      refine ⟨_, _, hr, ?_, ⟨rfl, rfl, rfl, by simp, fun k hk _ => Below.heap_alloc w.drew _ k hk⟩, .inr rfl⟩
      have := own_grown w base e i.size 0 m 0 z hzs [] news (by simp) hs.newsLen h63 hbase
      simpa using this
  · by_cases hroom : n + m ≤ cap
    · have hfit : n * i.size + news.length ≤ cur.size := by rw [hs.newsLen, hcs, ← Nat.add_mul]; exact Nat.mul_le_mul_right _ hroom
      have hst := run_storeCells_at P g (n * i.size) e news 0 cur w hg (by simpa using hfit) hs.one
      simp only [Nat.add_zero] at hst
      have hr : (Builtin.append_ #[t, tx] ty #[.slice (some ⟨g, 0, none⟩) n cap, x]).run P w =
          .ok (.slice (some ⟨g, 0, none⟩) (n + m) cap) (w.setRow g (cur.toList.take (n * i.size) ++ news ++ cur.toList.drop (n * i.size + news.length)).toArray) := by
        rcases hs.kind with ⟨e', hk⟩ | hk <;> simp [Builtin.append_, run_underlying ht, run_underlying hk, sizeOf, typeInfo, hi, hs.len, hroom, hs.cells, Addr.add_lit, hst]
      refine ⟨_, _, hr, ⟨hlen, .inr ⟨g, cap, _, rfl, hbg, setRow_heap w g cur _ e _ hg, hroom, hcm, ?_, ?_⟩⟩, ⟨rfl, rfl, rfl, by simp, fun k _ hk => setRow_other w g k _ (fun e => hk (by simp [Value.ownBlock, e]))⟩, .inl rfl⟩
      · simp only [List.size_toArray, List.length_append, List.length_take, List.length_drop, Array.length_toList]
        omega
      · rw [htake, ← hlen]
        exact List.take_left
    · have holds : ∀ j u, xs[j]? = some u → w.cell? ((⟨g, 0, none⟩ : Addr).add j) = some u := hown.cells (g := g) rfl
      have hr := run_append_grow_src (P := P) w t tx ty e i z ht hi hz (some ⟨g, 0, none⟩) n cap xs (run_firstCells_some w.drew i.size n ⟨g, 0, none⟩ n cap xs hown.1 (by simpa using holds)) x m news hs (by omega) hsmall (growslice_fits (by omega) hbytes)
      exact ⟨_, _, hr, own_grown w base e i.size n m cap z hzs xs news hown.1 hs.newsLen h63 hbase, ⟨rfl, rfl, rfl, by simp, fun k hk _ => Below.heap_alloc w.drew _ k hk⟩, .inr rfl⟩
theorem wpList_append_at9 {ops : Array Oper} {rest : List Oper} {o : Oper} {a : Act} {Q : Exit → Act → World → Prop} (hgd : o.guard = none) (s x : Operand) (t tx : TypeId)
    (ho : o.op = .call { callee := .builtin .append, args := #[s, x], argTypes := #[t, tx] })
    (base : Nat) (e : TypeId) (i : TypeInfo) (z : Value) (size bytes : Nat) (ht : P.underlying t = some (.slice e)) (hi : P.info? e = some i) (hz : i.zero = some z)
    (hsize : i.size = size) (hby : i.bytes = bytes) (hzs : z.cells.size = size)
    (v : Value) (n : Nat) (xs : List Value) (hsv : a.eval s = v) (hown : w.ownsRow base e size v n xs) (m : Nat) (news : List Value) (hs : Src P size tx (a.eval x) m news w)
    (h63 : n + m ≤ maxLen) (hbytes : (n + m) * bytes ≤ 140737488355328) (hbase : base ≤ w.heap.size)
    (h : ∀ v' w', w'.ownsRow base e size v' (n + m) (xs ++ news) → w.grownBy w' v.ownBlock → (v'.ownBlock = v.ownBlock ∨ v'.ownBlock = some w.heap.size) → wpList P ops Q rest (a.put o.dst v') w') : wpList P ops Q (o :: rest) a w := by
  refine wpList_plain hgd fun _ hK => ?_
  obtain ⟨v', w', hrun, h2, h3, h4⟩ := run_append_at9 (P := P) (w := w) base t tx o.type e i z size bytes ht hi hz hsize hby hzs v n xs hown (a.eval x) m news hs h63 hbytes hbase
  unfold Oper.wp execOp
  simp only [ho, resolve, invoke, builtin, Sem.run_bind, Sem.run_pure, Result.andThen_ok, List.map_toArray, List.map_cons, List.map_nil, hsv, hrun]
  exact hK _ _ (h v' w' h2 h3 h4)
end
theorem boxRow9 {P : Program} {tx e' : TypeId} (hk : P.underlying tx = some (.slice e')) (w : World) (cs : List Value) (t : TypeId) (size : Nat) (hs : cs.length = size) (h1 : ∀ u ∈ cs, u.oneCell' = true) (c : Nat) :
    Src P size tx (.slice (some ⟨w.heap.size, 0, none⟩) 1 c) 1 cs (w.alloc (.cells cs.toArray t)) :=
  Src.ofSlice _ hk _ 1 c cs (by omega) (World.news_of_block (cs := cs.toArray) (Go.heap_alloc_new w _)) h1
theorem Row.not_row7 {W : World} {B : Nat} {t e : TypeId} {cs : List Value} (h : Row W B t cs) (hte : t ≠ e) {base size k : Nat} {v : Value} {xs : List Value} (hr : W.ownsRow base e size v k xs) : some B ≠ v.ownBlock := by
  rcases hr.2 with ⟨rfl, _⟩ | ⟨g, cap, cur, rfl, _, hgb, _⟩
  · simp [Value.ownBlock]
  · intro e'
    obtain rfl : B = g := by simpa [Value.ownBlock] using e'
    unfold Row at h
    rw [h] at hgb
    cases hgb
    exact hte rfl
theorem own_ne {w : World} {b1 b2 s1 s2 n1 n2 : Nat} {t1 t2 : TypeId} {v1 v2 : Value} {x1 x2 : List Value} (h1 : w.ownsRow b1 t1 s1 v1 n1 x1) (h2 : w.ownsRow b2 t2 s2 v2 n2 x2) (ht : t1 ≠ t2) : v1.ownBlock = none ∨ v1.ownBlock ≠ v2.ownBlock := by
  rcases h1.2 with ⟨rfl, _⟩ | ⟨g, cap, cur, rfl, _, hg, _⟩
  · exact .inl rfl
  · refine .inr fun e => ?_
    rcases h2.2 with ⟨rfl, _⟩ | ⟨g', cap', cur', rfl, _, hg', _⟩
    · cases e
    · obtain rfl : g = g' := by simpa [Value.ownBlock] using e
      rw [hg] at hg'
      cases hg'
      exact ht rfl
end Go.Proofs.YtfclifolniefpaaDoor
