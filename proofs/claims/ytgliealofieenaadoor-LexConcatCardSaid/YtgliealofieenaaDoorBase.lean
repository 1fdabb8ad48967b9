/-
  Words of this seat's proofs, over any program: a slice value that reads as a list ('Reads'), a slice of the call's own ('ownsRow') and what append leaves of it, whatever is appended. No condition.
-/
import Derived.WalkKit
import Derived.WalkSpells
import Derived.WalkLawsBesides
import Derived.Handy
import Derived.Lib.Hide
import Derived.Deep.QuietTactic
import Derived.BigQuiet
import Derived.Deep.AppendSrc
import Derived.Deep.AppendLies
import Derived.Deep.Draws
import Derived.Maps.AppendAt
import Derived.Laws.CopyOwn
import Derived.Laws.BitsAllLaws
import Derived.Laws.Bits128
import Derived.Stop.BytesEq
import Derived.Laws.IdiomStrings
import Derived.StillTail
import Derived.OrdersHeld
import Derived.RegionTactic
import Derived.Defers
namespace Go.Proofs.YtgliealofieenaaDoor
open Go.RowKit

theorem block_of_add (a : Addr) (n : Nat) : (a.add n).block = a.block := by unfold Addr.add; split <;> rfl
theorem add_of_add (a : Addr) (i j : Nat) : (a.add i).add j = a.add (i + j) := by
  unfold Addr.add
  by_cases hi : i = 0 <;> by_cases hj : j = 0 <;> simp [hi, hj, Nat.add_assoc]

/-- The slice value '.slice A n c' reads as the cells xs, which lie below block B. -/
def Reads (w : World) (B size : Nat) (A : Option Addr) (n : Nat) (xs : List Value) : Prop :=
  xs.length = n * size ∧ (0 < n → ∃ ad, A = some ad ∧ ad.block < B ∧ ∀ j u, xs[j]? = some u → w.cell? (ad.add j) = some u)

section
variable {w w' : World} {B B' size n : Nat} {A : Option Addr} {xs : List Value}
theorem Reads.nil_ : Reads w B size A 0 [] := ⟨by simp, fun h => absurd h (by omega)⟩
theorem Reads.at_ {k : Nat} (h : Reads w B 1 A n xs) (hk : k < n) : ∃ ad u, A = some ad ∧ ad.block < B ∧ xs[k]? = some u ∧ w.cell? (ad.add k) = some u := by
  obtain ⟨ad, e, hb, hc⟩ := h.2 (by omega)
  have hl : k < xs.length := by have := h.1; omega
  exact ⟨ad, xs[k], e, hb, List.getElem?_eq_getElem hl, hc k _ (List.getElem?_eq_getElem hl)⟩
theorem Reads.keep (h : Reads w B size A n xs) (hk : ∀ p : Addr, p.block < B → w'.cell? p = w.cell? p) : Reads w' B size A n xs :=
  ⟨h.1, fun hn => by
    obtain ⟨ad, e, hb, hc⟩ := h.2 hn
    exact ⟨ad, e, hb, fun j u hu => (hk _ (by rw [block_of_add]; exact hb)).trans (hc j u hu)⟩⟩
theorem Reads.more (h : Reads w B size A n xs) (hB : B ≤ B') : Reads w B' size A n xs :=
  ⟨h.1, fun hn => by
    obtain ⟨ad, e, hb, hc⟩ := h.2 hn
    exact ⟨ad, e, by omega, hc⟩⟩
theorem Reads.below (h : Reads w B size A n xs) (hb : Below B w w') : Reads w' B size A n xs := h.keep fun _ hp => hb.cell hp
/-- Behind a call: below the new heap's size. -/
theorem Reads.on (h : Reads w w.heap.size size A n xs) (hb : Below w.heap.size w w') : Reads w' w'.heap.size size A n xs := (h.below hb).more hb.size
theorem Reads.drew (h : Reads w B size A n xs) : Reads w.drew B size A n xs := h
theorem Reads.drewN (h : Reads w B size A n xs) (k : Nat) : Reads (w.drewN k) B size A n xs := h
theorem Reads.alloc (h : Reads w B size A n xs) (hB : B ≤ w.heap.size) (o : Obj) : Reads (w.alloc o) B size A n xs := h.keep fun p hp => World.cell?_alloc_lt w o p (by omega)
theorem Reads.setCell (h : Reads w B size A n xs) {p : Addr} (hB : B ≤ p.block) (u : Value) : Reads (w.setCell p u) B size A n xs :=
  h.keep fun q hq => World.cell?_setCell_other w p q u (fun e => by subst e; omega)
theorem Reads.cut (h : Reads w B size A n xs) {k cap : Nat} (hk : k ≤ n) (hc : n ≤ cap) :
    Reads w B size (if cap = k then A else A.map (·.add (k * size))) (n - k) (xs.drop (k * size)) := by
  refine ⟨by rw [List.length_drop, h.1, Nat.sub_mul], fun hn => ?_⟩
  obtain ⟨ad, rfl, hb, hcell⟩ := h.2 (by omega)
  rw [if_neg (by omega)]
  refine ⟨ad.add (k * size), rfl, by rw [block_of_add]; exact hb, fun j u hu => ?_⟩
  rw [add_of_add]
  exact hcell _ u (by rw [← hu, List.getElem?_drop])
theorem Reads.take (h : Reads w B size A n xs) {k : Nat} (hk : k ≤ n) : Reads w B size A k (xs.take (k * size)) := by
  refine ⟨by rw [List.length_take, h.1, Nat.min_eq_left (Nat.mul_le_mul_right _ hk)], fun hn => ?_⟩
  obtain ⟨ad, rfl, hb, hcell⟩ := h.2 (by omega)
  refine ⟨ad, rfl, hb, fun j u hu => hcell j u ?_⟩
  rw [List.getElem?_take] at hu
  split at hu
  · exact hu
  · cases hu
theorem Reads.of_own {base : Nat} {e : TypeId} {c : Nat} (h : w.ownsRow base e size (.slice A n c) n xs) : Reads w w.heap.size size A n xs := by
  refine ⟨h.1, fun hn => ?_⟩
  obtain ⟨g, cap, hv, _, hlt⟩ := h.form hn
  have hA : A = some ⟨g, 0, none⟩ := by injection hv
  subst hA
  exact ⟨_, rfl, hlt, h.cells (g := g) rfl⟩
/-- What the call owns is a slice value, and reads. -/
theorem own_form {base : Nat} {e : TypeId} {v : Value} (h : w.ownsRow base e size v n xs) : ∃ A c, v = .slice A n c ∧ n ≤ c ∧ c ≤ maxLen ∧ Reads w w.heap.size size A n xs := by
  rcases h.2 with ⟨rfl, rfl⟩ | ⟨g, cap, cur, rfl, _, _, hn, hm, _⟩
  · exact ⟨none, 0, rfl, Nat.le_refl _, by unfold maxLen; omega, Reads.of_own h⟩
  · exact ⟨_, cap, rfl, hn, hm, Reads.of_own h⟩
/-- The block of what is owned. -/
theorem own_block {base : Nat} {e : TypeId} {A : Option Addr} {c : Nat} (h : w.ownsRow base e size (.slice A n c) n xs) : 0 < n → ∀ ad, A = some ad → base ≤ ad.block := fun hn ad hA => by
  obtain ⟨g, cap, hv, hg, _⟩ := h.form hn
  injection hv with e1
  rw [hA] at e1
  injection e1 with e1
  rw [e1]
  exact hg
/-- A smaller base. -/
theorem own_base {base base' : Nat} {e : TypeId} {v : Value} (h : w.ownsRow base e size v n xs) (hb : base' ≤ base) : w.ownsRow base' e size v n xs := by
  obtain ⟨h1, h2⟩ := h
  refine ⟨h1, ?_⟩
  rcases h2 with h2 | ⟨g, cap, cur, hv, hg, r⟩
  · exact .inl h2
  · exact .inr ⟨g, cap, cur, hv, Nat.le_trans hb hg, r⟩
end

section
variable {P : Program} (w : World)

/-- What is appended, out of 'Reads'. -/
theorem Src.ofReads {size : Nat} {tx e' : TypeId} (hk : P.underlying tx = some (.slice e')) {B : Nat} {A : Option Addr} {m : Nat} {c : Nat} {news : List Value} (hr : Reads w B size A m news) (h1 : ∀ u ∈ news, u.oneCell' = true) :
    Src P size tx (.slice A m c) m news w := by
  rcases A with _ | ad
  · have hm : m = 0 := by
      rcases Nat.eq_zero_or_pos m with h0 | h0
      · exact h0
      · obtain ⟨ad, h, _⟩ := hr.2 h0
        cases h
    subst hm
    have hn : news = [] := List.eq_nil_of_length_eq_zero (by simpa using hr.1)
    subst hn
    exact Src.ofNil w hk c
  · refine Src.ofSlice w hk ad m c news hr.1 (fun j u hu => ?_) h1
    rcases Nat.eq_zero_or_pos m with h0 | h0
    · subst h0
      have hn : news = [] := List.eq_nil_of_length_eq_zero (by simpa using hr.1)
      subst hn
      simp at hu
    · obtain ⟨ad', h, _, hc⟩ := hr.2 h0
      injection h with h
      subst h
      exact hc j u hu

theorem firstCells_reads {size : Nat} {B : Nat} {A : Option Addr} {n c : Nat} {xs : List Value} (hr : Reads w B size A n xs) : (Builtin.firstCells size n (.slice A n c)).run P w = .ok xs.toArray w := by
  rcases A with _ | ad
  · have hm : n = 0 := by
      rcases Nat.eq_zero_or_pos n with h0 | h0
      · exact h0
      · obtain ⟨ad, h, _⟩ := hr.2 h0
        cases h
    subst hm
    have hn : xs = [] := List.eq_nil_of_length_eq_zero (by simpa using hr.1)
    subst hn
    exact run_firstCells_none w size 0 0 c
  · refine run_firstCells_some w size n ad n c xs hr.1 (fun j u hu => ?_)
    rcases Nat.eq_zero_or_pos n with h0 | h0
    · subst h0
      have hn : xs = [] := List.eq_nil_of_length_eq_zero (by simpa using hr.1)
      subst hn
      simp at hu
    · obtain ⟨ad', h, _, hc⟩ := hr.2 h0
      injection h with h
      subst h
      exact hc j u hu

/-- A new row of old ++ new ++ zeros owns what it should. -/
theorem own_grown (base e size n m old : Nat) (z : Value) (hzs : z.cells.size = size) (xs news : List Value) (hx : xs.length = n * size) (hl : news.length = m * size)
    (h63 : n + m ≤ maxLen) (hbase : base ≤ w.heap.size) :
    (w.drew.alloc (.cells ((xs ++ news).toArray ++ Builtin.zeroCells z.cells (grownCap w (n + m) old e - (n + m))) e)).ownsRow base e size
      (.slice (some ⟨w.heap.size, 0, none⟩) (n + m) (grownCap w (n + m) old e)) (n + m) (xs ++ news) := by
  have hlen : (xs ++ news).length = (n + m) * size := by rw [List.length_append, hx, hl, Nat.add_mul]
  have hge := grownCap_ge w (n + m) old e
  have hcm : grownCap w (n + m) old e ≤ maxLen := grownCap_le_maxLen w (n + m) old e h63
  refine ⟨hlen, .inr ⟨w.heap.size, _, _, rfl, hbase, heap_alloc_new w.drew _, hge, hcm, ?_, ?_⟩⟩
  · simp only [Array.size_append, List.size_toArray, size_zeroCells, hzs, hlen, ← Nat.add_mul]
    congr 1
    omega
  · simp only [Array.toList_append]
    rw [← hlen]
    exact List.take_left

/-- append ONTO A SLICE OF THE CALL's OWN, WHATEVER IS APPENDED. -/
theorem run_append_src (base : Nat) (t tx ty e : TypeId) (i : TypeInfo) (z : Value) (size bytes : Nat) (ht : P.underlying t = some (.slice e)) (hi : P.info? e = some i) (hz : i.zero = some z)
    (hsize : i.size = size) (hby : i.bytes = bytes) (hzs : z.cells.size = size)
    (v : Value) (n : Nat) (xs : List Value) (hown : w.ownsRow base e size v n xs) (x : Value) (m : Nat) (news : List Value) (hs : Src P size tx x m news w)
    (h63 : n + m ≤ maxLen) (hbytes : (n + m) * bytes ≤ 140737488355328) (hbase : base ≤ w.heap.size) :
    ∃ v' w', (Builtin.append_ #[t, tx] ty #[v, x]).run P w = .ok v' w' ∧ w'.ownsRow base e size v' (n + m) (xs ++ news) ∧ w.grownBy w' v.ownBlock := by
  subst hsize
  subst hby
  have hlen : (xs ++ news).length = (n + m) * i.size := by rw [List.length_append, hown.1, hs.newsLen, Nat.add_mul]
  have hsmall : ((n + m : Nat) : Int) ≤ 9223372036854775807 := by simp only [maxLen] at h63; omega
  rcases hown.2 with ⟨rfl, rfl⟩ | ⟨g, cap, cur, rfl, hbg, hg, hnc, hcm, hcs, htake⟩
  · have hx : xs = [] := List.eq_nil_of_length_eq_zero (by simpa using hown.1)
    subst hx
    by_cases hm : m = 0
    · subst hm
      have hn : news = [] := List.eq_nil_of_length_eq_zero (by simpa using hs.newsLen)
      subst hn
      refine ⟨.slice none 0 0, w, ?_, World.ownsRow_nil w base e i.size, World.grownBy.refl w _⟩
      rcases hs.kind with ⟨e', hk⟩ | hk <;> simp [Builtin.append_, run_underlying ht, run_underlying hk, sizeOf, typeInfo, hi, hs.len, hs.cells]
    · have hr := run_append_grow_src (P := P) w t tx ty e i z ht hi hz none 0 0 [] (run_firstCells_none w.drew i.size 0 0 0) x m news hs (by omega) hsmall (growslice_fits (by omega) hbytes)
      refine ⟨_, _, hr, ?_, ⟨rfl, rfl, rfl, by simp, fun k hk _ => Below.heap_alloc w.drew _ k hk⟩⟩
      have := own_grown w base e i.size 0 m 0 z hzs [] news (by simp) hs.newsLen h63 hbase
      simpa using this
  · by_cases hroom : n + m ≤ cap
    · have hfit : n * i.size + news.length ≤ cur.size := by rw [hs.newsLen, hcs, ← Nat.add_mul]; exact Nat.mul_le_mul_right _ hroom
      have hst := run_storeCells_at P g (n * i.size) e news 0 cur w hg (by simpa using hfit) hs.one
      simp only [Nat.add_zero] at hst
      have hr : (Builtin.append_ #[t, tx] ty #[.slice (some ⟨g, 0, none⟩) n cap, x]).run P w =
          .ok (.slice (some ⟨g, 0, none⟩) (n + m) cap) (w.setRow g (cur.toList.take (n * i.size) ++ news ++ cur.toList.drop (n * i.size + news.length)).toArray) := by
        rcases hs.kind with ⟨e', hk⟩ | hk <;> simp [Builtin.append_, run_underlying ht, run_underlying hk, sizeOf, typeInfo, hi, hs.len, hroom, hs.cells, Addr.add_lit, hst]
      refine ⟨_, _, hr, ⟨hlen, .inr ⟨g, cap, _, rfl, hbg, setRow_heap w g cur _ e _ hg, hroom, hcm, ?_, ?_⟩⟩, ⟨rfl, rfl, rfl, by simp, fun k _ hk => setRow_other w g k _ (fun e => hk (by simp [Value.ownBlock, e]))⟩⟩
      · simp only [List.size_toArray, List.length_append, List.length_take, List.length_drop, Array.length_toList]
        omega
      · rw [htake, ← hlen]
        exact List.take_left
    · have holds : ∀ j u, xs[j]? = some u → w.cell? ((⟨g, 0, none⟩ : Addr).add j) = some u := hown.cells (g := g) rfl
      have hr := run_append_grow_src (P := P) w t tx ty e i z ht hi hz (some ⟨g, 0, none⟩) n cap xs (run_firstCells_some w.drew i.size n ⟨g, 0, none⟩ n cap xs hown.1 (by simpa using holds)) x m news hs (by omega) hsmall (growslice_fits (by omega) hbytes)
      exact ⟨_, _, hr, own_grown w base e i.size n m cap z hzs xs news hown.1 hs.newsLen h63 hbase, ⟨rfl, rfl, rfl, by simp, fun k hk _ => Below.heap_alloc w.drew _ k hk⟩⟩

/-- append TO A SLICE WITHOUT ROOM (a cut of full capacity): the old row is not written. -/
theorem run_append_full (t tx ty e : TypeId) (i : TypeInfo) (z : Value) (size bytes : Nat) (ht : P.underlying t = some (.slice e)) (hi : P.info? e = some i) (hz : i.zero = some z)
    (hsize : i.size = size) (hby : i.bytes = bytes) (hzs : z.cells.size = size)
    (B : Nat) (A : Option Addr) (n : Nat) (xs : List Value) (hr0 : Reads w B size A n xs) (hB : B ≤ w.heap.size) (x : Value) (m : Nat) (news : List Value) (hs : Src P size tx x m news w)
    (h63 : n + m ≤ maxLen) (hbytes : (n + m) * bytes ≤ 140737488355328) :
    ∃ A' c' w', (Builtin.append_ #[t, tx] ty #[.slice A n n, x]).run P w = .ok (.slice A' (n + m) c') w' ∧ n + m ≤ c' ∧ Reads w' w'.heap.size size A' (n + m) (xs ++ news) ∧ Below w.heap.size w w' := by
  subst hsize
  subst hby
  have hsmall : ((n + m : Nat) : Int) ≤ 9223372036854775807 := by simp only [maxLen] at h63; omega
  by_cases hm : m = 0
  · subst hm
    have hn : news = [] := List.eq_nil_of_length_eq_zero (by simpa using hs.newsLen)
    subst hn
    refine ⟨A, n, w, ?_, Nat.le_refl _, by simpa using hr0.more hB, Below.refl _ _⟩
    rcases A with _ | a <;> rcases hs.kind with ⟨e', hk⟩ | hk <;> simp [Builtin.append_, run_underlying ht, run_underlying hk, sizeOf, typeInfo, hi, hs.len, hs.cells, storeCells]
  · have hr := run_append_grow_src (P := P) w t tx ty e i z ht hi hz A n n xs (firstCells_reads (P := P) w.drew (hr0.drew)) x m news hs (by omega) hsmall (growslice_fits (by omega) hbytes)
    have hown := own_grown w w.heap.size e i.size n m n z hzs xs news hr0.1 hs.newsLen h63 (Nat.le_refl _)
    exact ⟨_, _, _, hr, grownCap_ge _ _ _ _, Reads.of_own hown, ((Below.refl _ _).drew).alloc (Nat.le_refl _) _⟩

theorem wpList_append_src {ops : Array Oper} {rest : List Oper} {o : Oper} {a : Act} {Q : Exit → Act → World → Prop} (hgd : o.guard = none) (s x : Operand) (t tx : TypeId)
    (ho : o.op = .call { callee := .builtin .append, args := #[s, x], argTypes := #[t, tx] })
    (base : Nat) (e : TypeId) (i : TypeInfo) (z : Value) (size bytes : Nat) (ht : P.underlying t = some (.slice e)) (hi : P.info? e = some i) (hz : i.zero = some z)
    (hsize : i.size = size) (hby : i.bytes = bytes) (hzs : z.cells.size = size)
    (v : Value) (n : Nat) (xs : List Value) (hsv : a.eval s = v) (hown : w.ownsRow base e size v n xs) (m : Nat) (news : List Value) (hs : Src P size tx (a.eval x) m news w)
    (h63 : n + m ≤ maxLen) (hbytes : (n + m) * bytes ≤ 140737488355328) (hbase : base ≤ w.heap.size)
    (h : ∀ v' w', w'.ownsRow base e size v' (n + m) (xs ++ news) → Below base w w' → wpList P ops Q rest (a.put o.dst v') w') : wpList P ops Q (o :: rest) a w := by
  refine wpList_plain hgd fun _ hK => ?_
  obtain ⟨v', w', hrun, h2, h3⟩ := run_append_src (P := P) w base t tx o.type e i z size bytes ht hi hz hsize hby hzs v n xs hown (a.eval x) m news hs h63 hbytes hbase
  unfold Oper.wp execOp
  simp only [ho, resolve, invoke, builtin, Sem.run_bind, Sem.run_pure, Result.andThen_ok, List.map_toArray, List.map_cons, List.map_nil, hsv, hrun]
  exact hK _ _ (h v' w' h2 ((Below.refl base w).grown h3 hbase fun k hk => (hown.lt k hk).1))

theorem wpList_append_full {ops : Array Oper} {rest : List Oper} {o : Oper} {a : Act} {Q : Exit → Act → World → Prop} (hgd : o.guard = none) (s x : Operand) (t tx : TypeId)
    (ho : o.op = .call { callee := .builtin .append, args := #[s, x], argTypes := #[t, tx] })
    (e : TypeId) (i : TypeInfo) (z : Value) (size bytes : Nat) (ht : P.underlying t = some (.slice e)) (hi : P.info? e = some i) (hz : i.zero = some z)
    (hsize : i.size = size) (hby : i.bytes = bytes) (hzs : z.cells.size = size)
    (B : Nat) (A : Option Addr) (n : Nat) (xs : List Value) (hsv : a.eval s = .slice A n n) (hr0 : Reads w B size A n xs) (hB : B ≤ w.heap.size) (m : Nat) (news : List Value) (hs : Src P size tx (a.eval x) m news w)
    (h63 : n + m ≤ maxLen) (hbytes : (n + m) * bytes ≤ 140737488355328)
    (h : ∀ A' c' w', n + m ≤ c' → Reads w' w'.heap.size size A' (n + m) (xs ++ news) → Below w.heap.size w w' → wpList P ops Q rest (a.put o.dst (.slice A' (n + m) c')) w') : wpList P ops Q (o :: rest) a w := by
  refine wpList_plain hgd fun _ hK => ?_
  obtain ⟨A', c', w', hrun, h2, h3, h4⟩ := run_append_full (P := P) w t tx o.type e i z size bytes ht hi hz hsize hby hzs B A n xs hr0 hB (a.eval x) m news hs h63 hbytes
  unfold Oper.wp execOp
  simp only [ho, resolve, invoke, builtin, Sem.run_bind, Sem.run_pure, Result.andThen_ok, List.map_toArray, List.map_cons, List.map_nil, hsv, hrun]
  exact hK _ _ (h A' c' w' h2 h3 h4)
end

/-! ## Arrays and structs: a load, a store of several cells -/
section
variable {P : Program}
theorem run_loadVar_at (w : World) (ty : TypeId) (ad : Addr) (cs : List Value) (hc : ∀ j u, cs[j]? = some u → w.cell? (ad.add j) = some u) (d : TypeDesc)
    (hu : P.underlying ty = some d) (hd : (match d with | .struct _ | .array _ _ => true | _ => false) = true) (hi : (P.info? ty).map (·.size) = some cs.length) :
    (loadVar ty ad).run P w = .ok (.agg cs.toArray) w := by
  have hl : (loadCells ad cs.length).run P w = .ok cs.toArray w := run_loadCells_list (P := P) w ad cs hc
  cases hq : P.info? ty with
  | none => simp [hq] at hi
  | some i =>
    have hs : i.size = cs.length := by simpa [hq] using hi
    have hagg : (isAgg ty).run P w = .ok true w := by
      unfold isAgg
      rw [Sem.run_bind, run_underlying hu w]
      cases d <;> simp_all
    simp [loadVar, Sem.run_bind, hagg, sizeOf, typeInfo, hq, hs, hl]
theorem run_storeVar_at (w : World) (ty : TypeId) (g : Nat) (cur : Array Value) (e : TypeId) (hg : w.heap[g]? = some (.cells cur e (0, 0))) (cs : Array Value) (h1 : ∀ u ∈ cs.toList, u.oneCell' = true) (hsz : cur.size = cs.size)
    (hi : (P.info? ty).map (·.size) = some cs.size) : (storeVar ty ⟨g, 0, none⟩ (.agg cs)).run P w = .ok () (w.setRow g cs) := by
  have hst := run_storeCells_at P g 0 e cs.toList 0 cur w hg (by simp; omega) h1
  cases hq : P.info? ty with
  | none => simp [hq] at hi
  | some i =>
    have hs : i.size = cs.size := by simpa [hq] using hi
    have e : (cur.toList.take (0 + 0) ++ cs.toList ++ cur.toList.drop (0 + 0 + cs.toList.length)).toArray = cs := by
      rw [List.drop_of_length_le (by simp; omega)]
      simp
    rw [e] at hst
    simp [storeVar, Sem.run_bind, sizeOf, typeInfo, hq, hs, Value.cells, hst]
theorem wpList_load_at {ops : Array Oper} {rest : List Oper} {o : Oper} {a : Act} {w : World} {Q : Exit → Act → World → Prop} (hgd : o.guard = none) (ty : TypeId) (x : Operand) (ho : o.op = .load ty x)
    (ad : Addr) (hx : a.eval x = .pointer (some ad)) (cs : List Value) (hc : ∀ j u, cs[j]? = some u → w.cell? (ad.add j) = some u) (d : TypeDesc)
    (hu : P.underlying ty = some d) (hd : (match d with | .struct _ | .array _ _ => true | _ => false) = true) (hi : (P.info? ty).map (·.size) = some cs.length)
    (h : wpList P ops Q rest (a.put o.dst (.agg cs.toArray)) w) : wpList P ops Q (o :: rest) a w :=
  wpList_plain hgd fun K hK => by
    unfold Oper.wp execOp
    simp only [ho, hx, Instr.loadAt, Instr.sureAddr, Sem.run_bind, Sem.run_pure, Result.andThen_ok, run_loadVar_at w ty ad cs hc d hu hd hi]
    exact hK _ _ h
theorem wpList_store_row {ops : Array Oper} {rest : List Oper} {o : Oper} {a : Act} {w : World} {Q : Exit → Act → World → Prop} (hgd : o.guard = none) (ty : TypeId) (x v : Operand) (ho : o.op = .store ty x v)
    (g : Nat) (hx : a.eval x = .pointer (some ⟨g, 0, none⟩)) (cs : Array Value) (hv : a.eval v = .agg cs) (cur : Array Value) (e : TypeId) (hg : w.heap[g]? = some (.cells cur e (0, 0))) (h1 : ∀ u ∈ cs.toList, u.oneCell' = true) (hsz : cur.size = cs.size)
    (hi : (P.info? ty).map (·.size) = some cs.size)
    (h : wpList P ops Q rest (a.put o.dst undef) (w.setRow g cs)) : wpList P ops Q (o :: rest) a w :=
  wpList_plain hgd fun K hK => by
    unfold Oper.wp execOp
    simp only [ho, hx, hv, Instr.storeAt, Instr.sureAddr, Sem.run_bind, Sem.run_pure, Result.andThen_ok, run_storeVar_at w ty g cur e hg cs h1 hsz hi]
    exact hK _ _ h
end

theorem slice_one (A : Option Addr) (n c : Nat) : ∀ u ∈ [Value.slice A n c], u.oneCell' = true := by
  intro u hu
  simp at hu
  subst hu
  rfl

/-- A byte as a cell, bytes as cells. -/
def bv (b : UInt8) : Value := .int .u8 (b.toNat : Int)
def bvs (l : List UInt8) : List Value := l.map bv
theorem bvs_one (l : List UInt8) : ∀ u ∈ bvs l, u.oneCell' = true := by
  intro u hu
  obtain ⟨b, _, rfl⟩ := List.mem_map.1 hu
  rfl
theorem bvs_append (l k : List UInt8) : bvs (l ++ k) = bvs l ++ bvs k := List.map_append
theorem bvs_length (l : List UInt8) : (bvs l).length = l.length := List.length_map _
theorem byteCells_bvs (s : ByteArray) : byteCells s = bvs s.data.toList := rfl
/-- The one cell of 'append(s, x)''s box. -/
theorem Src.box {P : Program} {tx e' : TypeId} (hk : P.underlying tx = some (.slice e')) (w : World) (u : Value) (t : TypeId) (h1 : u.oneCell' = true) (c : Nat) :
    Src P 1 tx (.slice (some ⟨w.heap.size, 0, none⟩) 1 c) 1 [u] (w.alloc (.cells #[u] t)) :=
  Src.ofSlice _ hk _ 1 c [u] rfl (cell_one_new w u t) (by intro x hx; simp at hx; subst hx; exact h1)
end Go.Proofs.YtgliealofieenaaDoor

/-
  A local array or struct: a new block that is stored into as a whole. Over any program. No condition.
-/
namespace Go.Proofs.YtgliealofieenaaDoor
open Go.RowKit

/-- The world behind 'var d T = x': a new block, whose cells are then set. -/
def laid (w : World) (o : Obj) (cs : Array Value) : World := (w.alloc o).setRow w.heap.size cs
section
variable (w : World)
theorem laid_size (o : Obj) (cs : Array Value) : (laid w o cs).heap.size = w.heap.size + 1 := by simp [laid]
theorem laid_grown (o : Obj) (cs : Array Value) : w.grownBy (laid w o cs) none :=
  ⟨rfl, rfl, rfl, by rw [laid_size]; omega, fun k hk _ => by
    unfold laid
    rw [setRow_other _ _ _ _ (by omega)]
    exact Below.heap_alloc w o k hk⟩
theorem laid_heap (cur : Array Value) (e : TypeId) (cs : Array Value) : (laid w (.cells cur e) cs).heap[w.heap.size]? = some (.cells cs e (0, 0)) :=
  setRow_heap _ _ cur cs e _ (Go.heap_alloc_new w _)
theorem laid_below {B : Nat} {w0 : World} (h : Below B w0 w) (hB : B ≤ w.heap.size) (o : Obj) (cs : Array Value) : Below B w0 (laid w o cs) :=
  h.grown (laid_grown w o cs) hB (by simp)
theorem laid_own {base : Nat} {e : TypeId} {size n : Nat} {v : Value} {xs : List Value} (h : w.ownsRow base e size v n xs) (o : Obj) (cs : Array Value) : (laid w o cs).ownsRow base e size v n xs :=
  h.kept (laid_grown w o cs) (by cases hv : v.ownBlock <;> simp)
theorem laid_cells (cur : Array Value) (e : TypeId) (cs : Array Value) : ∀ j u, cs.toList[j]? = some u → (laid w (.cells cur e) cs).cell? ((⟨w.heap.size, 0, none⟩ : Addr).add j) = some u :=
  World.news_of_block (laid_heap w cur e cs)
end

/-- What the call owns is not touched by a callee. -/
theorem own_below {w w' : World} {base : Nat} {e : TypeId} {size n : Nat} {v : Value} {xs : List Value} (h : w.ownsRow base e size v n xs) (hb : Below w.heap.size w w') : w'.ownsRow base e size v n xs := by
  obtain ⟨h1, h2⟩ := h
  refine ⟨h1, ?_⟩
  rcases h2 with h2 | ⟨g, cap, cur, hv, hg, hh, r⟩
  · exact .inl h2
  · exact .inr ⟨g, cap, cur, hv, hg, (hb.block g (Array.getElem?_eq_some_iff.1 hh).1).trans hh, r⟩

/-- Three results, the first of them in memory. -/
theorem results_cell3 {P : Program} {fn : Func} {p t u : Tmp} {ty : TypeId} (h : fn.results = #[.cell p ty, .tmp t, .tmp u]) (tmps : Array Value) (w : World) (ad : Addr) (x : Value) (hp : tmps.getD p undef = .pointer (some ad))
    (hl : (loadVar ty ad).run P w = .ok x w) : (results fn tmps).run P w = .ok (.tuple #[x, tmps.getD t undef, tmps.getD u undef]) w := by
  have hp' : tmps[p]?.getD undef = .pointer (some ad) := by simpa using hp
  simp [results, h, hp', asAddr, hl]
/-- Two results, the first of them in memory. -/
theorem results_cellE {P : Program} {fn : Func} {p t : Tmp} {ty : TypeId} (h : fn.results = #[.cell p ty, .tmp t]) (tmps : Array Value) (w : World) (ad : Addr) (x : Value) (hp : tmps.getD p undef = .pointer (some ad))
    (hl : (loadVar ty ad).run P w = .ok x w) : (results fn tmps).run P w = .ok (.tuple #[x, tmps.getD t undef]) w := by
  have hp' : tmps[p]?.getD undef = .pointer (some ad) := by simpa using hp
  simp [results, h, hp', asAddr, hl]

/-! ## An operation whose value is known, in a walk of the text's order -/
section
variable {P : Program}
theorem wanted_plain {ops : Array Oper} {o : Oper} {a : Act} (hgd : o.guard = none) : Region.wanted o (yielded ops a.tmps) = true := by simp [Region.wanted, hgd]
theorem wpQuiet_value {ops : Array Oper} {C : World → Prop} {Q : Act → Prop} {o : Oper} {rest : List Oper} {a : Act} (hgd : o.guard = none) (v : Value) (hrun : ∀ w, C w → (execOp a.eval o).run P w = .ok (.value v) w)
    (h : wpQuiet P ops C Q rest (a.put o.dst v)) : wpQuiet P ops C Q (o :: rest) a := by
  show if Region.wanted o (yielded ops a.tmps) then o.quiet P a C (wpQuiet P ops C Q rest) else wpQuiet P ops C Q rest (a.put o.dst undef)
  rw [if_pos (wanted_plain hgd)]
  refine ⟨v, fun w hw => ?_, h⟩
  unfold Oper.quietAt
  rw [hrun w hw]
  exact ⟨rfl, rfl⟩
theorem wpQuiet_valueK {ops : Array Oper} {C : World → Prop} {Q : Act → Prop} {o : Oper} {rest : List Oper} {a : Act} (hgd : o.guard = none) (v : Value) (hrun : ∀ w, C w → (execOp a.eval o).run P w = .ok (.value v) w)
    (h : ∀ K : Act → Prop, (∀ a, wpQuiet P ops C Q rest a → K a) → K (a.put o.dst v)) : wpQuiet P ops C Q (o :: rest) a := wpQuiet_value hgd v hrun (h _ fun _ h => h)
theorem wpList_value {ops : Array Oper} {rest : List Oper} {o : Oper} {a : Act} {w : World} {Q : Exit → Act → World → Prop} (hgd : o.guard = none) (v : Value) (hrun : (execOp a.eval o).run P w = .ok (.value v) w)
    (h : wpList P ops Q rest (a.put o.dst v) w) : wpList P ops Q (o :: rest) a w :=
  wpList_plain hgd fun K hK => by
    unfold Oper.wp
    rw [hrun]
    exact hK _ _ h
theorem exec_load {ρ : Operand → Value} {o : Oper} (w : World) (ty : TypeId) (x : Operand) (ho : o.op = .load ty x) (ad : Addr) (hx : ρ x = .pointer (some ad)) (cs : List Value) (hc : ∀ j u, cs[j]? = some u → w.cell? (ad.add j) = some u) (d : TypeDesc)
    (hu : P.underlying ty = some d) (hd : (match d with | .struct _ | .array _ _ => true | _ => false) = true) (hi : (P.info? ty).map (·.size) = some cs.length) :
    (execOp ρ o).run P w = .ok (.value (.agg cs.toArray)) w := by
  unfold execOp
  simp only [ho, hx, Instr.loadAt, Instr.sureAddr, Sem.run_bind, Sem.run_pure, Result.andThen_ok, run_loadVar_at w ty ad cs hc d hu hd hi]
theorem exec_eql_bytes {ρ : Operand → Value} {o : Oper} (w : World) (t yt e : TypeId) (n : Nat) (x y : Operand) (ho : o.op = .binOp .eql t x y yt) (ht : P.underlying t = some (.array n e)) (he : P.underlying e = some (.int .u8)) (hsz : ∀ w, (sizeOf e).run P w = .ok 1 w)
    (hg : P.eqGuardType P.depth t = false) (xs ys : List UInt8) (hx : xs.length = n) (hy : ys.length = n) (h1 : ρ x = .agg (bvs xs).toArray) (h2 : ρ y = .agg (bvs ys).toArray) :
    (execOp ρ o).run P w = .ok (.value (.bool (xs == ys))) w := by
  have h := run_eql_bytes (P := P) w t e n ht he hsz xs ys hx hy
  have e1 : xs.map Extern.Stop.cell = bvs xs := rfl
  have e2 : ys.map Extern.Stop.cell = bvs ys := rfl
  rw [e1, e2] at h
  unfold execOp
  simp [ho, h1, h2, eqGuard, hg, h]
theorem exec_neq_bytes {ρ : Operand → Value} {o : Oper} (w : World) (t yt e : TypeId) (n : Nat) (x y : Operand) (ho : o.op = .binOp .neq t x y yt) (ht : P.underlying t = some (.array n e)) (he : P.underlying e = some (.int .u8)) (hsz : ∀ w, (sizeOf e).run P w = .ok 1 w)
    (hg : P.eqGuardType P.depth t = false) (xs ys : List UInt8) (hx : xs.length = n) (hy : ys.length = n) (h1 : ρ x = .agg (bvs xs).toArray) (h2 : ρ y = .agg (bvs ys).toArray) :
    (execOp ρ o).run P w = .ok (.value (.bool (!(xs == ys)))) w := by
  have h := run_equalIn_bytes (P := P) w 9998 t e n ht he hsz xs ys hx hy
  have e1 : xs.map Extern.Stop.cell = bvs xs := rfl
  have e2 : ys.map Extern.Stop.cell = bvs ys := rfl
  rw [e1, e2] at h
  unfold execOp
  simp [ho, h1, h2, eqGuard, hg, binOp, Op.equal, Op.maxDepth, h]
end
end Go.Proofs.YtgliealofieenaaDoor

/-
  'string(b)' and '[]byte(s)' in a walk. Over any program. No condition.
-/
namespace Go.Proofs.YtgliealofieenaaDoor
open Go.RowKit

section
variable {P : Program}
theorem exec_string_of {ρ : Operand → Value} {o : Oper} (w : World) (src dst e : TypeId) (x : Operand) (ho : o.op = .convert src dst x) (hs : P.underlying src = some (.slice e)) (he : P.underlying e = some (.int .u8)) (hd : P.underlying dst = some .string)
    {B : Nat} {A : Option Addr} {n c : Nat} {l : List UInt8} (hx : ρ x = .slice A n c) (hr : Reads w B 1 A n (bvs l)) : (execOp ρ o).run P w = .ok (.value (.string ⟨l.toArray⟩)) w := by
  have hl : l.length = n := by have := hr.1; rw [bvs_length] at this; omega
  have h : (convert src dst (.slice A n c)).run P w = .ok (.string ⟨l.toArray⟩) w := by
    rcases A with _ | ad
    · rw [run_convert_bytes_string w src dst e none n c hs he hd]
      have hm : n = 0 := by
        rcases Nat.eq_zero_or_pos n with h0 | h0
        · exact h0
        · obtain ⟨ad, h, _⟩ := hr.2 h0
          cases h
      have : l = [] := List.eq_nil_of_length_eq_zero (by omega)
      subst this
      rfl
    · rw [← hl]
      refine run_convert_bytes_back w src dst e ad c l hs he hd fun j hj => ?_
      obtain ⟨ad', h, _, hc⟩ := hr.2 (by omega)
      injection h with h
      subst h
      exact hc j _ (by unfold bvs; rw [List.getElem?_map, List.getElem?_eq_getElem hj]; rfl)
  unfold execOp
  simp [ho, hx, h]
theorem exec_bytes_of {ρ : Operand → Value} {o : Oper} (w : World) (src dst e : TypeId) (x : Operand) (ho : o.op = .convert src dst x) (hs : P.underlying src = some .string) (he : P.underlying e = some (.int .u8)) (hd : P.underlying dst = some (.slice e))
    {s : ByteArray} (hx : ρ x = .string s) : ∃ A c w', (execOp ρ o).run P w = .ok (.value (.slice A s.size c)) w' ∧ s.size ≤ c ∧ Reads w' w'.heap.size 1 A s.size (bvs s.data.toList) ∧ Below w.heap.size w w' := by
  have h := run_bytes_of_string (P := P) w src dst e s hs hd he
  have hrun : (execOp ρ o).run P w = .ok (.value (.slice (some ⟨w.heap.size, 0, none⟩) s.size (grownCap w s.size 0 e)))
      (w.drew.alloc (.cells (bytesRow s (grownCap w s.size 0 e)) e ((bytesRow s (grownCap w s.size 0 e)).size, (bytesRow s (grownCap w s.size 0 e)).size + 1))) := by
    unfold execOp
    simp [ho, hx, h]
  refine ⟨_, _, _, hrun, grownCap_ge _ _ _ _, ⟨?_, fun _ => ⟨⟨w.heap.size, 0, none⟩, rfl, by simp, fun j u hu => ?_⟩⟩, ((Below.refl _ _).drew).alloc (Nat.le_refl _) _⟩
  · rw [bvs_length]; simp
  · refine World.news_of_block (Go.heap_alloc_new w.drew _) j u ?_
    have hj : j < (bvs s.data.toList).length := by
      rcases Nat.lt_or_ge j (bvs s.data.toList).length with h | h
      · exact h
      · rw [List.getElem?_eq_none h] at hu; cases hu
    unfold bytesRow
    simp only [Array.toList_append, Array.toList_map]
    rw [List.getElem?_append_left (by rw [List.length_map]; rw [bvs_length] at hj; exact hj)]
    exact hu
theorem wpList_valueW {ops : Array Oper} {rest : List Oper} {o : Oper} {a : Act} {w w' : World} {Q : Exit → Act → World → Prop} (hgd : o.guard = none) (v : Value) (hrun : (execOp a.eval o).run P w = .ok (.value v) w')
    (h : wpList P ops Q rest (a.put o.dst v) w') : wpList P ops Q (o :: rest) a w :=
  wpList_plain hgd fun K hK => by
    unfold Oper.wp
    rw [hrun]
    exact hK _ _ h
end
end Go.Proofs.YtgliealofieenaaDoor

/-
  The box of 'append(s, x)' where x is an array or a struct; '[]T{x}' of one element. Over any program. No condition.
-/
namespace Go.Proofs.YtgliealofieenaaDoor
open Go.RowKit

theorem foldl_set (l : List Value) : ∀ (k : Nat) (acc : Array Value), k + l.length ≤ acc.size →
    (l.zipIdx k).foldl (fun cs x => cs.setIfInBounds x.2 x.1) acc = (acc.toList.take k ++ l ++ acc.toList.drop (k + l.length)).toArray := by
  induction l with
  | nil => intro k acc _; simp
  | cons v rest ih =>
    intro k acc h
    rw [List.zipIdx_cons, List.foldl_cons, ih (k + 1) _ (by simp at h ⊢; omega)]
    congr 1
    have e := list_seg_step acc.toList k v rest (by simp at h ⊢; omega)
    simpa [Array.toList_setIfInBounds, Nat.add_assoc] using e
theorem fill_one (Z : Array Value) (cs : List Value) (hZ : Z.size = cs.length) : Instr.fill (fun i => some (i * cs.length, cs.length)) Z [(0, .agg cs.toArray)] = some cs.toArray := by
  have hb := foldl_set cs 0 Z (by omega)
  have e1 : Z.toList.take 0 ++ cs ++ Z.toList.drop (0 + cs.length) = cs := by
    rw [List.drop_of_length_le (by simp; omega)]
    simp
  rw [e1] at hb
  simp [Instr.fill, Value.cells, hZ, hb]
section
variable {P : Program}
theorem exec_slice1 {ρ : Operand → Value} {o : Oper} (w : World) (t e : TypeId) (x : Operand) (ho : o.op = .buildSlice t 1 #[(0, x)]) (ht : P.underlying t = some (.slice e)) (i : TypeInfo) (z : Value) (hi : P.info? e = some i) (hz : i.zero = some z)
    (cs : List Value) (hs : i.size = cs.length) (hpos : 0 < cs.length) (hsmall : cs.length ≤ 1000) (hx : ρ x = .agg cs.toArray) :
    (execOp ρ o).run P w = .ok (.value (.slice (some ⟨w.heap.size, 0, none⟩) 1 1)) (w.alloc (.cells cs.toArray e)) := by
  have hf := fill_one ((Array.range cs.length).map (z.cells[· % z.cells.size]!)) cs (by simp)
  have h24 : ¬ (16777216 < cs.length) := by omega
  have h0 : ¬ cs = [] := by intro h; rw [h] at hpos; simp at hpos
  unfold execOp
  simp [ho, hx, Instr.buildSlice, run_underlying ht, sizeOf, typeInfo, zeroValue, hi, hz, hs, h24, h0, newRow, hf]
end
end Go.Proofs.YtgliealofieenaaDoor

/-
  A part of a slice of bytes reads as that part of its list. Over any program. No condition.
-/
namespace Go.Proofs.YtgliealofieenaaDoor
open Go.RowKit

theorem Reads.bytes_len {w : World} {B n : Nat} {A : Option Addr} {l : List UInt8} (h : Reads w B 1 A n (bvs l)) : l.length = n := by
  have := h.1; rw [bvs_length] at this; omega
theorem Reads.sub {w : World} {B n c u m : Nat} {A : Option Addr} {l : List UInt8} (h : Reads w B 1 A n (bvs l)) (hu : u + m ≤ n) (hc : n ≤ c) :
    Reads w B 1 (if c = u then A else A.map (·.add (u * 1))) m (bvs ((l.drop u).take m)) := by
  have h1 := (h.cut (k := u) (cap := c) (by omega) hc).take (k := m) (by omega)
  have e : bvs ((l.drop u).take m) = ((bvs l).drop (u * 1)).take (m * 1) := by unfold bvs; rw [Nat.mul_one, Nat.mul_one, List.map_take, List.map_drop]
  rw [e]
  exact h1
end Go.Proofs.YtgliealofieenaaDoor

/-
  Rows: a block of the call's own that holds an array, and the operations on it, each of which leaves a world of which only what is said is known. Over any program. No condition.
-/
namespace Go.Proofs.YtgliealofieenaaDoor
open Go.RowKit

theorem add_pos (a : Addr) (n : Nat) (h : 0 < n) : a.add n = ⟨a.block, a.off + n, none⟩ := by unfold Addr.add; rw [if_neg (by omega)]
/-- Block g is a row of cells. -/
def Row (w : World) (g : Nat) (e : TypeId) (cs : List Value) : Prop := w.heap[g]? = some (.cells cs.toArray e (0, 0))
section
variable {w w' : World} {g : Nat} {e : TypeId} {cs : List Value}
theorem Row.lt (h : Row w g e cs) : g < w.heap.size := (Array.getElem?_eq_some_iff.1 h).1
theorem Row.kept {row : Option Nat} (h : Row w g e cs) (hg : w.grownBy w' row) (hne : some g ≠ row) : Row w' g e cs := (hg.block g h.lt hne).trans h
theorem Row.below {B : Nat} (h : Row w g e cs) (hb : Below B w w') (hB : g < B) : Row w' g e cs := (hb.block g hB).trans h
theorem Row.on (h : Row w g e cs) (hb : Below w.heap.size w w') : Row w' g e cs := h.below hb h.lt
theorem Row.drew (h : Row w g e cs) : Row w.drew g e cs := h
theorem Row.drewN (h : Row w g e cs) (k : Nat) : Row (w.drewN k) g e cs := h
theorem Row.cell (h : Row w g e cs) {j : Nat} {u : Value} (hj : cs[j]? = some u) : w.cell? ⟨g, j, none⟩ = some u := by
  unfold World.cell?
  unfold Row at h
  simp [h, hj]
theorem Row.cells (h : Row w g e cs) : ∀ j u, cs[j]? = some u → w.cell? ((⟨g, 0, none⟩ : Addr).add j) = some u := fun j u hj => by
  rw [Addr.add_lit, Nat.zero_add]
  exact h.cell hj
theorem Row.reads {size n : Nat} (h : Row w g e cs) (hl : cs.length = n * size) : Reads w w.heap.size size (some ⟨g, 0, none⟩) n cs :=
  ⟨hl, fun _ => ⟨_, rfl, h.lt, h.cells⟩⟩
theorem Row.free (h : Row w g e cs) (j : Nat) : w.frozen? ⟨g, j, none⟩ = false := by
  unfold World.frozen?
  unfold Row at h
  simp [h]
theorem Reads.kept {B size n : Nat} {A : Option Addr} {xs : List Value} {row : Option Nat} (h : Reads w B size A n xs) (hg : w.grownBy w' row) (hB : B ≤ w.heap.size) (hne : ∀ k, row = some k → B ≤ k) : Reads w' B size A n xs :=
  h.keep fun p hp => World.cell?_of_block (hg.block p.block (by omega) (fun e => by have := hne _ e.symm; omega))
theorem below_kept {B : Nat} {w0 : World} {row : Option Nat} (h : Below B w0 w) (hg : w.grownBy w' row) (hB : B ≤ w.heap.size) (hne : ∀ k, row = some k → B ≤ k) : Below B w0 w' := h.grown hg hB hne
theorem grown_below {row : Option Nat} (hg : w.grownBy w' row) {B : Nat} (hB : B ≤ w.heap.size) (hne : ∀ k, row = some k → B ≤ k) : Below B w w' := (Below.refl _ _).grown hg hB hne
theorem below_drewN {B : Nat} {w0 : World} (h : Below B w0 w) (k : Nat) : Below B w0 (w.drewN k) := ⟨h.os, h.tape, h.output, h.size, h.block⟩
theorem below_grownBy (h : Below w.heap.size w w') (row : Option Nat) : w.grownBy w' row := ⟨h.os, h.tape, h.output, h.size, fun k hk _ => h.block k hk⟩
end
theorem row_alloc (w : World) (e : TypeId) (cs : List Value) : Row (w.alloc (.cells cs.toArray e)) w.heap.size e cs := Go.heap_alloc_new _ _

section
variable {P : Program}
theorem run_store_elem (w : World) (ty : TypeId) (g j : Nat) (e : TypeId) (cs : List Value) (hr : Row w g e cs) (v : Value) (h1 : v.oneCell' = true) (hj : j < cs.length) (hi : (P.info? ty).map (·.size) = some 1) :
    ∃ w', (storeVar ty ⟨g, j, none⟩ v).run P w = .ok () w' ∧ Row w' g e (cs.set j v) ∧ w'.heap.size = w.heap.size ∧ w.grownBy w' (some g) := by
  have hst := run_storeCells_at P g j e [v] 0 cs.toArray w hr (by simp; omega) (by simpa using h1)
  have hvc : v.cells = #[v] := by cases v <;> first | rfl | (simp [Value.oneCell'] at h1)
  refine ⟨w.setRow g (cs.set j v).toArray, ?_, setRow_heap w g _ _ e _ hr, by simp, ⟨rfl, rfl, rfl, by simp, fun k _ hk => setRow_other w g k _ (fun he => hk (by rw [he]))⟩⟩
  have es : (cs.take j ++ [v] ++ cs.drop (j + 1)) = cs.set j v := by
    rw [List.set_eq_take_append_cons_drop, if_pos hj]
    simp
  cases hq : P.info? ty with
  | none => simp [hq] at hi
  | some i =>
    have hs : i.size = 1 := by simpa [hq] using hi
    simp only [Nat.add_zero, List.length_singleton] at hst
    rw [es] at hst
    simp [storeVar, Sem.run_bind, sizeOf, typeInfo, hq, hs, hvc, hst]

section
variable {ops : Array Oper} {rest : List Oper} {o : Oper} {a : Act} {w : World} {Q : Exit → Act → World → Prop}
theorem exec_alloc_row {ρ : Operand → Value} (o : Oper) (ty : TypeId) (ho : o.op = .alloc ty) (z : Value) (hz : (P.info? ty).map (·.zero) = some (some z)) : (execOp ρ o).run P w = .ok (.value (.pointer (some ⟨w.heap.size, 0, none⟩))) (w.alloc (.cells z.cells ty)) := by
  cases hq : P.info? ty with
  | none => simp [hq] at hz
  | some i =>
    have hs : i.zero = some z := by simpa [hq] using hz
    unfold execOp
    simp [ho, Instr.alloc, zeroValue, typeInfo, hq, hs, newVar, newRow]
theorem wpList_alloc_row (hgd : o.guard = none) (ty : TypeId) (ho : o.op = .alloc ty) (cs : List Value) (hz : (P.info? ty).map (fun i => i.zero.map (·.cells)) = some (some cs.toArray))
    (h : ∀ w', Row w' w.heap.size ty cs → w.heap.size < w'.heap.size → w.grownBy w' none → wpList P ops Q rest (a.put o.dst (.pointer (some ⟨w.heap.size, 0, none⟩))) w') : wpList P ops Q (o :: rest) a w := by
  cases hq : P.info? ty with
  | none => simp [hq] at hz
  | some i =>
    cases hz0 : i.zero with
    | none => simp [hq, hz0] at hz
    | some z =>
      have hzc : z.cells = cs.toArray := by simpa [hq, hz0] using hz
      refine wpList_valueW hgd _ (exec_alloc_row o ty ho z (by simp [hq, hz0])) ?_
      rw [hzc]
      exact h _ (row_alloc w ty cs) (by simp) (World.grownBy_alloc w _ none)
theorem wpList_make_row (hgd : o.guard = none) (t : TypeId) (x y : Operand) (ho : o.op = .makeSlice t x y) (e : TypeId) (ht : P.underlying t = some (.slice e)) (z : Value) (hz1 : z.cells = #[z]) (b : Nat) (hi : (P.info? e).map (fun i => (i.zero, i.size, i.bytes)) = some (some z, 1, b))
    (kl kc : IntKind) (l c : Nat) (hx : a.eval x = .int kl (l : Int)) (hy : a.eval y = .int kc (c : Int)) (hlc : l ≤ c) (hb : b * c ≤ 281474976710656) (hc : c ≤ 9223372036854775807)
    (h : ∀ w', Row w' w.heap.size e (List.replicate c z) → w.heap.size < w'.heap.size → w.grownBy w' none → wpList P ops Q rest (a.put o.dst (.slice (some ⟨w.heap.size, 0, none⟩) l c)) w') : wpList P ops Q (o :: rest) a w := by
  obtain ⟨i, hi1, hi2, hi3, hi4⟩ := info_parts hi
  have hr := run_make (P := P) w t e i z ht hi1 hi2 kl kc (l : Int) (c : Int) (by omega) (by omega) (by rw [hi4, ← Int.natCast_mul]; generalize b * c = q at *; omega) (by omega)
  rw [Int.toNat_natCast, Int.toNat_natCast, hi3, Nat.mul_one, hz1] at hr
  have hm : madeCells #[z] c = (List.replicate c z).toArray := by
    apply Array.ext
    · simp [size_madeCells]
    · intro j h1 h2
      simp [madeCells, Nat.mod_one]
  rw [hm] at hr
  refine wpList_valueW hgd (.slice (some ⟨w.heap.size, 0, none⟩) l c) ?_ (h _ (row_alloc w e _) (by simp) (World.grownBy_alloc w _ none))
  unfold execOp
  simp [ho, hx, hy, hr]
theorem wpList_box_row (hgd : o.guard = none) (ty : TypeId) (x : Operand) (ho : o.op = .box ty x) (cs : List Value) (hx : (a.eval x).cells = cs.toArray)
    (h : ∀ w', Row w' w.heap.size ty cs → w.heap.size < w'.heap.size → w.grownBy w' none → wpList P ops Q rest (a.put o.dst (.pointer (some ⟨w.heap.size, 0, none⟩))) w') : wpList P ops Q (o :: rest) a w := by
  refine wpList_valueW (w' := w.alloc (.cells cs.toArray ty)) hgd (.pointer (some ⟨w.heap.size, 0, none⟩)) ?_ (h _ (row_alloc w ty cs) (by simp) (World.grownBy_alloc w _ none))
  unfold execOp
  simp [ho, Instr.box, newVar, newRow, hx]
theorem wpList_store_elem (hgd : o.guard = none) (ty : TypeId) (x v : Operand) (ho : o.op = .store ty x v) (g j : Nat) (hx : a.eval x = .pointer (some ⟨g, j, none⟩)) (e : TypeId) (cs : List Value) (hr : Row w g e cs) (u : Value) (hv : a.eval v = u)
    (h1 : u.oneCell' = true) (hj : j < cs.length) (hi : (P.info? ty).map (·.size) = some 1)
    (h : ∀ w', Row w' g e (cs.set j u) → w.grownBy w' (some g) → wpList P ops Q rest (a.put o.dst undef) w') : wpList P ops Q (o :: rest) a w := by
  obtain ⟨w', hrun, h2, h3, h4⟩ := run_store_elem w ty g j e cs hr u h1 hj hi
  refine wpList_plain hgd fun K hK => ?_
  unfold Oper.wp execOp
  simp only [ho, hx, hv, Instr.storeAt, Instr.sureAddr, Sem.run_bind, Sem.run_pure, Result.andThen_ok, hrun]
  exact hK _ _ (h _ h2 h4)
theorem wpList_store_all (hgd : o.guard = none) (ty : TypeId) (x v : Operand) (ho : o.op = .store ty x v) (g : Nat) (hx : a.eval x = .pointer (some ⟨g, 0, none⟩)) (e : TypeId) (cur : List Value) (hr : Row w g e cur) (cs : List Value) (hv : a.eval v = .agg cs.toArray)
    (h1 : ∀ u ∈ cs, u.oneCell' = true) (hl : cur.length = cs.length) (hi : (P.info? ty).map (·.size) = some cs.length)
    (h : ∀ w', Row w' g e cs → w.grownBy w' (some g) → wpList P ops Q rest (a.put o.dst undef) w') : wpList P ops Q (o :: rest) a w :=
  wpList_store_row hgd ty x v ho g hx cs.toArray hv cur.toArray e hr (by simpa using h1) (by simpa using hl) (by simpa using hi)
    (h _ (setRow_heap w g _ _ e _ hr) ⟨rfl, rfl, rfl, by simp, fun k _ hk => setRow_other w g k _ (fun he => hk (by rw [he]))⟩)
theorem wpList_load_all (hgd : o.guard = none) (ty : TypeId) (x : Operand) (ho : o.op = .load ty x) (g : Nat) (hx : a.eval x = .pointer (some ⟨g, 0, none⟩)) (e : TypeId) (cs : List Value) (hr : Row w g e cs) (d : TypeDesc)
    (hu : P.underlying ty = some d) (hd : (match d with | .struct _ | .array _ _ => true | _ => false) = true) (hi : (P.info? ty).map (·.size) = some cs.length)
    (h : wpList P ops Q rest (a.put o.dst (.agg cs.toArray)) w) : wpList P ops Q (o :: rest) a w :=
  wpList_load_at hgd ty x ho ⟨g, 0, none⟩ hx cs hr.cells d hu hd hi h
end
end

/-- A row of one's own, as a slice value: it owns its cells. -/
theorem Row.owns {w : World} {g : Nat} {e : TypeId} {cs : List Value} (h : Row w g e cs) {base : Nat} (hb : base ≤ g) (n : Nat) (hn : n ≤ cs.length) (hm : cs.length ≤ maxLen) :
    w.ownsRow base e 1 (.slice (some ⟨g, 0, none⟩) n cs.length) n (cs.take n) :=
  ⟨by rw [List.length_take]; omega, .inr ⟨g, cs.length, cs.toArray, rfl, hb, h, hn, hm, by simp, by simp⟩⟩
theorem Row.owns_all {w : World} {g : Nat} {e : TypeId} {cs : List Value} (h : Row w g e cs) {base : Nat} (hb : base ≤ g) (n : Nat) (hn : cs.length = n) (hm : n ≤ maxLen) :
    w.ownsRow base e 1 (.slice (some ⟨g, 0, none⟩) n n) n cs := by
  subst hn
  have := h.owns hb cs.length (Nat.le_refl _) hm
  rwa [List.take_length] at this

/-- One result, in memory. -/
theorem results_cell1 {P : Program} {fn : Func} {p : Tmp} {ty : TypeId} (h : fn.results = #[.cell p ty]) (tmps : Array Value) (w : World) (ad : Addr) (x : Value) (hp : tmps.getD p undef = .pointer (some ad))
    (hl : (loadVar ty ad).run P w = .ok x w) : (results fn tmps).run P w = .ok x w := by
  have hp' : tmps[p]?.getD undef = .pointer (some ad) := by simpa using hp
  simp [results, h, hp', asAddr, hl]

/-! ## A region that draws its order, whose last operations come in one order: one walk -/
section
variable {P : Program}
theorem still_of_quiet {ops : Array Oper} {w : World} {Q : Act → Prop} : ∀ (l : List Oper) (a : Act), wpQuiet P ops (fun w' => w' = w) Q l a → wpStill P ops w Q l a
  | [], _, h => h
  | o :: l, a, h => by
    unfold wpQuiet at h
    unfold wpStill
    split
    · rename_i hw
      simp only [hw, if_true] at h
      obtain ⟨v, h1, h2⟩ := h
      have h3 := h1 w rfl
      have h4 := still_of_quiet l _ h2
      unfold Oper.quietAt at h3
      unfold Oper.still
      generalize (execOp a.eval o).run P w = r at *
      cases r with
      | ok n w' =>
        cases n <;> simp only [Oper.quietUpon] at h3 <;> simp only [Oper.stillUpon]
        case value u => exact ⟨h3.1, by rw [h3.2]; exact h4⟩
        case skip => exact ⟨h3.1, by rw [← h3.2]; exact h4⟩
        case enter f args => exact ⟨h3.1, v, h3.2, h4⟩
      | halt x w' => simp only [Oper.quietUpon] at h3
    · rename_i hw
      simp only [hw] at h
      exact still_of_quiet l _ h
theorem wp_region_tail {id : Nat} {Q : Exit → Act → World → Prop} {a : Act} {w : World} {l : List Oper} (n : Nat) (hm : P.follows .mixedOrders = true) (hB : Region.lexTailB .any l.toArray n = true)
    (h : wpQuiet P l.toArray (fun w' => w' = w.drew) (fun a' => wpList P l.toArray Q (l.drop n) a' w.drew) (l.take n) a) : (Code.region id l.toArray true).wp P Q a w :=
  wp_region_still_tail n hm hB (still_of_quiet _ _ h)
end
end Go.Proofs.YtgliealofieenaaDoor

/-
  Slices of slices of bytes: how they read. No condition.
-/
namespace Go.Proofs.YtgliealofieenaaDoor
open Go.RowKit

/-- One part: a slice of bytes and what it reads as. -/
structure Part where
  A : Option Addr
  n : Nat
  c : Nat
  l : List UInt8
def Part.v (p : Part) : Value := .slice p.A p.n p.c
def PartOK (w : World) (B : Nat) (p : Part) : Prop := Reads w B 1 p.A p.n (bvs p.l) ∧ p.n ≤ p.c
/-- A slice of slices reads as parts. -/
def ReadsP (w : World) (B : Nat) (A : Option Addr) (n : Nat) (ps : List Part) : Prop := Reads w B 1 A n (ps.map Part.v) ∧ ∀ p ∈ ps, PartOK w B p
section
variable {w w' : World} {B n : Nat} {A : Option Addr} {ps : List Part}
theorem ReadsP.len (h : ReadsP w B A n ps) : ps.length = n := by have := h.1.1; rw [List.length_map] at this; omega
theorem ReadsP.below (h : ReadsP w B A n ps) (hb : Below B w w') : ReadsP w' B A n ps := ⟨h.1.below hb, fun p hp => ⟨(h.2 p hp).1.below hb, (h.2 p hp).2⟩⟩
theorem ReadsP.more {B' : Nat} (h : ReadsP w B A n ps) (hB : B ≤ B') : ReadsP w B' A n ps := ⟨h.1.more hB, fun p hp => ⟨(h.2 p hp).1.more hB, (h.2 p hp).2⟩⟩
theorem ReadsP.on (h : ReadsP w w.heap.size A n ps) (hb : Below w.heap.size w w') : ReadsP w' w'.heap.size A n ps := (h.below hb).more hb.size
theorem ReadsP.at_ (h : ReadsP w B A n ps) {k : Nat} (hk : k < n) : ∃ ad p, A = some ad ∧ ad.block < B ∧ ps[k]? = some p ∧ w.cell? (ad.add k) = some (.slice p.A p.n p.c) ∧ Reads w B 1 p.A p.n (bvs p.l) ∧ p.n ≤ p.c := by
  obtain ⟨ad, u, hA, hb, hx, hc⟩ := h.1.at_ hk
  rw [List.getElem?_map, Option.map_eq_some_iff] at hx
  obtain ⟨p, hp, rfl⟩ := hx
  have := h.2 p (List.mem_of_getElem? hp)
  exact ⟨ad, p, hA, hb, hp, hc, this.1, this.2⟩
end
/-- The parts' bytes, one behind the other. -/
def allBytes (ps : List Part) : List UInt8 := ps.flatMap Part.l
theorem allBytes_succ (ps : List Part) (k : Nat) (p : Part) (h : ps[k]? = some p) : allBytes (ps.take (k + 1)) = allBytes (ps.take k) ++ p.l := by
  rw [List.take_add_one, h]
  unfold allBytes
  simp

theorem readsP_two (w : World) (t : TypeId) (A1 A2 : Option Addr) (n1 c1 n2 c2 : Nat) (l1 l2 : List UInt8) (h1 : Reads w w.heap.size 1 A1 n1 (bvs l1)) (hc1 : n1 ≤ c1) (h2 : Reads w w.heap.size 1 A2 n2 (bvs l2)) (hc2 : n2 ≤ c2) :
    ReadsP (w.alloc (.cells #[.slice A1 n1 c1, .slice A2 n2 c2] t)) (w.alloc (.cells #[.slice A1 n1 c1, .slice A2 n2 c2] t)).heap.size (some ⟨w.heap.size, 0, none⟩) 2 [⟨A1, n1, c1, l1⟩, ⟨A2, n2, c2, l2⟩] := by
  have hsz : (w.alloc (.cells #[.slice A1 n1 c1, .slice A2 n2 c2] t)).heap.size = w.heap.size + 1 := by simp
  refine ⟨⟨rfl, fun _ => ⟨_, rfl, by rw [hsz]; exact Nat.lt_succ_self _, (row_alloc w t [.slice A1 n1 c1, .slice A2 n2 c2]).cells⟩⟩, fun p hp => ?_⟩
  simp only [List.mem_cons, List.not_mem_nil, or_false] at hp
  rcases hp with rfl | rfl
  · exact ⟨(h1.alloc (Nat.le_refl _) _).more (by rw [hsz]; omega), hc1⟩
  · exact ⟨(h2.alloc (Nat.le_refl _) _).more (by rw [hsz]; omega), hc2⟩
theorem parts_two_le (p q : Part) (m : Nat) (hp : p.n ≤ m) (hq : q.n ≤ m) : ∀ r ∈ [p, q], r.n ≤ m := by
  intro r hr
  simp only [List.mem_cons, List.not_mem_nil, or_false] at hr
  rcases hr with rfl | rfl
  · exact hp
  · exact hq
theorem allBytes_two (p q : Part) : allBytes [p, q] = p.l ++ q.l := by simp [allBytes]
end Go.Proofs.YtgliealofieenaaDoor

/-
  A region that draws its order: operations that only read are taken as soon as they may come up, the others come up alone, one after the other. Over any program. No condition.
-/
namespace Go.Proofs.YtgliealofieenaaDoor
open Go.RowKit

/-- Operations that leave a value or stop. -/
def neat : Op → Bool
  | .move _ | .assign _ | .pick .. | .load .. | .binOp .. | .unOp .. | .convert .. | .slice .. | .fieldAddr .. | .field .. | .indexAddr .. | .index .. | .extract .. | .build .. | .sliceToArrayPointer .. | .makeInterface .. => true
  | .call c => match c.callee with
    | .builtin .len => true
    | .builtin .max => true
    | .builtin .min => true
    | _ => false
  | _ => false
theorem neat_run {P : Program} {w w' : World} {n : Next} (s : Sem Value) (h : ((do pure (Next.value (← s)) : Sem Next)).run P w = .ok n w') : ∃ v, n = .value v := by
  rw [Sem.run_bind] at h
  cases hr : s.run P w with
  | ok v w1 => rw [hr] at h; simp at h; exact ⟨v, h.1.symm⟩
  | halt x w1 => rw [hr] at h; simp at h
theorem neat_map {P : Program} {w w' : World} {n : Next} {α : Type} (s : Sem α) (f : α → Value) (h : (s.run P w).andThen (fun a w1 => Result.ok (Next.value (f a)) w1) = .ok n w') : ∃ v, n = .value v := by
  cases hr : s.run P w with
  | ok v w1 => rw [hr] at h; simp at h; exact ⟨f v, h.1.symm⟩
  | halt x w1 => rw [hr] at h; simp at h
theorem neat_len {P : Program} {ρ : Operand → Value} {o : Oper} {w w' : World} {n : Next} (c : Call) (ho : o.op = .call c) (hc : c.callee = .builtin .len ∨ c.callee = .builtin .max ∨ c.callee = .builtin .min) (h : (execOp ρ o).run P w = .ok n w') : ∃ v, n = .value v := by
  unfold execOp at h
  obtain ⟨cl, args, at_⟩ := c
  simp only at hc
  rw [ho] at h
  rcases hc with rfl | rfl | rfl <;>
  · simp only [resolve, invoke, builtin, Sem.run_bind, Sem.run_pure, Result.andThen_ok] at h
    exact neat_map _ (fun a => a) h
theorem neat_value {P : Program} {ρ : Operand → Value} {o : Oper} {w w' : World} {n : Next} (hn : neat o.op = true) (h : (execOp ρ o).run P w = .ok n w') : ∃ v, n = .value v := by
  by_cases hl : ∃ c, o.op = .call c ∧ (c.callee = .builtin .len ∨ c.callee = .builtin .max ∨ c.callee = .builtin .min)
  · obtain ⟨c, h1, h2⟩ := hl
    exact neat_len c h1 h2 h
  unfold execOp at h
  cases ho : o.op <;> rw [ho] at hn h <;> first
    | (exfalso; refine hl ⟨_, ho, ?_⟩; simp only [neat] at hn; split at hn <;> first | exact .inl (by assumption) | exact .inr (.inl (by assumption)) | exact .inr (.inr (by assumption)) | cases hn)
    | (simp [neat] at hn; done)
    | exact neat_run _ h
    | (simp at h; first | exact ⟨_, h.1.symm⟩ | exact neat_map _ _ h)

section
variable {P : Program} {S : World → Prop} {Q : Exit → Act → World → Prop}
theorem yieldsIf_of_in {ops : Array Oper} {o : Oper} {v : Value} {a : Act} (hn : neat o.op = true) (h : YieldsIn P ops S o v a) : YieldsIf P ops S o v a := by
  rcases h with ⟨hw, h⟩ | h
  · refine .inl ⟨hw, fun w hS => ?_⟩
    have h1 := h w hS
    unfold Oper.quietAt at h1
    cases hr : (execOp a.eval o).run P w with
    | ok n w' =>
      obtain ⟨u, rfl⟩ := neat_value hn hr
      rw [hr] at h1
      simp only [Oper.quietUpon] at h1
      rw [h1.1, h1.2]
    | halt x w' => rw [hr] at h1; simp only [Oper.quietUpon] at h1
  · exact .inr h

/-- The order in which a region is walked: an operation that is taken first; one that comes up alone; two or three of which each may come up. -/
inductive Plan where
  | done
  | take (i : Nat) (p : Plan)
  | one (i : Nat) (p : Plan)
  | two (i : Nat) (p : Plan) (j : Nat) (q : Plan)
  | three (i : Nat) (p : Plan) (j : Nat) (q : Plan) (k : Nat) (r : Plan)
def planB (md : Region.Mode) (ops : Array Oper) : Nat → Plan → Array Bool → Bool
  | n, .done, listed => n == 0 && (Region.ready md ops listed).isEmpty
  | n, .take i p, listed => decide (0 < n) && (match ops[i]? with
      | some o => neat o.op && Region.free md ops listed i && (Region.ready md ops listed).contains i
      | none => false) && planB md ops (n - 1) p (listed.setIfInBounds i true)
  | n, .one i p, listed => decide (0 < n) && decide (Region.ready md ops listed = [i]) && planB md ops (n - 1) p (listed.setIfInBounds i true)
  | n, .two i p j q, listed => decide (0 < n) && decide (Region.ready md ops listed = [i, j]) && planB md ops (n - 1) p (listed.setIfInBounds i true) && planB md ops (n - 1) q (listed.setIfInBounds j true)
  | n, .three i p j q k r, listed => decide (0 < n) && decide (Region.ready md ops listed = [i, j, k]) && planB md ops (n - 1) p (listed.setIfInBounds i true) && planB md ops (n - 1) q (listed.setIfInBounds j true) && planB md ops (n - 1) r (listed.setIfInBounds k true)
def neatAt (ops : Array Oper) (i : Nat) : Bool := match ops[i]? with
  | some o => neat o.op
  | none => false
/-- Operation i comes up; behind it C. -/
def stepAt (P : Program) (l : List Oper) (S : World → Prop) (Q : Exit → Act → World → Prop) (i : Nat) (C : Act → World → Prop) (a : Act) (w : World) : Prop :=
  ∀ o, l[i]? = some o → ∀ K' : Act → World → Prop, (∀ a' w', S w' → C a' w' → K' a' w') → if Region.wanted o (yielded l.toArray a.tmps) = true then Oper.wp P o a w K' Q else K' (a.put o.dst undef) w
def wpPlan (P : Program) (l : List Oper) (S : World → Prop) (Q : Exit → Act → World → Prop) : Plan → Act → World → Prop
  | .done, a, w => Q .normal a w
  | .take i p, a, w => ∀ o, l[i]? = some o → wpQuiet P l.toArray S (fun a' => wpPlan P l S Q p a' w) [o] a
  | .one i p, a, w => stepAt P l S Q i (wpPlan P l S Q p) a w
  | .two i p j q, a, w => stepAt P l S Q i (wpPlan P l S Q p) a w ∧ stepAt P l S Q j (wpPlan P l S Q q) a w
  | .three i p j q k r, a, w => stepAt P l S Q i (wpPlan P l S Q p) a w ∧ stepAt P l S Q j (wpPlan P l S Q q) a w ∧ stepAt P l S Q k (wpPlan P l S Q r) a w
section
variable {l : List Oper} {a : Act} {w : World}
theorem plan_done (h : Q .normal a w) : wpPlan P l S Q .done a w := h
theorem plan_take {i : Nat} {p : Plan} (o : Oper) (ho : l[i]? = some o) (h : wpQuiet P l.toArray S (fun a' => wpPlan P l S Q p a' w) [o] a) : wpPlan P l S Q (.take i p) a w := fun o' ho' => by
  rw [ho] at ho'
  cases ho'
  exact h
theorem step_at {i : Nat} {C : Act → World → Prop} (o : Oper) (ho : l[i]? = some o)
    (h : ∀ K' : Act → World → Prop, (∀ a' w', S w' → C a' w' → K' a' w') → if Region.wanted o (yielded l.toArray a.tmps) = true then Oper.wp P o a w K' Q else K' (a.put o.dst undef) w) : stepAt P l S Q i C a w := fun o' ho' => by
  rw [ho] at ho'
  cases ho'
  exact h
theorem plan_one {i : Nat} {p : Plan} (o : Oper) (ho : l[i]? = some o)
    (h : ∀ K' : Act → World → Prop, (∀ a' w', S w' → wpPlan P l S Q p a' w' → K' a' w') → if Region.wanted o (yielded l.toArray a.tmps) = true then Oper.wp P o a w K' Q else K' (a.put o.dst undef) w) : wpPlan P l S Q (.one i p) a w := step_at o ho h
theorem plan_two {i j : Nat} {p q : Plan} (h : stepAt P l S Q i (wpPlan P l S Q p) a w) (h' : stepAt P l S Q j (wpPlan P l S Q q) a w) : wpPlan P l S Q (.two i p j q) a w := ⟨h, h'⟩
theorem plan_three {i j k : Nat} {p q r : Plan} (h : stepAt P l S Q i (wpPlan P l S Q p) a w) (h' : stepAt P l S Q j (wpPlan P l S Q q) a w) (h'' : stepAt P l S Q k (wpPlan P l S Q r) a w) : wpPlan P l S Q (.three i p j q k r) a w := ⟨h, h', h''⟩
end
theorem wpOp_of_stepAt {l : List Oper} {i n : Nat} {C : Act → World → Prop} {listed : Array Bool} {a : Act} {w : World} (hi : i < l.length)
    (hC : ∀ a' w', S w' → C a' w' → wpAnyH P .any l.toArray Q S n listed a' w') (h : stepAt P l S Q i C a w) : wpOp P l.toArray Q i (fun a' w' => S w' ∧ wpAnyH P .any l.toArray Q S n listed a' w') a w :=
  wpOp_step (o := l[i]) (by simp [hi]) fun K' hK' => h _ (List.getElem?_eq_getElem hi) K' fun a' w' hS hc => hK' a' w' ⟨hS, hC a' w' hS hc⟩
theorem ready_lt {md : Region.Mode} {l : List Oper} {listed : Array Bool} {i : Nat} (h : i ∈ Region.ready md l.toArray listed) : i < l.length := by
  obtain ⟨_, o, ho, _⟩ := mem_ready.1 h
  simpa using (Array.getElem?_eq_some_iff.1 ho).1
theorem wpAnyH_of_plan {l : List Oper} (hQ : ∀ c d v a w, Q (.panic c) (Act.put a (some d) v) w → Q (.panic c) a w) (hsel : Region.noSelect l.toArray = true) :
    ∀ (p : Plan) (n : Nat) (listed : Array Bool) (a : Act) (w : World), S w → planB .any l.toArray n p listed = true → wpPlan P l S Q p a w → wpAnyH P .any l.toArray Q S n listed a w
  | .done, n, listed, a, w, _, hB, h => by
    simp only [planB, Bool.and_eq_true, beq_iff_eq, List.isEmpty_iff] at hB
    exact wpAnyH_done hB.2 h n
  | .take i p, n, listed, a, w, hS, hB, h => by
    simp only [planB, Bool.and_eq_true, decide_eq_true_eq] at hB
    obtain ⟨⟨hn, h1⟩, h2⟩ := hB
    obtain ⟨m, rfl⟩ : ∃ m, n = m + 1 := ⟨n - 1, by omega⟩
    cases ho : l.toArray[i]? with
    | none => rw [ho] at h1; cases h1
    | some o =>
      rw [ho] at h1
      simp only [Bool.and_eq_true] at h1
      have ho' : l[i]? = some o := by simpa using ho
      have hq : qOp P l.toArray S i (fun a' => wpPlan P l S Q p a' w) a := by unfold qOp; rw [ho]; exact h o ho'
      obtain ⟨v, hy, hk⟩ := yieldsIn_of_qOp ho hq
      exact wpAnyH_take ho hsel h1.1.2 h1.2 (fun c a w => by cases o.dst with | none => exact fun h => h | some d => exact hQ c d v a w) (yieldsIf_of_in h1.1.1 hy) hS (wpAnyH_of_plan hQ hsel p m _ _ w hS h2 hk)
  | .one i p, n, listed, a, w, hS, hB, h => by
    simp only [planB, Bool.and_eq_true, decide_eq_true_eq] at hB
    obtain ⟨⟨hn, h1⟩, h2⟩ := hB
    obtain ⟨m, rfl⟩ : ∃ m, n = m + 1 := ⟨n - 1, by omega⟩
    refine wpAnyH_all h1 (by simp) fun j hj => ?_
    have hlt := ready_lt (h1 ▸ hj)
    simp only [List.mem_singleton] at hj
    subst hj
    exact wpOp_of_stepAt hlt (fun a' w' hS' hs => wpAnyH_of_plan hQ hsel p m _ a' w' hS' h2 hs) h
  | .two i p j q, n, listed, a, w, hS, hB, h => by
    simp only [planB, Bool.and_eq_true, decide_eq_true_eq] at hB
    obtain ⟨⟨⟨hn, h1⟩, h2⟩, h3⟩ := hB
    obtain ⟨m, rfl⟩ : ∃ m, n = m + 1 := ⟨n - 1, by omega⟩
    refine wpAnyH_all h1 (by simp) fun x hx => ?_
    have hlt := ready_lt (h1 ▸ hx)
    simp only [List.mem_cons, List.not_mem_nil, or_false] at hx
    rcases hx with rfl | rfl
    · exact wpOp_of_stepAt hlt (fun a' w' hS' hs => wpAnyH_of_plan hQ hsel p m _ a' w' hS' h2 hs) h.1
    · exact wpOp_of_stepAt hlt (fun a' w' hS' hs => wpAnyH_of_plan hQ hsel q m _ a' w' hS' h3 hs) h.2
  | .three i p j q k r, n, listed, a, w, hS, hB, h => by
    simp only [planB, Bool.and_eq_true, decide_eq_true_eq] at hB
    obtain ⟨⟨⟨⟨hn, h1⟩, h2⟩, h3⟩, h4⟩ := hB
    obtain ⟨m, rfl⟩ : ∃ m, n = m + 1 := ⟨n - 1, by omega⟩
    refine wpAnyH_all h1 (by simp) fun x hx => ?_
    have hlt := ready_lt (h1 ▸ hx)
    simp only [List.mem_cons, List.not_mem_nil, or_false] at hx
    rcases hx with rfl | rfl | rfl
    · exact wpOp_of_stepAt hlt (fun a' w' hS' hs => wpAnyH_of_plan hQ hsel p m _ a' w' hS' h2 hs) h.1
    · exact wpOp_of_stepAt hlt (fun a' w' hS' hs => wpAnyH_of_plan hQ hsel q m _ a' w' hS' h3 hs) h.2.1
    · exact wpOp_of_stepAt hlt (fun a' w' hS' hs => wpAnyH_of_plan hQ hsel r m _ a' w' hS' h4 hs) h.2.2
theorem wp_region_plan {id : Nat} {a : Act} {w : World} {l : List Oper} (S : World → Prop) (p : Plan) (hm : P.follows .mixedOrders = true) (hsel : Region.noSelect l.toArray = true)
    (hB : planB .any l.toArray l.length p (Array.replicate l.length false) = true) (hQ : ∀ c d v a w, Q (.panic c) (Act.put a (some d) v) w → Q (.panic c) a w) (hS : S w.drew)
    (h : wpPlan P l S Q p a w.drew) : (Code.region id l.toArray true).wp P Q a w := by
  refine wp_region_held (S := S) hm ?_
  have := wpAnyH_of_plan hQ hsel p l.length (Array.replicate l.length false) a w.drew hS hB h
  simpa using this
end

/-! ## Single operations of such a walk -/
section
variable {P : Program} {ops : Array Oper} {o : Oper} {a : Act} {w : World} {K : Act → World → Prop} {Q : Exit → Act → World → Prop} {E : Prop}
theorem step_value (hgd : o.guard = none) (v : Value) (w' : World) (hrun : (execOp a.eval o).run P w = .ok (.value v) w') (h : K (a.put o.dst v) w') : if Region.wanted o (yielded ops a.tmps) = true then Oper.wp P o a w K Q else E := by
  rw [if_pos (wanted_plain hgd)]
  unfold Oper.wp
  rw [hrun]
  exact h
theorem step_alloc (hgd : o.guard = none) (ty : TypeId) (ho : o.op = .alloc ty) (cs : List Value) (hz : (P.info? ty).map (fun i => i.zero.map (·.cells)) = some (some cs.toArray))
    (h : ∀ w', Row w' w.heap.size ty cs → w.heap.size < w'.heap.size → w.grownBy w' none → K (a.put o.dst (.pointer (some ⟨w.heap.size, 0, none⟩))) w') : if Region.wanted o (yielded ops a.tmps) = true then Oper.wp P o a w K Q else E := by
  cases hq : P.info? ty with
  | none => simp [hq] at hz
  | some i =>
    cases hz0 : i.zero with
    | none => simp [hq, hz0] at hz
    | some z =>
      have hzc : z.cells = cs.toArray := by simpa [hq, hz0] using hz
      refine step_value hgd _ _ (exec_alloc_row o ty ho z (by simp [hq, hz0])) ?_
      rw [hzc]
      exact h _ (row_alloc w ty cs) (by simp) (World.grownBy_alloc w _ none)
theorem step_store_all (hgd : o.guard = none) (ty : TypeId) (x v : Operand) (ho : o.op = .store ty x v) (g : Nat) (hx : a.eval x = .pointer (some ⟨g, 0, none⟩)) (e : TypeId) (cur : List Value) (hr : Row w g e cur) (cs : List Value) (hv : a.eval v = .agg cs.toArray)
    (h1 : ∀ u ∈ cs, u.oneCell' = true) (hl : cur.length = cs.length) (hi : (P.info? ty).map (·.size) = some cs.length)
    (h : ∀ w', Row w' g e cs → w.grownBy w' (some g) → K (a.put o.dst undef) w') : if Region.wanted o (yielded ops a.tmps) = true then Oper.wp P o a w K Q else E := by
  rw [if_pos (wanted_plain hgd)]
  unfold Oper.wp execOp
  simp only [ho, hx, hv, Instr.storeAt, Instr.sureAddr, Sem.run_bind, Sem.run_pure, Result.andThen_ok, run_storeVar_at w ty g cur.toArray e hr cs.toArray (by simpa using h1) (by simpa using hl) (by simpa using hi)]
  exact h _ (setRow_heap w g _ _ e _ hr) ⟨rfl, rfl, rfl, by simp, fun k _ hk => setRow_other w g k _ (fun he => hk (by rw [he]))⟩
theorem step_load_all (hgd : o.guard = none) (ty : TypeId) (x : Operand) (ho : o.op = .load ty x) (g : Nat) (hx : a.eval x = .pointer (some ⟨g, 0, none⟩)) (e : TypeId) (cs : List Value) (hr : Row w g e cs) (d : TypeDesc)
    (hu : P.underlying ty = some d) (hd : (match d with | .struct _ | .array _ _ => true | _ => false) = true) (hi : (P.info? ty).map (·.size) = some cs.length) (h : K (a.put o.dst (.agg cs.toArray)) w) : if Region.wanted o (yielded ops a.tmps) = true then Oper.wp P o a w K Q else E :=
  step_value hgd _ _ (exec_load w ty x ho ⟨g, 0, none⟩ hx cs hr.cells d hu hd hi) h
/-- A whole array read, in every world of a class. -/
theorem quiet_load_all {S : World → Prop} {Kq : Act → Prop} (ty : TypeId) (x : Operand) (ho : o.op = .load ty x) (g : Nat) (hx : a.eval x = .pointer (some ⟨g, 0, none⟩)) (e : TypeId) (cs : List Value) (hr : ∀ w, S w → Row w g e cs) (d : TypeDesc)
    (hu : P.underlying ty = some d) (hd : (match d with | .struct _ | .array _ _ => true | _ => false) = true) (hi : (P.info? ty).map (·.size) = some cs.length) (h : Kq (a.put o.dst (.agg cs.toArray))) : o.quiet P a S Kq := by
  refine ⟨.agg cs.toArray, fun w hS => ?_, h⟩
  unfold Oper.quietAt
  rw [exec_load w ty x ho ⟨g, 0, none⟩ hx cs (hr w hS).cells d hu hd hi]
  exact ⟨rfl, rfl⟩
theorem wpQuiet_load_all {S : World → Prop} {Qq : Act → Prop} {rest : List Oper} (hgd : o.guard = none) (ty : TypeId) (x : Operand) (ho : o.op = .load ty x) (g : Nat) (hx : a.eval x = .pointer (some ⟨g, 0, none⟩)) (e : TypeId) (cs : List Value) (hr : ∀ w, S w → Row w g e cs) (d : TypeDesc)
    (hu : P.underlying ty = some d) (hd : (match d with | .struct _ | .array _ _ => true | _ => false) = true) (hi : (P.info? ty).map (·.size) = some cs.length) (h : wpQuiet P ops S Qq rest (a.put o.dst (.agg cs.toArray))) : wpQuiet P ops S Qq (o :: rest) a := by
  show if Region.wanted o (yielded ops a.tmps) then o.quiet P a S (wpQuiet P ops S Qq rest) else wpQuiet P ops S Qq rest (a.put o.dst undef)
  rw [if_pos (wanted_plain hgd)]
  exact quiet_load_all ty x ho g hx e cs hr d hu hd hi h
end

/-! ## An element of an array value -/
section
variable {P : Program}
/-- The walk stands at this operation. -/
theorem wpList_at {ops : Array Oper} {rest : List Oper} (o : Oper) {a : Act} {w : World} {Q : Exit → Act → World → Prop} (h : wpList P ops Q (o :: rest) a w) : wpList P ops Q (o :: rest) a w := h
theorem run_index_agg (w : World) (t e : TypeId) (n : Nat) (ke : IntKind) (ht : P.underlying t = some (.array n e)) (he : P.underlying e = some (.int ke)) (hsz : ∀ w, (sizeOf e).run P w = .ok 1 w) (cs : List Value) (k : IntKind) (i : Nat) (hi : i < n) (u : Value)
    (hu : cs[i]? = some u) : (Instr.index t (.agg cs.toArray) (.int k (i : Int))).run P w = .ok u w := by
  simp [Instr.index, asIntOf, run_underlying ht, part, isAgg, run_underlying he, hsz, hi, hu]
theorem wpList_index_agg {ops : Array Oper} {rest : List Oper} {o : Oper} {a : Act} {w : World} {Q : Exit → Act → World → Prop} (hgd : o.guard = none) (t : TypeId) (x ix : Operand) (ho : o.op = .index t x ix) (e : TypeId) (n : Nat) (ke : IntKind)
    (ht : P.underlying t = some (.array n e)) (he : P.underlying e = some (.int ke)) (hsz : ∀ w, (sizeOf e).run P w = .ok 1 w) (cs : List Value) (hx : a.eval x = .agg cs.toArray) (k : IntKind) (i : Nat) (hix : a.eval ix = .int k (i : Int)) (hi : i < n) (u : Value) (hu : cs[i]? = some u)
    (h : wpList P ops Q rest (a.put o.dst u) w) : wpList P ops Q (o :: rest) a w := by
  refine wpList_value hgd u ?_ h
  unfold execOp
  simp [ho, hx, hix, run_index_agg w t e n ke ht he hsz cs k i hi u hu]
end
end Go.Proofs.YtgliealofieenaaDoor

/-
  Operations under a guard whose value is known; a load of one cell. Over any program. No condition.
-/
namespace Go.Proofs.YtgliealofieenaaDoor
open Go.RowKit

section
variable {P : Program} {ops : Array Oper} {rest : List Oper} {o : Oper} {a : Act} {w : World}
theorem wpList_wantG {Q : Exit → Act → World → Prop} (hw : Region.wanted o (yielded ops a.tmps) = true)
    (h : ∀ K : Act → World → Prop, (∀ a w, wpList P ops Q rest a w → K a w) → o.wp P a w K Q) : wpList P ops Q (o :: rest) a w :=
  wpList_step fun K hK => by rw [if_pos hw]; exact h K hK
theorem wpList_valueG {Q : Exit → Act → World → Prop} (hw : Region.wanted o (yielded ops a.tmps) = true) (v : Value) (hrun : (execOp a.eval o).run P w = .ok (.value v) w)
    (h : wpList P ops Q rest (a.put o.dst v) w) : wpList P ops Q (o :: rest) a w :=
  wpList_wantG hw fun K hK => by
    unfold Oper.wp
    rw [hrun]
    exact hK _ _ h
theorem wpQuiet_valueG {C : World → Prop} {Q : Act → Prop} (hw : Region.wanted o (yielded ops a.tmps) = true) (v : Value) (hrun : ∀ w, C w → (execOp a.eval o).run P w = .ok (.value v) w)
    (h : wpQuiet P ops C Q rest (a.put o.dst v)) : wpQuiet P ops C Q (o :: rest) a := by
  show if Region.wanted o (yielded ops a.tmps) then o.quiet P a C (wpQuiet P ops C Q rest) else wpQuiet P ops C Q rest (a.put o.dst undef)
  rw [if_pos hw]
  refine ⟨v, fun w hw => ?_, h⟩
  unfold Oper.quietAt
  rw [hrun w hw]
  exact ⟨rfl, rfl⟩
theorem step_valueG {K : Act → World → Prop} {Q : Exit → Act → World → Prop} {E : Prop} (hw : Region.wanted o (yielded ops a.tmps) = true) (v : Value) (w' : World) (hrun : (execOp a.eval o).run P w = .ok (.value v) w') (h : K (a.put o.dst v) w') : if Region.wanted o (yielded ops a.tmps) = true then Oper.wp P o a w K Q else E := by
  rw [if_pos hw]
  unfold Oper.wp
  rw [hrun]
  exact h
end
theorem exec_load1 {P : Program} {ρ : Operand → Value} {o : Oper} (w : World) (ty : TypeId) (x : Operand) (ho : o.op = .load ty x) (ad : Addr) (hx : ρ x = .pointer (some ad)) (v : Value) (hc : w.cell? ad = some v) (d : TypeDesc)
    (hu : P.underlying ty = some d) (hd : (match d with | .struct _ | .array _ _ => true | _ => false) = false) : (execOp ρ o).run P w = .ok (.value v) w := by
  have hagg : (isAgg ty).run P w = .ok false w := by
    unfold isAgg
    rw [Sem.run_bind, run_underlying hu w]
    cases d <;> simp_all
  unfold execOp
  simp [ho, hx, Instr.loadAt, Instr.sureAddr, loadVar, Sem.run_bind, hagg, hc]
/-- A bool comes back; nothing that was there has changed. -/
def TellsB (b : Bool) (w : World) (e : Ending) (w' : World) : Prop := e = .returned (.bool b) ∧ Below w.heap.size w w'
end Go.Proofs.YtgliealofieenaaDoor

/-
  append onto a slice of the call's own, as a step of a drawn region's walk. Over any program. No condition.
-/
namespace Go.Proofs.YtgliealofieenaaDoor
open Go.RowKit

theorem own_empty (w : World) (e : TypeId) (size base : Nat) (hb : base ≤ w.heap.size) : (w.alloc (.cells #[] e)).ownsRow base e size (.slice (some ⟨w.heap.size, 0, none⟩) 0 0) 0 [] :=
  ⟨by simp, .inr ⟨w.heap.size, 0, #[], rfl, hb, Go.heap_alloc_new w _, Nat.le_refl _, by unfold maxLen; omega, by simp, by simp⟩⟩
section
variable {P : Program} {ops : Array Oper} {o : Oper} {a : Act} {w : World} {K : Act → World → Prop} {Q : Exit → Act → World → Prop} {E : Prop}
theorem step_append_src (hw : Region.wanted o (yielded ops a.tmps) = true) (s x : Operand) (t tx : TypeId)
    (ho : o.op = .call { callee := .builtin .append, args := #[s, x], argTypes := #[t, tx] })
    (base : Nat) (e : TypeId) (i : TypeInfo) (z : Value) (size bytes : Nat) (ht : P.underlying t = some (.slice e)) (hi : P.info? e = some i) (hz : i.zero = some z)
    (hsize : i.size = size) (hby : i.bytes = bytes) (hzs : z.cells.size = size)
    (v : Value) (n : Nat) (xs : List Value) (hsv : a.eval s = v) (hown : w.ownsRow base e size v n xs) (m : Nat) (news : List Value) (hs : Src P size tx (a.eval x) m news w)
    (h63 : n + m ≤ maxLen) (hbytes : (n + m) * bytes ≤ 140737488355328) (hbase : base ≤ w.heap.size)
    (h : ∀ v' w', w'.ownsRow base e size v' (n + m) (xs ++ news) → w.grownBy w' v.ownBlock → Below base w w' → K (a.put o.dst v') w') : if Region.wanted o (yielded ops a.tmps) = true then Oper.wp P o a w K Q else E := by
  rw [if_pos hw]
  obtain ⟨v', w', hrun, h2, h3⟩ := run_append_src (P := P) w base t tx o.type e i z size bytes ht hi hz hsize hby hzs v n xs hown (a.eval x) m news hs h63 hbytes hbase
  unfold Oper.wp execOp
  simp only [ho, resolve, invoke, builtin, Sem.run_bind, Sem.run_pure, Result.andThen_ok, List.map_toArray, List.map_cons, List.map_nil, hsv, hrun]
  exact h v' w' h2 h3 ((Below.refl base w).grown h3 hbase fun k hk => (hown.lt k hk).1)
end
section
variable {P : Program}
theorem step_store_elem {ops : Array Oper} {o : Oper} {a : Act} {w : World} {K : Act → World → Prop} {Q : Exit → Act → World → Prop} {E : Prop} (hgd : o.guard = none) (ty : TypeId) (x v : Operand) (ho : o.op = .store ty x v) (g j : Nat) (hx : a.eval x = .pointer (some ⟨g, j, none⟩)) (e : TypeId) (cs : List Value) (hr : Row w g e cs) (u : Value) (hv : a.eval v = u)
    (h1 : u.oneCell' = true) (hj : j < cs.length) (hi : (P.info? ty).map (·.size) = some 1)
    (h : ∀ w', Row w' g e (cs.set j u) → w.grownBy w' (some g) → K (a.put o.dst undef) w') : if Region.wanted o (yielded ops a.tmps) = true then Oper.wp P o a w K Q else E := by
  obtain ⟨w', hrun, h2, h3, h4⟩ := run_store_elem w ty g j e cs hr u h1 hj hi
  rw [if_pos (wanted_plain hgd)]
  unfold Oper.wp execOp
  simp only [ho, hx, hv, Instr.storeAt, Instr.sureAddr, Sem.run_bind, Sem.run_pure, Result.andThen_ok, hrun]
  exact h _ h2 h4
theorem step_store_run {ops : Array Oper} {o : Oper} {a : Act} {w : World} {K : Act → World → Prop} {Q : Exit → Act → World → Prop} {E : Prop} (hgd : o.guard = none) (ty : TypeId) (x v : Operand) (ho : o.op = .store ty x v) (ad : Addr) (hx : a.eval x = .pointer (some ad)) (u : Value) (hv : a.eval v = u)
    (w' : World) (hrun : (storeVar ty ad u).run P w = .ok () w') (h : K (a.put o.dst undef) w') : if Region.wanted o (yielded ops a.tmps) = true then Oper.wp P o a w K Q else E := by
  rw [if_pos (wanted_plain hgd)]
  unfold Oper.wp execOp
  simp only [ho, hx, hv, Instr.storeAt, Instr.sureAddr, Sem.run_bind, Sem.run_pure, Result.andThen_ok, hrun]
  exact h
end
section
variable {P : Program} {ops : Array Oper} {o : Oper} {a : Act} {w : World} {K : Act → World → Prop} {Q : Exit → Act → World → Prop} {E : Prop}
theorem step_make_row (hgd : o.guard = none) (t : TypeId) (x y : Operand) (ho : o.op = .makeSlice t x y) (e : TypeId) (ht : P.underlying t = some (.slice e)) (z : Value) (hz1 : z.cells = #[z]) (b : Nat) (hi : (P.info? e).map (fun i => (i.zero, i.size, i.bytes)) = some (some z, 1, b))
    (kl kc : IntKind) (l c : Nat) (hx : a.eval x = .int kl (l : Int)) (hy : a.eval y = .int kc (c : Int)) (hlc : l ≤ c) (hb : b * c ≤ 281474976710656) (hc : c ≤ 9223372036854775807)
    (h : ∀ w', Row w' w.heap.size e (List.replicate c z) → w.heap.size < w'.heap.size → w.grownBy w' none → K (a.put o.dst (.slice (some ⟨w.heap.size, 0, none⟩) l c)) w') : if Region.wanted o (yielded ops a.tmps) = true then Oper.wp P o a w K Q else E := by
  obtain ⟨i, hi1, hi2, hi3, hi4⟩ := info_parts hi
  have hr := run_make (P := P) w t e i z ht hi1 hi2 kl kc (l : Int) (c : Int) (by omega) (by omega) (by rw [hi4, ← Int.natCast_mul]; generalize b * c = q at *; omega) (by omega)
  rw [Int.toNat_natCast, Int.toNat_natCast, hi3, Nat.mul_one, hz1] at hr
  have hm : madeCells #[z] c = (List.replicate c z).toArray := by
    apply Array.ext
    · simp [size_madeCells]
    · intro j h1 h2
      simp [madeCells, Nat.mod_one]
  rw [hm] at hr
  refine step_value hgd (.slice (some ⟨w.heap.size, 0, none⟩) l c) _ ?_ (h _ (row_alloc w e _) (by simp) (World.grownBy_alloc w _ none))
  unfold execOp
  simp [ho, hx, hy, hr]
end
end Go.Proofs.YtgliealofieenaaDoor
