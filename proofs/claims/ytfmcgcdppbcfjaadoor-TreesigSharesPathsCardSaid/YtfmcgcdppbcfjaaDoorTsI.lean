/-
  treesig's one-time public keys, yielded by a function and collected: contracts by walks inside a fence. Condition: the table of constants as laid.
-/
import Derived.Test.YtfmcgcdppbcfjaaDoorTsV
import Derived.Test.YtfmcgcdppbcfjaaDoorWotsM
import Derived.RangeFuncNested
import Derived.RangeFuncBound
import Derived.RangeFuncCalls
import Derived.RangeFuncLeaves
import Derived.Shelf.Abstract
import Derived.Shelf.RegionOpen
import Derived.OwnWalkIn
import Derived.TacticsInMore
import Derived.LoopNIn
import Derived.LoopIn
import Derived.Maps.AppendAt
namespace Go.Proofs.YtfmcgcdppbcfjaaDoor
open Go.RowKit Go.Shelf

/-! ## Single operations inside a fence -/
section
variable {F : Fence} {n : Nat} {P : Program} {ops : Array Oper} {rest : List Oper} {o : Oper} {a : Act} {w w' : World} {Q : Exit → Act → World → Prop}
theorem wpListIn_val (hgd : o.guard = none) (hd : ∀ c, o.op ≠ .defer c) (hF : ∀ f, F.fn f) (v : Value) (hrun : (execOp a.eval o).run P w = .ok (.value v) w')
    (h : wpListIn F n P ops Q rest (a.put o.dst v) w') : wpListIn F n P ops Q (o :: rest) a w := by
  refine wpListIn_plain hgd fun K hK => ?_
  unfold Oper.wpIn
  refine ⟨fun f _ => hF f, ?_⟩
  rw [Oper.semAt_plain F _ _ hd, hrun]
  exact hK _ _ h
theorem wpListIn_none (hgd : o.guard = none) (hd : ∀ c, o.op ≠ .defer c) (hF : ∀ f, F.fn f) (hrun : (execOp a.eval o).run P w = .ok .skip w')
    (h : wpListIn F n P ops Q rest (a.put o.dst undef) w') : wpListIn F n P ops Q (o :: rest) a w := by
  refine wpListIn_plain hgd fun K hK => ?_
  unfold Oper.wpIn
  refine ⟨fun f _ => hF f, ?_⟩
  rw [Oper.semAt_plain F _ _ hd, hrun]
  exact hK _ _ h
theorem wpListIn_alloc_row (hgd : o.guard = none) (hF : ∀ f, F.fn f) (ty : TypeId) (ho : o.op = .alloc ty) (cs : List Value) (hz : (P.info? ty).map (fun i => i.zero.map (·.cells)) = some (some cs.toArray))
    (h : ∀ w', Row w' w.heap.size ty cs → w.heap.size < w'.heap.size → w.grownBy w' none → wpListIn F n P ops Q rest (a.put o.dst (.pointer (some ⟨w.heap.size, 0, none⟩))) w') : wpListIn F n P ops Q (o :: rest) a w := by
  cases hq : P.info? ty with
  | none => simp [hq] at hz
  | some i =>
    cases hz0 : i.zero with
    | none => simp [hq, hz0] at hz
    | some z =>
      have hzc : z.cells = cs.toArray := by simpa [hq, hz0] using hz
      refine wpListIn_val hgd (by rw [ho]; intro c hc; cases hc) hF _ (exec_alloc_row o ty ho z (by simp [hq, hz0])) ?_
      rw [hzc]
      exact h _ (row_alloc w ty cs) (by simp) (World.grownBy_alloc w _ none)
theorem wpListIn_store_all (hgd : o.guard = none) (hF : ∀ f, F.fn f) (ty : TypeId) (x v : Operand) (ho : o.op = .store ty x v) (g : Nat) (hx : a.eval x = .pointer (some ⟨g, 0, none⟩)) (e : TypeId) (cur : List Value) (hr : Row w g e cur) (cs : List Value) (hv : a.eval v = .agg cs.toArray)
    (h1 : ∀ u ∈ cs, u.oneCell' = true) (hl : cur.length = cs.length) (hi : (P.info? ty).map (·.size) = some cs.length)
    (h : ∀ w', Row w' g e cs → w.grownBy w' (some g) → wpListIn F n P ops Q rest (a.put o.dst undef) w') : wpListIn F n P ops Q (o :: rest) a w := by
  refine wpListIn_none (w' := w.setRow g cs.toArray) hgd (by rw [ho]; intro c hc; cases hc) hF ?_ (h _ (setRow_heap w g _ _ e _ hr) ⟨rfl, rfl, rfl, by simp, fun k _ hk => setRow_other w g k _ (fun he => hk (by rw [he]))⟩)
  unfold execOp
  simp only [ho, hx, hv, Instr.storeAt, Instr.sureAddr, Sem.run_bind, Sem.run_pure, Result.andThen_ok, run_storeVar_at w ty g cur.toArray e hr cs.toArray (by simpa using h1) (by simpa using hl) (by simpa using hi)]
theorem wpListIn_store_one (hgd : o.guard = none) (hF : ∀ f, F.fn f) (ty : TypeId) (x v : Operand) (ho : o.op = .store ty x v) (g : Nat) (hx : a.eval x = .pointer (some ⟨g, 0, none⟩)) (e : TypeId) (u0 : Value) (hr : Boxed w g e u0) (u : Value) (hv : a.eval v = u)
    (h1 : u.oneCell' = true) (hi : (P.info? ty).map (·.size) = some 1) (h : ∀ w', Boxed w' g e u → w.grownBy w' (some g) → wpListIn F n P ops Q rest (a.put o.dst undef) w') : wpListIn F n P ops Q (o :: rest) a w := by
  obtain ⟨w', hrun, h2, _, h4⟩ := run_store_elem (P := P) w ty g 0 e [u0] hr u h1 (by simp) hi
  refine wpListIn_none (w' := w') hgd (by rw [ho]; intro c hc; cases hc) hF ?_ (h _ h2 h4)
  unfold execOp
  simp only [ho, hx, hv, Instr.storeAt, Instr.sureAddr, Sem.run_bind, Sem.run_pure, Result.andThen_ok, hrun]
end

theorem zip_one (t : Array Value) (q : Nat) (v : Value) : Array.foldl (fun t (x : Nat × Value) => match x with | (p, v) => t.setIfInBounds p v) t #[(q, v)] = t.setIfInBounds q v := by simp

/-- A row speaks of cells alone. -/
theorem row_own {β : Type} (B : Nat) (t : TypeId) (f : β → List Value) : Own (fun s W => Row W B t (f s)) := fun s X Y row hs hg hrow => by
  refine Row.kept hs hg fun e' => ?_
  obtain ⟨o, ho, hc⟩ := hrow B e'.symm
  have h : X.heap[B]? = some (.cells (f s).toArray t (0, 0)) := hs
  rw [h] at ho
  cases ho
  cases hc

set_option maxRecDepth 100000 in
set_option maxHeartbeats 1000000 in
/-- The maker of the iterator: seed and height lie in boxes of their own. -/
theorem tkeysF_any (seed : List UInt8) (h : Int) (w : World) : Calls Tryd.prog 26 #[.agg (bvs seed).toArray, .int .i64 h] w fun e w' =>
    ∃ s b, e = .returned (.func (.func 52) #[] #[.pointer (some ⟨b, 0, none⟩), .pointer (some ⟨s, 0, none⟩)]) ∧ Row w' s 23 (bvs seed) ∧ Row w' b 3 [.int .i64 h] ∧ Below w.heap.size w w' := by
  go_enter Tryd.func26, Tryd.ntmps26
  go_wp2_with (first
    | (with_reducible refine wpList_box_row (o := ⟨some 2, _, _, _, _, _⟩) rfl _ _ rfl (bvs seed) rfl ?_; intro w1 hrow1 hs1 hg1)
    | (with_reducible refine wpList_box_row (o := ⟨some 3, _, _, _, _, _⟩) rfl _ _ rfl [.int .i64 h] rfl ?_; intro w2 hrow2 hs2 hg2))
  go_ret
  exact ⟨_, _, rfl, hrow1.kept hg2 (by simp), hrow2, below_kept (grown_below hg1 (Nat.le_refl _) (by simp)) hg2 (by omega) (by simp)⟩

set_option maxRecDepth 100000 in
set_option maxHeartbeats 2000000 in
/-- The iterator, for every loop body that keeps what lay below n₀. -/
theorem tkeys1_in (n l s b n₀ k : Nat) (hn : 1 ≤ n) (hk : k ≤ 4) (seed : List UInt8) (hs : seed.length = 16) (J Jx : List { d : List UInt8 // d.length = 16 } → World → Prop) (W : World) (hJ : AbidesFrom W.heap.size J)
    (hY : ∀ pre x W1, J pre W1 → pre.length < 2 ^ k → YieldAt Fence.wide (n - 1) Tryd.prog l #[.agg (bvs x.1).toArray] W1 fun e W' =>
      (e = .returned (.bool true) ∧ J (pre ++ [x]) W' ∧ Below n₀ W1 W') ∨ (e = .returned (.bool false) ∧ Jx (pre ++ [x]) W'))
    (hCo : Consts W) (hC0 : 0 < n₀) (hsd : Row W s 23 (bvs seed)) (hs0 : s < n₀) (hbb : Row W b 3 [.int .i64 (k : Int)]) (_hb0 : b < n₀) (hnW : n₀ ≤ W.heap.size) (h0 : J [] W) :
    CallsIn Fence.wide n Tryd.prog 52 #[.func (.yield l) #[] #[], .pointer (some ⟨b, 0, none⟩), .pointer (some ⟨s, 0, none⟩)] W fun e W' => (∃ v, e = .returned v) ∧
      ((∃ xs, xs.map (·.1) = tKeys seed (2 ^ k) ∧ J xs W') ∨ (∃ pre, True ∧ Jx pre W')) := by
  have HS := Lib.hid hs
  have HP := fun i a b W hW => Lib.hid (public_any seed hs i a b W hW)
  have HSZ := fun W => Lib.hid (tsize_any k hk W)
  have HPL := fun i : Int => Lib.hid (wPub_len seed i)
  have HKS := fun n => Lib.hid (tKeys_succ seed n)
  have h16 := two_le16 hk
  have hck : W.cell? ⟨b, 0, none⟩ = some (.int .i64 (k : Int)) := hbb.cell (j := 0) rfl
  clear hs
  generalize 2 ^ k = M at *
  refine callsIn_of_wp Tryd.func52 rfl trivial ?_ rfl
  simp only [Tryd.ntmps52, List.size_toArray, List.length_cons, List.length_nil, Nat.reduceAdd, Nat.reduceSub, Array.replicate_succ, Array.replicate_zero, List.push_toArray, List.append_toArray, List.nil_append, List.cons_append]
  gi_wp2_with (refine ⟨trivial, ?_⟩; gi_at_call 35; refine (callsIn_wide.2 (HSZ _).out).mono ?_; rintro e W' ⟨rfl, hW'⟩; obtain rfl : W = W' := hW'.symm)
  gi_loopw [4, 7] (fun p4 p wr => ∃ (j : Nat) (pre : List { d : List UInt8 // d.length = 16 }), p = .int .i64 (j : Int) ∧ j ≤ M ∧ pre.length = j ∧ pre.map (·.1) = tKeys seed j ∧ J pre wr ∧ Below n₀ W wr ∧ W.heap.size ≤ wr.heap.size)
    (fun p4 p wr => match p with | .int _ x => M - x.toNat | _ => 0)
  case atStart => exact ⟨0, [], rfl, by omega, rfl, rfl, h0, Below.refl _ _, Nat.le_refl _⟩
  case round =>
    obtain ⟨j, pre, rfl, hj, hpl, hpm, hJp, hbr, hsz⟩ := hrel
    by_cases hlt : j < M
    · have hJb : ∀ W', Below wr.heap.size wr W' → J pre W' := fun W' hb => hJ pre wr W' none hJp (below_grownBy hb none) (fun r e => by cases e)
      have hPU := fun W hW => HP (j : Int) (by omega) (by omega) W hW
      have hPL := HPL (j : Int)
      have hrow := hsd.below hbr hs0
      have hCr := hCo.below hbr hC0
      have hKj := HKS j
      generalize wPub seed (j : Int) = V at *
      gi_wp2_with (first
        | (refine wpListIn_val (o := ⟨some 11, _, _, _, _, _⟩) rfl (by intro c hc; cases hc) (fun _ => trivial) _ (by exact exec_load16 _ _ rfl _ rfl seed HS.out hrow.cells) ?_)
        | (refine ⟨trivial, ?_⟩; gi_at_call 22; refine (callsIn_wide.2 (hPU _ hCr).out).mono ?_; rintro e W2 ⟨rfl, hb2⟩; obtain ⟨fn, tmps, assign, body, hy, hR⟩ := hY pre ⟨V, hPL.out⟩ W2 (hJb W2 hb2) (by omega)))
      have B2 : Below n₀ W W2 := hbr.trans (hb2.mono (by omega))
      refine hR.mono ?_
      rintro e W3 (⟨rfl, hJ3, hk3⟩ | ⟨rfl, hJx3⟩)
      · gi_wp2
        go_roundw
        case rel => exact ⟨j + 1, pre ++ [⟨V, hPL.out⟩], by go_num, by omega, by simp [hpl], by rw [List.map_append, hpm, hKj.out]; rfl, hJ3, B2.trans hk3, by have := hb2.size; have := hk3.size; omega⟩
        case measure => go_num
      · gi_wp2
        refine bodyPost_ret (results_none rfl _ _ _) rfl ?_
        exact ⟨⟨_, rfl⟩, .inr ⟨_, True.intro, hJx3⟩⟩
    · obtain rfl : j = M := by omega
      gi_wp2
      refine bodyPost_end (results_none rfl _ _ _) rfl ?_
      exact ⟨⟨_, rfl⟩, .inl ⟨pre, hpm, hJp⟩⟩

/-- What the maker hands back is an iterator over the keys. -/
theorem tkeys_stops (n s b k : Nat) (hn : 1 ≤ n) (hk : k ≤ 4) (seed : List UInt8) (hs : seed.length = 16) (n₀ : Nat) (w : World) (hCo : Consts w) (hC0 : 0 < n₀) (hsd : Row w s 23 (bvs seed)) (hs0 : s < n₀) (hbb : Row w b 3 [.int .i64 (k : Int)]) (hb0 : b < n₀) (hn₀ : n₀ ≤ w.heap.size) :
    SeqStopsK Fence.wide n Tryd.prog 52 #[.pointer (some ⟨b, 0, none⟩), .pointer (some ⟨s, 0, none⟩)] (fun x : { d : List UInt8 // d.length = 16 } => #[Value.agg (bvs x.1).toArray]) (Below n₀)
      (fun xs => xs.map (·.1) = tKeys seed (2 ^ k)) (fun _ => True) (2 ^ k) w := fun l J Jx W hW hJ _ hY h0 =>
  tkeys1_in n l s b n₀ k hn hk seed hs J Jx W hJ hY (hCo.on hW) hC0 (hsd.on hW) hs0 (hbb.on hW) hb0 (by have := hW.size; omega) h0

set_option maxRecDepth 100000 in
set_option maxHeartbeats 4000000 in
/-- slices.AppendSeq onto nothing. -/
theorem tappendSeq_in (n s b k : Nat) (hn : 2 ≤ n) (hk : k ≤ 4) (seed : List UInt8) (hs : seed.length = 16) (w : World) (hCo : Consts w) (hsd : Row w s 23 (bvs seed)) (hbb : Row w b 3 [.int .i64 (k : Int)]) :
    CallsIn Fence.wide n Tryd.prog 51 #[.slice none 0 0, .func (.func 52) #[] #[.pointer (some ⟨b, 0, none⟩), .pointer (some ⟨s, 0, none⟩)]] w (GivesDS (tKeys seed (2 ^ k)) w) := by
  have h1 : 1 ≤ n := by omega
  obtain ⟨i0, hi, hz0, hz1, hz2⟩ := info_parts info_dig
  have hw0 := hCo.1
  have hs0 := hsd.lt
  have hb0 := hbb.lt
  have h16 := two_le16 hk
  refine callsIn_of_wp_marks Tryd.func51 rfl trivial ?_ rfl
  simp only [Tryd.ntmps51, List.size_toArray, List.length_cons, List.length_nil, Nat.reduceAdd, Nat.reduceSub, Array.replicate_succ, Array.replicate_zero, List.push_toArray, List.append_toArray, List.nil_append, List.cons_append]
  gi_wp2
  have bO := Boxed.new w 30 (.slice none 0 0)
  have hB0 : Below w.heap.size w (w.alloc (.cells #[.slice none 0 0] 30)) := (Below.refl _ w).alloc (Nat.le_refl _) _
  have hsz : (w.alloc (.cells #[.slice none 0 0] 30)).heap.size = w.heap.size + 1 := by simp
  generalize w.alloc (.cells #[.slice none 0 0] 30) = W0 at *
  refine wpIn_rangeFunc_ownH (F := Fence.wide) rfl h1 (gf := 52) (lb := #[.pointer (some ⟨b, 0, none⟩), .pointer (some ⟨s, 0, none⟩)]) rfl trivial (enters_of Tryd.func52 (by kernel_rfl) rfl)
    (tkeys_stops (n - 1) s b k (by omega) hk seed hs w.heap.size W0 (hCo.on hB0) hw0 (hsd.on hB0) hs0 (hbb.on hB0) hb0 hB0.size) belowK_t (belowK_b (by omega)) (Below.refl _ _) (fun _ => rfl)
    (fun (pre : List { d : List UInt8 // d.length = 16 }) W => (∃ v, Boxed W w.heap.size 30 v ∧ W.ownsRow w.heap.size 23 16 v pre.length (bvs (pre.map (·.1)).flatten) ∧ True) ∧ Below w.heap.size w W)
    (fun _ _ _ => False)
    (OwnFrom.and (Own.from (holdsRow_own w.heap.size w.heap.size 30 23 16 (fun pre : List { d : List UInt8 // d.length = 16 } => pre.length) (fun pre : List { d : List UInt8 // d.length = 16 } => bvs (pre.map (·.1)).flatten) (fun _ _ => True)) _) (ownFrom_below (Nat.le_refl _) (by omega)))
    (fun _ _ _ _ _ hs _ _ => hs)
    ⟨⟨_, bO, World.ownsRow_nil _ _ _ _, trivial⟩, hB0⟩
    (fun x a' W => ∃ Bx, Row W Bx 23 (bvs x.1) ∧ a' = { tmps := #[.slice none 0 0, .func (.func 52) #[] #[.pointer (some ⟨b, 0, none⟩), .pointer (some ⟨s, 0, none⟩)], .pointer (some ⟨w.heap.size, 0, none⟩), undef, .slice none 0 0, .pointer (some ⟨Bx, 0, none⟩), .func (.func 52) #[] #[.pointer (some ⟨b, 0, none⟩), .pointer (some ⟨s, 0, none⟩)], .agg (bvs x.1).toArray, undef, undef, undef, undef, undef], defers := [] })
    (fun x a' => Own.from (fun u X Y row ⟨Bx, hr, ha⟩ hg hrow => ⟨Bx, row_own Bx _ (fun _ : Unit => bvs x.1) u X Y row hr hg hrow, ha⟩) _) ?assign ?body ?done ?stop
  case assign =>
    rintro l pre x W K ⟨⟨v, hv, hrow, -⟩, hB⟩ hK
    have hx16 : x.1.length = 16 := x.2
    rw [show (#[(7 : Nat)].zip #[Value.agg (bvs x.1).toArray]) = #[(7, Value.agg (bvs x.1).toArray)] by simp]
    simp only [zip_one, List.setIfInBounds_toArray, List.set_cons_succ, List.set_cons_zero]
    gi_wp2_with (refine wpListIn_alloc_row (o := ⟨some 5, _, _, _, _, _⟩) rfl (fun _ => trivial) _ rfl zeros16 zero_b16 ?_; intro w1 r1 s1 g1; refine wpListIn_store_all (o := ⟨none, _, _, _, _, _⟩) rfl (fun _ => trivial) 23 (.tmp 5) (.tmp 7) rfl W.heap.size rfl _ _ r1 (bvs x.1) rfl (bvs_one _) (b16_zeros _ hx16) (b16_size _ hx16) ?_; intro w2 r2 g2)
    have hb : Below W.heap.size W w2 := below_kept (grown_below g1 (Nat.le_refl _) (by simp)) g2 (by omega) (by rintro q hq; cases hq; exact Nat.le_refl _)
    have hk1 : KeepsOthers W w1 := KeepsOthers.of_grownBy g1 (fun j o ej hj => by cases ej)
    have hk2 : KeepsOthers w1 w2 := KeepsOthers.of_grownBy g2 (fun j o ej hj => by
      cases ej
      have h : w1.heap[W.heap.size]? = some (.cells _ _ _) := r1
      rw [h] at hj
      cases hj
      rfl)
    exact hK _ _ ((hk1.trans hk2).from _) (hb.mono hB.size) ⟨⟨v, (hb.block _ hv.lt).trans hv, own_below hrow hb, trivial⟩, hB.trans (hb.mono hB.size)⟩ ⟨_, r2, rfl⟩
  case body =>
    rintro l pre x a' W hl - ⟨⟨v, hv, hrow, -⟩, hB⟩ ⟨Bx, bX, rfl⟩ hlt
    have hc := hv.cell
    gi_wp2_with (first
      | (refine wpListIn_val (o := ⟨some 8, _, _, _, _, _⟩) rfl (by intro c hc; cases hc) (fun _ => trivial) _ (by exact exec_load1 _ 30 _ rfl ⟨w.heap.size, 0, none⟩ rfl _ hc _ Tryd.underlying30 rfl) ?_)
      | (refine wpListIn_val (o := ⟨some 9, _, _, _, _, _⟩) rfl (by intro c hc; cases hc) (fun _ => trivial) _ (by exact exec_load16 _ _ rfl _ rfl x.1 x.2 bX.cells) ?_)
      | (refine wpListIn_val (o := ⟨some 10, _, _, _, _, _⟩) rfl (by intro c hc; cases hc) (fun _ => trivial) _ (by exact exec_slice1 _ 30 23 _ rfl Tryd.underlying30 i0 _ hi hz0 (bvs x.1) (by rw [hz1, bvs_length, x.2]) (by rw [bvs_length, x.2]; omega) (by rw [bvs_length, x.2]; omega) rfl) ?_)
      | (gi_at_builtin; refine wpListIn_append_own _ rfl _ _ 30 rfl w.heap.size 23 i0 _ 16 16 Tryd.underlying30 hi hz0 hz1 hz2 rfl (by decide) _ _ _ rfl (hrow.alloc _) ⟨W.heap.size, 0, none⟩ 1 1 (bvs x.1) rfl (by rw [bvs_length, x.2]) (World.news_of_block (cs := (bvs x.1).toArray) (Go.heap_alloc_new W _)) (bvs_one _) (by unfold maxLen; omega) (by omega) (by have := hB.size; simp; omega) ?_; intro v' w1 hown' hgrow _; obtain ⟨g', cap', rfl⟩ := ownsRow_succ hown'; have hgrow : (W.alloc (.cells (bvs x.1).toArray 23)).grownBy w1 v.ownBlock := hgrow; have hv1 : Boxed w1 w.heap.size 30 v := (hv.alloc _).kept hgrow (hv.not_row (by decide) hrow))
      | (refine wpListIn_store_one (o := ⟨none, _, _, _, _, _⟩) rfl (fun _ => trivial) 30 (.tmp 2) (.tmp 11) rfl w.heap.size rfl _ v hv1 _ rfl rfl (by kernel_rfl) ?_; intro w2 hv2 g2))
    have hmp : pre.unattach.flatten ++ x.1 = (pre ++ [x]).unattach.flatten := by simp
    have hkb : KeepsOthers (W.alloc (.cells (bvs x.1).toArray 23)) w1 := KeepsOthers.of_grownBy hgrow fun j o ej hj => by
      rcases (hrow.alloc (.cells (bvs x.1).toArray 23)).2 with ⟨rfl, _⟩ | ⟨g, cap, cur, rfl, _, hgb, _⟩
      · simp [Value.ownBlock] at ej
      · obtain rfl : g = j := by simpa [Value.ownBlock] using ej
        rw [hgb] at hj
        cases hj
        rfl
    have hkc : KeepsOthers w1 w2 := KeepsOthers.of_grownBy g2 fun j o ej hj => by
      cases ej
      have h : w1.heap[w.heap.size]? = some (.cells _ _ _) := hv1
      rw [h] at hj
      cases hj
      rfl
    have hb1 : Below w.heap.size W w1 := ((Below.refl _ W).alloc hB.size _).grown hgrow (by have := hB.size; simp; omega) fun j ej => by
      rcases hrow.2 with ⟨rfl, _⟩ | ⟨g, cap, cur, rfl, hb, _, _⟩
      · simp [Value.ownBlock] at ej
      · obtain rfl : g = j := by simpa [Value.ownBlock] using ej
        exact hb
    have hb2 : Below w.heap.size W w2 := below_kept hb1 g2 (by have := hB.size; have := hb1.size; omega) (by rintro q hq; cases hq; exact Nat.le_refl _)
    refine ⟨(((KeepsOthers.alloc _ _).trans hkb).trans hkc).from _, hb2, ⟨_, hv2, ?_⟩, hB.trans hb2⟩
    have hr2 := hown'.kept g2 (.inr (hv1.not_row (by decide) hown').symm)
    rw [← bvs_append, ← List.unattach] at hr2
    rw [← hmp, List.length_append]
    exact hr2
  case done =>
    rintro D xs W hD hxs ⟨⟨v, hv, hrow, -⟩, hB⟩ hK
    have hc := hv.cell
    gi_wp2
    refine ⟨by simp, .inl ⟨_, _, rfl, run_takeDeferred hK, ?_⟩⟩
    have hxl : xs.length = (tKeys seed (2 ^ k)).length := by rw [← hxs, List.length_map]
    rw [hxs, hxl] at hrow
    exact ⟨_, results_tmp rfl _ _ _, v, rfl, ownsRow_putObj hrow _ hK rfl, hB.trans (belowK_b (w := w) (Nat.le_refl _) W D _ _ (by omega) hK rfl rfl)⟩
  case stop =>
    rintro D c pre W _ _ h _
    exact h.elim

set_option maxRecDepth 100000 in
set_option maxHeartbeats 1000000 in
/-- slices.Collect. -/
theorem tcollect_any (s b k : Nat) (hk : k ≤ 4) (seed : List UInt8) (hs : seed.length = 16) (w : World) (hCo : Consts w) (hsd : Row w s 23 (bvs seed)) (hbb : Row w b 3 [.int .i64 (k : Int)]) :
    Calls Tryd.prog 25 #[.func (.func 52) #[] #[.pointer (some ⟨b, 0, none⟩), .pointer (some ⟨s, 0, none⟩)]] w (GivesDS (tKeys seed (2 ^ k)) w) := by
  have HA := Lib.hid ((callsIn_wide (n := 2)).1 (tappendSeq_in 2 s b k (Nat.le_refl _) hk seed hs w hCo hsd hbb))
  generalize tKeys seed (2 ^ k) = KS at *
  clear hs
  go_enter Tryd.func25, Tryd.ntmps25
  go_wp2_with fail
  refine HA.out.mono ?_
  rintro e w' ⟨v, rfl, hown, hb⟩
  go_wp2_with fail
  go_ret
  exact ⟨v, rfl, hown, hb⟩
end Go.Proofs.YtfmcgcdppbcfjaaDoor
