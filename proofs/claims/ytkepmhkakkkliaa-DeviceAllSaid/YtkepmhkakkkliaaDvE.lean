/-
  What device.accesses, faultAt, bytes.Equal and slices.EqualFunc return: contracts by walks. Condition: bounded lengths.
-/
import Derived.Test.YtkepmhkakkkliaaDvK
namespace Go.Proofs.Ytkepmhkakkkliaa
open Go.RowKit

/-- The functions of the accesses. -/
def accF (f : FuncId) : Value := .func (.func f) #[] #[]
def accT : List Value := [.nilFunc, accF 51, accF 52, accF 53, accF 54]
def zeroT5 : List Value := [.nilFunc, .nilFunc, .nilFunc, .nilFunc, .nilFunc]
theorem accT_one : ∀ u ∈ accT, u.oneCell' = true := by intro u hu; simp [accT, accF] at hu; rcases hu with rfl | rfl | rfl | rfl | rfl <;> rfl
theorem zero_t5 : (Try.prog.info? 81).map (fun i => i.zero.map (·.cells)) = some (some zeroT5.toArray) := by kernel_rfl
set_option maxRecDepth 100000 in
set_option maxHeartbeats 4000000 in
theorem accesses_any9 (w : World) : Calls Try.prog 39 #[] w (fun e w' => e = .returned (.agg accT.toArray) ∧ Below w.heap.size w w') := by
  go_enter Try.func39, Try.ntmps39
  go_wp2_with (first
    | (with_reducible refine wpList_alloc_row (o := ⟨some 0, _, _, _, _, _⟩) rfl _ rfl zeroT5 zero_t5 ?_; intro w1 r1 s1 g1)
    | ((with_reducible refine wpList_at ⟨none, .store _ (.tmp 0) _, _, _, _, _⟩ ?_); refine wpList_store_all rfl _ _ _ rfl w.heap.size rfl _ _ r1 accT rfl accT_one rfl (by kernel_rfl) ?_; intro w2 r2 g2))
  have hload := run_loadVar_at (P := Try.prog) w2 81 ⟨w.heap.size, 0, none⟩ accT r2.cells _ Try.underlying81 rfl (by kernel_rfl)
  exact bodyPost_ret (results_cell1 Try.results39 _ _ _ _ rfl hload) rfl ⟨rfl, below_kept (grown_below g1 (Nat.le_refl _) (by simp)) g2 (Nat.le_of_lt s1) (by rintro q hq; cases hq; exact Nat.le_refl _)⟩

/-- Faults as cells. -/
def fvs (l : List DvF) : List Value := l.flatMap DvF.cs
theorem fvs_len (l : List DvF) : (fvs l).length = l.length * 3 := by
  induction l with
  | nil => rfl
  | cons f l ih => simp only [fvs, List.flatMap_cons, List.length_append, List.length_cons] at *; rw [ih]; show 3 + _ = _; omega
theorem flat_at {α : Type} (g : α → List Value) (m : Nat) (hg : ∀ a, (g a).length = m) : ∀ (l : List α) (i : Nat) (a : α), l[i]? = some a → ∀ j u, (g a)[j]? = some u → (l.flatMap g)[i * m + j]? = some u
  | [], i, a, h, _, _, _ => by simp at h
  | x :: l, 0, a, h, j, u, hu => by
    simp at h
    subst h
    rw [List.flatMap_cons, Nat.zero_mul, Nat.zero_add, List.getElem?_append_left (List.getElem?_eq_some_iff.1 hu).1]
    exact hu
  | x :: l, i + 1, a, h, j, u, hu => by
    rw [List.flatMap_cons, List.getElem?_append_right (by rw [hg, Nat.succ_mul]; omega), hg, show (i + 1) * m + j - m = i * m + j by rw [Nat.succ_mul]; omega]
    exact flat_at g m hg l i a (by simpa using h) j u hu
theorem Reads.elem {α : Type} {g : α → List Value} {m : Nat} (hg : ∀ a, (g a).length = m) {w : World} {B n : Nat} {A : Option Addr} {l : List α} (h : Reads w B m A n (l.flatMap g)) {i : Nat} {a : α} (ha : l[i]? = some a) (hi : i < n) :
    ∃ ad, A = some ad ∧ ad.block < B ∧ ∀ j u, (g a)[j]? = some u → w.cell? ((ad.add (i * m)).add j) = some u := by
  obtain ⟨ad, hA, hb, hc⟩ := h.2 (by omega)
  refine ⟨ad, hA, hb, fun j u hu => ?_⟩
  rw [add_of_add]
  exact hc _ _ (flat_at g m hg l i a ha j u hu)
theorem DvF.cs_len (f : DvF) : f.cs.length = 3 := rfl
theorem DvA.cs_len (f : DvA) : f.cs.length = 4 := rfl
theorem DvR.cs_len (f : DvR) : f.cs.length = 2 := rfl
theorem flat_len {α : Type} (g : α → List Value) (m : Nat) (hg : ∀ a, (g a).length = m) (l : List α) : (l.flatMap g).length = l.length * m := by
  induction l with
  | nil => simp
  | cons f l ih => rw [List.flatMap_cons, List.length_append, hg, ih, List.length_cons, Nat.succ_mul]; omega
theorem Reads.len_of {α : Type} {g : α → List Value} {m : Nat} (hm : 0 < m) (hg : ∀ a, (g a).length = m) {w : World} {B n : Nat} {A : Option Addr} {l : List α} (h : Reads w B m A n (l.flatMap g)) : l.length = n := by
  have := h.1
  rw [flat_len g m hg] at this
  exact Nat.eq_of_mul_eq_mul_right hm this
theorem DvF.zero_cs : noF.cs = zeroT := rfl
set_option maxRecDepth 100000 in
set_option maxHeartbeats 4000000 in
theorem faultAt_any9 (A : Option Addr) (n c : Nat) (fl : List DvF) (i : Nat) (w : World) (hr : Reads w w.heap.size 3 A n (fl.flatMap DvF.cs)) :
    Calls Try.prog 36 #[.slice A n c, .int .i64 (i : Int)] w (fun e w' => e = .returned (dvFl fl i).v ∧ Below w.heap.size w w') := by
  have hl := hr.len_of (by decide) DvF.cs_len
  by_cases hlt : i < n
  · obtain ⟨f, hf⟩ : ∃ f, fl[i]? = some f := ⟨_, List.getElem?_eq_getElem (by omega)⟩
    obtain ⟨ad, rfl, hb, hc⟩ := hr.elem DvF.cs_len hf hlt
    have HE := Lib.hid (dvFl_in hf)
    have HC := Lib.hid hc
    generalize dvFl fl i = E at *
    clear hf hc hl hr
    go_enter Try.func36, Try.ntmps36
    go_wp2_with (first
      | (with_reducible refine wpList_alloc_row (o := ⟨some 4, _, _, _, _, _⟩) rfl _ rfl zeroT zero_ft ?_; intro w1 r1 s1 g1; have b1 := grown_below g1 (Nat.le_refl _) (by simp))
      | (refine wpList_valueG (o := ⟨some 12, _, _, _, _, _⟩) rfl _ (by exact exec_load _ 35 _ rfl (ad.add (i * 3)) rfl f.cs (fun j u hu => (b1.cell (by rw [block_of_add, block_of_add]; exact hb)).trans (HC.out j u hu)) _ Try.underlying35 rfl (by kernel_rfl)) ?_)
      | ((with_reducible refine wpList_at ⟨none, .store _ (.tmp 4) _, _, _, _, _⟩ ?_); refine wpList_store_all rfl _ _ _ rfl w.heap.size rfl _ _ r1 (f.cs) rfl (f.cs_one) rfl (by kernel_rfl) ?_; intro w2 r2 g2))
    refine bodyPost_ret (results_cell1 Try.results36 _ _ _ _ rfl (run_loadVar_at (P := Try.prog) _ 35 ⟨w.heap.size, 0, none⟩ _ r2.cells _ Try.underlying35 rfl (by kernel_rfl))) rfl ⟨by rw [HE.out]; rfl, below_kept (grown_below g1 (Nat.le_refl _) (by simp)) g2 (Nat.le_of_lt s1) (by rintro q hq; cases hq; exact Nat.le_refl _)⟩
  · have HE := Lib.hid (dvFl_out (fl := fl) (i := i) (by omega))
    generalize dvFl fl i = E at *
    clear hl hr
    go_enter Try.func36, Try.ntmps36
    go_wp2_with (first
      | (with_reducible refine wpList_alloc_row (o := ⟨some 4, _, _, _, _, _⟩) rfl _ rfl zeroT zero_ft ?_; intro w1 r1 s1 g1; have b1 := grown_below g1 (Nat.le_refl _) (by simp))
      | ((with_reducible refine wpList_at ⟨none, .store _ (.tmp 4) _, _, _, _, _⟩ ?_); refine wpList_store_all rfl _ _ _ rfl w.heap.size rfl _ _ r1 (noF.cs) rfl (noF.cs_one) rfl (by kernel_rfl) ?_; intro w2 r2 g2))
    refine bodyPost_ret (results_cell1 Try.results36 _ _ _ _ rfl (run_loadVar_at (P := Try.prog) _ 35 ⟨w.heap.size, 0, none⟩ _ r2.cells _ Try.underlying35 rfl (by kernel_rfl))) rfl ⟨by rw [HE.out]; rfl, below_kept (grown_below g1 (Nat.le_refl _) (by simp)) g2 (Nat.le_of_lt s1) (by rintro q hq; cases hq; exact Nat.le_refl _)⟩

theorem bytes_beq (l k : List UInt8) : (l == k) = decide (l = k) := by
  by_cases h : l = k <;> simp [h]
set_option maxRecDepth 100000 in
set_option maxHeartbeats 4000000 in
theorem bytesEqual_any9 (p q : Part) (w : World) (hp : Reads w w.heap.size 1 p.A p.n (bvs p.l)) (hq : Reads w w.heap.size 1 q.A q.n (bvs q.l)) :
    Calls Try.prog 34 #[p.v, q.v] w (TellsB (decide (p.l = q.l)) w) := by
  obtain ⟨A, n, c, l⟩ := p
  obtain ⟨B, m, d, k⟩ := q
  have HE := Lib.hid (bytes_beq l k)
  unfold Part.v
  generalize decide (l = k) = E at *
  go_enter Try.func34, Try.ntmps34
  go_wp2_with (first
    | (refine wpList_valueG (o := ⟨some 6, _, _, _, _, _⟩) rfl _ (by exact exec_string_of _ _ _ 5 _ rfl Try.underlying56 Try.underlying5 Try.underlying9 rfl hp) ?_)
    | (refine wpList_valueG (o := ⟨some 8, _, _, _, _, _⟩) rfl _ (by exact exec_string_of _ _ _ 5 _ rfl Try.underlying56 Try.underlying5 Try.underlying9 rfl hq) ?_))
  go_ret
  exact ⟨by rw [← HE.out]; rfl, Below.refl _ _⟩

theorem bk_ne_at {ps qs : List Part} {k : Nat} {p q : Part} (hp : ps[k]? = some p) (hq : qs[k]? = some q) (h : p.l ≠ q.l) : decide (bk ps = bk qs) = false := by
  refine decide_eq_false fun e => h ?_
  have h1 := bk_get hp
  rw [e, bk_get hq] at h1
  exact (Option.some.inj h1).symm
theorem bk_snoc {ps qs : List Part} {k : Nat} {p q : Part} (hp : ps[k]? = some p) (hq : qs[k]? = some q) (h : (bk ps).take k = (bk qs).take k) (e : p.l = q.l) : (bk ps).take (k + 1) = (bk qs).take (k + 1) := by
  rw [List.take_add_one, List.take_add_one, h, bk_get hp, bk_get hq, e]
set_option maxRecDepth 100000 in
set_option maxHeartbeats 4000000 in
theorem equalFunc_any9 (A B : Option Addr) (n c m d : Nat) (ps qs : List Part) (w : World) (hr : ReadsP w w.heap.size A n ps) (hq : ReadsP w w.heap.size B m qs) (hn : n ≤ 9223372036854775806) :
    Calls Try.prog 33 #[.slice A n c, .slice B m d, .func (.func 34) #[] #[]] w (TellsB (decide (bk ps = bk qs)) w) := by
  have HLP := Lib.hid hr.len
  have HLQ := Lib.hid hq.len
  have HEQ := fun (p q : Part) W h1 h2 => Lib.hid (bytesEqual_any9 p q W h1 h2)
  by_cases hnm : n = m
  · subst hnm
    go_enter Try.func33, Try.ntmps33
    go_wp2_with fail
    go_loopg [17] n (fun g s17 wr => ∃ k : Nat, Hid (k + g = n) ∧ k ≤ n ∧ s17 = .int .i64 (k : Int) ∧ Hid ((bk ps).take k = (bk qs).take k) ∧ Below w.heap.size w wr)
    case atStart => exact ⟨0, by show _ = _; omega, by omega, rfl, Lib.hid rfl, Below.refl _ _⟩
    case round =>
      obtain ⟨k, HK, hk, rfl, HT, hB⟩ := hrel
      by_cases hlt : k < n
      · obtain ⟨ad, p, rfl, hlta, hs, hc0, hpr, _⟩ := hr.at_ hlt
        obtain ⟨bd, q, rfl, hltb, ht, hd0, hqr, _⟩ := hq.at_ hlt
        have HS := Lib.hid hs
        have HTT := Lib.hid ht
        have HPR := Lib.hid hpr
        have HQR := Lib.hid hqr
        have hc := (hB.cell (by rw [block_of_add]; exact hlta)).trans hc0
        have hd := (hB.cell (by rw [block_of_add]; exact hltb)).trans hd0
        clear hs ht hc0 hd0 hpr hqr
        go_wp2_with fail
        refine (HEQ p q wr ((HPR.out.below hB).more hB.size) ((HQR.out.below hB).more hB.size)).out.mono ?_
        rintro e w2 ⟨rfl, b2⟩
        have B2 := hB.trans (b2.mono hB.size)
        by_cases hst : p.l = q.l
        · have HSM := Lib.hid hst
          rw [decide_eq_true hst]
          clear hst
          go_wp2_with fail
          go_roundg (gk - 1)
          case measure => have := HK.out; omega
          case rel => exact ⟨k + 1, by have := HK.out; show _ = _; omega, by omega, by go_num, Lib.hid (bk_snoc HS.out HTT.out HT.out HSM.out), B2⟩
        · have HNE := Lib.hid (bk_ne_at HS.out HTT.out hst)
          rw [decide_eq_false hst]
          clear hst
          go_wp2_with fail
          go_ret
          exact ⟨by rw [HNE.out]; rfl, B2⟩
      · obtain rfl : k = n := by omega
        have HE : Hid (bk ps = bk qs) := Lib.hid (by
          have h := HT.out
          rwa [List.take_of_length_le (by rw [bk_len, HLP.out]; exact Nat.le_refl _), List.take_of_length_le (by rw [bk_len, HLQ.out]; exact Nat.le_refl _)] at h)
        go_wp2_with fail
        go_ret
        exact ⟨by rw [decide_eq_true HE.out]; rfl, hB⟩
  · have HNE : Hid (decide (bk ps = bk qs) = false) := Lib.hid (decide_eq_false fun e => hnm (by rw [← HLP.out, ← HLQ.out, ← bk_len, ← bk_len, e]))
    go_enter Try.func33, Try.ntmps33
    go_wp2_with fail
    go_ret
    exact ⟨by rw [HNE.out]; rfl, Below.refl _ _⟩
end Go.Proofs.Ytkepmhkakkkliaa
