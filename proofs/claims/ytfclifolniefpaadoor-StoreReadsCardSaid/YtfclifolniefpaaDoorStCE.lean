/-
  What slices.IndexFunc and ContainsFunc at areas, store.newest and successor return: contracts by walks. No condition.
-/
import Derived.Test.YtfclifolniefpaaDoorStWB
import Derived.Deep.LoopGhost
import Derived.Test.YtfclifolniefpaaDoorParH
import Derived.Test.YtfclifolniefpaaDoorEncG
set_option linter.unusedSimpArgs false
set_option linter.unusedVariables false
namespace Go.Proofs.YtfclifolniefpaaDoor
open Go.RowKit

theorem flat_at {α : Type} (g : α → List Value) (m : Nat) (hg : ∀ a, (g a).length = m) : ∀ (l : List α) (i : Nat) (a : α), l[i]? = some a → ∀ j u, (g a)[j]? = some u → (l.flatMap g)[i * m + j]? = some u
  | [], i, a, h, _, _, _ => by simp at h
  | x :: l, 0, a, h, j, u, hu => by
    simp at h
    subst h
    rw [List.flatMap_cons, Nat.zero_mul, Nat.zero_add, List.getElem?_append_left (List.getElem?_eq_some_iff.1 hu).1]
    exact hu
  | x :: l, i + 1, a, h, j, u, hu => by
    rw [List.flatMap_cons, List.getElem?_append_right (by rw [hg, Nat.succ_mul]; omega), hg, show (i + 1) * m + j - m = i * m + j by rw [Nat.succ_mul]; omega]
    exact flat_at g m hg l i a (by simpa using h) j u hu
theorem Reads.elem {α : Type} {g : α → List Value} {m : Nat} (hg : ∀ a, (g a).length = m) {w : World} {B n : Nat} {A : Option Addr} {l : List α} (h : Reads w B m A n (l.flatMap g)) {i : Nat} {a : α} (ha : l[i]? = some a) (hi : i < n) :
    ∃ ad, A = some ad ∧ ad.block < B ∧ ∀ j u, (g a)[j]? = some u → w.cell? ((ad.add (i * m)).add j) = some u := by
  obtain ⟨ad, hA, hb, hc⟩ := h.2 (by omega)
  refine ⟨ad, hA, hb, fun j u hu => ?_⟩
  rw [add_of_add]
  exact hc _ _ (flat_at g m hg l i a ha j u hu)
theorem flat_len {α : Type} (g : α → List Value) (m : Nat) (hg : ∀ a, (g a).length = m) (l : List α) : (l.flatMap g).length = l.length * m := by
  induction l with
  | nil => simp
  | cons f l ih => rw [List.flatMap_cons, List.length_append, hg, ih, List.length_cons, Nat.succ_mul]; omega
theorem Reads.len_of {α : Type} {g : α → List Value} {m : Nat} (hm : 0 < m) (hg : ∀ a, (g a).length = m) {w : World} {B n : Nat} {A : Option Addr} {l : List α} (h : Reads w B m A n (l.flatMap g)) : l.length = n := by
  have := h.1
  rw [flat_len g m hg] at this
  exact Nat.eq_of_mul_eq_mul_right hm this
theorem StD.cs_len (a : StD) : a.cs.length = 2 := rfl
theorem StR.cs_len (a : StR) : a.cs.length = 2 := rfl
theorem StA.cs_len (a : StA) : a.cs.length = 4 := rfl
def newer (a d : StD) : Bool := decide (a.n < d.n)
set_option maxRecDepth 100000 in
set_option maxHeartbeats 4000000 in
theorem sindex_any (a : StD) (A : Option Addr) (n c : Nat) (ds : List StD) (w : World) (hr : Reads w w.heap.size 2 A n (ds.flatMap StD.cs)) (hn : n ≤ 1000) :
    Calls Tryd.prog 68 #[.slice A n c, .func (.func 50) #[a.v] #[]] w fun e w' => ∃ x : Int, e = .returned (.int .i64 x) ∧ decide (0 ≤ x) = ds.any (newer a) ∧ Below w.heap.size w w' := by
  have HC := fun d W => Lib.hid (solder_any a d W)
  have HLN := Lib.hid (hr.len_of (by decide) StD.cs_len)
  go_enter Tryd.func68, Tryd.ntmps68
  go_wp2_with fail
  go_loopg [8] n (fun g s8 wr => ∃ i : Nat, Hid (i + g = n) ∧ i ≤ n ∧ s8 = .int .i64 (i : Int) ∧ Hid ((ds.take i).any (newer a) = false) ∧ Below w.heap.size w wr)
  case atStart => exact ⟨0, by show _ = _; omega, by omega, rfl, Lib.hid rfl, Below.refl _ _⟩
  case round =>
    obtain ⟨i, HI, hi, rfl, HN, hB⟩ := hrel
    by_cases hlt : i < n
    · obtain ⟨d, hd⟩ : ∃ d, ds[i]? = some d := ⟨_, List.getElem?_eq_getElem (by rw [HLN.out]; exact hlt)⟩
      obtain ⟨ad, rfl, hlta, hc⟩ := hr.elem StD.cs_len hd hlt
      have HCC := Lib.hid hc
      have HT : Hid (ds.take (i + 1) = ds.take i ++ [d]) := Lib.hid (by rw [List.take_add_one, hd]; rfl)
      have HM := Lib.hid (List.mem_of_getElem? hd)
      clear hd hc
      go_wp2_with ((with_reducible refine wpList_at ⟨some 15, _, _, _, _, _⟩ ?_); refine wpList_valueG rfl _ (by exact exec_load _ 69 _ rfl (ad.add (i * 2)) rfl d.cs (fun j u hu => (hB.cell (by rw [block_of_add, block_of_add]; exact hlta)).trans (HCC.out j u hu)) _ Tryd.underlying69 rfl (by kernel_rfl)) ?_)
      refine ((HC d _).out).mono ?_
      rintro e w2 ⟨rfl, b2⟩
      have B2 := hB.trans (b2.mono hB.size)
      cases hq : decide (a.n < d.n) with
      | true =>
        have HQ := Lib.hid hq
        go_wp2_with fail
        go_ret
        refine ⟨_, rfl, ?_, B2⟩
        rw [decide_eq_true (by omega)]
        symm
        exact List.any_eq_true.2 ⟨d, HM.out, HQ.out⟩
      | false =>
        have HQ := Lib.hid hq
        go_wp2_with fail
        go_roundg (gk - 1)
        case measure => have := HI.out; omega
        case rel => exact ⟨i + 1, by have := HI.out; show _ = _; omega, by omega, by go_num, by show _ = _; rw [HT.out, List.any_append, HN.out, List.any_cons, show newer a d = false from HQ.out]; rfl, B2⟩
    · obtain rfl : i = n := by omega
      go_wp2_with fail
      go_ret
      refine ⟨-1, rfl, ?_, hB⟩
      have h := HN.out
      rw [List.take_of_length_le (by rw [HLN.out]; exact Nat.le_refl _)] at h
      rw [h]
      rfl
set_option maxRecDepth 100000 in
set_option maxHeartbeats 4000000 in
theorem scontains_any (a : StD) (A : Option Addr) (n c : Nat) (ds : List StD) (w : World) (hr : Reads w w.heap.size 2 A n (ds.flatMap StD.cs)) (hn : n ≤ 1000) :
    Calls Tryd.prog 49 #[.slice A n c, .func (.func 50) #[a.v] #[]] w (TellsB (ds.any (newer a)) w) := by
  have HX := Lib.hid (sindex_any a A n c ds w hr hn)
  generalize ds.any (newer a) = E at *
  go_enter Tryd.func49, Tryd.ntmps49
  go_wp2_with fail
  refine HX.out.mono ?_
  rintro e w2 ⟨x, rfl, hx, b2⟩
  have HE := Lib.hid hx
  clear hx
  go_wp2_with fail
  go_ret
  exact ⟨by rw [← HE.out]; rfl, b2⟩
theorem Row.part10 {w : World} {g : Nat} {e : TypeId} {cs : List Value} (h : Row w g e cs) {pre mid post : List Value} (hcs : cs = pre ++ (mid ++ post)) {o : Nat} (ho : pre.length = o) : ∀ j u, mid[j]? = some u → w.cell? ((⟨g, o, none⟩ : Addr).add j) = some u := by
  intro j u hj
  rw [Addr.add_lit]
  refine h.cell ?_
  rw [hcs, List.getElem?_append_right (by omega), List.getElem?_append_left (by have := (List.getElem?_eq_some_iff.1 hj).1; omega), show o + j - pre.length = j by omega]
  exact hj
theorem tail_reads (x : StE) {w : World} {g : Nat} {e : TypeId} (h : Row w g e x.cs) : Reads w w.heap.size 2 (some ⟨g, 2, none⟩) 1 ([x.b].flatMap StD.cs) :=
  ⟨rfl, fun _ => ⟨_, rfl, h.lt, Row.part10 h (pre := x.a.cs) (mid := [x.b].flatMap StD.cs) (post := []) rfl rfl⟩⟩
def stI (x : StE) : Int := if x.a.n < x.b.n then 1 else 0
set_option maxRecDepth 100000 in
set_option maxHeartbeats 4000000 in
theorem snewest_any (x : StE) (w : World) : Calls Tryd.prog 33 #[x.v] w (TellsI (if decide (x.a.n < x.b.n) then 1 else 0) w) := by
  have HC := fun A c W hW => Lib.hid (scontains_any x.a A 1 c [x.b] W hW (by omega))
  cases hq : decide (x.a.n < x.b.n) with
  | true =>
    rw [show [x.b].any (newer x.a) = true by rw [List.any_cons, List.any_nil, Bool.or_false]; exact hq] at HC
    clear hq
    go_enter Tryd.func33, Tryd.ntmps33
    go_wp2_with ((with_reducible refine wpList_at ⟨some 1, _, _, _, _, _⟩ ?_); refine wpList_box_row rfl _ _ rfl (x.cs) rfl ?_; intro w1 re_1 s1 g1; have k1 : Below w.heap.size w w1 := grown_below g1 (Nat.le_refl _) (by simp); have B1 : Below w.heap.size w w1 := k1)
    have bq0 : Below w.heap.size w w1.drew := B1.drew
    have req := re_1.drew
    have HRD := Lib.hid (tail_reads x req)
    refine wp_region_plan (fun w' => Row w' (w.heap.size) 70 x.cs) (.take 0 <| .take 1 <| .take 2 <| .one 3 <| .one 4 <| .done) (by kernel_rfl) (by kernel_rfl) (by kernel_rfl) (fun _ _ _ _ _ h => h) req ?_
    repeat (refine plan_take _ rfl ?_; (first | ((with_reducible refine wpQuiet_at ⟨some 5, _, _, _, _, _⟩ ?_); refine wpQuiet_valueG rfl _ (by intro _ hS; exact exec_load _ 69 _ rfl ⟨w.heap.size, 0, none⟩ rfl x.a.cs (Row.part10 hS (pre := []) rfl rfl) _ Tryd.underlying69 rfl (by kernel_rfl)) (wpQuiet_nil ?_); simp only [Act.put, List.setIfInBounds_toArray, List.set_cons_zero, List.set_cons_succ]) | (go_big_quiet_step ((intros; rfl)); refine wpQuiet_nil ?_)))
    refine plan_one _ rfl fun K hK => ?_
    go_simp
    refine hK _ _ req ?_
    clear hK K
    refine plan_one _ rfl fun K hK => ?_
    go_simp
    refine ((HC _ _ _ HRD.out).out).mono ?_
    rintro e wu1 ⟨rfl, hu1⟩
    have reu1 := req.on hu1
    have bu1 := bq0.trans (hu1.mono bq0.size)
    have zu1 := hu1.size
    refine hK _ _ reu1 ?_
    clear hK K
    refine plan_done ?_
    go_wp2_with fail
    go_ret
    exact ⟨rfl, bu1⟩
  | false =>
    rw [show [x.b].any (newer x.a) = false by rw [List.any_cons, List.any_nil, Bool.or_false]; exact hq] at HC
    clear hq
    go_enter Tryd.func33, Tryd.ntmps33
    go_wp2_with ((with_reducible refine wpList_at ⟨some 1, _, _, _, _, _⟩ ?_); refine wpList_box_row rfl _ _ rfl (x.cs) rfl ?_; intro w1 re_1 s1 g1; have k1 : Below w.heap.size w w1 := grown_below g1 (Nat.le_refl _) (by simp); have B1 : Below w.heap.size w w1 := k1)
    have bq0 : Below w.heap.size w w1.drew := B1.drew
    have req := re_1.drew
    have HRD := Lib.hid (tail_reads x req)
    refine wp_region_plan (fun w' => Row w' (w.heap.size) 70 x.cs) (.take 0 <| .take 1 <| .take 2 <| .one 3 <| .one 4 <| .done) (by kernel_rfl) (by kernel_rfl) (by kernel_rfl) (fun _ _ _ _ _ h => h) req ?_
    repeat (refine plan_take _ rfl ?_; (first | ((with_reducible refine wpQuiet_at ⟨some 5, _, _, _, _, _⟩ ?_); refine wpQuiet_valueG rfl _ (by intro _ hS; exact exec_load _ 69 _ rfl ⟨w.heap.size, 0, none⟩ rfl x.a.cs (Row.part10 hS (pre := []) rfl rfl) _ Tryd.underlying69 rfl (by kernel_rfl)) (wpQuiet_nil ?_); simp only [Act.put, List.setIfInBounds_toArray, List.set_cons_zero, List.set_cons_succ]) | (go_big_quiet_step ((intros; rfl)); refine wpQuiet_nil ?_)))
    refine plan_one _ rfl fun K hK => ?_
    go_simp
    refine hK _ _ req ?_
    clear hK K
    refine plan_one _ rfl fun K hK => ?_
    go_simp
    refine ((HC _ _ _ HRD.out).out).mono ?_
    rintro e wu2 ⟨rfl, hu2⟩
    have reu2 := req.on hu2
    have bu2 := bq0.trans (hu2.mono bq0.size)
    have zu2 := hu2.size
    refine hK _ _ reu2 ?_
    clear hK K
    refine plan_done ?_
    go_wp2_with fail
    go_ret
    exact ⟨rfl, bu2⟩
end Go.Proofs.YtfclifolniefpaaDoor

/-
  What store.successor and bytes.Equal, bytes.HasPrefix, store.digest return: contracts by walks. Condition: bounded lengths.
-/
namespace Go.Proofs.YtfclifolniefpaaDoor
open Go.RowKit

/-- The sequence number that counts, and the area that is written next. -/
def seCur (x : StE) : Int := if x.a.n < x.b.n then x.b.n else x.a.n
def seTgt (x : StE) : Int := if seCur x = 0 then 0 else if x.a.n < x.b.n then 0 else 1
set_option maxRecDepth 100000 in
set_option maxHeartbeats 4000000 in
theorem ssucc_any (x : StE) (w : World) (ha : 0 ≤ x.a.n ∧ x.a.n ≤ 1099511627776) (hb : 0 ≤ x.b.n ∧ x.b.n ≤ 1099511627776) : Calls Tryd.prog 44 #[x.v] w (TellsII (seTgt x) (seCur x + 1) w) := by
  have HC := fun W => Lib.hid (snewest_any x W)
  cases hq : decide (x.a.n < x.b.n) with
  | true =>
    rw [hq] at HC
    have hcur : seCur x = x.b.n := by unfold seCur; rw [if_pos (of_decide_eq_true hq)]
    have hlo := hb
    by_cases h0 : x.b.n = 0
    · have HE1 : Hid (seTgt x = 0) := Lib.hid (by unfold seTgt; rw [if_pos (by rw [hcur]; exact h0)])
      have HE2 : Hid (seCur x + 1 = x.b.n + 1) := Lib.hid (by rw [hcur])
      have q1 : (x.b.n + 1 == 1) = true := by simp; omega
      clear hcur hq h0
      generalize seTgt x = E1 at *
      generalize seCur x + 1 = E2 at *
      go_enter Tryd.func44, Tryd.ntmps44
      go_wp2_with (first
        | ((with_reducible refine wpList_at ⟨some 1, _, _, _, _, _⟩ ?_); refine wpList_box_row rfl _ _ rfl (x.cs) rfl ?_; intro w1 re_1 s1 g1; have k1 : Below w.heap.size w w1 := grown_below g1 (Nat.le_refl _) (by simp); have B1 : Below w.heap.size w w1 := k1; have cre0 := re_1.cell (j := 0) rfl; have cre1 := re_1.cell (j := 1) rfl; have cre2 := re_1.cell (j := 2) rfl; have cre3 := re_1.cell (j := 3) rfl)
        | ((with_reducible refine wpList_at ⟨some 6, _, _, _, _, _⟩ ?_); refine wpList_valueG rfl _ (by exact exec_loadE _ _ rfl (w.heap.size) rfl x re_1) ?_))
      refine ((HC _).out).mono ?_
      rintro e w2 ⟨rfl, h2⟩
      have B2 := B1.trans (h2.mono B1.size)
      have re_2 := re_1.on h2
      clear re_1
      have cre0 := re_2.cell (j := 0) rfl
      have cre1 := re_2.cell (j := 1) rfl
      have cre2 := re_2.cell (j := 2) rfl
      have cre3 := re_2.cell (j := 3) rfl
      go_wp2_with fail
      go_ret2
      exact ⟨by rw [HE1.out, HE2.out]; rfl, B2⟩
    · have HE1 : Hid (seTgt x = 0) := Lib.hid (by unfold seTgt; rw [if_neg (by rw [hcur]; exact h0), if_pos (of_decide_eq_true hq)])
      have HE2 : Hid (seCur x + 1 = x.b.n + 1) := Lib.hid (by rw [hcur])
      have q1 : (x.b.n + 1 == 1) = false := by simp; omega
      clear hcur hq h0
      generalize seTgt x = E1 at *
      generalize seCur x + 1 = E2 at *
      go_enter Tryd.func44, Tryd.ntmps44
      go_wp2_with (first
        | ((with_reducible refine wpList_at ⟨some 1, _, _, _, _, _⟩ ?_); refine wpList_box_row rfl _ _ rfl (x.cs) rfl ?_; intro w1 re_1 s1 g1; have k1 : Below w.heap.size w w1 := grown_below g1 (Nat.le_refl _) (by simp); have B1 : Below w.heap.size w w1 := k1; have cre0 := re_1.cell (j := 0) rfl; have cre1 := re_1.cell (j := 1) rfl; have cre2 := re_1.cell (j := 2) rfl; have cre3 := re_1.cell (j := 3) rfl)
        | ((with_reducible refine wpList_at ⟨some 6, _, _, _, _, _⟩ ?_); refine wpList_valueG rfl _ (by exact exec_loadE _ _ rfl (w.heap.size) rfl x re_1) ?_))
      refine ((HC _).out).mono ?_
      rintro e w2 ⟨rfl, h2⟩
      have B2 := B1.trans (h2.mono B1.size)
      have re_2 := re_1.on h2
      clear re_1
      have cre0 := re_2.cell (j := 0) rfl
      have cre1 := re_2.cell (j := 1) rfl
      have cre2 := re_2.cell (j := 2) rfl
      have cre3 := re_2.cell (j := 3) rfl
      go_wp2_with fail
      go_ret2
      exact ⟨by rw [HE1.out, HE2.out]; rfl, B2⟩
  | false =>
    rw [hq] at HC
    have hcur : seCur x = x.a.n := by unfold seCur; rw [if_neg (of_decide_eq_false hq)]
    have hlo := ha
    by_cases h0 : x.a.n = 0
    · have HE1 : Hid (seTgt x = 0) := Lib.hid (by unfold seTgt; rw [if_pos (by rw [hcur]; exact h0)])
      have HE2 : Hid (seCur x + 1 = x.a.n + 1) := Lib.hid (by rw [hcur])
      have q1 : (x.a.n + 1 == 1) = true := by simp; omega
      clear hcur hq h0
      generalize seTgt x = E1 at *
      generalize seCur x + 1 = E2 at *
      go_enter Tryd.func44, Tryd.ntmps44
      go_wp2_with (first
        | ((with_reducible refine wpList_at ⟨some 1, _, _, _, _, _⟩ ?_); refine wpList_box_row rfl _ _ rfl (x.cs) rfl ?_; intro w1 re_1 s1 g1; have k1 : Below w.heap.size w w1 := grown_below g1 (Nat.le_refl _) (by simp); have B1 : Below w.heap.size w w1 := k1; have cre0 := re_1.cell (j := 0) rfl; have cre1 := re_1.cell (j := 1) rfl; have cre2 := re_1.cell (j := 2) rfl; have cre3 := re_1.cell (j := 3) rfl)
        | ((with_reducible refine wpList_at ⟨some 6, _, _, _, _, _⟩ ?_); refine wpList_valueG rfl _ (by exact exec_loadE _ _ rfl (w.heap.size) rfl x re_1) ?_))
      refine ((HC _).out).mono ?_
      rintro e w2 ⟨rfl, h2⟩
      have B2 := B1.trans (h2.mono B1.size)
      have re_2 := re_1.on h2
      clear re_1
      have cre0 := re_2.cell (j := 0) rfl
      have cre1 := re_2.cell (j := 1) rfl
      have cre2 := re_2.cell (j := 2) rfl
      have cre3 := re_2.cell (j := 3) rfl
      go_wp2_with fail
      go_ret2
      exact ⟨by rw [HE1.out, HE2.out]; rfl, B2⟩
    · have HE1 : Hid (seTgt x = 1) := Lib.hid (by unfold seTgt; rw [if_neg (by rw [hcur]; exact h0), if_neg (of_decide_eq_false hq)])
      have HE2 : Hid (seCur x + 1 = x.a.n + 1) := Lib.hid (by rw [hcur])
      have q1 : (x.a.n + 1 == 1) = false := by simp; omega
      clear hcur hq h0
      generalize seTgt x = E1 at *
      generalize seCur x + 1 = E2 at *
      go_enter Tryd.func44, Tryd.ntmps44
      go_wp2_with (first
        | ((with_reducible refine wpList_at ⟨some 1, _, _, _, _, _⟩ ?_); refine wpList_box_row rfl _ _ rfl (x.cs) rfl ?_; intro w1 re_1 s1 g1; have k1 : Below w.heap.size w w1 := grown_below g1 (Nat.le_refl _) (by simp); have B1 : Below w.heap.size w w1 := k1; have cre0 := re_1.cell (j := 0) rfl; have cre1 := re_1.cell (j := 1) rfl; have cre2 := re_1.cell (j := 2) rfl; have cre3 := re_1.cell (j := 3) rfl)
        | ((with_reducible refine wpList_at ⟨some 6, _, _, _, _, _⟩ ?_); refine wpList_valueG rfl _ (by exact exec_loadE _ _ rfl (w.heap.size) rfl x re_1) ?_))
      refine ((HC _).out).mono ?_
      rintro e w2 ⟨rfl, h2⟩
      have B2 := B1.trans (h2.mono B1.size)
      have re_2 := re_1.on h2
      clear re_1
      have cre0 := re_2.cell (j := 0) rfl
      have cre1 := re_2.cell (j := 1) rfl
      have cre2 := re_2.cell (j := 2) rfl
      have cre3 := re_2.cell (j := 3) rfl
      go_wp2_with fail
      go_ret2
      exact ⟨by rw [HE1.out, HE2.out]; rfl, B2⟩
theorem str_eql {l k : List UInt8} : (l == k) = decide (l = k) := by
  rw [Bool.eq_iff_iff]
  simp
set_option maxRecDepth 100000 in
set_option maxHeartbeats 4000000 in
theorem bequal_any (A B : Option Addr) (n c m d : Nat) (l k : List UInt8) (w : World) (hl : Reads w w.heap.size 1 A n (bvs l)) (hk : Reads w w.heap.size 1 B m (bvs k)) :
    Calls Tryd.prog 78 #[.slice A n c, .slice B m d] w (fun e w' => e = .returned (.bool (decide (l = k))) ∧ w = w') := by
  have HE := Lib.hid (str_eql (l := l) (k := k))
  generalize decide (l = k) = E at *
  go_enter Tryd.func78, Tryd.ntmps78
  go_wp2_with (first
    | ((with_reducible refine wpList_at ⟨some 6, _, _, _, _, _⟩ ?_); refine wpList_valueG rfl _ (by exact exec_string_of _ _ _ _ _ rfl Tryd.underlying42 Tryd.underlying5 Tryd.underlying9 rfl hl) ?_)
    | ((with_reducible refine wpList_at ⟨some 8, _, _, _, _, _⟩ ?_); refine wpList_valueG rfl _ (by exact exec_string_of _ _ _ _ _ rfl Tryd.underlying42 Tryd.underlying5 Tryd.underlying9 rfl hk) ?_))
  go_ret
  exact ⟨by rw [← HE.out]; rfl, rfl⟩
theorem prefix_dec {l k : List UInt8} : decide (k <+: l) = (decide (k.length ≤ l.length) && decide (l.take k.length = k)) := by
  rw [Bool.eq_iff_iff, Bool.and_eq_true, decide_eq_true_eq, decide_eq_true_eq, decide_eq_true_eq]
  constructor
  · rintro ⟨t, rfl⟩
    exact ⟨by simp, by simp⟩
  · rintro ⟨_, h⟩
    refine ⟨l.drop k.length, ?_⟩
    have h2 := List.take_append_drop k.length l
    rw [h] at h2
    exact h2
set_option maxRecDepth 100000 in
set_option maxHeartbeats 4000000 in
theorem hasPrefix_any (A B : Option Addr) (n c m d : Nat) (l k : List UInt8) (w : World) (hl : Reads w w.heap.size 1 A n (bvs l)) (hk : Reads w w.heap.size 1 B m (bvs k)) (hc : n ≤ c) :
    Calls Tryd.prog 67 #[.slice A n c, .slice B m d] w (fun e w' => e = .returned (.bool (decide (k <+: l))) ∧ w = w') := by
  have HE := Lib.hid (prefix_dec (l := l) (k := k))
  have hln := hl.bytes_len
  have hkn := hk.bytes_len
  rw [hln, hkn] at HE
  generalize decide (k <+: l) = E at *
  by_cases hmn : m ≤ n
  · have htk := hl.take (k := m) hmn
    rw [Nat.mul_one, show (bvs l).take m = bvs (l.take m) by unfold bvs; rw [List.map_take]] at htk
    have HQ := fun c => Lib.hid (bequal_any A B m c m d (l.take m) k w htk hk)
    rw [decide_eq_true hmn, Bool.true_and] at HE
    generalize decide (l.take m = k) = E2 at *
    clear hln hkn
    go_enter Tryd.func67, Tryd.ntmps67
    go_wp2_with fail
    refine ((HQ _).out).mono ?_
    rintro e _ ⟨rfl, rfl⟩
    go_wp2_with fail
    go_ret
    exact ⟨by rw [HE.out]; rfl, rfl⟩
  · rw [decide_eq_false hmn, Bool.false_and] at HE
    clear hln hkn
    go_enter Tryd.func67, Tryd.ntmps67
    go_wp2_with fail
    go_ret
    exact ⟨by rw [HE.out]; rfl, rfl⟩
end Go.Proofs.YtfclifolniefpaaDoor

/-
  What store.digest and encode return: contracts by walks. Conditions: the table of constants as laid; bounded lengths.
-/
namespace Go.Proofs.YtfclifolniefpaaDoor
open Go.RowKit

theorem Two.below {w : World} (o : Obj) : Below w.heap.size w (w.alloc o) := (Below.refl _ _).alloc (Nat.le_refl _) _
set_option maxRecDepth 100000 in
set_option maxHeartbeats 4000000 in
theorem sdigest_any (rec : Int) (A : Option Addr) (n c : Nat) (l : List UInt8) (w : World) (hin : stIn rec = true) (hK : Consts w) (hr : Reads w w.heap.size 1 A n (bvs l)) (hc : n ≤ c) (hn : n ≤ 3000) :
    Calls Tryd.prog 64 #[.int .i64 rec, .slice A n c] w (GivesV (.agg (bvs (dgl 5 [encInt rec, l])).toArray) w) := by
  have hrb := stIn_iff.1 hin
  have HI := fun W => Lib.hid (int_any rec W (by omega) (by omega))
  have HIL : Hid ((encInt rec).length ≤ 6) := Lib.hid (encInt_le6 hrb.1 (by omega))
  have HD : ∀ ps : List Part, ps.map Part.l = [encInt rec, l] → Hid (dig 5 ps = dgl 5 [encInt rec, l]) := fun ps h => Lib.hid (by rw [dig_dgl, h])
  have HDL := Lib.hid (dgl_len 5 [encInt rec, l])
  clear hrb
  generalize encInt rec = E at *
  generalize dgl 5 [E, l] = D at *
  go_enter Tryd.func64, Tryd.ntmps64
  go_wp2_with (with_reducible refine wpList_alloc_row (o := ⟨some 4, _, _, _, _, _⟩) rfl _ rfl zeros16 zero_b16 ?_; intro w1 r1 s1 g1; have b1 : Below w.heap.size w w1 := grown_below g1 (Nat.le_refl _) (by simp))
  refine ((HI _).out).mono ?_
  rintro e w2 ⟨v2, rfl, o2, h2⟩
  obtain ⟨A2, c2, rfl, hc2, _, d2⟩ := own_form o2
  have B2 := b1.trans (h2.mono b1.size)
  have r2 := r1.on h2
  have k2 := hK.on B2
  have l2 := hr.on B2
  clear o2
  go_wp2_with fail
  have hrp := readsP_two w2 42 A2 A E.length c2 n c E l d2 hc2 l2 hc
  have b3 : Below w2.heap.size w2 (w2.alloc (.cells #[.slice A2 E.length c2, .slice A n c] 42)) := Two.below _
  have B3 := B2.trans (b3.mono B2.size)
  refine (digest_big 5 _ _ _ 2 _ (k2.on b3) hrp (by omega) (parts_two_le _ _ 3000 (show E.length ≤ 3000 by have := HIL.out; omega) (show n ≤ 3000 from hn))).mono ?_
  rintro e w4 ⟨rfl, h4⟩
  rw [(HD _ rfl).out]
  have B4 := B3.trans (h4.mono B3.size)
  have r4 := (r2.on b3).on h4
  go_wp2_with ((with_reducible refine wpList_at ⟨none, .store _ (.tmp 4) _, _, _, _, _⟩ ?_); refine wpList_store_all rfl _ _ _ rfl w.heap.size rfl _ _ r4 (bvs D) rfl (bvs_one _) (b16_zeros _ HDL.out) (b16_size _ HDL.out) ?_; intro wz rz gz)
  have hload := run_loadVar_at (P := Tryd.prog) wz 76 ⟨w.heap.size, 0, none⟩ (bvs D) rz.cells _ Tryd.underlying76 rfl (b16_size _ HDL.out)
  exact bodyPost_ret (results_cell1 Tryd.results64 _ _ _ _ rfl hload) rfl ⟨rfl, below_kept B4 gz B4.size (by rintro k hk; cases hk; exact Nat.le_refl _)⟩
theorem own_len10 {w : World} {base n m : Nat} {e : TypeId} {v : Value} {xs : List Value} (h : w.ownsRow base e 1 v n xs) (hm : n = m) : w.ownsRow base e 1 v m xs := hm ▸ h
set_option maxRecDepth 100000 in
set_option maxHeartbeats 4000000 in
theorem sencode_any (rec seq : Int) (c : ByteArray) (w : World) (hin : stIn rec = true) (hK : Consts w) (h1 : 0 ≤ seq) (h2 : seq ≤ 1099511627776) (hc : c.size ≤ 2000) :
    Calls Tryd.prog 46 #[.int .i64 rec, .int .i64 seq, .string c] w (Gives (stEnc rec seq (tl c)) w) := by
  obtain ⟨i0, hi0, hz0, hz1, hz2⟩ := info_parts info_u8
  have HI := fun W => Lib.hid (int_any seq W (by omega) (by omega))
  have HB := fun W => Lib.hid (bytes_any c W (by omega))
  have HDG := fun A n c l W hK hr hc hn => Lib.hid (sdigest_any rec A n c l W hin hK hr hc hn)
  have HIL : Hid ((encInt seq).length ≤ 6) := Lib.hid (encInt_le6 h1 h2)
  have HBL : Hid ((encBytes (tl c)).length ≤ 2010) := Lib.hid (encBytes_le (tl c) 2000 (by rw [tl_len]; exact hc) (by omega))
  have HE : Hid (stEnc rec seq (tl c) = (encInt seq ++ encBytes (tl c)) ++ dgl 5 [encInt rec, encInt seq ++ encBytes (tl c)]) := Lib.hid rfl
  have HDL := Lib.hid (dgl_len 5 [encInt rec, encInt seq ++ encBytes (tl c)])
  change ∀ W, Hid (Calls _ _ _ W (Gives (encBytes (tl c)) W)) at HB
  generalize stEnc rec seq (tl c) = R at *
  generalize encInt seq = E at *
  generalize encBytes (tl c) = EB at *
  go_enter Tryd.func46, Tryd.ntmps46
  go_wp2_with fail
  refine ((HI _).out).mono ?_
  rintro e w1 ⟨v1, rfl, o1, B1⟩
  obtain ⟨A1, c1, rfl, hc1, _, d1⟩ := own_form o1
  clear o1
  go_wp2_with fail
  refine ((HB _).out).mono ?_
  rintro e w2 ⟨v2, rfl, o2, b2⟩
  obtain ⟨A2, c2, rfl, hc2, _, d2⟩ := own_form o2
  have d12 := d1.on b2
  have B2 := B1.trans (b2.mono B1.size)
  clear o2
  go_wp2_with fail
  have hrp := readsP_two w2 42 A1 A2 E.length c1 EB.length c2 E EB d12 hc1 d2 hc2
  have b3 : Below w2.heap.size w2 (w2.alloc (.cells #[.slice A1 E.length c1, .slice A2 EB.length c2] 42)) := Two.below _
  have B3 := B2.trans (b3.mono B2.size)
  refine (concat_any _ _ _ 2 _ hrp (by omega) (parts_two_le _ _ 100000 (show E.length ≤ 100000 by have := HIL.out; omega) (show EB.length ≤ 100000 by have := HBL.out; omega))).mono ?_
  rintro e w4 ⟨v4, rfl, o4, h4⟩
  rw [allBytes_two] at o4
  have o4 := own_len10 o4 List.length_append
  obtain ⟨A4, c4, rfl, hc4, _, d4⟩ := own_form o4
  have B4 := B3.trans (h4.mono B3.size)
  have hEE : E.length + EB.length ≤ 2016 := by have := HIL.out; have := HBL.out; omega
  have HEE := Lib.hid hEE
  clear hEE
  go_wp2_with fail
  refine ((HDG _ _ _ _ _ (hK.on B4) d4 hc4 (by have := HEE.out; omega)).out).mono ?_
  rintro e w5 ⟨rfl, h5⟩
  have B5 := B4.trans (h5.mono B4.size)
  have o5 := own_below o4 h5
  clear d4 o4
  generalize dgl 5 [encInt rec, E ++ EB] = D at *
  have hbase : (w2.alloc (.cells #[.slice A1 E.length c1, .slice A2 EB.length c2] 42)).heap.size ≤ w5.heap.size := Nat.le_trans h4.size h5.size
  go_wp2_with (first
    | (with_reducible refine wpList_alloc_row (o := ⟨some 8, _, _, _, _, _⟩) rfl _ rfl zeros16 zero_b16 ?_; intro w6 r6 s6 g6)
    | ((with_reducible refine wpList_at ⟨none, .store _ (.tmp 8) _, _, _, _, _⟩ ?_); refine wpList_store_all rfl _ _ _ rfl w5.heap.size rfl _ _ r6 (bvs D) rfl (bvs_one _) (b16_zeros _ HDL.out) (b16_size _ HDL.out) ?_; intro w7 r7 g7; have k7 := below_kept (grown_below g6 (Nat.le_refl _) (by simp)) g7 (Nat.le_of_lt s6) (by rintro q hq; cases hq; exact Nat.le_refl _); have o7 := own_below o5 k7; have d7 := r7.reads (size := 1) (n := 16) (by rw [bvs_length, HDL.out]); have B7 := B5.trans (k7.mono B5.size))
    | (at_builtin; refine wpList_append_src _ rfl (.tmp 18) (.tmp 19) _ _ rfl _ 5 i0 _ 1 1 Tryd.underlying42 hi0 hz0 hz1 hz2 rfl _ _ _ rfl o7 16 _ (Src.ofReads _ Tryd.underlying42 d7 (bvs_one _)) (by unfold maxLen; have := HEE.out; omega) (by have := HEE.out; omega) (Nat.le_trans hbase k7.size) ?_; intro v8 w8 o8 h8))
  go_ret
  have e1 : R.length = E.length + EB.length + 16 := by rw [HE.out, List.length_append, List.length_append, HDL.out]
  refine ⟨v8, rfl, ?_, B7.trans (h8.mono B3.size)⟩
  rw [e1, HE.out, bvs_append]
  exact own_base o8 B3.size
end Go.Proofs.YtfclifolniefpaaDoor
