/-
  What updates leave of records, complete or not: numbers and lists alone. No condition.
-/
import Derived.Test.YtfclifolniefpaaDoorStMU
set_option linter.unusedSimpArgs false
set_option linter.unusedVariables false
namespace Go.Proofs.YtfclifolniefpaaDoor

/-! ## Memories of 128 sectors -/
def StOK (fs : List ByteArray) : Prop := fs.length = 128 ∧ ∀ s ∈ fs, s.size = 256
section
variable {fs gs : List ByteArray} {b : ByteArray} {k : Int}
theorem StOK.at (h : StOK fs) (h0 : 0 ≤ k) (h1 : k < 128) : ∃ (j : Nat) (s : ByteArray), k = (j : Int) ∧ fs[j]? = some s ∧ s.size = 256 := by
  have hj : k.toNat < fs.length := by rw [h.1]; omega
  exact ⟨k.toNat, fs[k.toNat], by omega, List.getElem?_eq_getElem hj, h.2 _ (List.getElem_mem hj)⟩
theorem StOK.read (h : StOK fs) (h0 : 0 ≤ k) (h1 : k < 128) : (flRead fs k).size = 256 := by
  obtain ⟨j, s, rfl, hs, h2⟩ := h.at h0 h1
  rw [flRead_nat hs, h2]
theorem StOK.write (h : StOK fs) (hb : b.size = 256) (k c : Int) : StOK (flWrite fs k b c) := by
  refine ⟨by rw [flWrite_length]; exact h.1, fun s hs => ?_⟩
  exact flvalid_size (flvalid_write (flvalid_of (by rw [h.1]; omega) h.2) hb c) hs
theorem flRead_write (h : StOK fs) (hb : b.size = 256) (h0 : 0 ≤ k) (h1 : k < 128) (c j : Int) : flRead (flWrite fs k b c) j = if j = k then flW b c (flRead fs k) else flRead fs j := by
  obtain ⟨a, s, rfl, hs, h2⟩ := h.at h0 h1
  have ha := (List.getElem?_eq_some_iff.1 hs).1
  rw [flWrite_nat hs hb]
  by_cases hj : j = (a : Int)
  · subst hj
    rw [if_pos rfl, flRead_nat hs, flRead_nat (List.getElem?_set_self ha)]
  · rw [if_neg hj]
    cases hi : flIn fs j with
    | false =>
      rw [flRead_no hi, flRead_no]
      unfold flIn at *
      rw [List.length_set]
      exact hi
    | true =>
      obtain ⟨i, rfl, hil⟩ := flIn_iff.1 hi
      have hg : fs[i]? = some fs[i] := List.getElem?_eq_getElem hil
      rw [flRead_nat hg, flRead_nat (s := fs[i]) (by rw [List.getElem?_set_ne (by omega)]; exact hg)]
theorem StOK.zero : StOK (flNew 128) := by
  rw [show (128 : Int) = ((128 : Nat) : Int) from rfl, (flNew_nat (n := 128) (by omega)).1]
  exact ⟨List.length_replicate, fun s hs => by rw [List.eq_of_mem_replicate hs, fullS_size]⟩
theorem read_zero {j : Int} (h0 : 0 ≤ j) (h1 : j < 128) : flRead (flNew 128) j = fullS 0 := by
  rw [show (128 : Int) = ((128 : Nat) : Int) from rfl, (flNew_nat (n := 128) (by omega)).1]
  rw [show j = ((j.toNat : Nat) : Int) by omega]
  exact flRead_nat (by rw [List.getElem?_replicate, if_pos (by omega)])
end

/-! ## Areas -/
def arL (fs : List ByteArray) (a : Int) : List UInt8 := stCat ((List.range 8).map fun i : Nat => flRead fs (a + (i : Int)))
section
variable {fs gs : List ByteArray} {rec a : Int}
theorem stA0_ar : stA0 rec (stL fs rec) = stDec rec (arL fs (16 * rec)) := by
  unfold stA0 stL stSecs arL
  rw [← List.map_take, show (List.range 16).take 8 = List.range 8 by decide]
theorem stA1_ar : stA1 rec (stL fs rec) = stDec rec (arL fs (16 * rec + 8)) := by
  unfold stA1 stL stSecs arL
  rw [← List.map_drop, ← List.map_take, show ((List.range 16).drop 8).take 8 = (List.range 8).map (8 + ·) by decide, List.map_map]
  congr 2
  refine List.map_congr_left fun i _ => ?_
  show flRead fs (16 * rec + ((8 + i : Nat) : Int)) = _
  congr 1
  omega
theorem arL_congr (h : ∀ j : Int, a ≤ j → j < a + 8 → flRead fs j = flRead gs j) : arL fs a = arL gs a := by
  unfold arL
  congr 1
  refine List.map_congr_left fun i hi => ?_
  have := List.mem_range.1 hi
  exact h _ (by omega) (by omega)
theorem stL_congr (h : ∀ j : Int, 16 * rec ≤ j → j < 16 * rec + 16 → flRead fs j = flRead gs j) : stL fs rec = stL gs rec := by
  unfold stL stSecs
  refine List.map_congr_left fun i hi => ?_
  have := List.mem_range.1 hi
  exact h _ (by omega) (by omega)
theorem cat_at : ∀ (l : List ByteArray) (i : Nat) (s : ByteArray) (j : Nat), (∀ s ∈ l, s.size = 256) → l[i]? = some s → j < 256 → (stCat l)[256 * i + j]? = (tl s)[j]?
  | [], i, s, j, _, h, _ => by cases h
  | x :: l, 0, s, j, hs, h, hj => by
    obtain rfl : x = s := by simpa using h
    unfold stCat
    rw [List.flatMap_cons, List.getElem?_append_left (by rw [tl_len, hs x (List.mem_cons_self)]; omega)]
    congr 1
    omega
  | x :: l, i + 1, s, j, hs, h, hj => by
    have h1 := cat_at l i s j (fun y hy => hs y (List.mem_cons_of_mem _ hy)) (by simpa using h) hj
    have hx : (tl x).length = 256 := by rw [tl_len, hs x (List.mem_cons_self)]
    unfold stCat at *
    rw [List.flatMap_cons, List.getElem?_append_right (by rw [hx]; omega), hx, show 256 * (i + 1) + j - 256 = 256 * i + j by omega]
    exact h1
theorem arL_at (h : StOK fs) (h0 : 0 ≤ a) (h1 : a + 8 ≤ 128) {i j : Nat} (hi : i < 8) (hj : j < 256) : (arL fs a)[256 * i + j]? = (tl (flRead fs (a + (i : Int))))[j]? := by
  refine cat_at _ i _ j (fun s hs => ?_) ?_ hj
  · obtain ⟨q, hq, rfl⟩ := List.mem_map.1 hs
    have := List.mem_range.1 hq
    exact h.read (by omega) (by omega)
  · rw [List.getElem?_map, List.getElem?_range hi]
    rfl
theorem stPad_at (b : List UInt8) {j : Nat} (hj : j < 256) : (stPad b)[j]? = some (b.getD j 0) := by
  unfold stPad
  rw [List.getElem?_take, if_pos hj]
  by_cases h : j < b.length
  · rw [List.getElem?_append_left h, List.getD, List.getElem?_eq_getElem h]
    rfl
  · rw [List.getElem?_append_right (by omega), List.getElem?_replicate, if_pos (by omega), List.getD, List.getElem?_eq_none (by omega)]
    rfl
theorem stNil_at {j : Nat} (hj : j < 256) : (tl (stSec []))[j]? = some 0 := by unfold stSec; rw [tl_mk, stPad_at _ hj]; rfl
theorem getD_drop (b : List UInt8) (i j : Nat) : (b.drop i).getD j 0 = b.getD (i + j) 0 := by rw [List.getD, List.getD, List.getElem?_drop]
/-- An area that begins with a zero is not valid. -/
theorem ar_none (h : StOK fs) (h0 : 0 ≤ a) (h1 : a + 8 ≤ 128) (hz : (tl (flRead fs a))[0]? = some 0) : stDec rec (arL fs a) = (0, []) := by
  refine stDec_zero ?_
  have := arL_at h h0 h1 (i := 0) (j := 0) (by omega) (by omega)
  rw [List.head?_eq_getElem?]
  have e : a + ((0 : Nat) : Int) = a := by omega
  rw [e] at this
  rw [← hz]
  exact this
end

/-! ## What a torn area can be -/
theorem ofNat_inj {x y : Nat} (hx : x < 256) (hy : y < 256) (h : UInt8.ofNat x = UInt8.ofNat y) : x = y := by
  have := congrArg UInt8.toNat h
  rw [UInt8.toNat_ofNat', UInt8.toNat_ofNat'] at this
  omega
theorem leb_one {u : Nat} (h : u < 128) (t : List UInt8) : leb u ++ t = UInt8.ofNat u :: t := by rw [leb_small h]; rfl
theorem leb_two {u : Nat} (h : ¬ u < 128) (h2 : u < 16384) (t : List UInt8) : leb u ++ t = UInt8.ofNat (u % 128 + 128) :: UInt8.ofNat (u / 128) :: t := by rw [leb_more h, leb_small (by omega)]; rfl
theorem zz_nn {n : Int} (h : 0 ≤ n) : zz n = (2 * n).toNat := by unfold zz; rw [if_pos h]
/-- The first bytes of valid bytes with a small number. -/
theorem stEnc_first {rec n : Int} (h1 : 1 ≤ n) (h2 : n ≤ 60) (c : List UInt8) : stEnc rec n c = UInt8.ofNat (2 * n).toNat :: (leb (2 * c.length) ++ (c ++ dgl 5 [encInt rec, stH n c])) := by
  rw [stEnc_app, encInt, zz_nn (by omega), leb_one (by omega), encBytes, encInt, zz_nn (by omega), List.append_assoc]
  rw [show (2 * (c.length : Int)).toNat = 2 * c.length by omega]
theorem pre_at {l X : List UInt8} (h : l <+: X) {i : Nat} {x : UInt8} (hi : l[i]? = some x) : X[i]? = some x := by
  obtain ⟨t, rfl⟩ := h
  rw [List.getElem?_append_left (List.getElem?_eq_some_iff.1 hi).1, hi]
/-- Bytes of which each is that of b or zero. -/
def Torn (X b : List UInt8) (m : Nat) : Prop := ∀ p, p < m → X[p]? = some 0 ∨ X[p]? = some (b.getD p 0)
theorem torn_at {X b l : List UInt8} {m : Nat} (h : Torn X b m) (hp : l <+: X) {i : Nat} {x y : UInt8} (hi : i < m) (hx : l[i]? = some x) (hy : b[i]? = some y) : x = 0 ∨ x = y := by
  rw [← Option.some.injEq, ← Option.some.injEq x y, ← pre_at hp hx]
  rcases h i hi with h1 | h1
  · exact .inl h1
  · refine .inr ?_
    rw [h1, List.getD, hy]
    rfl
/-- The number that torn bytes hold. -/
theorem torn_seq {rec n n' : Int} {c c' X : List UInt8} {m : Nat} (h1 : 1 ≤ n) (h2 : n ≤ 60) (hm : 0 < m) (hX : Torn X (stEnc rec n c) m) (g1 : 1 ≤ n') (hp : stEnc rec n' c' <+: X) : n' = n := by
  have hb : (stEnc rec n c)[0]? = some (UInt8.ofNat (2 * n).toNat) := by rw [stEnc_first h1 h2]; rfl
  by_cases hs : zz n' < 128
  · have hw : (stEnc rec n' c')[0]? = some (UInt8.ofNat (zz n')) := by rw [stEnc_app, encInt, leb_one hs]; rfl
    have hz := zz_nn (n := n') (by omega)
    rcases torn_at hX hp hm hw hb with h | h
    · have := ofNat_inj (x := zz n') (y := 0) (by omega) (by omega) h
      omega
    · have := ofNat_inj (x := zz n') (by omega) (by omega) h
      omega
  · have hw : (stEnc rec n' c')[0]? = some (UInt8.ofNat (zz n' % 128 + 128)) := by rw [stEnc_app, encInt, leb_more hs]; rfl
    rcases torn_at hX hp hm hw hb with h | h
    · have := ofNat_inj (x := zz n' % 128 + 128) (y := 0) (by omega) (by omega) h
      omega
    · have := ofNat_inj (x := zz n' % 128 + 128) (by omega) (by omega) h
      omega
/-- The length that torn bytes hold. -/
theorem torn_len {rec n : Int} {c c' X : List UInt8} {m : Nat} (h1 : 1 ≤ n) (h2 : n ≤ 60) (hm : 3 ≤ m) (hc : c.length ≤ 2000) (hc' : c'.length ≤ 2000) (hX : Torn X (stEnc rec n c) m) (hp : stEnc rec n c' <+: X) : c'.length = 0 ∨ c'.length = c.length := by
  have eb := stEnc_first (rec := rec) h1 h2 c
  have ew := stEnc_first (rec := rec) h1 h2 c'
  by_cases hs : 2 * c'.length < 128
  · rw [leb_one hs] at ew
    have hw : (stEnc rec n c')[1]? = some (UInt8.ofNat (2 * c'.length)) := by rw [ew]; rfl
    by_cases ht : 2 * c.length < 128
    · rw [leb_one ht] at eb
      have hb : (stEnc rec n c)[1]? = some (UInt8.ofNat (2 * c.length)) := by rw [eb]; rfl
      rcases torn_at hX hp (by omega) hw hb with h | h
      · have := ofNat_inj (y := 0) (by omega) (by omega) h
        omega
      · have := ofNat_inj (by omega) (by omega) h
        omega
    · rw [leb_two ht (by omega)] at eb
      have hb : (stEnc rec n c)[1]? = some (UInt8.ofNat (2 * c.length % 128 + 128)) := by rw [eb]; rfl
      rcases torn_at hX hp (by omega) hw hb with h | h
      · have := ofNat_inj (y := 0) (by omega) (by omega) h
        omega
      · have := ofNat_inj (by omega) (by omega) h
        omega
  · rw [leb_two hs (by omega)] at ew
    have hw : (stEnc rec n c')[1]? = some (UInt8.ofNat (2 * c'.length % 128 + 128)) := by rw [ew]; rfl
    have hw2 : (stEnc rec n c')[2]? = some (UInt8.ofNat (2 * c'.length / 128)) := by rw [ew]; rfl
    by_cases ht : 2 * c.length < 128
    · rw [leb_one ht] at eb
      have hb : (stEnc rec n c)[1]? = some (UInt8.ofNat (2 * c.length)) := by rw [eb]; rfl
      rcases torn_at hX hp (by omega) hw hb with h | h
      · have := ofNat_inj (y := 0) (by omega) (by omega) h
        omega
      · have := ofNat_inj (by omega) (by omega) h
        omega
    · rw [leb_two ht (by omega)] at eb
      have hb : (stEnc rec n c)[1]? = some (UInt8.ofNat (2 * c.length % 128 + 128)) := by rw [eb]; rfl
      have hb2 : (stEnc rec n c)[2]? = some (UInt8.ofNat (2 * c.length / 128)) := by rw [eb]; rfl
      rcases torn_at hX hp (by omega) hw hb with h | h
      · have := ofNat_inj (y := 0) (by omega) (by omega) h
        omega
      · have e1 := ofNat_inj (by omega) (by omega) h
        rcases torn_at hX hp (by omega) hw2 hb2 with h | h
        · have := ofNat_inj (y := 0) (by omega) (by omega) h
          omega
        · have := ofNat_inj (by omega) (by omega) h
          omega
/-- The bytes w are those of b, but for zeros in place of some. -/
def stCh (b w : List UInt8) : Prop := ∀ (i : Nat) (x : UInt8), w[i]? = some x → x = 0 ∨ b[i]? = some x
theorem torn_dec {rec n : Int} {c X : List UInt8} (h1 : 1 ≤ n) (h2 : n ≤ 60) (hc : c.length ≤ 2000) (hX : Torn X (stEnc rec n c) (256 * stCnt (stEnc rec n c))) :
    (stDec rec X).1 = 0 ∨ ((stDec rec X).1 = n ∧ stCh (stEnc rec n c) (stEnc rec n (stDec rec X).2)) := by
  by_cases h0 : (stDec rec X).1 = 0
  · exact .inl h0
  obtain ⟨g1, g2, g3, g4⟩ := stDec_pos h0
  have hp := stEnc_pos rec n c
  have hq : (stEnc rec n c).length ≤ 256 * stCnt (stEnc rec n c) := by unfold stCnt; omega
  have hn := torn_seq h1 h2 (by omega) hX g1 g4
  rw [hn] at g4
  have hl := torn_len h1 h2 (by omega) hc g3 hX g4
  refine .inr ⟨hn, fun i x hx => ?_⟩
  have hle : (stEnc rec n (stDec rec X).2).length ≤ (stEnc rec n c).length := by
    rw [stEnc_len, stEnc_len]
    unfold stH encBytes
    simp only [List.length_append]
    rcases hl with h | h
    · rw [h]
      have e : (encInt ((0 : Nat) : Int)).length = 1 := rfl
      have := leb_pos (zz (c.length : Int))
      rw [e]
      unfold encInt
      omega
    · rw [h]
      omega
  have hi := (List.getElem?_eq_some_iff.1 hx).1
  have hxx := pre_at g4 hx
  rcases hX i (by omega) with h | h
  · rw [hxx] at h
    exact .inl (Option.some.inj h)
  · rw [hxx, List.getD, List.getElem?_eq_getElem (by omega)] at h
    exact .inr (by rw [List.getElem?_eq_getElem (by omega)]; exact h.symm)
theorem whole_pre {b X : List UInt8} {m : Nat} (hm : b.length ≤ m) (h : ∀ p, p < m → X[p]? = some (b.getD p 0)) : b <+: X := by
  refine List.prefix_iff_getElem?.2 fun i hi => ?_
  rw [h i (by omega), List.getD, List.getElem?_eq_getElem hi]
  rfl
end Go.Proofs.YtfclifolniefpaaDoor

/-
  What an update leaves of its record, complete or not: numbers and lists alone. No condition.
-/
namespace Go.Proofs.YtfclifolniefpaaDoor

/-! ## The writes -/
theorem stSec_nil : stSec [] = fullS 0 := by
  unfold stSec stPad fullS
  rw [List.nil_append, List.take_replicate]
  rfl
theorem stCnt_of {b : List UInt8} {k : Nat} (h : k < stCnt b) : 256 * k < b.length := by unfold stCnt at h; omega
theorem stWrt_zero (f : Int) (b : List UInt8) : stWrt f b 0 = ⟨4, 0, f, stSec []⟩ := rfl
theorem stWrt_mid {b : List UInt8} {k : Nat} (f : Int) (h0 : k ≠ 0) (h : k < stCnt b) : stWrt f b k = ⟨4, 0, f + (k : Int), stSec (b.drop (256 * k))⟩ := by
  unfold stWrt
  rw [if_neg h0, if_pos (stCnt_of h)]
theorem stWrt_last {b : List UInt8} (f : Int) (h : 0 < stCnt b) : stWrt f b (stCnt b) = ⟨4, 0, f, stSec b⟩ := by
  unfold stWrt
  rw [if_neg (by omega), if_neg (by unfold stCnt; omega)]
theorem stWrt_cell {b : List UInt8} {k : Nat} {f : Int} (h : k ≤ stCnt b) (h8 : stCnt b ≤ 8) : f ≤ (stWrt f b k).c ∧ (stWrt f b k).c < f + 8 ∧ (stWrt f b k).k = 4 ∧ (stWrt f b k).s.size = 256 := by
  by_cases h0 : k = 0
  · subst h0
    rw [stWrt_zero]
    exact ⟨Int.le_refl _, by show f < f + 8; omega, rfl, stSec_size _⟩
  · by_cases h1 : k < stCnt b
    · rw [stWrt_mid f h0 h1]
      exact ⟨by show f ≤ f + (k : Int); omega, by show f + (k : Int) < f + 8; omega, rfl, stSec_size _⟩
    · obtain rfl : k = stCnt b := by omega
      rw [stWrt_last f (by omega)]
      exact ⟨Int.le_refl _, by show f < f + 8; omega, rfl, stSec_size _⟩
theorem flW_atG {s old : ByteArray} (hs : s.size = 256) (c : Int) {i : Nat} (hi : i < 256) :
    (tl (flW s c old))[i]? = if c < 0 ∨ (i : Int) < c then (tl s)[i]? else (tl old)[i]? := by
  cases hw : flWhole c with
  | true =>
    rw [flW_whole hw, if_pos]
    unfold flWhole at hw
    rw [Bool.or_eq_true, decide_eq_true_eq, decide_eq_true_eq] at hw
    omega
  | false =>
    obtain ⟨k, rfl, hk⟩ := nat_of_cut hw
    rw [tl_cut hk]
    have hl : ((tl s).take k).length = k := by rw [List.length_take, tl_len, hs]; omega
    by_cases h : i < k
    · rw [if_pos (.inr (by omega)), List.getElem?_append_left (by omega), List.getElem?_take, if_pos h]
    · rw [if_neg (by omega), List.getElem?_append_right (by omega), hl, List.getElem?_drop]
      congr 1
      omega
theorem stSec_at (b : List UInt8) {j : Nat} (hj : j < 256) : (tl (stSec b))[j]? = some (b.getD j 0) := by unfold stSec; rw [tl_mk, stPad_at _ hj]

section
variable {fs ws' : List ByteArray} {f : Int} {b : List UInt8} {ws : List StA}
theorem mem_read (h : StOK fs) (hf0 : 0 ≤ f) (hf1 : f + 8 ≤ 128) (hb : stCnt b ≤ 8) (hws : ∀ j, j ≤ stCnt b → ws[j]? = some (stWrt f b j)) : ∀ k, k ≤ stCnt b → StOK (stMem fs ws k) ∧
    ∀ j, flRead (stMem fs ws k) j = if k = 0 then flRead fs j else if j = f then stSec [] else if f < j ∧ j < f + (k : Int) then stSec (b.drop (256 * (j - f).toNat)) else flRead fs j
  | 0, _ => ⟨h, fun j => by rw [if_pos rfl]; rfl⟩
  | k + 1, hk => by
    obtain ⟨h1, h2⟩ := mem_read h hf0 hf1 hb hws k (by omega)
    rw [stMem_succ (hws k (by omega))]
    by_cases h0 : k = 0
    · subst h0
      rw [stWrt_zero]
      refine ⟨h1.write (stSec_size _) _ _, fun j => ?_⟩
      show flRead (flWrite _ f (stSec []) (-1)) j = _
      rw [flRead_write h1 (stSec_size _) hf0 (by omega), flW_again, h2 j, if_pos rfl, if_neg (Nat.succ_ne_zero 0)]
      by_cases hj : j = f
      · rw [if_pos hj, if_pos hj]
      · rw [if_neg hj, if_neg hj, if_neg (by omega)]
    · rw [stWrt_mid f h0 (by omega)]
      refine ⟨h1.write (stSec_size _) _ _, fun j => ?_⟩
      show flRead (flWrite _ (f + (k : Int)) (stSec _) (-1)) j = _
      rw [flRead_write h1 (stSec_size _) (by omega) (by omega), flW_again, h2 j, if_neg h0, if_neg (Nat.succ_ne_zero k)]
      by_cases hj : j = f + (k : Int)
      · subst hj
        rw [if_pos rfl, if_neg (by omega), if_pos (by omega), show (f + (k : Int) - f).toNat = k by omega]
      · rw [if_neg hj]
        by_cases hjf : j = f
        · rw [if_pos hjf, if_pos hjf]
        · rw [if_neg hjf, if_neg hjf]
          by_cases hb2 : f < j ∧ j < f + (k : Int)
          · rw [if_pos hb2, if_pos (by omega)]
          · rw [if_neg hb2, if_neg (by omega)]
/-- A memory behind k writes and the last one, cut or not. -/
theorem last_at (h : StOK fs) (hf0 : 0 ≤ f) (hf1 : f + 8 ≤ 128) (hb : stCnt b ≤ 8) (hb0 : 0 < stCnt b) (hws : ∀ j, j ≤ stCnt b → ws[j]? = some (stWrt f b j)) (cc : Int) {p : Nat} (hp : p < 256 * stCnt b) :
    (arL (flWrite (stMem fs ws (stCnt b)) f (stSec b) cc) f)[p]? = if 256 ≤ p ∨ cc < 0 ∨ (p : Int) < cc then some (b.getD p 0) else some 0 := by
  obtain ⟨h1, h2⟩ := mem_read h hf0 hf1 hb hws (stCnt b) (Nat.le_refl _)
  have h3 := h1.write (b := stSec b) (stSec_size _) f cc
  obtain ⟨i, j, rfl, hj⟩ : ∃ i j, p = 256 * i + j ∧ j < 256 := ⟨p / 256, p % 256, by omega, by omega⟩
  rw [arL_at h3 hf0 hf1 (by omega) hj, flRead_write h1 (stSec_size _) hf0 (by omega)]
  by_cases hi : i = 0
  · subst hi
    rw [if_pos (by omega), flW_atG (stSec_size _) _ hj, h2 f, if_neg (show ¬ stCnt b = 0 by omega), if_pos rfl, stSec_at _ hj, stNil_at hj, show 256 * 0 + j = j by omega]
    by_cases hc : cc < 0 ∨ (j : Int) < cc
    · rw [if_pos hc, if_pos (.inr hc)]
    · rw [if_neg hc, if_neg (by omega)]
  · rw [if_neg (by omega), h2, if_neg (by omega), if_neg (by omega), if_pos (by omega), stSec_at _ hj, getD_drop, if_pos (by omega), show (f + (i : Int) - f).toNat = i by omega]
theorem off_write (h : StOK fs) (hf0 : 0 ≤ f) (hf1 : f + 8 ≤ 128) (hb : stCnt b ≤ 8) (hws : ∀ j, j ≤ stCnt b → ws[j]? = some (stWrt f b j)) {k : Nat} (hk : k ≤ stCnt b) (cc : Int) :
    StOK (flWrite (stMem fs ws k) (stWrt f b k).c (stWrt f b k).s cc) ∧ ∀ j, ¬ (f ≤ j ∧ j < f + 8) → flRead (flWrite (stMem fs ws k) (stWrt f b k).c (stWrt f b k).s cc) j = flRead fs j := by
  obtain ⟨h1, h2⟩ := mem_read h hf0 hf1 hb hws k hk
  obtain ⟨c1, c2, _, c4⟩ := stWrt_cell (f := f) hk hb
  refine ⟨h1.write c4 _ _, fun j hj => ?_⟩
  rw [flRead_write h1 c4 (by omega) (by omega), if_neg (by omega), h2 j]
  split
  · rfl
  · rw [if_neg (by omega), if_neg (by omega)]
theorem torn_write (h : StOK fs) (hf0 : 0 ≤ f) (hf1 : f + 8 ≤ 128) (hb : stCnt b ≤ 8) (hb0 : 0 < stCnt b) (hws : ∀ j, j ≤ stCnt b → ws[j]? = some (stWrt f b j)) {k : Nat} (hk : k ≤ stCnt b) {cc : Int} (hcc : 0 ≤ cc) :
    arL (flWrite (stMem fs ws k) (stWrt f b k).c (stWrt f b k).s cc) f = arL fs f ∨ (tl (flRead (flWrite (stMem fs ws k) (stWrt f b k).c (stWrt f b k).s cc) f))[0]? = some 0 ∨ Torn (arL (flWrite (stMem fs ws k) (stWrt f b k).c (stWrt f b k).s cc) f) b (256 * stCnt b) := by
  obtain ⟨h1, h2⟩ := mem_read h hf0 hf1 hb hws k hk
  by_cases h0 : k = 0
  · subst h0
    rw [stWrt_zero, stMem_zero]
    show arL (flWrite fs f (stSec []) cc) f = _ ∨ (tl (flRead (flWrite fs f (stSec []) cc) f))[0]? = _ ∨ _
    by_cases hc : cc = 0
    · subst hc
      refine .inl (arL_congr fun j h3 h4 => ?_)
      rw [flRead_write h (stSec_size _) hf0 (by omega)]
      split
      · rename_i hj
        subst hj
        refine ba_ext ?_
        rw [show (0 : Int) = ((0 : Nat) : Int) from rfl, tl_cut (by omega)]
        rfl
      · rfl
    · refine .inr (.inl ?_)
      rw [flRead_write h (stSec_size _) hf0 (by omega), if_pos rfl, flW_atG (stSec_size _) _ (by omega), if_pos (.inr (by omega)), stNil_at (by omega)]
  · by_cases hl : k < stCnt b
    · refine .inr (.inl ?_)
      rw [stWrt_mid f h0 hl]
      show (tl (flRead (flWrite _ (f + (k : Int)) _ cc) f))[0]? = _
      rw [flRead_write h1 (stSec_size _) (by omega) (by omega), if_neg (by omega), h2, if_neg h0, if_pos rfl, stNil_at (by omega)]
    · obtain rfl : k = stCnt b := by omega
      refine .inr (.inr fun p hp => ?_)
      rw [stWrt_last f hb0]
      show (arL (flWrite _ f (stSec b) cc) f)[p]? = _ ∨ (arL (flWrite _ f (stSec b) cc) f)[p]? = _
      rw [last_at h hf0 hf1 hb hb0 hws cc hp]
      split
      · exact .inr rfl
      · exact .inl rfl
theorem whole_write (h : StOK fs) (hf0 : 0 ≤ f) (hf1 : f + 8 ≤ 128) (hb : stCnt b ≤ 8) (hb0 : 0 < stCnt b) (hws : ∀ j, j ≤ stCnt b → ws[j]? = some (stWrt f b j)) :
    b <+: arL (stMem fs ws (stCnt b + 1)) f := by
  rw [stMem_succ (hws _ (Nat.le_refl _)), stWrt_last f hb0]
  refine whole_pre (m := 256 * stCnt b) (by unfold stCnt; omega) fun p hp => ?_
  show (arL (flWrite _ f (stSec b) (-1)) f)[p]? = _
  rw [last_at h hf0 hf1 hb hb0 hws (-1) hp, if_pos (.inr (.inl (by omega)))]
end

/-! ## The record's current content -/
def cuA (a0 a1 : Int × List UInt8) : Int × List UInt8 := if a0.1 < a1.1 then a1 else a0
def tgA (a0 a1 : Int × List UInt8) : Int := if (cuA a0 a1).1 = 0 then 0 else if a0.1 < a1.1 then 0 else 1
section
variable {fs m : List ByteArray} {rec : Int} {a0 a1 x : Int × List UInt8}
theorem stCur_ar : stCur rec (stL fs rec) = cuA (stDec rec (arL fs (16 * rec))) (stDec rec (arL fs (16 * rec + 8))) := by
  unfold stCur stNew cuA
  rw [stA0_ar, stA1_ar]
  simp only [decide_eq_true_eq]
theorem stTgt_ar : stTgt rec (stL fs rec) = tgA (stDec rec (arL fs (16 * rec))) (stDec rec (arL fs (16 * rec + 8))) := by
  unfold stTgt tgA
  rw [stCur_ar]
  unfold stNew
  rw [stA0_ar, stA1_ar]
  simp only [decide_eq_true_eq]
theorem tgA_01 : tgA a0 a1 = 0 ∨ tgA a0 a1 = 1 := by
  unfold tgA
  split
  · exact .inl rfl
  · split
    · exact .inl rfl
    · exact .inr rfl
theorem cu_0 (n0 : 0 ≤ a0.1) (n1 : 0 ≤ a1.1) (z0 : a0.1 = 0 → a0 = (0, [])) (ht : tgA a0 a1 = 0) : ((x = a0 ∨ x = (0, [])) → cuA x a1 = cuA a0 a1) ∧ (x.1 = (cuA a0 a1).1 + 1 → cuA x a1 = x) := by
  unfold tgA at ht
  unfold cuA at *
  by_cases h : a0.1 < a1.1
  · simp only [if_pos h] at *
    refine ⟨?_, fun hx => if_neg (by omega)⟩
    rintro (rfl | rfl)
    · exact if_pos h
    · exact if_pos (by show (0 : Int) < _; omega)
  · simp only [if_neg h] at *
    refine ⟨?_, fun hx => ?_⟩
    · have h0 : a0.1 = 0 := by
        split at ht
        · assumption
        · cases ht
      rintro (rfl | rfl)
      · exact if_neg h
      · rw [z0 h0]
        exact if_neg (by show ¬ (0 : Int) < _; omega)
    · exact if_neg (by omega)
theorem cu_1 (n0 : 0 ≤ a0.1) (ht : tgA a0 a1 = 1) : ((x = a1 ∨ x = (0, [])) → cuA a0 x = cuA a0 a1) ∧ (x.1 = (cuA a0 a1).1 + 1 → cuA a0 x = x) := by
  unfold tgA at ht
  unfold cuA at *
  by_cases h : a0.1 < a1.1
  · simp only [if_pos h] at ht
    split at ht <;> cases ht
  · simp only [if_neg h] at *
    refine ⟨?_, fun hx => if_pos (by omega)⟩
    rintro (rfl | rfl)
    · exact if_neg h
    · exact if_neg (by show ¬ _ < (0 : Int); omega)
theorem stFst_bd (hin : stIn rec = true) : (stFst fs rec = 16 * rec ∨ stFst fs rec = 16 * rec + 8) ∧ 0 ≤ stFst fs rec ∧ stFst fs rec + 8 ≤ 64 := by
  have := stIn_iff.1 hin
  unfold stFst
  rw [stTgt_ar]
  rcases tgA_01 (a0 := stDec rec (arL fs (16 * rec))) (a1 := stDec rec (arL fs (16 * rec + 8))) with h | h <;> rw [h] <;> omega
theorem cur_new (hoff : ∀ j, ¬ (stFst fs rec ≤ j ∧ j < stFst fs rec + 8) → flRead m j = flRead fs j) :
    ((stDec rec (arL m (stFst fs rec)) = stDec rec (arL fs (stFst fs rec)) ∨ (stDec rec (arL m (stFst fs rec))).1 = 0) → stCur rec (stL m rec) = stCur rec (stL fs rec)) ∧
    ((stDec rec (arL m (stFst fs rec))).1 = stSq fs rec + 1 → stCur rec (stL m rec) = stDec rec (arL m (stFst fs rec))) := by
  have n0 := (stDec_nn rec (arL fs (16 * rec))).1
  have n1 := (stDec_nn rec (arL fs (16 * rec + 8))).1
  unfold stSq
  rw [stCur_ar, stCur_ar]
  unfold stFst at hoff ⊢
  rw [stTgt_ar] at hoff ⊢
  rcases tgA_01 (a0 := stDec rec (arL fs (16 * rec))) (a1 := stDec rec (arL fs (16 * rec + 8))) with h | h
  · rw [h, show 16 * rec + 8 * 0 = 16 * rec by omega] at hoff ⊢
    have e : arL m (16 * rec + 8) = arL fs (16 * rec + 8) := arL_congr fun j h1 h2 => hoff j (by omega)
    rw [e]
    have := cu_0 (x := stDec rec (arL m (16 * rec))) n0 n1 stDec_none h
    refine ⟨fun hd => this.1 ?_, this.2⟩
    rcases hd with hd | hd
    · exact .inl hd
    · exact .inr (stDec_none hd)
  · rw [h, show 16 * rec + 8 * 1 = 16 * rec + 8 by omega] at hoff ⊢
    have e : arL m (16 * rec) = arL fs (16 * rec) := arL_congr fun j h1 h2 => hoff j (by omega)
    rw [e]
    have := cu_1 (x := stDec rec (arL m (16 * rec + 8))) n0 h
    refine ⟨fun hd => this.1 ?_, this.2⟩
    rcases hd with hd | hd
    · exact .inl hd
    · exact .inr (stDec_none hd)
end

/-! ## Runs -/
section
variable {fs : List ByteArray} {rec : Int} {c : ByteArray}
def stOff (fs m : List ByteArray) (rec : Int) : Prop := ∀ j, ¬ (stFst fs rec ≤ j ∧ j < stFst fs rec + 8) → flRead m j = flRead fs j
theorem stB_len (hc : c.size ≤ 2000) (h : stSq fs rec < 1099511627776) : stCnt (stB fs rec c) ≤ 8 ∧ 0 < stCnt (stB fs rec c) := by
  have h1 := stEnc_le (rec := rec) (seq := stSq fs rec + 1) (c := tl c) (by have := (stCur_nn rec (stL fs rec)).1; unfold stSq; omega) (by omega) (by rw [tl_len]; exact hc)
  have h2 := stEnc_pos rec (stSq fs rec + 1) (tl c)
  have h3 : (stB fs rec c).length ≤ 2024 := h1
  have h4 : 16 ≤ (stB fs rec c).length := h2
  unfold stCnt
  omega
/-- What a run leaves. -/
structure RunOK (fs : List ByteArray) (rec : Int) (c : ByteArray) (R : StRun) : Prop where
  ok : StOK R.m
  off : stOff fs R.m rec
  whole : R.w = true → stCur rec (stL R.m rec) = (stSq fs rec + 1, tl c) ∧ R.o = ⟨c, stSq fs rec + 1, 0⟩ ∧ R.l = stAs fs rec c
  cut : R.w = false → stCur rec (stL R.m rec) = stCur rec (stL fs rec) ∨ ((stCur rec (stL R.m rec)).1 = stSq fs rec + 1 ∧ stCh (stEnc rec (stSq fs rec + 1) (tl c)) (stEnc rec (stSq fs rec + 1) (stCur rec (stL R.m rec)).2))
  acc : ∃ k, R.l = (stAs fs rec c).take k ∧ 0 < k
theorem run_ok (h : StOK fs) (hin : stIn rec = true) (hc : c.size ≤ 2000) (hs : stSq fs rec ≤ 50) (cut bytes : Int) : RunOK fs rec c (stRun fs rec c cut bytes) := by
  obtain ⟨_, hf0, hf1⟩ := stFst_bd (fs := fs) hin
  obtain ⟨hb8, hb0⟩ := stB_len (rec := rec) (fs := fs) hc (by omega)
  have hsq : 0 ≤ stSq fs rec := (stCur_nn rec (stL fs rec)).1
  have hws : ∀ j, j ≤ stCnt (stB fs rec c) → (stWs fs rec c)[j]? = some (stWrt (stFst fs rec) (stB fs rec c) j) := fun j hj => stWs_in (by omega) hj
  have hlen : (stWs fs rec c).length = stCnt (stB fs rec c) + 1 := by rw [stWs_len, if_pos (by omega)]
  have hal := stAs_len fs rec c
  by_cases hcut : cut < 0 ∨ ((stAs fs rec c).length : Int) ≤ cut
  · rw [stRun_end hcut, hlen]
    obtain ⟨o1, o2⟩ := off_write h hf0 (by omega) hb8 hws (Nat.le_refl _) (-1)
    have e := stMem_succ (fs := fs) (hws _ (Nat.le_refl _))
    rw [← e] at o1 o2
    refine ⟨o1, o2, fun _ => ⟨?_, ?_, rfl⟩, (fun h => by cases h), ⟨(stAs fs rec c).length, (List.take_length).symm, by omega⟩⟩
    · have hd : stDec rec (arL (stMem fs (stWs fs rec c) (stCnt (stB fs rec c) + 1)) (stFst fs rec)) = (stSq fs rec + 1, tl c) := stDec_of (rec := rec) (n := stSq fs rec + 1) (c := tl c) (by omega) (by omega) (by rw [tl_len]; exact hc) (whole_write h hf0 (by omega) hb8 hb0 hws)
      have := (cur_new (rec := rec) (fs := fs) o2).2 (by rw [hd])
      show stCur rec (stL (stMem fs (stWs fs rec c) (stCnt (stB fs rec c) + 1)) rec) = _
      rw [this, hd]
    · show stFin fs rec c = _
      unfold stFin
      rw [if_pos (by omega)]
  · obtain ⟨k, rfl⟩ : ∃ k : Nat, cut = (k : Int) := ⟨cut.toNat, by omega⟩
    by_cases hk : k < 16
    · rw [stRun_read rfl hk]
      exact ⟨h, fun j _ => rfl, (fun h => by cases h), fun _ => .inl rfl, ⟨k + 1, rfl, by omega⟩⟩
    · obtain ⟨j, rfl⟩ : ∃ j, k = 16 + j := ⟨k - 16, by omega⟩
      rw [stRun_write rfl (hws j (by omega))]
      obtain ⟨o1, o2⟩ := off_write h hf0 (by omega) hb8 hws (show j ≤ _ by omega) (max 0 bytes)
      refine ⟨o1, o2, (fun h => by cases h), fun _ => ?_, ⟨16 + j + 1, rfl, by omega⟩⟩
      have hcn := cur_new (rec := rec) (fs := fs) o2
      rcases torn_write h hf0 (by omega) hb8 hb0 hws (show j ≤ _ by omega) (show 0 ≤ max 0 bytes by omega) with ht | ht | ht
      · exact .inl (hcn.1 (.inl (by rw [ht])))
      · exact .inl (hcn.1 (.inr (by rw [ar_none o1 hf0 (by omega) ht])))
      · rcases torn_dec (rec := rec) (n := stSq fs rec + 1) (c := tl c) (by omega) (by omega) (by rw [tl_len]; exact hc) ht with hd | ⟨hd, hch⟩
        · exact .inl (hcn.1 (.inr hd))
        · refine .inr ?_
          show (stCur rec (stL (flWrite _ _ _ _) rec)).1 = _ ∧ stCh _ (stEnc rec _ (stCur rec (stL (flWrite _ _ _ _) rec)).2)
          rw [hcn.2 hd]
          exact ⟨hd, hch⟩
theorem off_other {m : List ByteArray} {q : Int} (hin : stIn rec = true) (hq : stIn q = true) (hne : q ≠ rec) (ho : stOff fs m rec) : stL m q = stL fs q := by
  have h1 := stIn_iff.1 hin
  have h2 := stIn_iff.1 hq
  obtain ⟨h3, _, _⟩ := stFst_bd (fs := fs) hin
  exact stL_congr fun j ha hb => ho j (by omega)
/-- The numbers grow by one at most. -/
theorem sq_step {R : StRun} {q : Int} {n : Int} (hin : stIn rec = true) (hq : stIn q = true) (h : RunOK fs rec c R) (hn : ∀ q, stIn q = true → stSq fs q ≤ n) : stSq R.m q ≤ n + 1 := by
  have h0 := hn q hq
  by_cases hne : q = rec
  · subst hne
    unfold stSq at *
    cases hw : R.w with
    | true => rw [(h.whole hw).1]; show (stCur q (stL fs q)).1 + 1 ≤ _; omega
    | false =>
      rcases h.cut hw with e | ⟨e, _⟩
      · rw [e]; omega
      · rw [e]; show (stCur q (stL fs q)).1 + 1 ≤ _; omega
  · unfold stSq at *
    rw [off_other hin hq hne h.off]
    omega
theorem sq_zero {q : Int} (hq : stIn q = true) : stSq (flNew 128) q = 0 := by
  have h2 := stIn_iff.1 hq
  unfold stSq
  rw [stCur_ar, ar_none StOK.zero (by omega) (by omega) (by rw [read_zero (by omega) (by omega), tl_full]; rfl), ar_none StOK.zero (by omega) (by omega) (by rw [read_zero (by omega) (by omega), tl_full]; rfl)]
  rfl
/-! ## Without the area that was written -/
def clr (m : List ByteArray) (f : Int) (k : Nat) : List ByteArray := (List.range k).foldl (fun h (i : Nat) => flWrite h (f + (i : Int)) (fullS 0) (-1)) m
theorem clr_succ (m : List ByteArray) (f : Int) (k : Nat) : clr m f (k + 1) = flWrite (clr m f k) (f + (k : Int)) (fullS 0) (-1) := by unfold clr; rw [List.range_succ, List.foldl_append]; rfl
theorem clr_read {m : List ByteArray} {f : Int} (h : StOK m) (hf0 : 0 ≤ f) (hf1 : f + 8 ≤ 128) : ∀ k, k ≤ 8 → StOK (clr m f k) ∧ ∀ j, flRead (clr m f k) j = if f ≤ j ∧ j < f + (k : Int) then fullS 0 else flRead m j
  | 0, _ => ⟨h, fun j => by rw [if_neg (by omega)]; rfl⟩
  | k + 1, hk => by
    obtain ⟨h1, h2⟩ := clr_read h hf0 hf1 k (by omega)
    rw [clr_succ]
    refine ⟨h1.write (fullS_size 0) _ _, fun j => ?_⟩
    rw [flRead_write h1 (fullS_size 0) (by omega) (by omega), flW_again, h2 j]
    by_cases hj : j = f + (k : Int)
    · rw [if_pos hj, if_pos (by omega)]
    · rw [if_neg hj]
      by_cases h3 : f ≤ j ∧ j < f + (k : Int)
      · rw [if_pos h3, if_pos (by omega)]
      · rw [if_neg h3, if_neg (by omega)]
theorem clr_cur {m : List ByteArray} (h : StOK m) (hin : stIn rec = true) (ho : stOff fs m rec) : stCur rec (stL (clr m (stFst fs rec) 8) rec) = stCur rec (stL fs rec) := by
  obtain ⟨_, hf0, hf1⟩ := stFst_bd (fs := fs) hin
  obtain ⟨h1, h2⟩ := clr_read h hf0 (by omega) 8 (Nat.le_refl _)
  refine (cur_new (rec := rec) (fs := fs) fun j hj => ?_).1 (.inr ?_)
  · rw [h2, if_neg (by omega)]
    exact ho j hj
  · rw [ar_none h1 hf0 (by omega) (by rw [h2, if_pos (by omega), tl_full]; rfl)]
end
end Go.Proofs.YtfclifolniefpaaDoor
