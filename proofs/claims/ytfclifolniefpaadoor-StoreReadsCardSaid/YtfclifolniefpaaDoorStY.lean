/-
  What the law file's limited and chance return: contracts by walks. No condition but the lengths' range.
-/
import Derived.Test.YtfclifolniefpaaDoorStT
import Derived.Test.YtfclifolniefpaaDoorStRa
import Derived.Test.YtfclifolniefpaaDoorStVV
import Derived.Test.YtfclifolniefpaaDoorStX
set_option linter.unusedSimpArgs false
set_option linter.unusedVariables false
namespace Go.Proofs.YtfclifolniefpaaDoor
open Go.RowKit

def ucs (l : List StU) : List Value := l.flatMap StU.cs
theorem StU.cs_len (a : StU) : a.cs.length = 4 := rfl
theorem StU.cs_one (a : StU) : ∀ u ∈ a.cs, u.oneCell' = true := by intro u hu; unfold StU.cs at hu; simp at hu; rcases hu with rfl | rfl | rfl | rfl <;> rfl
def zeroU : List Value := [.int .i64 0, .string ⟨#[]⟩, .int .i64 0, .int .i64 0]
theorem zero_up : (Tryd.prog.info? 30).map (fun i => i.zero.map (·.cells)) = some (some zeroU.toArray) := by kernel_rfl
theorem encInt_max (n : Int) (h1 : -9223372036854775808 ≤ n) (h2 : n ≤ 9223372036854775807) : (encInt n).length ≤ 10 := leb_le10 (zz n) (zz_lt n h1 h2)
def stLim (l : List StU) : Bool := decide (∀ r ∈ l, r.s.size ≤ 2000) && decide (l.length ≤ 12)
theorem stLim_iff {l : List StU} : stLim l = true ↔ (∀ r ∈ l, r.s.size ≤ 2000) ∧ l.length ≤ 12 := by
  unfold stLim
  rw [Bool.and_eq_true, decide_eq_true_eq, decide_eq_true_eq]
set_option maxRecDepth 100000 in
set_option maxHeartbeats 4000000 in
theorem limited_any (A : Option Addr) (n d : Nat) (l : List StU) (w : World) (hr : Reads w w.heap.size 4 A n (ucs l)) (hn : n ≤ 9223372036854775807) (hs : ∀ r ∈ l, r.s.size ≤ 9223372036854775807) :
    Calls Tryd.prog 7 #[.slice A n d] w (GivesX (.bool (stLim l)) w) := by
  have HLN := Lib.hid (hr.len_of (by decide) StU.cs_len)
  have HEL : ∀ k, k < n → ∃ (ad : Addr) (r : StU), A = some ad ∧ (ad.add (k * 4)).block < w.heap.size ∧ (∀ j u, r.cs[j]? = some u → w.cell? ((ad.add (k * 4)).add j) = some u) ∧ Hid (l[k]? = some r) := fun k hk => by
    obtain ⟨r, hri⟩ : ∃ r, l[k]? = some r := ⟨_, List.getElem?_eq_getElem (by rw [HLN.out]; omega)⟩
    obtain ⟨ad, e, hlta, hc⟩ := hr.elem StU.cs_len hri (by omega)
    exact ⟨ad, r, e, by rw [block_of_add]; exact hlta, hc, Lib.hid hri⟩
  have HSZ : ∀ k (r : StU), Hid (l[k]? = some r) → r.s.size ≤ 9223372036854775807 := fun k r h => hs r (List.mem_of_getElem? h.out)
  have HF : ∀ k (r : StU), Hid (l[k]? = some r) → 2000 < r.s.size → Hid (stLim l = false) := fun k r h h2 => Lib.hid (by
    unfold stLim
    rw [decide_eq_false (fun h3 => by have := h3 r (List.mem_of_getElem? h.out); omega), Bool.false_and])
  have HALL0 : Hid (∀ r ∈ l.take 0, r.s.size ≤ 2000) := Lib.hid (by intro r h; simp at h)
  have HALL1 : ∀ k (r : StU), Hid (∀ r ∈ l.take k, r.s.size ≤ 2000) → Hid (l[k]? = some r) → r.s.size ≤ 2000 → Hid (∀ r ∈ l.take (k + 1), r.s.size ≤ 2000) := fun k r h h1 h2 => Lib.hid (by
    intro x hx
    rw [List.take_add_one, h1.out, List.mem_append] at hx
    rcases hx with hx | hx
    · exact h.out x hx
    · have : x = r := by simpa using hx
      rw [this]; exact h2)
  have HT : Hid (∀ r ∈ l.take n, r.s.size ≤ 2000) → Hid (stLim l = decide ((n : Int) ≤ 12)) := fun h => Lib.hid (by
    have h1 := h.out
    rw [List.take_of_length_le (by rw [HLN.out]; exact Nat.le_refl _)] at h1
    unfold stLim
    rw [decide_eq_true h1, Bool.true_and, HLN.out]
    exact decide_eq_decide.2 (by omega))
  clear hs hr
  generalize stLim l = E at *
  go_enter Tryd.func7, Tryd.ntmps7
  go_wp2_with fail
  go_loopg [7] n (fun g s7 wr => ∃ k : Nat, Hid (k + g = n) ∧ k ≤ n ∧ s7 = .int .i64 (k : Int) ∧ Hid (∀ r ∈ l.take k, r.s.size ≤ 2000) ∧ Below w.heap.size w wr)
  case atStart => exact ⟨0, by show _ = _; omega, by omega, rfl, HALL0, Below.refl _ _⟩
  case round =>
    obtain ⟨k, HK, hk, rfl, HALL, hB⟩ := hrel
    by_cases hlt : k < n
    · obtain ⟨ad, r, rfl, hlta, hc, hri⟩ := HEL k hlt
      have hsz := HSZ k r hri
      have HCC := Lib.hid hc
      clear hc HEL HSZ HT
      by_cases hbig : r.s.size ≤ 2000
      · have HA2 := HALL1 k r HALL hri hbig
        clear HALL1 HF
        go_wp2_with (first
          | ((with_reducible refine wpList_at ⟨some 10, _, _, _, _, _⟩ ?_); refine wpList_valueG rfl _ (by exact exec_load _ 30 _ rfl (ad.add (k * 4)) rfl r.cs (fun j u hu => (hB.cell (by rw [block_of_add]; exact hlta)).trans (HCC.out j u hu)) _ Tryd.underlying30 rfl (by kernel_rfl)) ?_)
          | (with_reducible refine wpList_alloc_row (o := ⟨some 4, _, _, _, _, _⟩) rfl _ rfl zeroU zero_up ?_; intro w1 z1 s1 g1; have b1 : Below w.heap.size w w1 := below_kept hB g1 hB.size (by simp))
          | ((with_reducible refine wpList_at ⟨none, .store _ (.tmp 4) _, _, _, _, _⟩ ?_); refine wpList_store_all rfl _ _ _ rfl wr.heap.size rfl _ _ z1 (r.cs) rfl (r.cs_one) rfl (by kernel_rfl) ?_; intro w2 z2 g2; have b2 : Below w.heap.size w w2 := below_kept b1 g2 b1.size (by rintro q hq; cases hq; exact hB.size); have c2 := z2.cell (j := 1) rfl))
        go_roundg (gk - 1)
        case measure => have := HK.out; omega
        case rel => exact ⟨k + 1, by have := HK.out; show _ = _; omega, by omega, by go_num, HA2, b2⟩
      · have HE := HF k r hri (by omega)
        clear HALL1 HF
        go_wp2_with (first
          | ((with_reducible refine wpList_at ⟨some 10, _, _, _, _, _⟩ ?_); refine wpList_valueG rfl _ (by exact exec_load _ 30 _ rfl (ad.add (k * 4)) rfl r.cs (fun j u hu => (hB.cell (by rw [block_of_add]; exact hlta)).trans (HCC.out j u hu)) _ Tryd.underlying30 rfl (by kernel_rfl)) ?_)
          | (with_reducible refine wpList_alloc_row (o := ⟨some 4, _, _, _, _, _⟩) rfl _ rfl zeroU zero_up ?_; intro w1 z1 s1 g1; have b1 : Below w.heap.size w w1 := below_kept hB g1 hB.size (by simp))
          | ((with_reducible refine wpList_at ⟨none, .store _ (.tmp 4) _, _, _, _, _⟩ ?_); refine wpList_store_all rfl _ _ _ rfl wr.heap.size rfl _ _ z1 (r.cs) rfl (r.cs_one) rfl (by kernel_rfl) ?_; intro w2 z2 g2; have b2 : Below w.heap.size w w2 := below_kept b1 g2 b1.size (by rintro q hq; cases hq; exact hB.size); have c2 := z2.cell (j := 1) rfl))
        go_ret
        exact ⟨by rw [HE.out]; rfl, b2⟩
    · obtain rfl : k = n := by omega
      have HE := HT HALL
      clear HALL1 HF HT HEL HSZ
      go_wp2_with fail
      go_ret
      exact ⟨by rw [HE.out]; rfl, hB⟩
set_option maxRecDepth 100000 in
set_option maxHeartbeats 4000000 in
theorem chance_any (u : StU) (seq n : Int) (s : ByteArray) (w : World) (hr0 : -9223372036854775808 ≤ u.r) (hr1 : u.r ≤ 9223372036854775807) (hq0 : 0 ≤ seq) (hq1 : seq ≤ 1099511627777) (hn0 : 0 ≤ n) (hn1 : n ≤ 1099511627777) (hu : u.s.size ≤ 2000) (hs : s.size ≤ 2000)
    (hch : stCh (stEnc u.r seq (tl u.s)) (stEnc u.r n (tl s))) :
    Calls Tryd.prog 12 #[u.v, .int .i64 seq, (⟨s, n, 0⟩ : StO).v] w (GivesX (.bool true) w) := by
  unfold StU.v StO.v
  have HE := fun W => Lib.hid (rencode_any u.r seq u.s W hr0 hr1 hq0 hq1 hu)
  have HF := fun W => Lib.hid (rencode_any u.r n s W hr0 hr1 hn0 hn1 hs)
  have HBL : Hid ((stEnc u.r seq (tl u.s)).length ≤ 5000) := Lib.hid (by have h := stEnc_len u.r seq (tl u.s); have := encInt_max seq (by omega) (by omega); have := encInt_max ((tl u.s).length : Int) (by omega) (by rw [tl_len]; omega); have h9 := tl_len u.s; unfold stH encBytes at h; simp only [List.length_append] at h; omega)
  have HWL : Hid ((stEnc u.r n (tl s)).length ≤ 5000) := Lib.hid (by have h := stEnc_len u.r n (tl s); have := encInt_max n (by omega) (by omega); have := encInt_max ((tl s).length : Int) (by omega) (by rw [tl_len]; omega); have h9 := tl_len s; unfold stH encBytes at h; simp only [List.length_append] at h; omega)
  have HC := Lib.hid hch
  generalize stEnc u.r seq (tl u.s) = eb at *
  generalize stEnc u.r n (tl s) = ew at *
  clear hch hr0 hr1 hq0 hn0 hu hs
  go_enter Tryd.func12, Tryd.ntmps12
  go_wp2_with (first
    | ((with_reducible refine wpList_at ⟨some 3, _, _, _, _, _⟩ ?_); refine wpList_box_row rfl _ _ rfl (u.cs) rfl ?_; intro w1 ru_1 s1 g1; have k1 : Below w.heap.size w w1 := grown_below g1 (Nat.le_refl _) (by simp); have B1 : Below w.heap.size w w1 := k1; have cru0 := ru_1.cell (j := 0) rfl; have cru1 := ru_1.cell (j := 1) rfl; have cru2 := ru_1.cell (j := 2) rfl; have cru3 := ru_1.cell (j := 3) rfl)
    | ((with_reducible refine wpList_at ⟨some 5, _, _, _, _, _⟩ ?_); refine wpList_box_row rfl _ _ rfl ((⟨s, n, 0⟩ : StO).cs) rfl ?_; intro w2 ra_2 s2 g2; have k2 : Below w1.heap.size w1 w2 := grown_below g2 (Nat.le_refl _) (by simp); have B2 := B1.trans (k2.mono B1.size); have ru_2 := ru_1.on k2; clear ru_1; have cru0 := ru_2.cell (j := 0) rfl; have cru1 := ru_2.cell (j := 1) rfl; have cru2 := ru_2.cell (j := 2) rfl; have cru3 := ru_2.cell (j := 3) rfl; have cra0 := ra_2.cell (j := 0) rfl; have cra1 := ra_2.cell (j := 1) rfl; have cra2 := ra_2.cell (j := 2) rfl))
  refine (HE _).out.mono ?_
  rintro e w3 ⟨v1, rfl, o1, h3⟩
  have B3 := B2.trans (h3.mono B2.size)
  have ru_3 := ru_2.on h3
  have ra_3 := ra_2.on h3
  clear ru_2 ra_2
  have cru0 := ru_3.cell (j := 0) rfl
  have cru1 := ru_3.cell (j := 1) rfl
  have cru2 := ru_3.cell (j := 2) rfl
  have cru3 := ru_3.cell (j := 3) rfl
  have cra0 := ra_3.cell (j := 0) rfl
  have cra1 := ra_3.cell (j := 1) rfl
  have cra2 := ra_3.cell (j := 2) rfl
  go_wp2_with fail
  refine (HF _).out.mono ?_
  rintro e w4 ⟨v2, rfl, o2, h4⟩
  have B4 := B3.trans (h4.mono B3.size)
  have ru_4 := ru_3.on h4
  have ra_4 := ra_3.on h4
  have o1_4 := own_below o1 h4
  clear ru_3 ra_3
  have cru0 := ru_4.cell (j := 0) rfl
  have cru1 := ru_4.cell (j := 1) rfl
  have cru2 := ru_4.cell (j := 2) rfl
  have cru3 := ru_4.cell (j := 3) rfl
  have cra0 := ra_4.cell (j := 0) rfl
  have cra1 := ra_4.cell (j := 1) rfl
  have cra2 := ra_4.cell (j := 2) rfl
  obtain ⟨A1, c1, rfl, hc1, _, d1⟩ := own_form o1_4
  obtain ⟨A2, c2, rfl, hc2, _, d2⟩ := own_form o2
  have HM := Lib.hid (show eb.length = eb.length from rfl)
  obtain ⟨m1, hm1⟩ : ∃ m1, m1 = eb.length := ⟨_, rfl⟩
  obtain ⟨m2, hm2⟩ : ∃ m2, m2 = ew.length := ⟨_, rfl⟩
  rw [← hm1] at d1 ⊢
  rw [← hm2] at d2 ⊢
  have HM1 := Lib.hid hm1
  have HM2 := Lib.hid hm2
  have hb1 := HBL.out
  have hb2 := HWL.out
  rw [← hm1] at hb1
  rw [← hm2] at hb2
  clear hm1 hm2
  go_wp2_with fail
  go_loopg [28] m2 (fun g i wr => ∃ j q : Nat, Hid (j + g = m2) ∧ j ≤ m2 ∧ i = .int .i64 j ∧ wr = w4.drewN q)
  case atStart => exact ⟨0, 0, by show _ = _; omega, by omega, rfl, rfl⟩
  case round =>
    obtain ⟨j, q, HJ, hj, rfl, rfl⟩ := hrel
    by_cases hlt : j < m2
    · obtain ⟨ad, x, rfl, _, hx, hcx⟩ := d2.byte_at hlt
      have HX := Lib.hid hx
      by_cases hz : x = 0
      · have hd : ((x.toNat : Int) != 0) = false := by rw [hz]; rfl
        clear hz hx
        go_wp2_with fail
        go_quiet (fail)
        go_wp2_with fail
        go_roundg (gk - 1)
        case measure => have := HJ.out; omega
        case rel =>
          refine ⟨j + 1, q + nq, ?_, by omega, by go_num, by simp⟩
          have := HJ.out; show _ = _; omega
      · have hbx : eb[j]? = some x := (HC.out j x hx).resolve_left hz
        have hjb : j < m1 := by rw [HM1.out]; exact (List.getElem?_eq_some_iff.1 hbx).1
        obtain ⟨bd, y, rfl, _, hy, hcy⟩ := d1.byte_at hjb
        obtain rfl : y = x := by rw [hbx] at hy; exact (Option.some.inj hy).symm
        have hd : ((y.toNat : Int) != 0) = true := by
          simp only [bne_iff_ne, ne_eq]
          intro h
          exact hz (UInt8.toNat_inj.1 (by show y.toNat = 0; omega))
        have hg : decide ((m1 : Int) ≤ (j : Int)) = false := decide_eq_false (by omega)
        have hd2 : ((y.toNat : Int) != (y.toNat : Int)) = false := by simp
        have HY := Lib.hid hy
        clear hz hx hbx hy
        go_wp2_with fail
        go_quiet (fail)
        go_wp2_with fail
        go_roundg (gk - 1)
        case measure => have := HJ.out; omega
        case rel =>
          refine ⟨j + 1, q + nq, ?_, by omega, by go_num, by simp⟩
          have := HJ.out; show _ = _; omega
    · have hjn : j = m2 := by omega
      have HJN := Lib.hid hjn
      clear hjn
      go_wp2_with fail
      go_ret
      exact ⟨rfl, below_drewN B4 q⟩
end Go.Proofs.YtfclifolniefpaaDoor
