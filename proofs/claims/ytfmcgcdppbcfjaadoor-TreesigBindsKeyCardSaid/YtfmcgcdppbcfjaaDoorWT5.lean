/-
  TreesigBindsKey's walk: what verifies folds to the root. Conditions: the table of constants as laid; slices within their capacity.
-/
import Derived.Test.YtfmcgcdppbcfjaaDoorSan5
import Derived.Test.YtfmcgcdppbcfjaaDoorWotsM
namespace Go.Proofs.YtfmcgcdppbcfjaaDoor
open Go.RowKit

set_option maxRecDepth 100000 in
set_option maxHeartbeats 4000000 in
theorem walkT5 (rt msg : List UInt8) (ht : rt.length = 16) (hm : msg.length = 16) (h i : Int) (h1 : -9223372036854775808 ≤ h) (h2 : h ≤ 9223372036854775807) (i1 : -9223372036854775808 ≤ i) (i2 : i ≤ 9223372036854775807)
    (A B : Option Addr) (n c m d : Nat) (C P : List (List UInt8)) (w : World) (hCo : Consts w) (hC : ReadsD w A n C) (hP : ReadsD w B m P) (hnc : n ≤ c) (hmd : m ≤ d) (hn : n ≤ 9223372036854775807) (hmx : m ≤ 9223372036854775807) :
    Calls Tryd.prog 7 #[.agg (bvs rt ++ ([Value.int .i64 h] ++ (bvs msg ++ [Value.int .i64 i, .slice A n c, .slice B m d]))).toArray] w (TellsB true w) := by
  have HT := Lib.hid ht
  have HM := Lib.hid hm
  have HSA := fun W hW => Lib.hid (sanity5_any W hW)
  have HS1 := fun W => Lib.hid (refSmall_any i A B n c m d hn hmx W)
  obtain ⟨cs, hcs⟩ : ∃ cs : List Value, cs = bvs rt ++ ([Value.int .i64 h] ++ (bvs msg ++ [Value.int .i64 i, .slice A n c, .slice B m d])) := ⟨_, rfl⟩
  have hl16 : (bvs rt).length = 16 := by rw [bvs_length, ht]
  have hm16 : (bvs msg).length = 16 := by rw [bvs_length, hm]
  have HA1 : ∀ w g t, Row w g t cs → Hid (∀ j u, (bvs rt)[j]? = some u → w.cell? ((⟨g, 0, none⟩ : Addr).add j) = some u) := fun w g t hr => Row.part hr (pre := []) hcs rfl
  have HA2 : Hid (cs[16]? = some (.int .i64 h)) := by show _ = _; rw [hcs, List.getElem?_append_right (by omega), hl16]; rfl
  have HA3 : ∀ w g t, Row w g t cs → Hid (∀ j u, (bvs msg)[j]? = some u → w.cell? ((⟨g, 17, none⟩ : Addr).add j) = some u) := fun w g t hr => Row.part hr (pre := bvs rt ++ [Value.int .i64 h]) (by rw [hcs, List.append_assoc]) (by rw [List.length_append, hl16]; rfl)
  have HA4 : ∀ w g t, Row w g t cs → Hid (∀ q u, [Value.int .i64 i, .slice A n c, .slice B m d][q]? = some u → w.cell? ((⟨g, 33, none⟩ : Addr).add q) = some u) := fun w g t hr => Row.part hr (pre := bvs rt ++ ([Value.int .i64 h] ++ bvs msg)) (post := []) (by rw [hcs]; simp only [List.append_assoc, List.append_nil]) (by rw [List.length_append, List.length_append, hl16, hm16]; rfl)
  rw [← hcs]
  clear hcs hl16 hm16 ht hm
  go_enter Tryd.func7, Tryd.ntmps7
  go_wp2_with (first
    | (with_reducible refine wpList_box_row (o := ⟨some 1, _, _, _, _, _⟩) rfl _ _ rfl (cs) rfl ?_; intro w1 In_1 s1 g1; have k1 : Below w.heap.size w w1 := grown_below g1 (Nat.le_refl _) (by simp); have B1 : Below w.heap.size w w1 := k1; have K_1 := hCo.on k1; have C1_1 := hC.on k1; have P1_1 := hP.on k1)
    | (refine wpList_valueG (o := ⟨some 15, _, _, _, _, _⟩) rfl _ (by exact exec_load16 _ _ rfl _ rfl rt HT.out (HA1 _ _ _ In_1).out) ?_)
    | (with_reducible refine wpList_alloc_row (o := ⟨some 3, _, _, _, _, _⟩) rfl _ rfl zeros16 zero_b16 ?_; intro w2 r2 s2 g2)
    | (with_reducible refine wpList_at ⟨none, .store _ (.tmp 3) _, _, _, _, _⟩ ?_; refine wpList_store_all rfl _ _ _ rfl w1.heap.size rfl _ _ r2 (bvs rt) rfl (bvs_one _) (b16_zeros _ HT.out) (b16_size _ HT.out) ?_; intro w3 rt_3 g3; have k3 : Below w1.heap.size w1 w3 := below_kept (grown_below g2 (Nat.le_refl _) (by simp)) g3 (Nat.le_of_lt s2) (by rintro q hq; cases hq; exact Nat.le_refl _); have B3 := B1.trans (k3.mono B1.size); have K_3 := K_1.on k3; have C1_3 := C1_1.on k3; have P1_3 := P1_1.on k3; have In_3 := In_1.on k3; clear K_1 C1_1 P1_1 In_1; clear r2 g2 g3)
    | (refine wpList_valueG (o := ⟨some 17, _, _, _, _, _⟩) rfl _ (by exact exec_load1 _ 3 _ rfl ⟨w.heap.size, 16, none⟩ rfl _ (In_3.cell (j := 16) HA2.out) _ Tryd.underlying3 rfl) ?_)
    | (refine wpList_valueG (o := ⟨some 19, _, _, _, _, _⟩) rfl _ (by exact exec_load16 _ _ rfl _ rfl msg HM.out (HA3 _ _ _ In_3).out) ?_)
    | (with_reducible refine wpList_alloc_row (o := ⟨some 5, _, _, _, _, _⟩) rfl _ rfl zeros16 zero_b16 ?_; intro w4 r4 s4 g4)
    | (with_reducible refine wpList_at ⟨none, .store _ (.tmp 5) _, _, _, _, _⟩ ?_; refine wpList_store_all rfl _ _ _ rfl w3.heap.size rfl _ _ r4 (bvs msg) rfl (bvs_one _) (b16_zeros _ HM.out) (b16_size _ HM.out) ?_; intro w5 mg_5 g5; have k5 : Below w3.heap.size w3 w5 := below_kept (grown_below g4 (Nat.le_refl _) (by simp)) g5 (Nat.le_of_lt s4) (by rintro q hq; cases hq; exact Nat.le_refl _); have B5 := B3.trans (k5.mono B3.size); have K_5 := K_3.on k5; have C1_5 := C1_3.on k5; have P1_5 := P1_3.on k5; have In_5 := In_3.on k5; have rt_5 := rt_3.on k5; clear K_3 C1_3 P1_3 In_3 rt_3; clear r4 g4 g5)
    | (refine wpList_valueG (o := ⟨some 21, _, _, _, _, _⟩) rfl _ (by exact exec_load_sig _ _ rfl _ rfl _ _ _ (HA4 _ _ _ In_5).out) ?_)
    | (with_reducible refine wpList_alloc_row (o := ⟨some 6, _, _, _, _, _⟩) rfl _ rfl sgz zero_sig ?_; intro w6 r6 s6 g6)
    | (with_reducible refine wpList_at ⟨none, .store _ (.tmp 6) _, _, _, _, _⟩ ?_; refine wpList_store_all rfl _ _ _ rfl w5.heap.size rfl _ _ r6 [.int .i64 i, .slice A n c, .slice B m d] rfl (by simp [Value.oneCell']) rfl (sig_size _ _ _) ?_; intro w7 s_7 g7; have k7 : Below w5.heap.size w5 w7 := below_kept (grown_below g6 (Nat.le_refl _) (by simp)) g7 (Nat.le_of_lt s6) (by rintro q hq; cases hq; exact Nat.le_refl _); have B7 := B5.trans (k7.mono B5.size); have K_7 := K_5.on k7; have C1_7 := C1_5.on k7; have P1_7 := P1_5.on k7; have In_7 := In_5.on k7; have rt_7 := rt_5.on k7; have mg_7 := mg_5.on k7; clear K_5 C1_5 P1_5 In_5 rt_5 mg_5; clear r6 g6 g7))
  refine ((HSA _ K_7).out).mono ?_
  rintro e w8 ⟨rfl, h8⟩
  have B8 := B7.trans (h8.mono B7.size)
  have K_8 := K_7.on h8
  have C1_8 := C1_7.on h8
  have P1_8 := P1_7.on h8
  have In_8 := In_7.on h8
  have rt_8 := rt_7.on h8
  have mg_8 := mg_7.on h8
  have s_8 := s_7.on h8
  clear K_7 C1_7 P1_7 In_7 rt_7 mg_7 s_7
  go_wp2_with (refine wpList_valueG (o := ⟨some 23, _, _, _, _, _⟩) rfl _ (by exact exec_load_sig _ _ rfl _ rfl _ _ _ s_8.cells) ?_)
  refine ((HS1 _).out).mono ?_
  rintro e w9 ⟨rfl, h9⟩
  have B9 := B8.trans (h9.mono B8.size)
  have K_9 := K_8.on h9
  have C1_9 := C1_8.on h9
  have P1_9 := P1_8.on h9
  have In_9 := In_8.on h9
  have rt_9 := rt_8.on h9
  have mg_9 := mg_8.on h9
  have s_9 := s_8.on h9
  clear K_8 C1_8 P1_8 In_8 rt_8 mg_8 s_8
  generalize hx : (decide (n ≤ 100) && decide (m ≤ 20)) = x at *
  cases x with
  | false =>
    go_wp2_with fail
    go_ret
    exact ⟨rfl, B9⟩
  | true =>
    rw [Bool.and_eq_true, decide_eq_true_iff, decide_eq_true_iff] at hx
    have hnb := hx.1
    have hmb := hx.2
    clear hx
    have HV1 := fun W hW hC hP => Lib.hid (tverify_any rt msg HT.out HM.out h i h1 h2 i1 i2 A B n c m d C P W hW hC hP hnc hmd (by omega) (by omega))
    have HFO := fun hv => Lib.hid (tVerify_fold (rt := rt) (h := h) (msg := msg) (idx := i) (c := C) (p := P) hv)
    generalize tVerify rt h msg i C P = V at *
    go_wp2_with (first
      | (refine wpList_valueG (o := ⟨some 27, _, _, _, _, _⟩) rfl _ (by exact exec_load16 _ _ rfl _ rfl rt HT.out rt_9.cells) ?_)
      | (refine wpList_valueG (o := ⟨some 29, _, _, _, _, _⟩) rfl _ (by exact exec_load16 _ _ rfl _ rfl msg HM.out mg_9.cells) ?_)
      | (refine wpList_valueG (o := ⟨some 30, _, _, _, _, _⟩) rfl _ (by exact exec_load_sig _ _ rfl _ rfl _ _ _ s_9.cells) ?_))
    refine ((HV1 _ K_9 C1_9 P1_9).out).mono ?_
    rintro e w10 ⟨rfl, h10⟩
    have B10 := B9.trans (h10.mono B9.size)
    have K_10 := K_9.on h10
    have C1_10 := C1_9.on h10
    have P1_10 := P1_9.on h10
    have In_10 := In_9.on h10
    have rt_10 := rt_9.on h10
    have mg_10 := mg_9.on h10
    have s_10 := s_9.on h10
    clear K_9 C1_9 P1_9 In_9 rt_9 mg_9 s_9
    cases V with
    | false =>
      go_wp2_with fail
      go_ret
      exact ⟨rfl, B10⟩
    | true =>
      obtain ⟨e, j, he4, rfl, rfl, hj, hcl, hpl, hup⟩ := (HFO rfl).out
      have hnl := C1_10.len
      have hml := P1_10.len
      obtain rfl : n = 68 := by omega
      obtain rfl : m = e := by omega
      have HRG := fun W hW hm hr hc => Lib.hid (recover_any A c msg C W hW hm hr hc)
      have HKL := Lib.hid (wKey_len msg C)
      have HU0 : Hid (upK (wKey msg C) (turns (2 ^ m) j) P 0 = hB 1 [wKey msg C]) := rfl
      have HUL := fun q => Lib.hid (upK_len (wKey msg C) (turns (2 ^ m) j) P q)
      have HUE := Lib.hid hup
      have HUS : ∀ q, q < m → Hid (upK (wKey msg C) (turns (2 ^ m) j) P (q + 1) = if j / 2 ^ q % 2 = 1 then hB 2 [P.getD q [], upK (wKey msg C) (turns (2 ^ m) j) P q] else hB 2 [upK (wKey msg C) (turns (2 ^ m) j) P q, P.getD q []]) := fun q hq => by show _ = _; rw [upK, turns_bit hj hq]; simp only [decide_eq_true_eq]; rfl
      have HDG1 : ∀ A c l, Hid (dig 1 [⟨A, 16, c, l⟩] = hB 1 [l]) := fun _ _ _ => rfl
      have HDG2 : ∀ A c l B d k, Hid (dig 2 [⟨A, 16, c, l⟩, ⟨B, 16, d, k⟩] = hB 2 [l, k]) := fun _ _ _ _ _ _ => rfl
      have HJ0 : Hid (j / 2 ^ m = 0) := Nat.div_eq_of_lt hj
      have hje : j ≤ 16 := by have := two_le16 he4; omega
      clear hup hj hcl hpl hnl hml HFO HV1 HS1
      generalize upK (wKey msg C) (turns (2 ^ m) j) P = U at *
      generalize wKey msg C = KY at *
      have HUL0 := HUL 0
      go_wp2_with (first
        | (refine wpList_valueG (o := ⟨some 36, _, _, _, _, _⟩) rfl _ (by exact exec_load16 _ _ rfl _ rfl msg HM.out mg_10.cells) ?_)
        | (refine wpList_valueG (o := ⟨some 38, _, _, _, _, _⟩) rfl _ (by exact exec_load1 _ 30 _ rfl ⟨w5.heap.size, 1, none⟩ rfl _ (s_10.cell (j := 1) rfl) _ Tryd.underlying30 rfl) ?_))
      refine ((HRG _ K_10 HM.out C1_10 hnc).out).mono ?_
      rintro e w11 ⟨rfl, h11⟩
      have B11 := B10.trans (h11.mono B10.size)
      have K_11 := K_10.on h11
      have C1_11 := C1_10.on h11
      have P1_11 := P1_10.on h11
      have In_11 := In_10.on h11
      have rt_11 := rt_10.on h11
      have mg_11 := mg_10.on h11
      have s_11 := s_10.on h11
      clear K_10 C1_10 P1_10 In_10 rt_10 mg_10 s_10
      go_wp2_with (first
        | (with_reducible refine wpList_alloc_row (o := ⟨some 8, _, _, _, _, _⟩) rfl _ rfl zeros16 zero_b16 ?_; intro w12 r12 s12 g12)
        | (with_reducible refine wpList_at ⟨none, .store _ (.tmp 8) _, _, _, _, _⟩ ?_; refine wpList_store_all rfl _ _ _ rfl w11.heap.size rfl _ _ r12 (bvs KY) rfl (bvs_one _) (b16_zeros _ HKL.out) (b16_size _ HKL.out) ?_; intro w13 ky_13 g13; have k13 : Below w11.heap.size w11 w13 := below_kept (grown_below g12 (Nat.le_refl _) (by simp)) g13 (Nat.le_of_lt s12) (by rintro q hq; cases hq; exact Nat.le_refl _); have B13 := B11.trans (k13.mono B11.size); have K_13 := K_11.on k13; have C1_13 := C1_11.on k13; have P1_13 := P1_11.on k13; have In_13 := In_11.on k13; have rt_13 := rt_11.on k13; have mg_13 := mg_11.on k13; have s_13 := s_11.on k13; clear K_11 C1_11 P1_11 In_11 rt_11 mg_11 s_11; clear r12 g12 g13)
        | (refine wpList_valueG (o := ⟨some 46, _, _, _, _, _⟩) rfl _ (by exact exec_load1 _ 30 _ rfl ⟨w5.heap.size, 2, none⟩ rfl _ (s_13.cell (j := 2) rfl) _ Tryd.underlying30 rfl) ?_))
      have hrp := readsP_one w13 53 (some ⟨w11.heap.size, 0, none⟩) 16 16 KY (ky_13.reads16 HKL.out) (Nat.le_refl _)
      have kz : Below w13.heap.size w13 (w13.alloc (.cells #[.slice (some ⟨w11.heap.size, 0, none⟩) 16 16] 53)) := (Below.refl _ _).alloc (Nat.le_refl _) _
      have Bz := B13.trans (kz.mono B13.size)
      have K_z := K_13.on kz
      have C1_z := C1_13.on kz
      have P1_z := P1_13.on kz
      have In_z := In_13.on kz
      have rt_z := rt_13.on kz
      have mg_z := mg_13.on kz
      have s_z := s_13.on kz
      have ky_z := ky_13.on kz
      clear K_13 C1_13 P1_13 In_13 rt_13 mg_13 s_13 ky_13
      refine (refDigest_any 1 _ _ _ _ _ hrp (by omega) (parts_one_le _ 300 (show 16 ≤ 300 by omega))).mono ?_
      rintro e w14 ⟨rfl, h14⟩
      rw [(HDG1 _ _ _).out, ← HU0.out]
      have B14 := Bz.trans (h14.mono Bz.size)
      have K_14 := K_z.on h14
      have C1_14 := C1_z.on h14
      have P1_14 := P1_z.on h14
      have In_14 := In_z.on h14
      have rt_14 := rt_z.on h14
      have mg_14 := mg_z.on h14
      have s_14 := s_z.on h14
      have ky_14 := ky_z.on h14
      clear K_z C1_z P1_z In_z rt_z mg_z s_z ky_z
      have zl5 := s_14.lt
      have zl1 := rt_14.lt
      have zl0 := B14.size
      go_wp2_with (first
        | (with_reducible refine wpList_alloc_row (o := ⟨some 10, _, _, _, _, _⟩) rfl _ rfl zeros16 zero_b16 ?_; intro w15 r15 s15 g15)
        | (with_reducible refine wpList_at ⟨none, .store _ (.tmp 10) _, _, _, _, _⟩ ?_; refine wpList_store_all rfl _ _ _ rfl w14.heap.size rfl _ _ r15 (bvs (U 0)) rfl (bvs_one _) (b16_zeros _ (HUL 0).out) (b16_size _ (HUL 0).out) ?_; intro w16 dd_16 g16; have k16 : Below w14.heap.size w14 w16 := below_kept (grown_below g15 (Nat.le_refl _) (by simp)) g16 (Nat.le_of_lt s15) (by rintro q hq; cases hq; exact Nat.le_refl _); have B16 := B14.trans (k16.mono B14.size); have K_16 := K_14.on k16; have C1_16 := C1_14.on k16; have P1_16 := P1_14.on k16; have In_16 := In_14.on k16; have rt_16 := rt_14.on k16; have mg_16 := mg_14.on k16; have s_16 := s_14.on k16; have ky_16 := ky_14.on k16; clear K_14 C1_14 P1_14 In_14 rt_14 mg_14 s_14 ky_14; clear r15 g15 g16)
        | (refine wpList_valueG (o := ⟨some 63, _, _, _, _, _⟩) rfl _ (by exact exec_load1 _ 3 _ rfl ⟨w5.heap.size, 0, none⟩ rfl _ (s_16.cell (j := 0) rfl) _ Tryd.underlying3 rfl) ?_))
      have zrt := rt_16
      have zs := s_16
      have zdd := dd_16
      have zP1 := P1_16
      have zK := K_16
      have zB := B16
      have zlt := zdd.lt
      go_loopg [11, 12, 13] m (fun g s11 s12 s13 wr => ∃ q : Nat, s12 = .int .i64 (q : Int) ∧ s11 = .int .i64 ((j / 2 ^ q : Nat) : Int) ∧ q ≤ m ∧ m ≤ g + q ∧ Row wr w14.heap.size 23 (bvs (U q)) ∧ Row wr w5.heap.size 32 [.int .i64 (j : Int), .slice A 68 c, .slice B m d] ∧ Row wr w1.heap.size 23 (bvs rt) ∧ ReadsD wr B m P ∧ Below w.heap.size w wr)
      case atStart => exact ⟨0, rfl, by simp, by omega, by omega, zdd, zs, zrt, zP1, zB⟩
      case round =>
        obtain ⟨q, rfl, rfl, hq, hg, hrd, hrs, hrr, hrP, hbr⟩ := hrel
        by_cases hlt : q < m
        · have HUQ := HUL q
          have HUQ1 := HUL (q + 1)
          have HSQ := (HUS q hlt).out
          have HB2 : Hid (j / 2 ^ (q + 1) = j / 2 ^ q / 2) := by show _ = _; rw [Nat.div_div_eq_div_mul, Nat.pow_succ]
          obtain ⟨bp, p, rfl, hbpb, hpq, hp16, hpc⟩ := hrP.1.dig_at hrP.2 (k := q) hlt
          have hpg : P.getD q [] = p := by rw [List.getD_eq_getElem?_getD, hpq]; rfl
          rw [hpg] at HSQ
          have HP16 := Lib.hid hp16
          have HPC : Hid (∀ jj u, (bvs p)[jj]? = some u → wr.cell? ((bp.add (q * 16)).add jj) = some u) := fun jj u hu => by rw [add_of_add]; exact hpc jj u hu
          clear hpq hpg hp16 hpc
          have hxl : j / 2 ^ q ≤ j := Nat.div_le_self _ _
          have hs2 := hrs.cell (j := 2) rfl
          generalize hDE : U (q + 1) = D1 at *
          have HDE := Lib.hid hDE
          clear hDE
          generalize U q = D0 at *
          generalize hxx : j / 2 ^ q = x at *
          have HXX := Lib.hid hxx
          clear hxx
          by_cases hb : x % 2 = 1
          · rw [if_pos hb] at HSQ
            have HE := Lib.hid HSQ
            clear HSQ
            have ht : ((x : Int) % 2 == 0) = false := by simp; omega
            go_wp2_with (first
              | (refine wpList_valueG (o := ⟨some 75, _, _, _, _, _⟩) rfl _ (by exact exec_load16 _ _ rfl _ rfl p HP16.out HPC.out) ?_)
              | (with_reducible refine wpList_alloc_row (o := ⟨some 13, _, _, _, _, _⟩) rfl _ rfl zeros16 zero_b16 ?_; intro wa ra sa ga)
              | (with_reducible refine wpList_at ⟨none, .store _ (.tmp 13) _, _, _, _, _⟩ ?_; refine wpList_store_all rfl _ _ _ rfl wr.heap.size rfl _ _ ra (bvs p) rfl (bvs_one _) (b16_zeros _ HP16.out) (b16_size _ HP16.out) ?_; intro wb rb gb))
            have kb : Below wr.heap.size wr wb := below_kept (grown_below ga (Nat.le_refl _) (by simp)) gb (Nat.le_of_lt sa) (by rintro q hq; cases hq; exact Nat.le_refl _)
            have rd := hrd.on kb
            have rs := hrs.on kb
            have rr := hrr.on kb
            have rP := hrP.on kb
            have B5 := hbr.trans (kb.mono hbr.size)
            clear hrd hrs hrr hrP hs2 ra ga gb HPC
            refine wp_region_plan (fun _ => True) (.take 0 <| .take 1 <| .one 2 <| .one 3 <| .one 4 <| .done) (by kernel_rfl) (by kernel_rfl) (by kernel_rfl) (fun _ _ _ _ _ h => h) True.intro ?_
            repeat (refine plan_take _ rfl ?_; go_big_quiet_step ((intros; rfl)); refine wpQuiet_nil ?_)
            have rd := rd.drew
            have rs := rs.drew
            have rr := rr.drew
            have rb := rb.drew
            have rP : ReadsD wb.drew (some bp) m P := rP
            have B5 := B5.drew
            generalize wb.drew = wb at *
            refine plan_one _ rfl fun K hK => ?_
            go_simp
            have hrp := readsP_two wb 53 (some ⟨wr.heap.size, 0, none⟩) (some ⟨w14.heap.size, 0, none⟩) 16 16 16 16 p D0 (rb.reads16 HP16.out) (Nat.le_refl _) (rd.reads16 HUQ.out) (Nat.le_refl _)
            have ka : Below wb.heap.size wb (wb.alloc (.cells #[.slice (some ⟨wr.heap.size, 0, none⟩) 16 16, .slice (some ⟨w14.heap.size, 0, none⟩) 16 16] 53)) := (Below.refl _ _).alloc (Nat.le_refl _) _
            have rd := rd.on ka
            have rs := rs.on ka
            have rr := rr.on ka
            have rP := rP.on ka
            have B5 := B5.trans (ka.mono B5.size)
            refine hK _ _ True.intro ?_
            clear hK K
            refine plan_one _ rfl fun K hK => ?_
            go_simp
            refine (refDigest_any 2 _ _ _ _ _ hrp (by omega) (parts_two_le _ _ 300 (show 16 ≤ 300 by omega) (show 16 ≤ 300 by omega))).mono ?_
            rintro e wd ⟨rfl, hbd⟩
            rw [(HDG2 _ _ _ _ _ _).out, ← HE.out]
            have rd := rd.on hbd
            have rs := rs.on hbd
            have rr := rr.on hbd
            have rP := rP.on hbd
            have B5 := B5.trans (hbd.mono B5.size)
            refine hK _ _ True.intro ?_
            clear hK K
            refine plan_one _ rfl fun K hK => ?_
            refine step_store_all rfl _ _ _ rfl w14.heap.size rfl _ _ rd (bvs D1) rfl (bvs_one _) (by rw [bvs_length, bvs_length, HUQ.out, HUQ1.out]) (b16_size _ HUQ1.out) ?_
            intro we re ge
            refine hK _ _ True.intro ?_
            clear hK K
            simp only [Act.put]
            refine plan_done ?_
            go_wp2_with fail
            go_roundg (gk - 1)
            case measure => omega
            case rel => exact ⟨q + 1, by go_num, by rw [HB2.out]; go_num, by omega, by omega, by rw [HDE.out]; exact re, rs.kept ge (by simp; omega), rr.kept ge (by simp; omega), hP.on (below_kept B5 ge B5.size (by rintro q hq; cases hq; omega)), below_kept B5 ge B5.size (by rintro q hq; cases hq; omega)⟩
          · rw [if_neg hb] at HSQ
            have HE := Lib.hid HSQ
            clear HSQ
            have ht : ((x : Int) % 2 == 0) = true := by simp; omega
            go_wp2_with (first
              | (refine wpList_valueG (o := ⟨some 75, _, _, _, _, _⟩) rfl _ (by exact exec_load16 _ _ rfl _ rfl p HP16.out HPC.out) ?_)
              | (with_reducible refine wpList_alloc_row (o := ⟨some 13, _, _, _, _, _⟩) rfl _ rfl zeros16 zero_b16 ?_; intro wa ra sa ga)
              | (with_reducible refine wpList_at ⟨none, .store _ (.tmp 13) _, _, _, _, _⟩ ?_; refine wpList_store_all rfl _ _ _ rfl wr.heap.size rfl _ _ ra (bvs p) rfl (bvs_one _) (b16_zeros _ HP16.out) (b16_size _ HP16.out) ?_; intro wb rb gb))
            have kb : Below wr.heap.size wr wb := below_kept (grown_below ga (Nat.le_refl _) (by simp)) gb (Nat.le_of_lt sa) (by rintro q hq; cases hq; exact Nat.le_refl _)
            have rd := hrd.on kb
            have rs := hrs.on kb
            have rr := hrr.on kb
            have rP := hrP.on kb
            have B5 := hbr.trans (kb.mono hbr.size)
            clear hrd hrs hrr hrP hs2 ra ga gb HPC
            refine wp_region_plan (fun _ => True) (.take 0 <| .take 1 <| .one 2 <| .one 3 <| .one 4 <| .done) (by kernel_rfl) (by kernel_rfl) (by kernel_rfl) (fun _ _ _ _ _ h => h) True.intro ?_
            repeat (refine plan_take _ rfl ?_; go_big_quiet_step ((intros; rfl)); refine wpQuiet_nil ?_)
            have rd := rd.drew
            have rs := rs.drew
            have rr := rr.drew
            have rb := rb.drew
            have rP : ReadsD wb.drew (some bp) m P := rP
            have B5 := B5.drew
            generalize wb.drew = wb at *
            refine plan_one _ rfl fun K hK => ?_
            go_simp
            have hrp := readsP_two wb 53 (some ⟨w14.heap.size, 0, none⟩) (some ⟨wr.heap.size, 0, none⟩) 16 16 16 16 D0 p (rd.reads16 HUQ.out) (Nat.le_refl _) (rb.reads16 HP16.out) (Nat.le_refl _)
            have ka : Below wb.heap.size wb (wb.alloc (.cells #[.slice (some ⟨w14.heap.size, 0, none⟩) 16 16, .slice (some ⟨wr.heap.size, 0, none⟩) 16 16] 53)) := (Below.refl _ _).alloc (Nat.le_refl _) _
            have rd := rd.on ka
            have rs := rs.on ka
            have rr := rr.on ka
            have rP := rP.on ka
            have B5 := B5.trans (ka.mono B5.size)
            refine hK _ _ True.intro ?_
            clear hK K
            refine plan_one _ rfl fun K hK => ?_
            go_simp
            refine (refDigest_any 2 _ _ _ _ _ hrp (by omega) (parts_two_le _ _ 300 (show 16 ≤ 300 by omega) (show 16 ≤ 300 by omega))).mono ?_
            rintro e wd ⟨rfl, hbd⟩
            rw [(HDG2 _ _ _ _ _ _).out, ← HE.out]
            have rd := rd.on hbd
            have rs := rs.on hbd
            have rr := rr.on hbd
            have rP := rP.on hbd
            have B5 := B5.trans (hbd.mono B5.size)
            refine hK _ _ True.intro ?_
            clear hK K
            refine plan_one _ rfl fun K hK => ?_
            refine step_store_all rfl _ _ _ rfl w14.heap.size rfl _ _ rd (bvs D1) rfl (bvs_one _) (by rw [bvs_length, bvs_length, HUQ.out, HUQ1.out]) (b16_size _ HUQ1.out) ?_
            intro we re ge
            refine hK _ _ True.intro ?_
            clear hK K
            simp only [Act.put]
            refine plan_done ?_
            go_wp2_with fail
            go_roundg (gk - 1)
            case measure => omega
            case rel => exact ⟨q + 1, by go_num, by rw [HB2.out]; go_num, by omega, by omega, by rw [HDE.out]; exact re, rs.kept ge (by simp; omega), rr.kept ge (by simp; omega), hP.on (below_kept B5 ge B5.size (by rintro q hq; cases hq; omega)), below_kept B5 ge B5.size (by rintro q hq; cases hq; omega)⟩
        · obtain rfl : q = m := by omega
          rw [HJ0.out]
          rw [HUE.out] at hrd
          have hs2 := hrs.cell (j := 2) rfl
          go_wp2_with (first
            | (refine wpList_valueG (o := ⟨some 91, _, _, _, _, _⟩) rfl _ (by exact exec_load16 _ _ rfl _ rfl rt HT.out hrd.cells) ?_)
            | (refine wpList_valueG (o := ⟨some 92, _, _, _, _, _⟩) rfl _ (by exact exec_load16 _ _ rfl _ rfl rt HT.out hrr.cells) ?_)
            | (refine wpList_valueG (o := ⟨some 93, _, _, _, _, _⟩) rfl _ (by exact exec_eql16_same _ _ _ rfl rt HT.out rfl rfl) ?_))
          go_ret
          exact ⟨rfl, hbr⟩
end Go.Proofs.YtfmcgcdppbcfjaaDoor
