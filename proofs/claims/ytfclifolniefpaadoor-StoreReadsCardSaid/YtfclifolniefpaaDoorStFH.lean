/-
  What store.decode returns: a contract by a walk. Conditions: the table of constants as laid; bounded lengths.
-/
import Derived.Test.YtfclifolniefpaaDoorStCE
import Derived.Deep.LoopGhost
set_option linter.unusedSimpArgs false
set_option linter.unusedVariables false
namespace Go.Proofs.YtfclifolniefpaaDoor
open Go.RowKit

set_option maxRecDepth 100000 in
set_option maxHeartbeats 4000000 in
theorem sdecode_any (rec : Int) (A : Option Addr) (n c : Nat) (l : List UInt8) (w : World) (hin : stIn rec = true) (hK : Consts w) (hr : Reads w w.heap.size 1 A n (bvs l)) (hc : n ≤ c) (hn : n ≤ 2900) :
    Calls Tryd.prog 47 #[.int .i64 rec, .slice A n c] w (GivesX (stD (stDec rec l)).v w) := by
  obtain ⟨m, u, x, hmx⟩ : ∃ m u x, getInt l = (m, u, x) := ⟨_, _, _, rfl⟩
  have hok := getInt_ok l
  have HG := fun W hW => Lib.hid (getInt_any A c l n W W.heap.size hW (by omega))
  rw [hmx] at hok
  rw [hmx] at HG
  have HMX := Lib.hid hmx
  generalize hR : stDec rec l = R at *
  have HR := Lib.hid hR
  clear hR hmx
  unfold Rets at HG
  simp only at hok HG
  have HLL := Lib.hid hr.bytes_len
  by_cases hx : x = 0
  rotate_left
  · have HE : Hid (R = (0, [])) := Lib.hid (by rw [← HR.out]; exact stDec_err (.inl (by rw [HMX.out]; exact hx)))
    have q1 : (x != 0) = true := by simpa using hx
    clear hok hx
    go_enter Tryd.func47, Tryd.ntmps47
    go_wp2_with (with_reducible refine wpList_alloc_row (o := ⟨some 4, _, _, _, _, _⟩) rfl _ rfl zeroD zero_sd ?_; intro w1 z4_1 s1 g1; have k1 : Below w.heap.size w w1 := grown_below g1 (Nat.le_refl _) (by simp); have B1 : Below w.heap.size w w1 := k1; have k_1 := hK.on k1; have l_1 := hr.on k1)
    refine ((HG _ l_1).out).mono ?_
    rintro e _ ⟨rfl, rfl⟩
    go_wp2_with ((with_reducible refine wpList_at ⟨none, .store _ (.tmp 4) _, _, _, _, _⟩ ?_); refine wpList_store_all rfl _ _ _ rfl (w.heap.size) rfl _ _ z4_1 ((⟨0, ⟨#[]⟩⟩ : StD).cs) rfl ((⟨0, ⟨#[]⟩⟩ : StD).cs_one) rfl (by kernel_rfl) ?_; intro w2 z4_2 g2; have B2 := below_kept B1 g2 B1.size (by rintro q hq; cases hq; omega))
    exact bodyPost_ret (results_cell1 Tryd.results47 _ _ _ _ rfl (load_sd (a := (⟨0, ⟨#[]⟩⟩ : StD)) z4_2)) rfl ⟨by rw [HE.out]; rfl, B2⟩
  subst hx
  have hok2 : I64 m ∧ 0 < u ∧ u ≤ l.length ∧ u ≤ 10 := by rcases hok with h | h | h; exact h.2; (injection h with _ h; injection h with _ h; cases h); (injection h with _ h; injection h with _ h; cases h)
  obtain ⟨hm, hu0, hul, hu10⟩ := hok2
  rw [HLL.out] at hul
  obtain ⟨hm1, hm2⟩ := hm
  clear hok
  by_cases hA : m < 1
  · have HE : Hid (R = (0, [])) := Lib.hid (by rw [← HR.out]; exact stDec_err (.inr (.inl (by rw [HMX.out]; exact hA))))
    go_enter Tryd.func47, Tryd.ntmps47
    go_wp2_with (with_reducible refine wpList_alloc_row (o := ⟨some 4, _, _, _, _, _⟩) rfl _ rfl zeroD zero_sd ?_; intro w3 z4_3 s3 g3; have k3 : Below w.heap.size w w3 := grown_below g3 (Nat.le_refl _) (by simp); have B3 : Below w.heap.size w w3 := k3; have k_3 := hK.on k3; have l_3 := hr.on k3)
    refine ((HG _ l_3).out).mono ?_
    rintro e _ ⟨rfl, rfl⟩
    go_wp2_with ((with_reducible refine wpList_at ⟨none, .store _ (.tmp 4) _, _, _, _, _⟩ ?_); refine wpList_store_all rfl _ _ _ rfl (w.heap.size) rfl _ _ z4_3 ((⟨0, ⟨#[]⟩⟩ : StD).cs) rfl ((⟨0, ⟨#[]⟩⟩ : StD).cs_one) rfl (by kernel_rfl) ?_; intro w4 z4_4 g4; have B4 := below_kept B3 g4 B3.size (by rintro q hq; cases hq; omega))
    exact bodyPost_ret (results_cell1 Tryd.results47 _ _ _ _ rfl (load_sd (a := (⟨0, ⟨#[]⟩⟩ : StD)) z4_4)) rfl ⟨by rw [HE.out]; rfl, B4⟩
  by_cases hB : 1099511627776 < m
  · have HE : Hid (R = (0, [])) := Lib.hid (by rw [← HR.out]; exact stDec_err (.inr (.inr (by rw [HMX.out]; exact hB))))
    go_enter Tryd.func47, Tryd.ntmps47
    go_wp2_with (with_reducible refine wpList_alloc_row (o := ⟨some 4, _, _, _, _, _⟩) rfl _ rfl zeroD zero_sd ?_; intro w5 z4_5 s5 g5; have k5 : Below w.heap.size w w5 := grown_below g5 (Nat.le_refl _) (by simp); have B5 : Below w.heap.size w w5 := k5; have k_5 := hK.on k5; have l_5 := hr.on k5)
    refine ((HG _ l_5).out).mono ?_
    rintro e _ ⟨rfl, rfl⟩
    go_wp2_with ((with_reducible refine wpList_at ⟨none, .store _ (.tmp 4) _, _, _, _, _⟩ ?_); refine wpList_store_all rfl _ _ _ rfl (w.heap.size) rfl _ _ z4_5 ((⟨0, ⟨#[]⟩⟩ : StD).cs) rfl ((⟨0, ⟨#[]⟩⟩ : StD).cs_one) rfl (by kernel_rfl) ?_; intro w6 z4_6 g6; have B6 := below_kept B5 g6 B5.size (by rintro q hq; cases hq; omega))
    exact bodyPost_ret (results_cell1 Tryd.results47 _ _ _ _ rfl (load_sd (a := (⟨0, ⟨#[]⟩⟩ : StD)) z4_6)) rfl ⟨by rw [HE.out]; rfl, B6⟩
  by_cases hcu : c = u
  · obtain rfl : n = u := by omega
    subst hcu
    have HGE := fun W => Lib.hid (getBytes_any A 0 [] 0 W W.heap.size Reads.nil_ (by omega) (by omega))
    have hge : getBytes [] = ([], 0, 6) := by decide +kernel
    rw [hge] at HGE
    unfold RetsS at HGE
    simp only at HGE
    have HE : Hid (R = (0, [])) := Lib.hid (by rw [← HR.out]; exact stDec_err2 (.inl (by rw [HMX.out]; simp only; rw [List.drop_of_length_le (by rw [HLL.out]; exact Nat.le_refl _), hge]; decide)))
    clear hge hu10 hn hul
    go_enter Tryd.func47, Tryd.ntmps47
    go_wp2_with (with_reducible refine wpList_alloc_row (o := ⟨some 4, _, _, _, _, _⟩) rfl _ rfl zeroD zero_sd ?_; intro w7 z4_7 s7 g7; have k7 : Below w.heap.size w w7 := grown_below g7 (Nat.le_refl _) (by simp); have B7 : Below w.heap.size w w7 := k7; have k_7 := hK.on k7; have l_7 := hr.on k7)
    refine ((HG _ l_7).out).mono ?_
    rintro e _ ⟨rfl, rfl⟩
    go_wp2_with fail
    refine ((HGE _).out).mono ?_
    rintro e _ ⟨rfl, rfl⟩
    go_wp2_with ((with_reducible refine wpList_at ⟨none, .store _ (.tmp 4) _, _, _, _, _⟩ ?_); refine wpList_store_all rfl _ _ _ rfl (w.heap.size) rfl _ _ z4_7 ((⟨0, ⟨#[]⟩⟩ : StD).cs) rfl ((⟨0, ⟨#[]⟩⟩ : StD).cs_one) rfl (by kernel_rfl) ?_; intro w8 z4_8 g8; have B8 := below_kept B7 g8 B7.size (by rintro q hq; cases hq; omega))
    exact bodyPost_ret (results_cell1 Tryd.results47 _ _ _ _ rfl (load_sd (a := (⟨0, ⟨#[]⟩⟩ : StD)) z4_8)) rfl ⟨by rw [HE.out]; rfl, B8⟩
  obtain ⟨cs, z, y, hcz⟩ : ∃ cs z y, getBytes (l.drop u) = (cs, z, y) := ⟨_, _, _, rfl⟩
  have hsub := hr.sub (u := u) (m := n - u) (c := c) (by omega) hc
  have hdl : ((l.drop u).take (n - u)) = l.drop u := List.take_of_length_le (by rw [List.length_drop, HLL.out]; exact Nat.le_refl _)
  rw [hdl] at hsub
  rw [if_neg hcu, Nat.mul_one] at hsub
  have HS2 : ∀ W : World, Below w.heap.size w W → Reads W W.heap.size 1 (A.map (·.add u)) (n - u) (bvs (l.drop u)) := fun W hW => hsub.on hW
  have HGB := fun W (hW : Below w.heap.size w W) => Lib.hid (getBytes_any (A.map (·.add u)) (c - u) (l.drop u) (n - u) W W.heap.size (HS2 W hW) (by omega) (by omega))
  rw [hcz] at HGB
  unfold RetsS at HGB
  simp only at HGB
  obtain ⟨S, hS⟩ : ∃ S : ByteArray, S = ⟨cs.toArray⟩ := ⟨_, rfl⟩
  rw [← hS] at HGB
  have hSz : S.size = cs.length := by rw [hS]; simp [ByteArray.size]
  have HSM : Hid (S = mk cs) := Lib.hid hS
  have HCZ := Lib.hid hcz
  clear hdl hS hcz hsub
  have hu2 : (n : Int) - (u : Int) = ((n - u : Nat) : Int) := by omega
  by_cases hy : y = 0
  rotate_left
  · have HE : Hid (R = (0, [])) := Lib.hid (by rw [← HR.out]; exact stDec_err2 (.inl (by rw [HMX.out]; simp only; rw [HCZ.out]; exact hy)))
    have q2 : (y != 0) = true := by simpa using hy
    clear hy
    go_enter Tryd.func47, Tryd.ntmps47
    go_wp2_with (with_reducible refine wpList_alloc_row (o := ⟨some 4, _, _, _, _, _⟩) rfl _ rfl zeroD zero_sd ?_; intro w9 z4_9 s9 g9; have k9 : Below w.heap.size w w9 := grown_below g9 (Nat.le_refl _) (by simp); have B9 : Below w.heap.size w w9 := k9; have k_9 := hK.on k9; have l_9 := hr.on k9)
    refine ((HG _ l_9).out).mono ?_
    rintro e _ ⟨rfl, rfl⟩
    go_wp2_with fail
    refine ((HGB _ B9).out).mono ?_
    rintro e _ ⟨rfl, rfl⟩
    go_wp2_with ((with_reducible refine wpList_at ⟨none, .store _ (.tmp 4) _, _, _, _, _⟩ ?_); refine wpList_store_all rfl _ _ _ rfl (w.heap.size) rfl _ _ z4_9 ((⟨0, ⟨#[]⟩⟩ : StD).cs) rfl ((⟨0, ⟨#[]⟩⟩ : StD).cs_one) rfl (by kernel_rfl) ?_; intro w10 z4_10 g10; have B10 := below_kept B9 g10 B9.size (by rintro q hq; cases hq; omega))
    exact bodyPost_ret (results_cell1 Tryd.results47 _ _ _ _ rfl (load_sd (a := (⟨0, ⟨#[]⟩⟩ : StD)) z4_10)) rfl ⟨by rw [HE.out]; rfl, B10⟩
  subst hy
  by_cases hbig : 2000 < S.size
  · have HE : Hid (R = (0, [])) := Lib.hid (by rw [← HR.out]; exact stDec_err2 (.inr (by rw [HMX.out]; simp only; rw [HCZ.out]; simp only; rw [← hSz]; exact hbig)))
    go_enter Tryd.func47, Tryd.ntmps47
    go_wp2_with (with_reducible refine wpList_alloc_row (o := ⟨some 4, _, _, _, _, _⟩) rfl _ rfl zeroD zero_sd ?_; intro w11 z4_11 s11 g11; have k11 : Below w.heap.size w w11 := grown_below g11 (Nat.le_refl _) (by simp); have B11 : Below w.heap.size w w11 := k11; have k_11 := hK.on k11; have l_11 := hr.on k11)
    refine ((HG _ l_11).out).mono ?_
    rintro e _ ⟨rfl, rfl⟩
    go_wp2_with fail
    refine ((HGB _ B11).out).mono ?_
    rintro e _ ⟨rfl, rfl⟩
    go_wp2_with ((with_reducible refine wpList_at ⟨none, .store _ (.tmp 4) _, _, _, _, _⟩ ?_); refine wpList_store_all rfl _ _ _ rfl (w.heap.size) rfl _ _ z4_11 ((⟨0, ⟨#[]⟩⟩ : StD).cs) rfl ((⟨0, ⟨#[]⟩⟩ : StD).cs_one) rfl (by kernel_rfl) ?_; intro w12 z4_12 g12; have B12 := below_kept B11 g12 B11.size (by rintro q hq; cases hq; omega))
    exact bodyPost_ret (results_cell1 Tryd.results47 _ _ _ _ rfl (load_sd (a := (⟨0, ⟨#[]⟩⟩ : StD)) z4_12)) rfl ⟨by rw [HE.out]; rfl, B12⟩
  obtain ⟨_, hzl⟩ := getBytes_canon _ cs z HCZ.out
  rw [List.length_drop, HLL.out] at hzl
  have HEQ : Hid (R = if dgl 5 [encInt rec, l.take (u + z)] <+: l.drop (u + z) then (m, cs) else (0, [])) := Lib.hid (by rw [← HR.out]; exact stDec_code HMX.out (by omega) (by omega) HCZ.out (by omega))
  have htk := hr.take (k := u + z) (by omega)
  rw [Nat.mul_one, show (bvs l).take (u + z) = bvs (l.take (u + z)) by unfold bvs; rw [List.map_take]] at htk
  have HDG := fun W (hW : Below w.heap.size w W) => Lib.hid (sdigest_any rec A (u + z) c (l.take (u + z)) W hin (hK.on hW) (htk.on hW) (by omega) (by omega))
  have HDL := Lib.hid (dgl_len 5 [encInt rec, l.take (u + z)])
  generalize dgl 5 [encInt rec, l.take (u + z)] = D at *
  clear htk hu2
  by_cases hcz2 : c = u + z
  · obtain rfl : n = u + z := by omega
    subst hcz2
    simp only [Nat.add_sub_cancel_left] at HGB
    have HE : Hid (R = (0, [])) := Lib.hid (by rw [HEQ.out, if_neg]; rw [List.drop_of_length_le (by rw [HLL.out]; exact Nat.le_refl _)]; intro h; have := h.length_le; rw [HDL.out] at this; simp at this)
    have HPX := fun (W : World) B d (h : Reads W W.heap.size 1 B 16 (bvs D)) => Lib.hid (hasPrefix_any A B 0 0 16 d [] D W Reads.nil_ h (Nat.le_refl _))
    rw [show decide (D <+: []) = false by refine decide_eq_false fun h => ?_; have := h.length_le; rw [HDL.out] at this; simp at this] at HPX
    go_enter Tryd.func47, Tryd.ntmps47
    go_wp2_with (with_reducible refine wpList_alloc_row (o := ⟨some 4, _, _, _, _, _⟩) rfl _ rfl zeroD zero_sd ?_; intro w13 z4_13 s13 g13; have k13 : Below w.heap.size w w13 := grown_below g13 (Nat.le_refl _) (by simp); have B13 : Below w.heap.size w w13 := k13; have k_13 := hK.on k13; have l_13 := hr.on k13)
    refine ((HG _ l_13).out).mono ?_
    rintro e _ ⟨rfl, rfl⟩
    go_wp2_with fail
    refine ((HGB _ B13).out).mono ?_
    rintro e _ ⟨rfl, rfl⟩
    go_wp2_with fail
    refine ((HDG _ B13).out).mono ?_
    rintro e w14 ⟨rfl, h14⟩
    have B14 := B13.trans (h14.mono B13.size)
    have k_14 := k_13.on h14
    have l_14 := l_13.on h14
    have z4_14 := z4_13.on h14
    clear k_13 l_13 z4_13
    go_wp2_with (first
      | (with_reducible refine wpList_alloc_row (o := ⟨some 10, _, _, _, _, _⟩) rfl _ rfl zeros16 zero_b16 ?_; intro w15 r15 s15 g15)
      | ((with_reducible refine wpList_at ⟨none, .store _ (.tmp 10) _, _, _, _, _⟩ ?_); refine wpList_store_all rfl _ _ _ rfl w14.heap.size rfl _ _ r15 (bvs D) rfl (bvs_one _) (b16_zeros _ HDL.out) (b16_size _ HDL.out) ?_; intro w16 rd_16 g16; have k16 : Below w14.heap.size w14 w16 := below_kept (grown_below g15 (Nat.le_refl _) (by simp)) g16 (Nat.le_of_lt s15) (by rintro q hq; cases hq; exact Nat.le_refl _); have B16 := B14.trans (k16.mono B14.size); have k_16 := k_14.on k16; have l_16 := l_14.on k16; have z4_16 := z4_14.on k16; clear k_14 l_14 z4_14; clear r15 g15 g16; have s16 := rd_16.lt))
    try simp only [Act.put, List.setIfInBounds_toArray, List.set_cons_zero, List.set_cons_succ]
    have bq0 : Below w.heap.size w w16.drew := B16.drew
    have rdq := rd_16.drew
    have z4q := z4_16.drew
    have lq := l_16.drew
    have dq := rdq.reads (size := 1) (n := 16) (by rw [bvs_length, HDL.out])
    refine wp_region_plan (fun _ => True) (.take 0 <| .take 1 <| .take 2 <| .take 3 <| .one 4 <| .take 5 <| .done) (by kernel_rfl) (by kernel_rfl) (by kernel_rfl) (fun _ _ _ _ _ h => h) trivial ?_
    repeat (refine plan_take _ rfl ?_; (first | (go_big_quiet_step ((intros; rfl)); refine wpQuiet_nil ?_)))
    refine plan_one _ rfl fun K hK => ?_
    go_simp
    refine ((HPX _ _ _ dq).out).mono ?_
    rintro e _ ⟨rfl, rfl⟩
    refine hK _ _ trivial ?_
    clear hK K
    repeat (refine plan_take _ rfl ?_; (first | (go_big_quiet_step ((intros; rfl)); refine wpQuiet_nil ?_)))
    refine plan_done ?_
    go_wp2_with ((with_reducible refine wpList_at ⟨none, .store _ (.tmp 4) _, _, _, _, _⟩ ?_); refine wpList_store_all rfl _ _ _ rfl (w.heap.size) rfl _ _ z4q ((⟨0, ⟨#[]⟩⟩ : StD).cs) rfl ((⟨0, ⟨#[]⟩⟩ : StD).cs_one) rfl (by kernel_rfl) ?_; intro w17 z4_17 g17; have B17 := below_kept bq0 g17 bq0.size (by rintro q hq; cases hq; omega))
    exact bodyPost_ret (results_cell1 Tryd.results47 _ _ _ _ rfl (load_sd (a := (⟨0, ⟨#[]⟩⟩ : StD)) z4_17)) rfl ⟨by rw [HE.out]; rfl, B17⟩
  have hds := hr.sub (u := u + z) (m := n - (u + z)) (c := c) (by omega) hc
  rw [if_neg hcz2, Nat.mul_one, List.take_of_length_le (l := l.drop (u + z)) (by rw [List.length_drop, HLL.out]; exact Nat.le_refl _)] at hds
  have HPX := fun (W : World) B d (hW : Below w.heap.size w W) (h : Reads W W.heap.size 1 B 16 (bvs D)) => Lib.hid (hasPrefix_any (A.map (·.add (u + z))) B (n - (u + z)) (c - (u + z)) 16 d (l.drop (u + z)) D W (hds.on hW) h (by omega))
  clear hds
  by_cases hp : D <+: l.drop (u + z)
  · have HE : Hid (R = (m, cs)) := Lib.hid (by rw [HEQ.out, if_pos hp])
    rw [decide_eq_true hp] at HPX
    clear hp
    go_enter Tryd.func47, Tryd.ntmps47
    go_wp2_with (with_reducible refine wpList_alloc_row (o := ⟨some 4, _, _, _, _, _⟩) rfl _ rfl zeroD zero_sd ?_; intro w18 z4_18 s18 g18; have k18 : Below w.heap.size w w18 := grown_below g18 (Nat.le_refl _) (by simp); have B18 : Below w.heap.size w w18 := k18; have k_18 := hK.on k18; have l_18 := hr.on k18)
    refine ((HG _ l_18).out).mono ?_
    rintro e _ ⟨rfl, rfl⟩
    go_wp2_with fail
    refine ((HGB _ B18).out).mono ?_
    rintro e _ ⟨rfl, rfl⟩
    go_wp2_with fail
    refine ((HDG _ B18).out).mono ?_
    rintro e w19 ⟨rfl, h19⟩
    have B19 := B18.trans (h19.mono B18.size)
    have k_19 := k_18.on h19
    have l_19 := l_18.on h19
    have z4_19 := z4_18.on h19
    clear k_18 l_18 z4_18
    go_wp2_with (first
      | (with_reducible refine wpList_alloc_row (o := ⟨some 10, _, _, _, _, _⟩) rfl _ rfl zeros16 zero_b16 ?_; intro w20 r20 s20 g20)
      | ((with_reducible refine wpList_at ⟨none, .store _ (.tmp 10) _, _, _, _, _⟩ ?_); refine wpList_store_all rfl _ _ _ rfl w19.heap.size rfl _ _ r20 (bvs D) rfl (bvs_one _) (b16_zeros _ HDL.out) (b16_size _ HDL.out) ?_; intro w21 rd_21 g21; have k21 : Below w19.heap.size w19 w21 := below_kept (grown_below g20 (Nat.le_refl _) (by simp)) g21 (Nat.le_of_lt s20) (by rintro q hq; cases hq; exact Nat.le_refl _); have B21 := B19.trans (k21.mono B19.size); have k_21 := k_19.on k21; have l_21 := l_19.on k21; have z4_21 := z4_19.on k21; clear k_19 l_19 z4_19; clear r20 g20 g21; have s21 := rd_21.lt))
    try simp only [Act.put, List.setIfInBounds_toArray, List.set_cons_zero, List.set_cons_succ]
    have bq0 : Below w.heap.size w w21.drew := B21.drew
    have rdq := rd_21.drew
    have z4q := z4_21.drew
    have lq := l_21.drew
    have dq := rdq.reads (size := 1) (n := 16) (by rw [bvs_length, HDL.out])
    refine wp_region_plan (fun _ => True) (.take 0 <| .take 1 <| .take 2 <| .take 3 <| .one 4 <| .take 5 <| .done) (by kernel_rfl) (by kernel_rfl) (by kernel_rfl) (fun _ _ _ _ _ h => h) trivial ?_
    repeat (refine plan_take _ rfl ?_; (first | (go_big_quiet_step ((intros; rfl)); refine wpQuiet_nil ?_)))
    refine plan_one _ rfl fun K hK => ?_
    go_simp
    refine ((HPX _ _ _ bq0 dq).out).mono ?_
    rintro e _ ⟨rfl, rfl⟩
    refine hK _ _ trivial ?_
    clear hK K
    repeat (refine plan_take _ rfl ?_; (first | (go_big_quiet_step ((intros; rfl)); refine wpQuiet_nil ?_)))
    refine plan_done ?_
    go_wp2_with ((with_reducible refine wpList_at ⟨none, .store _ (.tmp 4) _, _, _, _, _⟩ ?_); refine wpList_store_all rfl _ _ _ rfl (w.heap.size) rfl _ _ z4q ((⟨m, S⟩ : StD).cs) rfl ((⟨m, S⟩ : StD).cs_one) rfl (by kernel_rfl) ?_; intro w22 z4_22 g22; have B22 := below_kept bq0 g22 bq0.size (by rintro q hq; cases hq; omega))
    exact bodyPost_ret (results_cell1 Tryd.results47 _ _ _ _ rfl (load_sd (a := (⟨m, S⟩ : StD)) z4_22)) rfl ⟨by rw [HE.out, HSM.out]; rfl, B22⟩
  · have HE : Hid (R = (0, [])) := Lib.hid (by rw [HEQ.out, if_neg hp])
    rw [decide_eq_false hp] at HPX
    clear hp
    go_enter Tryd.func47, Tryd.ntmps47
    go_wp2_with (with_reducible refine wpList_alloc_row (o := ⟨some 4, _, _, _, _, _⟩) rfl _ rfl zeroD zero_sd ?_; intro w23 z4_23 s23 g23; have k23 : Below w.heap.size w w23 := grown_below g23 (Nat.le_refl _) (by simp); have B23 : Below w.heap.size w w23 := k23; have k_23 := hK.on k23; have l_23 := hr.on k23)
    refine ((HG _ l_23).out).mono ?_
    rintro e _ ⟨rfl, rfl⟩
    go_wp2_with fail
    refine ((HGB _ B23).out).mono ?_
    rintro e _ ⟨rfl, rfl⟩
    go_wp2_with fail
    refine ((HDG _ B23).out).mono ?_
    rintro e w24 ⟨rfl, h24⟩
    have B24 := B23.trans (h24.mono B23.size)
    have k_24 := k_23.on h24
    have l_24 := l_23.on h24
    have z4_24 := z4_23.on h24
    clear k_23 l_23 z4_23
    go_wp2_with (first
      | (with_reducible refine wpList_alloc_row (o := ⟨some 10, _, _, _, _, _⟩) rfl _ rfl zeros16 zero_b16 ?_; intro w25 r25 s25 g25)
      | ((with_reducible refine wpList_at ⟨none, .store _ (.tmp 10) _, _, _, _, _⟩ ?_); refine wpList_store_all rfl _ _ _ rfl w24.heap.size rfl _ _ r25 (bvs D) rfl (bvs_one _) (b16_zeros _ HDL.out) (b16_size _ HDL.out) ?_; intro w26 rd_26 g26; have k26 : Below w24.heap.size w24 w26 := below_kept (grown_below g25 (Nat.le_refl _) (by simp)) g26 (Nat.le_of_lt s25) (by rintro q hq; cases hq; exact Nat.le_refl _); have B26 := B24.trans (k26.mono B24.size); have k_26 := k_24.on k26; have l_26 := l_24.on k26; have z4_26 := z4_24.on k26; clear k_24 l_24 z4_24; clear r25 g25 g26; have s26 := rd_26.lt))
    try simp only [Act.put, List.setIfInBounds_toArray, List.set_cons_zero, List.set_cons_succ]
    have bq0 : Below w.heap.size w w26.drew := B26.drew
    have rdq := rd_26.drew
    have z4q := z4_26.drew
    have lq := l_26.drew
    have dq := rdq.reads (size := 1) (n := 16) (by rw [bvs_length, HDL.out])
    refine wp_region_plan (fun _ => True) (.take 0 <| .take 1 <| .take 2 <| .take 3 <| .one 4 <| .take 5 <| .done) (by kernel_rfl) (by kernel_rfl) (by kernel_rfl) (fun _ _ _ _ _ h => h) trivial ?_
    repeat (refine plan_take _ rfl ?_; (first | (go_big_quiet_step ((intros; rfl)); refine wpQuiet_nil ?_)))
    refine plan_one _ rfl fun K hK => ?_
    go_simp
    refine ((HPX _ _ _ bq0 dq).out).mono ?_
    rintro e _ ⟨rfl, rfl⟩
    refine hK _ _ trivial ?_
    clear hK K
    repeat (refine plan_take _ rfl ?_; (first | (go_big_quiet_step ((intros; rfl)); refine wpQuiet_nil ?_)))
    refine plan_done ?_
    go_wp2_with ((with_reducible refine wpList_at ⟨none, .store _ (.tmp 4) _, _, _, _, _⟩ ?_); refine wpList_store_all rfl _ _ _ rfl (w.heap.size) rfl _ _ z4q ((⟨0, ⟨#[]⟩⟩ : StD).cs) rfl ((⟨0, ⟨#[]⟩⟩ : StD).cs_one) rfl (by kernel_rfl) ?_; intro w27 z4_27 g27; have B27 := below_kept bq0 g27 bq0.size (by rintro q hq; cases hq; omega))
    exact bodyPost_ret (results_cell1 Tryd.results47 _ _ _ _ rfl (load_sd (a := (⟨0, ⟨#[]⟩⟩ : StD)) z4_27)) rfl ⟨by rw [HE.out]; rfl, B27⟩
end Go.Proofs.YtfclifolniefpaaDoor

/-
  What store.join returns: a contract by a walk. Condition: bounded lengths.
-/
namespace Go.Proofs.YtfclifolniefpaaDoor
open Go.RowKit

theorem info_u8' : (Tryd.prog.info? 5).map (fun i => (i.zero, i.size, i.bytes)) = some (some (.int .u8 0), 1, 1) := info_u8
def jn (l : List StR) (k : Nat) : List UInt8 := (stCat ((l.take k).map StR.s)).take 2048
theorem jn_zero (l : List StR) : jn l 0 = [] := rfl
theorem stCat_snoc (l : List ByteArray) (s : ByteArray) : stCat (l ++ [s]) = stCat l ++ tl s := by unfold stCat; rw [List.flatMap_append]; simp
theorem jn_succ {l : List StR} {k : Nat} {r : StR} (h : l[k]? = some r) : jn l (k + 1) = jn l k ++ (tl r.s).take (2048 - (jn l k).length) := by
  unfold jn
  rw [List.take_add_one (l := l), h, Option.toList_some, List.map_append, List.map_cons, List.map_nil, stCat_snoc]
  generalize stCat ((l.take k).map StR.s) = X
  rw [List.take_append, List.length_take]
  congr 2
  omega
theorem jn_len (l : List StR) (k : Nat) : (jn l k).length ≤ 2048 := by unfold jn; rw [List.length_take]; omega
theorem jn_all {l : List StR} {n : Nat} (h : l.length = n) : jn l n = (stCat (l.map StR.s)).take 2048 := by unfold jn; rw [List.take_of_length_le (l := l) (by omega)]
theorem src_part (P : Program) {tx : TypeId} (ht : P.underlying tx = some .string) (w : World) (s : ByteArray) (k : Nat) (hk : k ≤ s.size) : Src P 1 tx (.string (s.extract 0 k)) k (bvs ((tl s).take k)) w := by
  have h := Src.ofString w ht (s.extract 0 k)
  have e1 : (s.extract 0 k).size = k := by rw [← tl_len, tl_extract, List.drop_zero, List.length_take, tl_len]; omega
  have e2 : byteCells (s.extract 0 k) = bvs ((tl s).take k) := by
    rw [byteCells_bvs]
    show bvs (tl (s.extract 0 k)) = _
    rw [tl_extract, List.drop_zero, Nat.sub_zero]
  rw [e1, e2] at h
  exact h
theorem src_all (P : Program) {tx : TypeId} (ht : P.underlying tx = some .string) (w : World) (s : ByteArray) : Src P 1 tx (.string s) s.size (bvs (tl s)) w := Src.ofString w ht s
set_option maxRecDepth 100000 in
set_option maxHeartbeats 4000000 in
theorem sjoin_any (A : Option Addr) (n c : Nat) (l : List StR) (w : World) (hr : Reads w w.heap.size 2 A n (rcs l)) (hn : n ≤ 1000) (hs : ∀ r ∈ l, r.s.size ≤ 400) :
    Calls Tryd.prog 48 #[.slice A n c] w (Gives ((stCat (l.map StR.s)).take 2048) w) := by
  obtain ⟨i0, hi0, hz0, hz1, hz2⟩ := info_parts info_u8
  have HLN := Lib.hid (hr.len_of (by decide) StR.cs_len)
  have HSM := Lib.hid hs
  have HALL := Lib.hid (jn_all HLN.out)
  clear hs
  go_enter Tryd.func48, Tryd.ntmps48
  go_wp2_with fail
  go_loopg [3, 9] n (fun g s3 s9 wr => ∃ k : Nat, Hid (k + g = n) ∧ k ≤ n ∧ s9 = .int .i64 (k : Int) ∧ wr.ownsRow w.heap.size 5 1 s3 (jn l k).length (bvs (jn l k)) ∧ Below w.heap.size w wr)
  case atStart => exact ⟨0, by show _ = _; omega, by omega, rfl, World.ownsRow_nil _ _ _ _, Below.refl _ _⟩
  case round =>
    obtain ⟨k, HK, hk, rfl, ho, hB⟩ := hrel
    by_cases hlt : k < n
    · obtain ⟨r, hri⟩ : ∃ r, l[k]? = some r := ⟨_, List.getElem?_eq_getElem (by rw [HLN.out]; exact hlt)⟩
      obtain ⟨ad, rfl, hlta, hc⟩ := hr.elem StR.cs_len hri hlt
      have HCC := Lib.hid hc
      have HJ := Lib.hid (jn_succ hri)
      have hrs := HSM.out r (List.mem_of_getElem? hri)
      have hjl := jn_len l k
      obtain ⟨A3, c3, rfl, hc3, _, _⟩ := own_form ho
      obtain ⟨L, hL⟩ : ∃ L, L = (jn l k).length := ⟨_, rfl⟩
      rw [← hL] at hjl
      rw [← hL] at HJ
      rw [← hL] at ho
      rw [← hL] at hc3
      rw [← hL]
      obtain ⟨x, s⟩ := r
      simp only at HJ hrs
      have HLL := Lib.hid hL
      clear hri hc hL
      have hsz := hB.size
      by_cases hq : 2048 - L ≤ s.size
      · have hrm : 2048 - (L : Int) ≤ (s.size : Int) := by omega
        go_wp2_with (first
          | ((with_reducible refine wpList_at ⟨some 12, _, _, _, _, _⟩ ?_); refine wpList_valueG rfl _ (by exact exec_load _ 55 _ rfl (ad.add (k * 2)) rfl (⟨x, s⟩ : StR).cs (fun j u hu => (hB.cell (by rw [block_of_add, block_of_add]; exact hlta)).trans (HCC.out j u hu)) _ Tryd.underlying55 rfl (by kernel_rfl)) ?_)
          | (with_reducible refine wpList_alloc_row (o := ⟨some 5, _, _, _, _, _⟩) rfl _ rfl zeroR zero_rs ?_; intro w1 r1 s1 g1)
          | ((with_reducible refine wpList_at ⟨none, .store _ (.tmp 5) _, _, _, _, _⟩ ?_); refine wpList_store_all rfl _ _ _ rfl wr.heap.size rfl _ _ r1 ((⟨x, s⟩ : StR).cs) rfl (StR.cs_one _) rfl (by kernel_rfl) ?_; intro w2 r2 g2; have k2 : Below wr.heap.size wr w2 := below_kept (grown_below g1 (Nat.le_refl _) (by simp)) g2 (Nat.le_of_lt s1) (by rintro q hq; cases hq; exact Nat.le_refl _); have c1 := r2.cell (j := 1) rfl; have o2 := own_below ho k2; have B2 := hB.trans (k2.mono hB.size))
          | (at_builtin; refine wpList_append_src _ rfl (.tmp 16) (.tmp 24) _ _ rfl w.heap.size 5 i0 _ 1 1 Tryd.underlying42 hi0 hz0 hz1 hz2 rfl _ _ _ rfl o2 (2048 - L) _ (src_part _ Tryd.underlying9 _ s (2048 - L) hq) (by unfold maxLen; omega) (by omega) B2.size ?_; intro v3 w3 o3 h3))
        go_roundg (gk - 1)
        case measure => have := HK.out; omega
        case rel => exact ⟨k + 1, by have := HK.out; show _ = _; omega, by omega, by go_num, by rw [HJ.out, List.length_append, bvs_append, ← HLL.out, List.length_take, tl_len, Nat.min_eq_left hq]; exact o3, B2.trans h3⟩
      · have hrm : (s.size : Int) < 2048 - (L : Int) := by omega
        go_wp2_with (first
          | ((with_reducible refine wpList_at ⟨some 12, _, _, _, _, _⟩ ?_); refine wpList_valueG rfl _ (by exact exec_load _ 55 _ rfl (ad.add (k * 2)) rfl (⟨x, s⟩ : StR).cs (fun j u hu => (hB.cell (by rw [block_of_add, block_of_add]; exact hlta)).trans (HCC.out j u hu)) _ Tryd.underlying55 rfl (by kernel_rfl)) ?_)
          | (with_reducible refine wpList_alloc_row (o := ⟨some 5, _, _, _, _, _⟩) rfl _ rfl zeroR zero_rs ?_; intro w1 r1 s1 g1)
          | ((with_reducible refine wpList_at ⟨none, .store _ (.tmp 5) _, _, _, _, _⟩ ?_); refine wpList_store_all rfl _ _ _ rfl wr.heap.size rfl _ _ r1 ((⟨x, s⟩ : StR).cs) rfl (StR.cs_one _) rfl (by kernel_rfl) ?_; intro w2 r2 g2; have k2 : Below wr.heap.size wr w2 := below_kept (grown_below g1 (Nat.le_refl _) (by simp)) g2 (Nat.le_of_lt s1) (by rintro q hq; cases hq; exact Nat.le_refl _); have c1 := r2.cell (j := 1) rfl; have o2 := own_below ho k2; have B2 := hB.trans (k2.mono hB.size))
          | (at_builtin; refine wpList_append_src _ rfl (.tmp 16) (.tmp 24) _ _ rfl w.heap.size 5 i0 _ 1 1 Tryd.underlying42 hi0 hz0 hz1 hz2 rfl _ _ _ rfl o2 (s.size) _ (src_all _ Tryd.underlying9 _ s) (by unfold maxLen; omega) (by omega) B2.size ?_; intro v3 w3 o3 h3))
        go_roundg (gk - 1)
        case measure => have := HK.out; omega
        case rel => exact ⟨k + 1, by have := HK.out; show _ = _; omega, by omega, by go_num, by rw [HJ.out, List.length_append, bvs_append, ← HLL.out, List.take_of_length_le (by rw [tl_len]; omega), tl_len]; exact o3, B2.trans h3⟩
    · obtain rfl : k = n := by omega
      rw [HALL.out] at ho
      go_wp2_with fail
      go_ret
      exact ⟨_, rfl, ho, hB⟩
end Go.Proofs.YtfclifolniefpaaDoor

/-
  What store.load returns: a contract by a walk. Conditions: the table of constants as laid; bounded lengths.
-/
namespace Go.Proofs.YtfclifolniefpaaDoor
open Go.RowKit

section
variable {P : Program}
theorem run_store_part (w : World) (ty : TypeId) (g j : Nat) (e : TypeId) (cs : List Value) (hr : Row w g e cs) (vs : List Value) (h1 : ∀ u ∈ vs, u.oneCell' = true) (hj : j + vs.length ≤ cs.length) (hi : (P.info? ty).map (·.size) = some vs.length) :
    ∃ w', (storeVar ty ⟨g, j, none⟩ (.agg vs.toArray)).run P w = .ok () w' ∧ Row w' g e (cs.take j ++ vs ++ cs.drop (j + vs.length)) ∧ w'.heap.size = w.heap.size ∧ w.grownBy w' (some g) := by
  have hst := run_storeCells_at P g j e vs 0 cs.toArray w hr (by simpa using hj) h1
  refine ⟨w.setRow g (cs.take j ++ vs ++ cs.drop (j + vs.length)).toArray, ?_, setRow_heap w g _ _ e _ hr, by simp, ⟨rfl, rfl, rfl, by simp, fun k _ hk => setRow_other w g k _ (fun he => hk (by rw [he]))⟩⟩
  cases hq : P.info? ty with
  | none => simp [hq] at hi
  | some i =>
    have hs : i.size = vs.length := by simpa [hq] using hi
    simp only [Nat.add_zero] at hst
    simp [storeVar, Sem.run_bind, sizeOf, typeInfo, hq, hs, Value.cells, hst]
theorem wpList_store_part {ops : Array Oper} {rest : List Oper} {o : Oper} {a : Act} {w : World} {Q : Exit → Act → World → Prop} (hgd : o.guard = none) (ty : TypeId) (x v : Operand) (ho : o.op = .store ty x v) (g j : Nat) (hx : a.eval x = .pointer (some ⟨g, j, none⟩)) (e : TypeId) (cs : List Value) (hr : Row w g e cs) (vs : List Value) (hv : a.eval v = .agg vs.toArray)
    (h1 : ∀ u ∈ vs, u.oneCell' = true) (hj : j + vs.length ≤ cs.length) (hi : (P.info? ty).map (·.size) = some vs.length)
    (h : ∀ w', Row w' g e (cs.take j ++ vs ++ cs.drop (j + vs.length)) → w.grownBy w' (some g) → wpList P ops Q rest (a.put o.dst undef) w') : wpList P ops Q (o :: rest) a w := by
  obtain ⟨w', hrun, h2, h3, h4⟩ := run_store_part (P := P) w ty g j e cs hr vs h1 hj hi
  refine wpList_plain hgd fun K hK => ?_
  unfold Oper.wp execOp
  simp only [ho, hx, hv, Instr.storeAt, Instr.sureAddr, Sem.run_bind, Sem.run_pure, Result.andThen_ok, hrun]
  exact hK _ _ (h _ h2 h4)
end
def stE (rec : Int) (l : List ByteArray) : StE := ⟨stD (stA0 rec l), stD (stA1 rec l)⟩
theorem rcs_take (l : List StR) (k : Nat) : (rcs l).take (k * 2) = rcs (l.take k) := by
  unfold rcs
  induction l generalizing k with
  | nil => simp
  | cons r l ih =>
    cases k with
    | zero => simp
    | succ k =>
      rw [List.flatMap_cons, List.take_succ_cons, List.flatMap_cons, List.take_append, ← ih]
      congr 1
      · exact List.take_of_length_le (by rw [StR.cs_len]; omega)
      · rw [StR.cs_len]; congr 1; omega
theorem rcs_drop (l : List StR) (k : Nat) : (rcs l).drop (k * 2) = rcs (l.drop k) := by
  unfold rcs
  induction l generalizing k with
  | nil => simp
  | cons r l ih =>
    cases k with
    | zero => simp
    | succ k =>
      rw [List.flatMap_cons, List.drop_succ_cons, ← ih, List.drop_append, List.drop_of_length_le (by rw [StR.cs_len]; omega), List.nil_append, StR.cs_len]
      congr 1; omega
theorem map_sub (l : List StR) (i k : Nat) : ((l.drop i).take k).map StR.s = ((l.map StR.s).drop i).take k := by rw [List.map_take, List.map_drop]
set_option maxRecDepth 100000 in
set_option maxHeartbeats 4000000 in
theorem sload_any (rec : Int) (A : Option Addr) (n c : Nat) (l : List StR) (w : World) (hin : stIn rec = true) (hK : Consts w) (hr : Reads w w.heap.size 2 A n (rcs l)) (hc : n ≤ c) (hn : n ≤ 1000) (h16 : 16 ≤ n) (hs : ∀ r ∈ l, r.s.size ≤ 400) :
    Calls Tryd.prog 32 #[.int .i64 rec, .slice A n c] w (GivesX (stE rec (l.map StR.s)).v w) := by
  obtain ⟨ad, rfl, _, _⟩ := hr.2 (by omega)
  have h0 := fun (W : World) (h : Reads W W.heap.size 2 (some ad) n (rcs l)) => h.take (k := 8) (by omega)
  have h1 := fun (W : World) (h : Reads W W.heap.size 2 (some ad) n (rcs l)) => (h.cut (k := 8) (cap := c) (by omega) hc).take (k := 8) (by omega)
  simp only [rcs_take, rcs_drop, if_neg (show ¬ c = 8 by omega), Option.map_some] at h0 h1
  have HJ0 := fun (W : World) (h : Reads W W.heap.size 2 (some ad) n (rcs l)) => Lib.hid (sjoin_any (some ad) 8 c (l.take 8) W (h0 W h) (by omega) (fun r hr => hs r (List.mem_of_mem_take hr)))
  have HJ1 := fun (W : World) (h : Reads W W.heap.size 2 (some ad) n (rcs l)) => Lib.hid (sjoin_any (some (ad.add 16)) 8 (c - 8) ((l.drop 8).take 8) W (h1 W h) (by omega) (fun r hr => hs r (List.mem_of_mem_drop (List.mem_of_mem_take hr))))
  have hb0 : ((stCat ((l.take 8).map StR.s)).take 2048).length ≤ 2900 := by rw [List.length_take]; omega
  have hb1 : ((stCat (((l.drop 8).take 8).map StR.s)).take 2048).length ≤ 2900 := by rw [List.length_take]; omega
  have HD0 := fun A c W hK hr hc => Lib.hid (sdecode_any rec A _ c ((stCat ((l.take 8).map StR.s)).take 2048) W hin hK hr hc hb0)
  have HD1 := fun A c W hK hr hc => Lib.hid (sdecode_any rec A _ c ((stCat (((l.drop 8).take 8).map StR.s)).take 2048) W hin hK hr hc hb1)
  have HE0 : Hid (stE rec (l.map StR.s) = ⟨stD (stDec rec ((stCat ((l.take 8).map StR.s)).take 2048)), stD (stDec rec ((stCat (((l.drop 8).take 8).map StR.s)).take 2048))⟩) := Lib.hid (by
    unfold stE stA0 stA1
    rw [stDec_take rec _ (by omega), stDec_take rec _ (by omega), map_sub, List.map_take])
  have HE1 : Hid True := Lib.hid trivial
  generalize stE rec (l.map StR.s) = R at *
  generalize (stCat ((l.take 8).map StR.s)).take 2048 = b0 at *
  generalize (stCat (((l.drop 8).take 8).map StR.s)).take 2048 = b1 at *
  generalize stD (stDec rec b0) = D0 at *
  generalize stD (stDec rec b1) = D1 at *
  clear h0 h1
  go_enter Tryd.func32, Tryd.ntmps32
  go_wp2_with (first
    | (with_reducible refine wpList_alloc_row (o := ⟨some 4, _, _, _, _, _⟩) rfl _ rfl zeroE zero_se ?_; intro w1 z4_1 s1 g1; have k1 : Below w.heap.size w w1 := grown_below g1 (Nat.le_refl _) (by simp); have B1 : Below w.heap.size w w1 := k1; have k_1 := hK.on k1; have l_1 := hr.on k1)
    | (with_reducible refine wpList_alloc_row (o := ⟨some 5, _, _, _, _, _⟩) rfl _ rfl zeroE zero_se ?_; intro w2 z5_2 s2 g2; have k2 : Below w1.heap.size w1 w2 := grown_below g2 (Nat.le_refl _) (by simp); have B2 := B1.trans (k2.mono B1.size); have k_2 := k_1.on k2; have l_2 := l_1.on k2; have z4_2 := z4_1.on k2; clear k_1 l_1 z4_1))
  refine wp_loop_rounds 3 ?_
  rw [rounds_succ]
  go_wp2_with fail
  refine ((HJ0 _ l_2).out).mono ?_
  rintro e w3 ⟨v3, rfl, o3, h3⟩
  obtain ⟨A3, c3, rfl, hc3, _, d3⟩ := own_form o3
  have B3 := B2.trans (h3.mono B2.size)
  have k_3 := k_2.on h3
  have l_3 := l_2.on h3
  have z4_3 := z4_2.on h3
  have z5_3 := z5_2.on h3
  clear k_2 l_2 z4_2 z5_2
  skip
  go_wp2_with fail
  refine ((HD0 _ _ _ k_3 d3 hc3).out).mono ?_
  rintro e w4 ⟨rfl, h4⟩
  have B4 := B3.trans (h4.mono B3.size)
  have k_4 := k_3.on h4
  have l_4 := l_3.on h4
  have z4_4 := z4_3.on h4
  have z5_4 := z5_3.on h4
  clear k_3 l_3 z4_3 z5_3
  go_wp2_with ((with_reducible refine wpList_at ⟨none, .store _ (.tmp 21) _, _, _, _, _⟩ ?_); refine wpList_store_part rfl _ _ _ rfl (w1.heap.size) 0 rfl _ _ z5_4 (D0.cs) rfl (D0.cs_one) (by show 0 + 2 ≤ 4; omega) (by kernel_rfl) ?_; intro w5 z5x_5 g5; have z5_5 : Row w5 (w1.heap.size) 70 (D0.cs ++ zeroD) := z5x_5; have z4_5 := z4_4.kept g5 (by simp; omega); have B5 := below_kept B4 g5 B4.size (by rintro q hq; cases hq; omega); have k_5 := hK.on B5; have l_5 := hr.on B5)
  rw [rounds_succ]
  go_wp2_with fail
  refine ((HJ1 _ l_5).out).mono ?_
  rintro e w6 ⟨v6, rfl, o6, h6⟩
  obtain ⟨A6, c6, rfl, hc6, _, d6⟩ := own_form o6
  have B6 := B5.trans (h6.mono B5.size)
  have k_6 := k_5.on h6
  have l_6 := l_5.on h6
  have z4_6 := z4_5.on h6
  have z5_6 := z5_5.on h6
  clear k_5 l_5 z4_5 z5_5
  skip
  go_wp2_with fail
  refine ((HD1 _ _ _ k_6 d6 hc6).out).mono ?_
  rintro e w7 ⟨rfl, h7⟩
  have B7 := B6.trans (h7.mono B6.size)
  have k_7 := k_6.on h7
  have l_7 := l_6.on h7
  have z4_7 := z4_6.on h7
  have z5_7 := z5_6.on h7
  clear k_6 l_6 z4_6 z5_6
  go_wp2_with ((with_reducible refine wpList_at ⟨none, .store _ (.tmp 21) _, _, _, _, _⟩ ?_); refine wpList_store_part rfl _ _ _ rfl (w1.heap.size) 2 rfl _ _ z5_7 (D1.cs) rfl (D1.cs_one) (by show 2 + 2 ≤ 4; omega) (by kernel_rfl) ?_; intro w8 z5x_8 g8; have z5_8 : Row w8 (w1.heap.size) 70 (D0.cs ++ D1.cs) := z5x_8; have z4_8 := z4_7.kept g8 (by simp; omega); have B8 := below_kept B7 g8 B7.size (by rintro q hq; cases hq; omega); have k_8 := hK.on B8; have l_8 := hr.on B8)
  rw [rounds_succ]
  go_wp2_with (first
    | ((with_reducible refine wpList_at ⟨some 23, _, _, _, _, _⟩ ?_); refine wpList_valueG rfl _ (by exact exec_loadE _ _ rfl (w1.heap.size) rfl ⟨D0, D1⟩ z5_8) ?_)
    | ((with_reducible refine wpList_at ⟨none, .store _ (.tmp 4) _, _, _, _, _⟩ ?_); refine wpList_store_all rfl _ _ _ rfl (w.heap.size) rfl _ _ z4_8 ((⟨D0, D1⟩ : StE).cs) rfl ((⟨D0, D1⟩ : StE).cs_one) rfl (by kernel_rfl) ?_; intro w9 z4_9 g9; have z5_9 := z5_8.kept g9 (by simp; omega); have B9 := below_kept B8 g9 B8.size (by rintro q hq; cases hq; omega); clear z5_8))
  exact bodyPost_ret (results_cell1 Tryd.results32 _ _ _ _ rfl (load_se (a := ⟨D0, D1⟩) z4_9)) rfl ⟨by rw [HE0.out], B9⟩
end Go.Proofs.YtfclifolniefpaaDoor
