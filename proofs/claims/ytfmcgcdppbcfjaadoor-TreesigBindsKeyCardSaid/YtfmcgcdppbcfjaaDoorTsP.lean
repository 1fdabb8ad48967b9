/-
  What treesig.Root and treesig.Sign return: contracts by walks. Condition: the table of constants as laid.
-/
import Derived.Test.YtfmcgcdppbcfjaaDoorTsI
import Derived.Test.YtfmcgcdppbcfjaaDoorTsQ
import Derived.Test.YtfmcgcdppbcfjaaDoorR5B
import Derived.Test.YtfmcgcdppbcfjaaDoorMkM
namespace Go.Proofs.YtfmcgcdppbcfjaaDoor
open Go.RowKit

theorem tErr_zero (h : Int) : tErr h 0 = tRootE h := by
  unfold tErr tRootE
  by_cases hm : tMany h = 0
  · rw [if_pos (Or.inl hm), if_pos hm]
  · rw [if_neg (by omega), if_neg (by omega), if_neg hm]

set_option maxRecDepth 100000 in
set_option maxHeartbeats 1000000 in
theorem troot_any (seed : List UInt8) (hs : seed.length = 16) (h : Int) (_h1 : -9223372036854775808 ≤ h) (_h2 : h ≤ 9223372036854775807) (w : World) (hK : Consts w) :
    Calls Tryd.prog 10 #[.agg (bvs seed).toArray, .int .i64 h] w (GivesVE (tRoot seed h) (tRootE h) w) := by
  have HS := Lib.hid hs
  have HV := fun W => Lib.hid (tvalid_any h 0 W)
  rw [tErr_zero] at HV
  have HRL := Lib.hid (tRoot_len seed h)
  by_cases hv : 0 ≤ h ∧ h ≤ 4
  · obtain ⟨k, rfl⟩ : ∃ k : Nat, h = (k : Int) := ⟨h.toNat, by omega⟩
    have hk4 : k ≤ 4 := by omega
    have h16 := two_le16 hk4
    have hMk := tMany_nat k hk4
    have hMp := Nat.two_pow_pos k
    have HE : Hid (tRootE (k : Int) = 0) := by show _ = _; exact if_neg (by omega)
    have HD : Hid (tRoot seed (k : Int) = root (tKeys seed (2 ^ k))) := by
      show _ = _
      rw [← hMk]
      exact if_neg (by omega)
    have HKL := Lib.hid (tKeys_len seed (2 ^ k))
    have HK16 := Lib.hid (tKeys_16 seed (2 ^ k))
    have HCO := fun s b W hW h1 h2 => Lib.hid (tcollect_any s b k hk4 seed hs W hW h1 h2)
    have HMK := fun W => Lib.hid (tkeysF_any seed (k : Int) W)
    generalize tRoot seed (k : Int) = D at *
    generalize tRootE (k : Int) = E at *
    generalize tKeys seed (2 ^ k) = KS at *
    generalize 2 ^ k = M at *
    rw [HE.out] at HV ⊢
    clear hs HE hMk hv
    go_enter Tryd.func10, Tryd.ntmps10
    go_wp2_with (first
      | (with_reducible refine wpList_box_row (o := ⟨some 2, _, _, _, _, _⟩) rfl _ _ rfl (bvs seed) rfl ?_; intro w1 hrow1 hs1 hg1)
      | (with_reducible refine wpList_alloc_row (o := ⟨some 4, _, _, _, _, _⟩) rfl _ rfl zeros16 zero_b16 ?_; intro w2 hrow2 hs2 hg2))
    have hrow1' := hrow1.kept hg2 (by simp)
    have hb2 : Below w.heap.size w w2 := below_kept (grown_below hg1 (Nat.le_refl _) (by simp)) hg2 (by omega) (by simp)
    have hlt2 := hrow2.lt
    clear hrow1 hg1 hg2
    refine (HV _).out.mono ?_
    rintro e w3 ⟨rfl, rfl⟩
    go_wp2_with (with_reducible refine wpList_load_all (o := ⟨some 13, _, _, _, _, _⟩) rfl _ _ rfl w.heap.size rfl _ _ hrow1' _ Tryd.underlying23 rfl (b16_size _ HS.out) ?_)
    refine (HMK _).out.mono ?_
    rintro e w4 ⟨s, b, rfl, hsd, hbb, hb4⟩
    have rt4 := hrow2.on hb4
    have B4 := hb2.trans (hb4.mono hb2.size)
    go_wp2_with fail
    refine (HCO s b _ (hK.on B4) hsd hbb).out.mono ?_
    rintro e w5 ⟨v5, rfl, hown5, hb5⟩
    obtain ⟨A5, c5, rfl, hc5, _, hr5⟩ := own_form hown5
    rw [HKL.out] at hc5 hr5 ⊢
    have rt5 := rt4.on hb5
    have B5 := B4.trans (hb5.mono B4.size)
    go_wp2_with fail
    refine (root_any A5 c5 M KS _ (hK.on B5) ⟨hr5, HK16.out⟩ hc5 (by omega)).mono ?_
    rintro e w6 ⟨rfl, hb6⟩
    rw [← HD.out]
    have rt6 := rt5.on hb6
    have B6 := B5.trans (hb6.mono B5.size)
    go_wp2_with (with_reducible refine wpList_store_all (o := ⟨none, _, _, _, _, _⟩) rfl _ _ _ rfl w1.heap.size rfl _ _ rt6 (bvs D) rfl (bvs_one _) (b16_zeros _ HRL.out) (b16_size _ HRL.out) ?_; intro wy hrowy hgy)
    have hload := run_loadVar_at (P := Tryd.prog) wy 23 ⟨w1.heap.size, 0, none⟩ (bvs D) hrowy.cells _ Tryd.underlying23 rfl (b16_size _ HRL.out)
    exact bodyPost_ret (results_cellT Tryd.results10 _ _ _ _ rfl hload) rfl ⟨rfl, below_kept B6 hgy B6.size (by rintro k hk; cases hk; omega)⟩
  · have hm := tMany_bad hv
    have HE : Hid (tRootE h = 1) := by show _ = _; exact if_pos hm
    have HD : Hid (tRoot seed h = zero16B') := by show _ = _; exact if_pos hm
    generalize tRoot seed h = D at *
    generalize tRootE h = E at *
    rw [HE.out] at HV ⊢
    clear hs HE hv hm
    go_enter Tryd.func10, Tryd.ntmps10
    go_wp2_with (first
      | (with_reducible refine wpList_box_row (o := ⟨some 2, _, _, _, _, _⟩) rfl _ _ rfl (bvs seed) rfl ?_; intro w1 hrow1 hs1 hg1)
      | (with_reducible refine wpList_alloc_row (o := ⟨some 4, _, _, _, _, _⟩) rfl _ rfl zeros16 zero_b16 ?_; intro w2 hrow2 hs2 hg2))
    have hb2 : Below w.heap.size w w2 := below_kept (grown_below hg1 (Nat.le_refl _) (by simp)) hg2 (by omega) (by simp)
    clear hrow1 hg1 hg2
    refine (HV _).out.mono ?_
    rintro e w3 ⟨rfl, rfl⟩
    go_wp2_with (refine wpList_store_all (o := ⟨none, _, _, _, _, _⟩) rfl _ _ _ rfl w1.heap.size rfl _ _ hrow2 (bvs zero16B') rfl (bvs_one _) (b16_zeros _ rfl) (b16_size _ rfl) ?_; intro wz hrowz hgz)
    have hload := run_loadVar_at (P := Tryd.prog) wz 23 ⟨w1.heap.size, 0, none⟩ (bvs zero16B') hrowz.cells _ Tryd.underlying23 rfl (b16_size _ rfl)
    rw [HD.out]
    exact bodyPost_ret (results_cellT Tryd.results10 _ _ _ _ rfl hload) rfl ⟨rfl, below_kept hb2 hgz hb2.size (by rintro k hk; cases hk; omega)⟩

set_option maxRecDepth 100000 in
set_option maxHeartbeats 1000000 in
/-- Sign, where the height or the index is not valid. -/
theorem tsign_err (seed msg : List UInt8) (h idx E : Int) (hE : E ≠ 0) (w : World) (HV : ∀ W, Hid (Calls Tryd.prog 23 #[.int .i64 h, .int .i64 idx] W fun e w' => e = .returned (.int .i64 E) ∧ w' = W)) :
    Calls Tryd.prog 12 #[.agg (bvs seed).toArray, .int .i64 h, .int .i64 idx, .agg (bvs msg).toArray] w (GivesSig 0 [] [] E w) := by
  have hEb : (E != 0) = true := by simpa using hE
  clear hE
  go_enter Tryd.func12, Tryd.ntmps12
  go_wp2_with (first
    | (with_reducible refine wpList_box_row (o := ⟨some 4, _, _, _, _, _⟩) rfl _ _ rfl (bvs seed) rfl ?_; intro w1 hrow1 hs1 hg1)
    | (with_reducible refine wpList_box_row (o := ⟨some 7, _, _, _, _, _⟩) rfl _ _ rfl (bvs msg) rfl ?_; intro w2 hrow2 hs2 hg2)
    | (with_reducible refine wpList_alloc_row (o := ⟨some 8, _, _, _, _, _⟩) rfl _ rfl sgz zero_sig ?_; intro w3 hrow3 hs3 hg3))
  have hb3 : Below w.heap.size w w3 := below_kept (below_kept (grown_below hg1 (Nat.le_refl _) (by simp)) hg2 (by omega) (by simp)) hg3 (by omega) (by simp)
  clear hrow1 hrow2 hg1 hg2 hg3
  refine (HV _).out.mono ?_
  rintro e w4 ⟨rfl, rfl⟩
  go_wp2_with (refine wpList_store_all (o := ⟨none, _, _, _, _, _⟩) rfl _ _ _ rfl w2.heap.size rfl _ _ hrow3 sgz rfl (by simp [sgz, Value.oneCell']) rfl (sig_size _ _ _) ?_; intro wz hrowz hgz)
  have hload := run_loadVar_at (P := Tryd.prog) wz 32 ⟨w2.heap.size, 0, none⟩ sgz hrowz.cells _ Tryd.underlying32 rfl (sig_size _ _ _)
  exact bodyPost_ret (results_cellT Tryd.results12 _ _ _ _ rfl hload) rfl ⟨none, 0, none, 0, rfl, ReadsD.nil_, ReadsD.nil_, Nat.le_refl _, Nat.le_refl _, below_kept hb3 hgz hb3.size (by rintro k hk; cases hk; omega)⟩

set_option maxRecDepth 100000 in
set_option maxHeartbeats 1000000 in
theorem tsign_any (seed msg : List UInt8) (hs : seed.length = 16) (hm : msg.length = 16) (h idx : Int) (_h1 : -9223372036854775808 ≤ h) (_h2 : h ≤ 9223372036854775807) (i1 : -9223372036854775808 ≤ idx) (i2 : idx ≤ 9223372036854775807) (w : World) (hK : Consts w) :
    Calls Tryd.prog 12 #[.agg (bvs seed).toArray, .int .i64 h, .int .i64 idx, .agg (bvs msg).toArray] w (GivesSig (tIdx h idx) (tChain seed h idx msg) (tPath seed h idx) (tErr h idx) w) := by
  have HS := Lib.hid hs
  have HM := Lib.hid hm
  have HV := fun W => Lib.hid (tvalid_any h idx W)
  by_cases he : tErr h idx = 0
  · obtain ⟨h0, hlt⟩ : 0 ≤ idx ∧ idx < tMany h := by
      rcases tErr_cases h idx with ⟨e, _⟩ | ⟨e, _⟩ | ⟨_, b⟩
      · omega
      · omega
      · exact b
    obtain ⟨i, rfl⟩ : ∃ i : Nat, idx = (i : Int) := ⟨idx.toNat, by omega⟩
    have hv := tMany_valid (h := h) (by omega)
    obtain ⟨k, rfl⟩ : ∃ k : Nat, h = (k : Int) := ⟨h.toNat, by omega⟩
    have hk4 : k ≤ 4 := by omega
    have h16 := two_le16 hk4
    have hMk := tMany_nat k hk4
    have HI : Hid (tIdx (k : Int) (i : Int) = (i : Int)) := by show _ = _; unfold tIdx; rw [he, if_pos rfl]
    have HC : Hid (tChain seed (k : Int) (i : Int) msg = wSign seed (i : Int) msg) := by show _ = _; unfold tChain; rw [he, if_pos rfl]
    have HP : Hid (tPath seed (k : Int) (i : Int) = mProof (tKeys seed (2 ^ k)) i) := by show _ = _; unfold tPath; rw [he, if_pos rfl, Int.toNat_natCast, hMk]
    rw [hMk] at hlt
    rw [HI.out, HC.out, HP.out, he]
    rw [he] at HV
    have HSG := fun W hW => Lib.hid (sign_any seed msg hs hm (i : Int) i1 i2 W hW)
    have HS16 := Lib.hid (wSign_16 seed (i : Int) msg)
    have HP16 := Lib.hid (mProof_16 (tKeys seed (2 ^ k)) i)
    have HKL := Lib.hid (tKeys_len seed (2 ^ k))
    have HK16 := Lib.hid (tKeys_16 seed (2 ^ k))
    have HCO := fun s b W hW h1 h2 => Lib.hid (tcollect_any s b k hk4 seed hs W hW h1 h2)
    have HMK := fun W => Lib.hid (tkeysF_any seed (k : Int) W)
    have HPV := fun A c W hW hr hc => Lib.hid (prove_any A c (2 ^ k) i (tKeys seed (2 ^ k)) W hW hr hc (by omega) (by omega))
    generalize wSign seed (i : Int) msg = SG at *
    generalize mProof (tKeys seed (2 ^ k)) i = PF at *
    generalize tKeys seed (2 ^ k) = KS at *
    generalize 2 ^ k = M at *
    clear HI HC HP he hs hm hMk hv
    go_enter Tryd.func12, Tryd.ntmps12
    go_wp2_with (first
      | (with_reducible refine wpList_box_row (o := ⟨some 4, _, _, _, _, _⟩) rfl _ _ rfl (bvs seed) rfl ?_; intro w1 hrow1 hs1 hg1)
      | (with_reducible refine wpList_box_row (o := ⟨some 7, _, _, _, _, _⟩) rfl _ _ rfl (bvs msg) rfl ?_; intro w2 hrow2 hs2 hg2)
      | (with_reducible refine wpList_alloc_row (o := ⟨some 8, _, _, _, _, _⟩) rfl _ rfl sgz zero_sig ?_; intro w3 hrow3 hs3 hg3))
    have hrow1' := (hrow1.kept hg2 (by simp)).kept hg3 (by simp)
    have hrow2' := hrow2.kept hg3 (by simp)
    have hb3 : Below w.heap.size w w3 := below_kept (below_kept (grown_below hg1 (Nat.le_refl _) (by simp)) hg2 (by omega) (by simp)) hg3 (by omega) (by simp)
    clear hrow1 hrow2 hg1 hg2 hg3
    refine (HV _).out.mono ?_
    rintro e w4 ⟨rfl, rfl⟩
    go_wp2_with (with_reducible refine wpList_load_all (o := ⟨some 21, _, _, _, _, _⟩) rfl _ _ rfl w.heap.size rfl _ _ hrow1' _ Tryd.underlying23 rfl (b16_size _ HS.out) ?_)
    refine (HMK _).out.mono ?_
    rintro e w5 ⟨s, b, rfl, hsd, hbb, hb5⟩
    have ra5 := hrow1'.on hb5
    have rm5 := hrow2'.on hb5
    have rt5 := hrow3.on hb5
    have B5 := hb3.trans (hb5.mono hb3.size)
    go_wp2_with fail
    refine (HCO s b _ (hK.on B5) hsd hbb).out.mono ?_
    rintro e w6 ⟨v6, rfl, hown6, hb6⟩
    obtain ⟨A6, c6, rfl, hc6, hr6⟩ := own_digs hown6 HK16.out
    rw [HKL.out] at hc6 hr6 ⊢
    have ra6 := ra5.on hb6
    have rm6 := rm5.on hb6
    have rt6 := rt5.on hb6
    have B6 := B5.trans (hb6.mono B5.size)
    go_wp2_with fail
    refine (HPV _ _ _ (hK.on B6) hr6 hc6).out.mono ?_
    rintro e w7 ⟨v7, rfl, hown7, hb7⟩
    obtain ⟨A7, c7, rfl, hc7, hr7⟩ := own_digs hown7 HP16.out
    have ra7 := ra6.on hb7
    have rm7 := rm6.on hb7
    have rt7 := rt6.on hb7
    have B7 := B6.trans (hb7.mono B6.size)
    go_wp2_with (first
      | (with_reducible refine wpList_load_all (o := ⟨some 34, _, _, _, _, _⟩) rfl _ _ rfl w.heap.size rfl _ _ ra7 _ Tryd.underlying23 rfl (b16_size _ HS.out) ?_)
      | (with_reducible refine wpList_load_all (o := ⟨some 36, _, _, _, _, _⟩) rfl _ _ rfl w1.heap.size rfl _ _ rm7 _ Tryd.underlying23 rfl (b16_size _ HM.out) ?_))
    refine (HSG _ (hK.on B7)).out.mono ?_
    rintro e w8 ⟨v8, rfl, hown8, hb8⟩
    obtain ⟨A8, c8, rfl, hc8, hr8⟩ := own_digs hown8 HS16.out
    have rt8 := rt7.on hb8
    have hown78 := own_below hown7 hb8
    have hz3 := hb3.size
    have hz5 := hb5.size
    have hz6 := hb6.size
    have hz7 := hb7.size
    have hlt3 := hrow3.lt
    have B8 := B7.trans (hb8.mono B7.size)
    go_wp2_with (refine wpList_store_all (o := ⟨none, _, _, _, _, _⟩) rfl _ _ _ rfl w2.heap.size rfl _ _ rt8 [.int .i64 (i : Int), .slice A8 SG.length c8, .slice A7 PF.length c7] rfl (by simp [Value.oneCell']) rfl (sig_size _ _ _) ?_; intro wz hrowz hgz)
    have o8 := own_kept hown8 hgz (by omega)
    have o7 := own_kept hown78 hgz (by omega)
    have hload := run_loadVar_at (P := Tryd.prog) wz 32 ⟨w2.heap.size, 0, none⟩ [.int .i64 (i : Int), .slice A8 SG.length c8, .slice A7 PF.length c7] hrowz.cells _ Tryd.underlying32 rfl (sig_size _ _ _)
    exact bodyPost_ret (results_cellT Tryd.results12 _ _ _ _ rfl hload) rfl ⟨A8, c8, A7, c7, rfl, ⟨Reads.of_own o8, HS16.out⟩, ⟨Reads.of_own o7, HP16.out⟩, hc8, hc7, below_kept B8 hgz B8.size (by rintro q hq; cases hq; omega)⟩
  · have HI : tIdx h idx = 0 := by unfold tIdx; rw [if_neg he]
    have HC : tChain seed h idx msg = [] := by unfold tChain; rw [if_neg he]
    have HP : tPath seed h idx = [] := by unfold tPath; rw [if_neg he]
    rw [HI, HC, HP]
    exact tsign_err seed msg h idx _ he w HV
end Go.Proofs.YtfmcgcdppbcfjaaDoor
