/-
  What the reference's keys, Root, Sign and Verify return: contracts by walks. No condition but bounded numbers.
-/
import Derived.Test.YtfmcgcdppbcfjaaDoorR5A
namespace Go.Proofs.YtfmcgcdppbcfjaaDoor
open Go.RowKit

/-- A signature and an error come back; nothing that was there has changed. -/
def GivesSig (idx : Int) (C P : List (List UInt8)) (err : Int) (w : World) (e : Ending) (w' : World) : Prop :=
  ∃ A c B d, e = .returned (.tuple #[.agg #[.int .i64 idx, .slice A C.length c, .slice B P.length d], .int .i64 err]) ∧ ReadsD w' A C.length C ∧ ReadsD w' B P.length P ∧ C.length ≤ c ∧ P.length ≤ d ∧ Below w.heap.size w w'
theorem own_kept {w w' : World} {base g : Nat} {e : TypeId} {size n : Nat} {v : Value} {xs : List Value} (h : w.ownsRow base e size v n xs) (hg : w.grownBy w' (some g)) (hlt : g < base) : w'.ownsRow base e size v n xs := by
  obtain ⟨h1, h2⟩ := h
  refine ⟨h1, ?_⟩
  rcases h2 with h2 | ⟨g', cap, cs, h3, h4, h5, h6⟩
  · exact .inl h2
  · exact .inr ⟨g', cap, cs, h3, h4, (hg.block g' (Array.getElem?_eq_some_iff.1 h5).1 (by rintro he; cases he; omega)).trans h5, h6⟩
def sgz : List Value := [.int .i64 0, .slice none 0 0, .slice none 0 0]
theorem zero_sig : (Tryd.prog.info? 32).map (fun i => i.zero.map (·.cells)) = some (some sgz.toArray) := by kernel_rfl
theorem sig_size (x y z : Value) : (Tryd.prog.info? 32).map (·.size) = some [x, y, z].length := by kernel_rfl

set_option maxRecDepth 100000 in
set_option maxHeartbeats 1000000 in
theorem refTKeys_any (seed : List UInt8) (hs : seed.length = 16) (h : Int) (h1 : -9223372036854775808 ≤ h) (h2 : h ≤ 9223372036854775807) (w : World) :
    Calls Tryd.prog 28 #[.agg (bvs seed).toArray, .int .i64 h] w (GivesDS (tKeys seed (tMany h)) w) := by
  obtain ⟨i0, hi0, hz0, hz1, hz2⟩ := info_parts info_dig
  have HS := Lib.hid hs
  have HMY := fun W => Lib.hid (refMany_any h h1 h2 W)
  have hML := tMany_le h
  have HKL := Lib.hid (tKeys_len seed (tMany h))
  have HPU := fun i a b W => Lib.hid (refPublic_any seed hs i a b W)
  have HPL := fun i : Int => Lib.hid (wPub_len seed i)
  have HKS := fun n => Lib.hid (tKeys_succ seed n)
  generalize tMany h = M at *
  clear hs
  go_enter Tryd.func28, Tryd.ntmps28
  go_wp2_with (with_reducible refine wpList_box_row (o := ⟨some 2, _, _, _, _, _⟩) rfl _ _ rfl (bvs seed) rfl ?_; intro w1 hrow1 hs1 hg1)
  have hb1 : Below w.heap.size w w1 := grown_below hg1 (Nat.le_refl _) (by simp)
  clear hg1
  go_loopg [5, 6] M (fun g v s wr => ∃ k : Nat, s = .int .i64 (k : Int) ∧ k ≤ M ∧ M ≤ g + k ∧ wr.ownsRow w1.heap.size 23 16 v k (bvs (tKeys seed k).flatten) ∧ Below w1.heap.size w1 wr)
  case atStart => exact ⟨0, rfl, by omega, by omega, World.ownsRow_nil w1 _ _ _, Below.refl _ _⟩
  case round =>
    obtain ⟨k, rfl, hk, hg, hown, hbr⟩ := hrel
    have hrow := hrow1.on hbr
    have hz := hbr.size
    have HC := fun W => HPU (k : Int) (by omega) (by omega) W
    have HL := HPL (k : Int)
    have HT := HKS k
    go_wp2_with fail
    refine (HMY _).out.mono ?_
    rintro e w2 ⟨rfl, rfl⟩
    by_cases hlt : k < M
    · generalize wPub seed (k : Int) = V at *
      generalize tKeys seed k = K0 at *
      go_wp2_with (with_reducible refine wpList_load_all (o := ⟨some 14, _, _, _, _, _⟩) rfl _ _ rfl w.heap.size rfl _ _ hrow _ Tryd.underlying23 rfl (b16_size _ HS.out) ?_)
      refine (HC _).out.mono ?_
      rintro e w3 ⟨rfl, hb3⟩
      have hown3 := own_below hown hb3
      have B3 := hbr.trans (hb3.mono hbr.size)
      go_wp2_with (first
        | (refine wpList_valueW (o := ⟨some 17, _, _, _, _, _⟩) rfl _ (by exact exec_slice1 _ 30 23 _ rfl Tryd.underlying30 i0 _ hi0 hz0 (bvs V) (by rw [hz1, bvs_length, HL.out]) (by rw [bvs_length, HL.out]; omega) (by rw [bvs_length, HL.out]; omega) rfl) ?_)
        | (at_builtin; refine wpList_append_src _ rfl (.tmp 13) (.tmp 17) _ _ rfl w1.heap.size 23 i0 _ 16 16 Tryd.underlying30 hi0 hz0 hz1 hz2 rfl _ _ _ rfl (hown3.alloc _) 1 (bvs V) (Src.boxRow Tryd.underlying30 _ _ _ 16 (by rw [bvs_length, HL.out]) (bvs_one V) _) (by unfold maxLen; omega) (by omega) (by have := B3.size; simp; omega) ?_; intro v6 w6 hown6 hb6))
      go_roundg (gk - 1)
      case measure => omega
      case rel =>
        refine ⟨k + 1, by go_num, by omega, by omega, ?_, (B3.alloc B3.size _).trans hb6⟩
        rw [HT.out, List.flatten_append, bvs_append]
        simpa using hown6
    · obtain rfl : k = M := by omega
      go_wp2_with fail
      go_ret
      exact ⟨_, rfl, by rw [HKL.out]; exact own_base hown hb1.size, hb1.trans (hbr.mono hb1.size)⟩

set_option maxRecDepth 100000 in
set_option maxHeartbeats 1000000 in
theorem refTRoot_any (seed : List UInt8) (hs : seed.length = 16) (h : Int) (h1 : -9223372036854775808 ≤ h) (h2 : h ≤ 9223372036854775807) (w : World) :
    Calls Tryd.prog 11 #[.agg (bvs seed).toArray, .int .i64 h] w (GivesVE (tRoot seed h) (tRootE h) w) := by
  have HS := Lib.hid hs
  have HMY := fun W => Lib.hid (refMany_any h h1 h2 W)
  have hML := tMany_le h
  have HRL := Lib.hid (tRoot_len seed h)
  have HKY := fun W => Lib.hid (refTKeys_any seed hs h h1 h2 W)
  have HKL := Lib.hid (tKeys_len seed (tMany h))
  have HK16 := Lib.hid (tKeys_16 seed (tMany h))
  have HR0 : tMany h = 0 → Hid (tRoot seed h = zero16B') := fun e => if_pos e
  have HR1 : tMany h ≠ 0 → Hid (tRoot seed h = root (tKeys seed (tMany h))) := fun e => if_neg e
  have HE0 : tMany h = 0 → Hid (tRootE h = 1) := fun e => if_pos e
  have HE1 : tMany h ≠ 0 → Hid (tRootE h = 0) := fun e => if_neg e
  generalize tRoot seed h = D at *
  generalize tRootE h = E at *
  generalize tKeys seed (tMany h) = KS at *
  generalize tMany h = M at *
  clear hs
  go_enter Tryd.func11, Tryd.ntmps11
  go_wp2_with (first
    | (with_reducible refine wpList_box_row (o := ⟨some 2, _, _, _, _, _⟩) rfl _ _ rfl (bvs seed) rfl ?_; intro w1 hrow1 hs1 hg1)
    | (with_reducible refine wpList_alloc_row (o := ⟨some 4, _, _, _, _, _⟩) rfl _ rfl zeros16 zero_b16 ?_; intro w2 hrow2 hs2 hg2))
  have hrow1' := hrow1.kept hg2 (by simp)
  have hb2 : Below w.heap.size w w2 := below_kept (grown_below hg1 (Nat.le_refl _) (by simp)) hg2 (by omega) (by simp)
  have hlt2 := hrow2.lt
  clear hrow1 hg1 hg2
  refine (HMY _).out.mono ?_
  rintro e w3 ⟨rfl, rfl⟩
  by_cases hM : M = 0
  · have HRD := HR0 hM
    have HED := HE0 hM
    have hM0 : ((M : Int) == 0) = true := by simp [hM]
    clear hM
    go_wp2_with (refine wpList_store_all (o := ⟨none, _, _, _, _, _⟩) rfl _ _ _ rfl w1.heap.size rfl _ _ hrow2 (bvs zero16B') rfl (bvs_one _) (b16_zeros _ rfl) (b16_size _ rfl) ?_; intro wz hrowz hgz)
    have hload := run_loadVar_at (P := Tryd.prog) wz 23 ⟨w1.heap.size, 0, none⟩ (bvs zero16B') hrowz.cells _ Tryd.underlying23 rfl (b16_size _ rfl)
    rw [HRD.out, HED.out]
    exact bodyPost_ret (results_cellT Tryd.results11 _ _ _ _ rfl hload) rfl ⟨rfl, below_kept hb2 hgz hb2.size (by rintro k hk; cases hk; omega)⟩
  · have HRD := HR1 hM
    have HED := HE1 hM
    have hM0 : ((M : Int) == 0) = false := by simp [hM]
    clear hM
    go_wp2_with (with_reducible refine wpList_load_all (o := ⟨some 10, _, _, _, _, _⟩) rfl _ _ rfl w.heap.size rfl _ _ hrow1' _ Tryd.underlying23 rfl (b16_size _ HS.out) ?_)
    refine (HKY _).out.mono ?_
    rintro e w4 ⟨v4, rfl, hown4, hb4⟩
    obtain ⟨A4, c4, rfl, hc4, _, hr4⟩ := own_form hown4
    rw [HKL.out] at hc4 hr4 ⊢
    have rt4 := hrow2.on hb4
    have B4 := hb2.trans (hb4.mono hb2.size)
    go_wp2_with fail
    refine (refRoot_any 1000 A4 c4 M KS _ (by omega) ⟨hr4, HK16.out⟩ hc4 (by omega)).mono ?_
    rintro e w5 ⟨rfl, hb5⟩
    rw [← HRD.out]
    have rt5 := rt4.on hb5
    have B5 := B4.trans (hb5.mono B4.size)
    go_wp2_with (with_reducible refine wpList_store_all (o := ⟨none, _, _, _, _, _⟩) rfl _ _ _ rfl w1.heap.size rfl _ _ rt5 (bvs D) rfl (bvs_one _) (b16_zeros _ HRL.out) (b16_size _ HRL.out) ?_; intro wy hrowy hgy)
    have hload := run_loadVar_at (P := Tryd.prog) wy 23 ⟨w1.heap.size, 0, none⟩ (bvs D) hrowy.cells _ Tryd.underlying23 rfl (b16_size _ HRL.out)
    rw [HED.out]
    exact bodyPost_ret (results_cellT Tryd.results11 _ _ _ _ rfl hload) rfl ⟨rfl, below_kept B5 hgy B5.size (by rintro k hk; cases hk; omega)⟩

set_option maxRecDepth 100000 in
set_option maxHeartbeats 1000000 in
theorem refTSign_any (seed msg : List UInt8) (hs : seed.length = 16) (hm : msg.length = 16) (h idx : Int) (h1 : -9223372036854775808 ≤ h) (h2 : h ≤ 9223372036854775807) (i1 : -9223372036854775808 ≤ idx) (i2 : idx ≤ 9223372036854775807) (w : World) :
    Calls Tryd.prog 13 #[.agg (bvs seed).toArray, .int .i64 h, .int .i64 idx, .agg (bvs msg).toArray] w (GivesSig (tIdx h idx) (tChain seed h idx msg) (tPath seed h idx) (tErr h idx) w) := by
  have HS := Lib.hid hs
  have HM := Lib.hid hm
  have HMY := fun W => Lib.hid (refMany_any h h1 h2 W)
  have hML := tMany_le h
  have HKY := fun W => Lib.hid (refTKeys_any seed hs h h1 h2 W)
  have HKL := Lib.hid (tKeys_len seed (tMany h))
  have HK16 := Lib.hid (tKeys_16 seed (tMany h))
  rcases tErr_cases h idx with ⟨he, hb⟩ | ⟨he, hm0, h0, hout⟩ | ⟨he, h0, hlt⟩
  · have HI : Hid (tIdx h idx = 0) := by show _ = _; unfold tIdx; rw [he, if_neg (by omega)]
    have HC : Hid (tChain seed h idx msg = []) := by show _ = _; unfold tChain; rw [he, if_neg (by omega)]
    have HP : Hid (tPath seed h idx = []) := by show _ = _; unfold tPath; rw [he, if_neg (by omega)]
    rw [HI.out, HC.out, HP.out, he]
    clear HI HC HP he hs hm
    generalize tMany h = M at *
    go_enter Tryd.func13, Tryd.ntmps13
    go_wp2_with (first
      | (with_reducible refine wpList_box_row (o := ⟨some 4, _, _, _, _, _⟩) rfl _ _ rfl (bvs seed) rfl ?_; intro w1 hrow1 hs1 hg1)
      | (with_reducible refine wpList_box_row (o := ⟨some 7, _, _, _, _, _⟩) rfl _ _ rfl (bvs msg) rfl ?_; intro w2 hrow2 hs2 hg2)
      | (with_reducible refine wpList_alloc_row (o := ⟨some 8, _, _, _, _, _⟩) rfl _ rfl sgz zero_sig ?_; intro w3 hrow3 hs3 hg3))
    have hb3 : Below w.heap.size w w3 := below_kept (below_kept (grown_below hg1 (Nat.le_refl _) (by simp)) hg2 (by omega) (by simp)) hg3 (by omega) (by simp)
    clear hrow1 hrow2 hg1 hg2 hg3
    refine (HMY _).out.mono ?_
    rintro e w4 ⟨rfl, rfl⟩
    by_cases hM : M = 0
    · have hM0 : ((M : Int) == 0) = true := by simp [hM]
      clear hM
      go_wp2_with (refine wpList_store_all (o := ⟨none, _, _, _, _, _⟩) rfl _ _ _ rfl w2.heap.size rfl _ _ hrow3 sgz rfl (by simp [sgz, Value.oneCell']) rfl (sig_size _ _ _) ?_; intro wz hrowz hgz)
      have hload := run_loadVar_at (P := Tryd.prog) wz 32 ⟨w2.heap.size, 0, none⟩ sgz hrowz.cells _ Tryd.underlying32 rfl (sig_size _ _ _)
      exact bodyPost_ret (results_cellT Tryd.results13 _ _ _ _ rfl hload) rfl ⟨none, 0, none, 0, rfl, ReadsD.nil_, ReadsD.nil_, Nat.le_refl _, Nat.le_refl _, below_kept hb3 hgz hb3.size (by rintro k hk; cases hk; omega)⟩
    · have hM0 : ((M : Int) == 0) = false := by simp [hM]
      have hneg : idx < 0 := by omega
      clear hM
      go_wp2_with (refine wpList_store_all (o := ⟨none, _, _, _, _, _⟩) rfl _ _ _ rfl w2.heap.size rfl _ _ hrow3 sgz rfl (by simp [sgz, Value.oneCell']) rfl (sig_size _ _ _) ?_; intro wz hrowz hgz)
      have hload := run_loadVar_at (P := Tryd.prog) wz 32 ⟨w2.heap.size, 0, none⟩ sgz hrowz.cells _ Tryd.underlying32 rfl (sig_size _ _ _)
      exact bodyPost_ret (results_cellT Tryd.results13 _ _ _ _ rfl hload) rfl ⟨none, 0, none, 0, rfl, ReadsD.nil_, ReadsD.nil_, Nat.le_refl _, Nat.le_refl _, below_kept hb3 hgz hb3.size (by rintro k hk; cases hk; omega)⟩
  · have HI : Hid (tIdx h idx = 0) := by show _ = _; unfold tIdx; rw [he, if_neg (by omega)]
    have HC : Hid (tChain seed h idx msg = []) := by show _ = _; unfold tChain; rw [he, if_neg (by omega)]
    have HP : Hid (tPath seed h idx = []) := by show _ = _; unfold tPath; rw [he, if_neg (by omega)]
    rw [HI.out, HC.out, HP.out, he]
    clear HI HC HP he hs hm
    generalize tMany h = M at *
    go_enter Tryd.func13, Tryd.ntmps13
    go_wp2_with (first
      | (with_reducible refine wpList_box_row (o := ⟨some 4, _, _, _, _, _⟩) rfl _ _ rfl (bvs seed) rfl ?_; intro w1 hrow1 hs1 hg1)
      | (with_reducible refine wpList_box_row (o := ⟨some 7, _, _, _, _, _⟩) rfl _ _ rfl (bvs msg) rfl ?_; intro w2 hrow2 hs2 hg2)
      | (with_reducible refine wpList_alloc_row (o := ⟨some 8, _, _, _, _, _⟩) rfl _ rfl sgz zero_sig ?_; intro w3 hrow3 hs3 hg3))
    have hb3 : Below w.heap.size w w3 := below_kept (below_kept (grown_below hg1 (Nat.le_refl _) (by simp)) hg2 (by omega) (by simp)) hg3 (by omega) (by simp)
    clear hrow1 hrow2 hg1 hg2 hg3
    refine (HMY _).out.mono ?_
    rintro e w4 ⟨rfl, rfl⟩
    have hM0 : ((M : Int) == 0) = false := by simp [hm0]
    clear hm0
    go_wp2_with fail
    refine (HMY _).out.mono ?_
    rintro e w5 ⟨rfl, rfl⟩
    go_wp2_with (refine wpList_store_all (o := ⟨none, _, _, _, _, _⟩) rfl _ _ _ rfl w2.heap.size rfl _ _ hrow3 sgz rfl (by simp [sgz, Value.oneCell']) rfl (sig_size _ _ _) ?_; intro wz hrowz hgz)
    have hload := run_loadVar_at (P := Tryd.prog) wz 32 ⟨w2.heap.size, 0, none⟩ sgz hrowz.cells _ Tryd.underlying32 rfl (sig_size _ _ _)
    exact bodyPost_ret (results_cellT Tryd.results13 _ _ _ _ rfl hload) rfl ⟨none, 0, none, 0, rfl, ReadsD.nil_, ReadsD.nil_, Nat.le_refl _, Nat.le_refl _, below_kept hb3 hgz hb3.size (by rintro k hk; cases hk; omega)⟩
  · obtain ⟨k, rfl⟩ : ∃ k : Nat, idx = (k : Int) := ⟨idx.toNat, by omega⟩
    have HI : Hid (tIdx h (k : Int) = (k : Int)) := by show _ = _; unfold tIdx; rw [he, if_pos rfl]
    have HC : Hid (tChain seed h (k : Int) msg = wSign seed (k : Int) msg) := by show _ = _; unfold tChain; rw [he, if_pos rfl]
    have HP : Hid (tPath seed h (k : Int) = mProof (tKeys seed (tMany h)) k) := by show _ = _; unfold tPath; rw [he, if_pos rfl, Int.toNat_natCast]
    have HSG := fun W => Lib.hid (refSign_any seed msg hs hm (k : Int) i1 i2 W)
    have HS16 := Lib.hid (wSign_16 seed (k : Int) msg)
    have HP16 := Lib.hid (mProof_16 (tKeys seed (tMany h)) k)
    rw [HI.out, HC.out, HP.out, he]
    clear HI HC HP he hs hm
    have hMp : tMany h ≠ 0 := by omega
    have HPV := fun A c W hr hc => Lib.hid (refProve_any 1000 A c (tMany h) k (tKeys seed (tMany h)) W (by omega) hr hc (by omega) (by omega))
    generalize wSign seed (k : Int) msg = SG at *
    generalize mProof (tKeys seed (tMany h)) k = PF at *
    generalize tKeys seed (tMany h) = KS at *
    generalize tMany h = M at *
    go_enter Tryd.func13, Tryd.ntmps13
    go_wp2_with (first
      | (with_reducible refine wpList_box_row (o := ⟨some 4, _, _, _, _, _⟩) rfl _ _ rfl (bvs seed) rfl ?_; intro w1 hrow1 hs1 hg1)
      | (with_reducible refine wpList_box_row (o := ⟨some 7, _, _, _, _, _⟩) rfl _ _ rfl (bvs msg) rfl ?_; intro w2 hrow2 hs2 hg2)
      | (with_reducible refine wpList_alloc_row (o := ⟨some 8, _, _, _, _, _⟩) rfl _ rfl sgz zero_sig ?_; intro w3 hrow3 hs3 hg3))
    have hrow1' := (hrow1.kept hg2 (by simp)).kept hg3 (by simp)
    have hrow2' := hrow2.kept hg3 (by simp)
    have hb3 : Below w.heap.size w w3 := below_kept (below_kept (grown_below hg1 (Nat.le_refl _) (by simp)) hg2 (by omega) (by simp)) hg3 (by omega) (by simp)
    clear hrow1 hrow2 hg1 hg2 hg3
    refine (HMY _).out.mono ?_
    rintro e w4 ⟨rfl, rfl⟩
    have hM0 : ((M : Int) == 0) = false := by simp [hMp]
    clear hMp
    go_wp2_with fail
    refine (HMY _).out.mono ?_
    rintro e w5 ⟨rfl, rfl⟩
    go_wp2_with (with_reducible refine wpList_load_all (o := ⟨some 26, _, _, _, _, _⟩) rfl _ _ rfl w.heap.size rfl _ _ hrow1' _ Tryd.underlying23 rfl (b16_size _ HS.out) ?_)
    refine (HKY _).out.mono ?_
    rintro e w6 ⟨v6, rfl, hown6, hb6⟩
    obtain ⟨A6, c6, rfl, hc6, hr6⟩ := own_digs hown6 HK16.out
    rw [HKL.out] at hc6 hr6 ⊢
    have ra6 := hrow1'.on hb6
    have rm6 := hrow2'.on hb6
    have rt6 := hrow3.on hb6
    have B6 := hb3.trans (hb6.mono hb3.size)
    go_wp2_with fail
    refine (HPV _ _ _ hr6 hc6).out.mono ?_
    rintro e w7 ⟨v7, rfl, hown7, hb7⟩
    obtain ⟨A7, c7, rfl, hc7, hr7⟩ := own_digs hown7 HP16.out
    have ra7 := ra6.on hb7
    have rm7 := rm6.on hb7
    have rt7 := rt6.on hb7
    have B7 := B6.trans (hb7.mono B6.size)
    go_wp2_with (first
      | (with_reducible refine wpList_load_all (o := ⟨some 34, _, _, _, _, _⟩) rfl _ _ rfl w.heap.size rfl _ _ ra7 _ Tryd.underlying23 rfl (b16_size _ HS.out) ?_)
      | (with_reducible refine wpList_load_all (o := ⟨some 36, _, _, _, _, _⟩) rfl _ _ rfl w1.heap.size rfl _ _ rm7 _ Tryd.underlying23 rfl (b16_size _ HM.out) ?_))
    refine (HSG _).out.mono ?_
    rintro e w8 ⟨v8, rfl, hown8, hb8⟩
    obtain ⟨A8, c8, rfl, hc8, hr8⟩ := own_digs hown8 HS16.out
    have rt8 := rt7.on hb8
    have hown78 := own_below hown7 hb8
    have hz7 := B6.size
    have hz8 := B7.size
    have hlt3 := hrow3.lt
    have hz36 := hb6.size
    have hz67 := hb7.size
    have B8 := B7.trans (hb8.mono B7.size)
    go_wp2_with (refine wpList_store_all (o := ⟨none, _, _, _, _, _⟩) rfl _ _ _ rfl w2.heap.size rfl _ _ rt8 [.int .i64 (k : Int), .slice A8 SG.length c8, .slice A7 PF.length c7] rfl (by simp [Value.oneCell']) rfl (sig_size _ _ _) ?_; intro wz hrowz hgz)
    have o8 := own_kept hown8 hgz (by omega)
    have o7 := own_kept hown78 hgz (by omega)
    have hload := run_loadVar_at (P := Tryd.prog) wz 32 ⟨w2.heap.size, 0, none⟩ [.int .i64 (k : Int), .slice A8 SG.length c8, .slice A7 PF.length c7] hrowz.cells _ Tryd.underlying32 rfl (sig_size _ _ _)
    exact bodyPost_ret (results_cellT Tryd.results13 _ _ _ _ rfl hload) rfl ⟨A8, c8, A7, c7, rfl, ⟨Reads.of_own o8, HS16.out⟩, ⟨Reads.of_own o7, HP16.out⟩, hc8, hc7, below_kept B8 hgz B8.size (by rintro q hq; cases hq; omega)⟩

set_option maxRecDepth 100000 in
set_option maxHeartbeats 1000000 in
theorem refTVerify_any (rt msg : List UInt8) (ht : rt.length = 16) (hm : msg.length = 16) (h idx : Int) (h1 : -9223372036854775808 ≤ h) (h2 : h ≤ 9223372036854775807) (A B : Option Addr) (n c m d : Nat) (C P : List (List UInt8)) (w : World)
    (hC : ReadsD w A n C) (hP : ReadsD w B m P) (hmd : m ≤ d) (hn : n ≤ 1000) (hmm : m ≤ 1000) :
    Calls Tryd.prog 17 #[.agg (bvs rt).toArray, .int .i64 h, .agg (bvs msg).toArray, .agg #[.int .i64 idx, .slice A n c, .slice B m d]] w (TellsB (tVerify rt h msg idx C P) w) := by
  have HT := Lib.hid ht
  have HM := Lib.hid hm
  have HMY := fun W => Lib.hid (refMany_any h h1 h2 W)
  have hML := tMany_le h
  by_cases ho : 0 ≤ idx ∧ idx < (tMany h : Int)
  · rw [tVerify_in ho]
    have hnb : decide (idx < 0) = false := by simpa using ho.1
    have hge : decide (((tMany h : Nat) : Int) ≤ idx) = false := by simp; omega
    have HRB := fun W hne => Lib.hid (refRecover_bad A c n msg W hne)
    have HRG := fun W hm hr => Lib.hid (refRecover_any A c msg C W hm hr)
    obtain ⟨k, rfl⟩ : ∃ k : Nat, idx = (k : Int) := ⟨idx.toNat, by omega⟩
    have hkM : k < tMany h := by omega
    have HVF := fun W leaf hl hr => Lib.hid (refVerify_any B d m (tMany h) k rt leaf P W ht hl hr hmd hmm (by omega) hkM)
    rw [Int.toNat_natCast]
    have hlen := hC.len
    have HR1 : n = 68 → Hid (((C.length == 68) && mVerify rt (wKey msg C) P (tMany h) k) = mVerify rt (wKey msg C) P (tMany h) k) := fun e => by show _ = _; rw [show (C.length == 68) = true by rw [hlen, e]; rfl, Bool.true_and]
    have HR0 : n ≠ 68 → Hid (((C.length == 68) && mVerify rt (wKey msg C) P (tMany h) k) = false) := fun e => by show _ = _; rw [show (C.length == 68) = false by rw [hlen]; simpa using e, Bool.false_and]
    generalize ((C.length == 68) && mVerify rt (wKey msg C) P (tMany h) k) = R at *
    clear ho
    generalize tMany h = M at *
    go_enter Tryd.func17, Tryd.ntmps17
    go_wp2_with (first
      | (with_reducible refine wpList_box_row (o := ⟨some 4, _, _, _, _, _⟩) rfl _ _ rfl (bvs rt) rfl ?_; intro w1 hrow1 hs1 hg1)
      | (with_reducible refine wpList_box_row (o := ⟨some 6, _, _, _, _, _⟩) rfl _ _ rfl (bvs msg) rfl ?_; intro w2 hrow2 hs2 hg2)
      | (with_reducible refine wpList_box_row (o := ⟨some 7, _, _, _, _, _⟩) rfl _ _ rfl [.int .i64 (k : Int), .slice A n c, .slice B m d] rfl ?_; intro w3 hrow3 hs3 hg3))
    have hb3 : Below w.heap.size w w3 := below_kept (below_kept (grown_below hg1 (Nat.le_refl _) (by simp)) hg2 (by omega) (by simp)) hg3 (by omega) (by simp)
    refine wp_region_plan (fun w' => Row w' w2.heap.size 32 [.int .i64 (k : Int), .slice A n c, .slice B m d]) (.take 0 <| .take 1 <| .take 2 <| .take 3 <| .take 4 <| .take 5 <| .take 6 <| .one 7 <| .take 8 <| .take 9 <| .done) (by kernel_rfl) (by kernel_rfl) (by kernel_rfl) (fun _ _ _ _ _ h => h) hrow3.drew ?_
    repeat (refine plan_take _ rfl ?_; (first | (refine wpQuiet_valueG (o := ⟨some 12, _, _, _, _, _⟩) rfl _ (by intro _ h; exact exec_load1 _ 3 _ rfl ⟨w2.heap.size, 0, none⟩ rfl _ (h.cell (j := 0) rfl) _ Tryd.underlying3 rfl) (wpQuiet_nil ?_); simp only [Act.put, List.setIfInBounds_toArray, List.set_cons_zero, List.set_cons_succ]) | (refine wpQuiet_valueG (o := ⟨some 16, _, _, _, _, _⟩) rfl _ (by intro _ h; exact exec_load1 _ 3 _ rfl ⟨w2.heap.size, 0, none⟩ rfl _ (h.cell (j := 0) rfl) _ Tryd.underlying3 rfl) (wpQuiet_nil ?_); simp only [Act.put, List.setIfInBounds_toArray, List.set_cons_zero, List.set_cons_succ]) | (go_big_quiet_step ((intros; rfl)); refine wpQuiet_nil ?_)))
    refine plan_one _ rfl fun K hK => ?_
    go_simp
    refine (HMY _).out.mono ?_
    rintro e w4 ⟨rfl, rfl⟩
    refine hK _ _ hrow3.drew ?_
    clear hK K
    repeat (refine plan_take _ rfl ?_; (first | (refine wpQuiet_valueG (o := ⟨some 12, _, _, _, _, _⟩) rfl _ (by intro _ h; exact exec_load1 _ 3 _ rfl ⟨w2.heap.size, 0, none⟩ rfl _ (h.cell (j := 0) rfl) _ Tryd.underlying3 rfl) (wpQuiet_nil ?_); simp only [Act.put, List.setIfInBounds_toArray, List.set_cons_zero, List.set_cons_succ]) | (refine wpQuiet_valueG (o := ⟨some 16, _, _, _, _, _⟩) rfl _ (by intro _ h; exact exec_load1 _ 3 _ rfl ⟨w2.heap.size, 0, none⟩ rfl _ (h.cell (j := 0) rfl) _ Tryd.underlying3 rfl) (wpQuiet_nil ?_); simp only [Act.put, List.setIfInBounds_toArray, List.set_cons_zero, List.set_cons_succ]) | (go_big_quiet_step ((intros; rfl)); refine wpQuiet_nil ?_)))
    refine plan_done ?_
    have rt3 : Row w3.drew w.heap.size 23 (bvs rt) := ((hrow1.kept hg2 (by simp)).kept hg3 (by simp)).drew
    have rm3 : Row w3.drew w1.heap.size 23 (bvs msg) := (hrow2.kept hg3 (by simp)).drew
    have rs3 := hrow3.drew
    have hb3' : Below w.heap.size w w3.drew := hb3.drew
    have hlt3 := rs3.lt
    clear hrow1 hrow2 hrow3 hg1 hg2 hg3 hb3 hs3
    generalize w3.drew = w3 at *
    have c1 := rs3.cell (j := 1) rfl
    by_cases hn68 : n = 68
    · subst hn68
      have HR := HR1 rfl
      have HKL := Lib.hid (wKey_len msg C)
      have HVF2 := fun W hr => HVF W (wKey msg C) HKL.out hr
      clear HR0 HR1 HVF
      generalize mVerify rt (wKey msg C) P M k = V at *
      generalize wKey msg C = Q at *
      go_wp2_with (with_reducible refine wpList_load_all (o := ⟨some 22, _, _, _, _, _⟩) rfl _ _ rfl w1.heap.size rfl _ _ rm3 _ Tryd.underlying23 rfl (b16_size _ HM.out) ?_)
      refine (HRG _ HM.out (hC.on hb3')).out.mono ?_
      rintro e w4 ⟨rfl, hb4⟩
      have rt4 := rt3.on hb4
      have rs4 := rs3.on hb4
      have B4 := hb3'.trans (hb4.mono hb3'.size)
      go_wp2_with (first
        | (with_reducible refine wpList_alloc_row (o := ⟨some 9, _, _, _, _, _⟩) rfl _ rfl zeros16 zero_b16 ?_; intro w5 hrow5 hs5 hg5)
        | (with_reducible refine wpList_store_all (o := ⟨none, _, _, _, _, _⟩) rfl _ _ _ rfl w4.heap.size rfl _ _ hrow5 (bvs Q) rfl (bvs_one _) (b16_zeros _ HKL.out) (b16_size _ HKL.out) ?_; intro w6 hrow6 hg6))
      have hb46 : Below w4.heap.size w4 w6 := below_kept (grown_below hg5 (Nat.le_refl _) (by simp)) hg6 (by omega) (by rintro q hq; cases hq; exact Nat.le_refl _)
      have rt6 := rt4.on hb46
      have rs6 := rs4.on hb46
      have B6 := B4.trans (hb46.mono B4.size)
      clear hrow5 hg5 hg6
      refine wp_region_plan (fun w' => Row w' w2.heap.size 32 [.int .i64 (k : Int), .slice A 68 c, .slice B m d] ∧ Row w' w.heap.size 23 (bvs rt) ∧ Row w' w4.heap.size 23 (bvs Q)) (.take 0 <| .take 1 <| .take 3 <| .take 4 <| .take 5 <| .take 6 <| .take 7 <| .one 2 <| .one 8 <| .take 9 <| .done) (by kernel_rfl) (by kernel_rfl) (by kernel_rfl) (fun _ _ _ _ _ h => h) ⟨rs6.drew, rt6.drew, hrow6.drew⟩ ?_
      repeat (refine plan_take _ rfl ?_; (first | (refine wpQuiet_valueG (o := ⟨some 30, _, _, _, _, _⟩) rfl _ (by intro _ h; exact exec_load16 _ _ rfl _ rfl rt HT.out h.2.1.cells) (wpQuiet_nil ?_); simp only [Act.put, List.setIfInBounds_toArray, List.set_cons_zero, List.set_cons_succ]) | (refine wpQuiet_valueG (o := ⟨some 34, _, _, _, _, _⟩) rfl _ (by intro _ h; exact exec_load1 _ 3 _ rfl ⟨w2.heap.size, 0, none⟩ rfl _ (h.1.cell (j := 0) rfl) _ Tryd.underlying3 rfl) (wpQuiet_nil ?_); simp only [Act.put, List.setIfInBounds_toArray, List.set_cons_zero, List.set_cons_succ]) | (refine wpQuiet_valueG (o := ⟨some 35, _, _, _, _, _⟩) rfl _ (by intro _ h; exact exec_load16 _ _ rfl _ rfl Q HKL.out h.2.2.cells) (wpQuiet_nil ?_); simp only [Act.put, List.setIfInBounds_toArray, List.set_cons_zero, List.set_cons_succ]) | (refine wpQuiet_valueG (o := ⟨some 37, _, _, _, _, _⟩) rfl _ (by intro _ h; exact exec_load1 _ 30 _ rfl ⟨w2.heap.size, 2, none⟩ rfl _ (h.1.cell (j := 2) rfl) _ Tryd.underlying30 rfl) (wpQuiet_nil ?_); simp only [Act.put, List.setIfInBounds_toArray, List.set_cons_zero, List.set_cons_succ]) | (go_big_quiet_step ((intros; rfl)); refine wpQuiet_nil ?_)))
      refine plan_one _ rfl fun K hK => ?_
      go_simp
      refine (HMY _).out.mono ?_
      rintro e w7 ⟨rfl, rfl⟩
      refine hK _ _ ⟨rs6.drew, rt6.drew, hrow6.drew⟩ ?_
      clear hK K
      refine plan_one _ rfl fun K hK => ?_
      go_simp
      refine (HVF2 _ (hP.on B6.drew)).out.mono ?_
      rintro e w8 ⟨rfl, hb8⟩
      refine hK _ _ ⟨rs6.drew.on hb8, rt6.drew.on hb8, hrow6.drew.on hb8⟩ ?_
      clear hK K
      repeat (refine plan_take _ rfl ?_; go_big_quiet_step ((intros; rfl)); refine wpQuiet_nil ?_)
      refine plan_done ?_
      go_wp2_with fail
      go_ret
      exact ⟨by rw [HR.out]; rfl, B6.drew.trans (hb8.mono B6.drew.size)⟩
    · have HR := HR0 hn68
      go_wp2_with (with_reducible refine wpList_load_all (o := ⟨some 22, _, _, _, _, _⟩) rfl _ _ rfl w1.heap.size rfl _ _ rm3 _ Tryd.underlying23 rfl (b16_size _ HM.out) ?_)
      refine (HRB _ hn68).out.mono ?_
      rintro e w4 ⟨rfl, hb4⟩
      have B4 := hb3'.trans (hb4.mono hb3'.size)
      go_wp2_with (first
        | (with_reducible refine wpList_alloc_row (o := ⟨some 9, _, _, _, _, _⟩) rfl _ rfl zeros16 zero_b16 ?_; intro w5 hrow5 hs5 hg5)
        | (with_reducible refine wpList_store_all (o := ⟨none, _, _, _, _, _⟩) rfl _ _ _ rfl w4.heap.size rfl _ _ hrow5 (bvs zero16B') rfl (bvs_one _) (b16_zeros _ rfl) (b16_size _ rfl) ?_; intro w6 hrow6 hg6))
      have hb46 : Below w4.heap.size w4 w6 := below_kept (grown_below hg5 (Nat.le_refl _) (by simp)) hg6 (by omega) (by rintro q hq; cases hq; exact Nat.le_refl _)
      go_ret
      exact ⟨by rw [HR.out]; rfl, B4.trans (hb46.mono B4.size)⟩
  · rw [tVerify_out ho]
    generalize tMany h = M at *
    clear ht hm
    by_cases hneg : idx < 0
    · go_enter Tryd.func17, Tryd.ntmps17
      go_wp2_with (first
        | (with_reducible refine wpList_box_row (o := ⟨some 4, _, _, _, _, _⟩) rfl _ _ rfl (bvs rt) rfl ?_; intro w1 hrow1 hs1 hg1)
        | (with_reducible refine wpList_box_row (o := ⟨some 6, _, _, _, _, _⟩) rfl _ _ rfl (bvs msg) rfl ?_; intro w2 hrow2 hs2 hg2)
        | (with_reducible refine wpList_box_row (o := ⟨some 7, _, _, _, _, _⟩) rfl _ _ rfl [.int .i64 idx, .slice A n c, .slice B m d] rfl ?_; intro w3 hrow3 hs3 hg3))
      have hb3 : Below w.heap.size w w3 := below_kept (below_kept (grown_below hg1 (Nat.le_refl _) (by simp)) hg2 (by omega) (by simp)) hg3 (by omega) (by simp)
      refine wp_region_plan (fun w' => Row w' w2.heap.size 32 [.int .i64 idx, .slice A n c, .slice B m d]) (.take 0 <| .take 1 <| .take 2 <| .take 3 <| .take 4 <| .take 5 <| .take 6 <| .one 7 <| .take 8 <| .take 9 <| .done) (by kernel_rfl) (by kernel_rfl) (by kernel_rfl) (fun _ _ _ _ _ h => h) hrow3.drew ?_
      repeat (refine plan_take _ rfl ?_; (first | (refine wpQuiet_valueG (o := ⟨some 12, _, _, _, _, _⟩) rfl _ (by intro _ h; exact exec_load1 _ 3 _ rfl ⟨w2.heap.size, 0, none⟩ rfl _ (h.cell (j := 0) rfl) _ Tryd.underlying3 rfl) (wpQuiet_nil ?_); simp only [Act.put, List.setIfInBounds_toArray, List.set_cons_zero, List.set_cons_succ]) | (refine wpQuiet_valueG (o := ⟨some 16, _, _, _, _, _⟩) rfl _ (by intro _ h; exact exec_load1 _ 3 _ rfl ⟨w2.heap.size, 0, none⟩ rfl _ (h.cell (j := 0) rfl) _ Tryd.underlying3 rfl) (wpQuiet_nil ?_); simp only [Act.put, List.setIfInBounds_toArray, List.set_cons_zero, List.set_cons_succ]) | (go_big_quiet_step ((intros; rfl)); refine wpQuiet_nil ?_)))
      refine plan_one _ rfl fun K hK => ?_
      go_simp
      refine hK _ _ hrow3.drew ?_
      clear hK K
      repeat (refine plan_take _ rfl ?_; (first | (refine wpQuiet_valueG (o := ⟨some 12, _, _, _, _, _⟩) rfl _ (by intro _ h; exact exec_load1 _ 3 _ rfl ⟨w2.heap.size, 0, none⟩ rfl _ (h.cell (j := 0) rfl) _ Tryd.underlying3 rfl) (wpQuiet_nil ?_); simp only [Act.put, List.setIfInBounds_toArray, List.set_cons_zero, List.set_cons_succ]) | (refine wpQuiet_valueG (o := ⟨some 16, _, _, _, _, _⟩) rfl _ (by intro _ h; exact exec_load1 _ 3 _ rfl ⟨w2.heap.size, 0, none⟩ rfl _ (h.cell (j := 0) rfl) _ Tryd.underlying3 rfl) (wpQuiet_nil ?_); simp only [Act.put, List.setIfInBounds_toArray, List.set_cons_zero, List.set_cons_succ]) | (go_big_quiet_step ((intros; rfl)); refine wpQuiet_nil ?_)))
      refine plan_done ?_
      go_wp2_with fail
      go_ret
      exact ⟨rfl, hb3.drew⟩
    · have hnb : decide (idx < 0) = false := by simpa using hneg
      have hge : decide ((M : Int) ≤ idx) = true := by simp; omega
      go_enter Tryd.func17, Tryd.ntmps17
      go_wp2_with (first
        | (with_reducible refine wpList_box_row (o := ⟨some 4, _, _, _, _, _⟩) rfl _ _ rfl (bvs rt) rfl ?_; intro w1 hrow1 hs1 hg1)
        | (with_reducible refine wpList_box_row (o := ⟨some 6, _, _, _, _, _⟩) rfl _ _ rfl (bvs msg) rfl ?_; intro w2 hrow2 hs2 hg2)
        | (with_reducible refine wpList_box_row (o := ⟨some 7, _, _, _, _, _⟩) rfl _ _ rfl [.int .i64 idx, .slice A n c, .slice B m d] rfl ?_; intro w3 hrow3 hs3 hg3))
      have hb3 : Below w.heap.size w w3 := below_kept (below_kept (grown_below hg1 (Nat.le_refl _) (by simp)) hg2 (by omega) (by simp)) hg3 (by omega) (by simp)
      refine wp_region_plan (fun w' => Row w' w2.heap.size 32 [.int .i64 idx, .slice A n c, .slice B m d]) (.take 0 <| .take 1 <| .take 2 <| .take 3 <| .take 4 <| .take 5 <| .take 6 <| .one 7 <| .take 8 <| .take 9 <| .done) (by kernel_rfl) (by kernel_rfl) (by kernel_rfl) (fun _ _ _ _ _ h => h) hrow3.drew ?_
      repeat (refine plan_take _ rfl ?_; (first | (refine wpQuiet_valueG (o := ⟨some 12, _, _, _, _, _⟩) rfl _ (by intro _ h; exact exec_load1 _ 3 _ rfl ⟨w2.heap.size, 0, none⟩ rfl _ (h.cell (j := 0) rfl) _ Tryd.underlying3 rfl) (wpQuiet_nil ?_); simp only [Act.put, List.setIfInBounds_toArray, List.set_cons_zero, List.set_cons_succ]) | (refine wpQuiet_valueG (o := ⟨some 16, _, _, _, _, _⟩) rfl _ (by intro _ h; exact exec_load1 _ 3 _ rfl ⟨w2.heap.size, 0, none⟩ rfl _ (h.cell (j := 0) rfl) _ Tryd.underlying3 rfl) (wpQuiet_nil ?_); simp only [Act.put, List.setIfInBounds_toArray, List.set_cons_zero, List.set_cons_succ]) | (go_big_quiet_step ((intros; rfl)); refine wpQuiet_nil ?_)))
      refine plan_one _ rfl fun K hK => ?_
      go_simp
      refine (HMY _).out.mono ?_
      rintro e w4 ⟨rfl, rfl⟩
      refine hK _ _ hrow3.drew ?_
      clear hK K
      repeat (refine plan_take _ rfl ?_; (first | (refine wpQuiet_valueG (o := ⟨some 12, _, _, _, _, _⟩) rfl _ (by intro _ h; exact exec_load1 _ 3 _ rfl ⟨w2.heap.size, 0, none⟩ rfl _ (h.cell (j := 0) rfl) _ Tryd.underlying3 rfl) (wpQuiet_nil ?_); simp only [Act.put, List.setIfInBounds_toArray, List.set_cons_zero, List.set_cons_succ]) | (refine wpQuiet_valueG (o := ⟨some 16, _, _, _, _, _⟩) rfl _ (by intro _ h; exact exec_load1 _ 3 _ rfl ⟨w2.heap.size, 0, none⟩ rfl _ (h.cell (j := 0) rfl) _ Tryd.underlying3 rfl) (wpQuiet_nil ?_); simp only [Act.put, List.setIfInBounds_toArray, List.set_cons_zero, List.set_cons_succ]) | (go_big_quiet_step ((intros; rfl)); refine wpQuiet_nil ?_)))
      refine plan_done ?_
      go_wp2_with fail
      go_ret
      exact ⟨rfl, hb3.drew⟩
end Go.Proofs.YtfmcgcdppbcfjaaDoor
