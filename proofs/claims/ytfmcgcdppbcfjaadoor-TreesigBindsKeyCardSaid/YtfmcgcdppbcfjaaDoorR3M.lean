/-
  What the reference's Leaf, Node and Split return: contracts by walks. No condition but bounded sizes.
-/
import Derived.Test.YtfmcgcdppbcfjaaDoorMerkle
import Derived.Test.YtfmcgcdppbcfjaaDoorOne
import Derived.Test.YtfmcgcdppbcfjaaDoorFlat
import Derived.Test.YtfmcgcdppbcfjaaDoorAppD
import Derived.Test.YtfmcgcdppbcfjaaDoorGuard
namespace Go.Proofs.YtfmcgcdppbcfjaaDoor
open Go.RowKit

set_option maxRecDepth 100000 in
set_option maxHeartbeats 1000000 in
theorem refLeaf_any (d : List UInt8) (hd : d.length = 16) (w : World) : Calls Tryd.prog 53 #[.agg (bvs d).toArray] w (GivesV (.agg (bvs (mLeaf d)).toArray) w) := by
  have HD := Lib.hid hd
  have HL := Lib.hid (mLeaf_len d)
  have HH : ∀ A c, Hid (dig 1 [⟨A, 16, c, d⟩] = mLeaf d) := fun _ _ => rfl
  clear hd
  generalize mLeaf d = D at *
  go_enter Tryd.func53, Tryd.ntmps53
  go_wp2_with (first
    | (with_reducible refine wpList_box_row (o := ⟨some 1, _, _, _, _, _⟩) rfl _ _ rfl (bvs d) rfl ?_; intro w1 hrow1 hs1 hg1)
    | (with_reducible refine wpList_alloc_row (o := ⟨some 2, _, _, _, _, _⟩) rfl _ rfl zeros16 zero_b16 ?_; intro w2 hrow2 hs2 hg2))
  have hrow1' := hrow1.kept hg2 (by simp)
  have hrp := readsP_one w2 53 (some ⟨w.heap.size, 0, none⟩) 16 16 d (hrow1'.reads16 HD.out) (Nat.le_refl _)
  have hb2 : Below w.heap.size w w2 := below_kept (grown_below hg1 (Nat.le_refl _) (by simp)) hg2 (by omega) (by simp)
  have hlt2 := hrow2.lt
  clear hrow1 hrow1' hg1 hg2
  refine (refDigest_any 1 _ _ _ _ _ hrp (by omega) (parts_one_le _ 300 (show 16 ≤ 300 by omega))).mono ?_
  rintro e w3 ⟨rfl, hb3⟩
  rw [(HH _ _).out]
  have hb3' : Below w2.heap.size w2 w3 := ((Below.refl _ _).alloc (Nat.le_refl _) _).trans (hb3.mono (by simp))
  have hrow3 := hrow2.on hb3'
  go_wp2_with (with_reducible refine wpList_store_all (o := ⟨none, _, _, _, _, _⟩) rfl _ _ _ rfl w1.heap.size rfl _ _ hrow3 (bvs D) rfl (bvs_one _) (b16_zeros _ HL.out) (b16_size _ HL.out) ?_; intro wz hrowz hgz)
  have hload := run_loadVar_at (P := Tryd.prog) wz 23 ⟨w1.heap.size, 0, none⟩ (bvs D) hrowz.cells _ Tryd.underlying23 rfl (b16_size _ HL.out)
  have hb3w := hb2.trans (hb3'.mono hb2.size)
  exact bodyPost_ret (results_cell1 Tryd.results53 _ _ _ _ rfl hload) rfl ⟨rfl, below_kept hb3w hgz hb3w.size (by rintro k hk; cases hk; omega)⟩

set_option maxRecDepth 100000 in
set_option maxHeartbeats 1000000 in
theorem refNode_any (x y : List UInt8) (hx : x.length = 16) (hy : y.length = 16) (w : World) : Calls Tryd.prog 55 #[.agg (bvs x).toArray, .agg (bvs y).toArray] w (GivesV (.agg (bvs (mNode x y)).toArray) w) := by
  have HX := Lib.hid hx
  have HY := Lib.hid hy
  have HL := Lib.hid (mNode_len x y)
  have HH : ∀ A c B b, Hid (dig 2 [⟨A, 16, c, x⟩, ⟨B, 16, b, y⟩] = mNode x y) := fun _ _ _ _ => rfl
  clear hx hy
  generalize mNode x y = D at *
  go_enter Tryd.func55, Tryd.ntmps55
  go_wp2_with (first
    | (with_reducible refine wpList_box_row (o := ⟨some 2, _, _, _, _, _⟩) rfl _ _ rfl (bvs x) rfl ?_; intro w1 hrow1 hs1 hg1)
    | (with_reducible refine wpList_box_row (o := ⟨some 3, _, _, _, _, _⟩) rfl _ _ rfl (bvs y) rfl ?_; intro w2 hrow2 hs2 hg2)
    | (with_reducible refine wpList_alloc_row (o := ⟨some 4, _, _, _, _, _⟩) rfl _ rfl zeros16 zero_b16 ?_; intro w3 hrow3 hs3 hg3))
  have hrow1' := (hrow1.kept hg2 (by simp)).kept hg3 (by simp)
  have hrow2' := hrow2.kept hg3 (by simp)
  refine wp_region_tail 2 (by kernel_rfl) (by kernel_rfl) ?_
  simp only [List.take_succ_cons, List.take_zero, List.drop_succ_cons, List.drop_zero, Act.put, List.setIfInBounds_toArray, List.set_cons_zero, List.set_cons_succ]
  repeat (go_big_quiet_step (fail))
  refine wpQuiet_nil ?_
  have hrp := readsP_two w3.drew 53 (some ⟨w.heap.size, 0, none⟩) (some ⟨w1.heap.size, 0, none⟩) 16 16 16 16 x y (hrow1'.drew.reads16 HX.out) (Nat.le_refl _) (hrow2'.drew.reads16 HY.out) (Nat.le_refl _)
  have hb3 : Below w.heap.size w w3 := below_kept (below_kept (grown_below hg1 (Nat.le_refl _) (by simp)) hg2 (by omega) (by simp)) hg3 (by omega) (by simp)
  have hlt3 := hrow3.lt
  clear hrow1 hrow1' hrow2 hrow2' hg1 hg2 hg3
  go_wp2_with fail
  refine (refDigest_any 2 _ _ _ _ _ hrp (by omega) (parts_two_le _ _ 300 (show 16 ≤ 300 by omega) (show 16 ≤ 300 by omega))).mono ?_
  rintro e w4 ⟨rfl, hb4⟩
  rw [(HH _ _ _ _).out]
  have hb4' : Below w3.heap.size w3 w4 := (((Below.refl _ _).drew).alloc (Nat.le_refl _) _).trans (hb4.mono (by simp))
  have hrow4 := hrow3.on hb4'
  go_wp2_with (with_reducible refine wpList_store_all (o := ⟨none, _, _, _, _, _⟩) rfl _ _ _ rfl w2.heap.size rfl _ _ hrow4 (bvs D) rfl (bvs_one _) (b16_zeros _ HL.out) (b16_size _ HL.out) ?_; intro wz hrowz hgz)
  have hload := run_loadVar_at (P := Tryd.prog) wz 23 ⟨w2.heap.size, 0, none⟩ (bvs D) hrowz.cells _ Tryd.underlying23 rfl (b16_size _ HL.out)
  have hb4w := hb3.trans (hb4'.mono hb3.size)
  exact bodyPost_ret (results_cell1 Tryd.results55 _ _ _ _ rfl hload) rfl ⟨rfl, below_kept hb4w hgz hb4w.size (by rintro k hk; cases hk; omega)⟩

set_option maxRecDepth 100000 in
set_option maxHeartbeats 1000000 in
theorem refSplit_any (n : Nat) (h2 : 2 ≤ n) (hn : n ≤ 1000000000) (w : World) : Calls Tryd.prog 54 #[.int .i64 (n : Int)] w fun e w' => e = .returned (.int .i64 (split n : Int)) ∧ w' = w := by
  have HS : ∀ e : Nat, 2 ^ e < n → n ≤ 2 * 2 ^ e → Hid (2 ^ e = split n) := fun e h1 h2 => split_eq h1 h2
  generalize split n = S at *
  go_enter Tryd.func54, Tryd.ntmps54
  go_wp2_with fail
  go_loopg [3] (n - 1) (fun g i wr => ∃ k e : Nat, Hid (k + g = n) ∧ 1 ≤ k ∧ k < n ∧ i = .int .i64 (k : Int) ∧ wr = w ∧ Hid (k = 2 ^ e))
  case atStart => exact ⟨1, 0, by show _ = _; omega, by omega, by omega, rfl, rfl, rfl⟩
  case round =>
    obtain ⟨k, e, HK, hk1, hkn, rfl, rfl, HE⟩ := hrel
    by_cases hlt : 2 * k < n
    · go_wp2_with fail
      go_roundg (n - 2 * k)
      case measure => have := HK.out; omega
      case rel =>
        refine ⟨2 * k, e + 1, by show _ = _; omega, by omega, hlt, by go_num, rfl, ?_⟩
        show _ = _
        rw [Nat.pow_succ, HE.out]; omega
    · go_wp2_with fail
      go_ret
      refine ⟨?_, rfl⟩
      rw [← (HS e (by rw [← HE.out]; exact hkn) (by rw [← HE.out]; omega)).out, ← HE.out]
      rfl
end Go.Proofs.YtfmcgcdppbcfjaaDoor

/-
  What the reference's Root returns: a contract by a walk, by induction on the number of leaves. Condition: at most 1000 leaves.
-/
namespace Go.Proofs.YtfmcgcdppbcfjaaDoor
open Go.RowKit

set_option maxRecDepth 100000 in
set_option maxHeartbeats 1000000 in
theorem refRoot_none (A : Option Addr) (c : Nat) (w : World) : Calls Tryd.prog 27 #[.slice A 0 c] w (GivesV (.agg (bvs (root [])).toArray) w) := by
  have HRL := Lib.hid (root_len [])
  have HE : Hid (dig 1 [] = root []) := root_nil.symm
  generalize root [] = D at *
  go_enter Tryd.func27, Tryd.ntmps27
  go_wp2_with (with_reducible refine wpList_alloc_row (o := ⟨some 2, _, _, _, _, _⟩) rfl _ rfl zeros16 zero_b16 ?_; intro w1 hrow1 hs1 hg1)
  have hb1 : Below w.heap.size w w1 := grown_below hg1 (Nat.le_refl _) (by simp)
  clear hg1
  refine (refDigest_any 1 none 0 [] 0 w1 (readsP_none _ _) (by omega) (by simp)).mono ?_
  rintro e w2 ⟨rfl, hb2⟩
  rw [HE.out]
  have hrow2 := hrow1.on hb2
  have hb2' := hb1.trans (hb2.mono hb1.size)
  go_wp2_with (with_reducible refine wpList_store_all (o := ⟨none, _, _, _, _, _⟩) rfl _ _ _ rfl w.heap.size rfl _ _ hrow2 (bvs D) rfl (bvs_one _) (b16_zeros _ HRL.out) (b16_size _ HRL.out) ?_; intro wz hrowz hgz)
  have hload := run_loadVar_at (P := Tryd.prog) wz 23 ⟨w.heap.size, 0, none⟩ (bvs D) hrowz.cells _ Tryd.underlying23 rfl (b16_size _ HRL.out)
  exact bodyPost_ret (results_cell1 Tryd.results27 _ _ _ _ rfl hload) rfl ⟨rfl, below_kept hb2' hgz hb2'.size (by rintro k hk; cases hk; exact Nat.le_refl _)⟩
set_option maxRecDepth 100000 in
set_option maxHeartbeats 1000000 in
theorem refRoot_one (A : Option Addr) (c : Nat) (d : List UInt8) (w : World) (hr : ReadsD w A 1 [d]) : Calls Tryd.prog 27 #[.slice A 1 c] w (GivesV (.agg (bvs (root [d])).toArray) w) := by
  obtain ⟨ad, d', rfl, hab, hd', hd, hcl⟩ := hr.1.dig_at hr.2 (k := 0) (by omega)
  simp at hd'
  subst hd'
  have hcl' : ∀ j u, (bvs d)[j]? = some u → w.cell? (ad.add j) = some u := fun j u hu => by simpa using hcl j u hu
  have HC := Lib.hid hcl'
  have HD := Lib.hid hd
  have HRL := Lib.hid (root_len [d])
  have HE : Hid (mLeaf d = root [d]) := (root_one d).symm
  have HLF := fun W => Lib.hid (refLeaf_any d hd W)
  rw [HE.out] at HLF
  generalize root [d] = D at *
  clear hcl hcl' hd
  go_enter Tryd.func27, Tryd.ntmps27
  go_wp2_with (first
    | (with_reducible refine wpList_alloc_row (o := ⟨some 2, _, _, _, _, _⟩) rfl _ rfl zeros16 zero_b16 ?_; intro w1 hrow1 hs1 hg1; have hb1 : Below w.heap.size w w1 := grown_below hg1 (Nat.le_refl _) (by simp))
    | (with_reducible refine wpList_load_at (o := ⟨some 13, _, _, _, _, _⟩) rfl _ _ rfl ad rfl (bvs d) (fun j u hu => (hb1.cell (by rw [block_of_add]; exact hab)).trans (HC.out j u hu)) _ Tryd.underlying23 rfl (b16_size _ HD.out) ?_))
  clear hg1
  refine (HLF _).out.mono ?_
  rintro e w2 ⟨rfl, hb2⟩
  have hrow2 := hrow1.on hb2
  have hb2' := hb1.trans (hb2.mono hb1.size)
  go_wp2_with (with_reducible refine wpList_store_all (o := ⟨none, _, _, _, _, _⟩) rfl _ _ _ rfl w.heap.size rfl _ _ hrow2 (bvs D) rfl (bvs_one _) (b16_zeros _ HRL.out) (b16_size _ HRL.out) ?_; intro wz hrowz hgz)
  have hload := run_loadVar_at (P := Tryd.prog) wz 23 ⟨w.heap.size, 0, none⟩ (bvs D) hrowz.cells _ Tryd.underlying23 rfl (b16_size _ HRL.out)
  exact bodyPost_ret (results_cell1 Tryd.results27 _ _ _ _ rfl hload) rfl ⟨rfl, below_kept hb2' hgz hb2'.size (by rintro k hk; cases hk; exact Nat.le_refl _)⟩
set_option maxRecDepth 100000 in
set_option maxHeartbeats 1000000 in
theorem refRoot_any (m : Nat) : ∀ (A : Option Addr) (c n : Nat) (ds : List (List UInt8)) (w : World), n ≤ m → ReadsD w A n ds → n ≤ c → n ≤ 1000 →
    Calls Tryd.prog 27 #[.slice A n c] w (GivesV (.agg (bvs (root ds)).toArray) w) := by
  induction m with
  | zero =>
    intro A c n ds w hm hr hc hn
    obtain rfl : n = 0 := by omega
    obtain rfl : ds = [] := List.eq_nil_of_length_eq_zero hr.len
    exact refRoot_none A c w
  | succ m ih =>
    intro A c n ds w hm hr hc hn
    have HLN := Lib.hid hr.len
    have HRL := Lib.hid (root_len ds)
    by_cases h2 : 2 ≤ n
    · obtain ⟨ad, rfl⟩ : ∃ ad, A = some ad := by obtain ⟨ad, h, _⟩ := hr.1.2 (by omega); exact ⟨ad, h⟩
      have HS1 := split_pos n
      have HS2 := split_lt h2
      have hr1 := hr.first (k := split n) (by omega)
      have hr2 := hr.last (k := split n) (cap := c) (by omega) hc
      rw [if_neg (by omega)] at hr2
      have HSP := fun W => Lib.hid (refSplit_any n h2 (by omega) W)
      have HL := fun W hW => Lib.hid (ih (some ad) c (split n) (ds.take (split n)) W (by omega) (hr1.on hW) (by omega) (by omega))
      have HR := fun W hW => Lib.hid (ih (some (ad.add (split n * 16))) (c - split n) (n - split n) (ds.drop (split n)) W (by omega) (hr2.on hW) (by omega) (by omega))
      have HE : Hid (root ds = mNode (root (ds.take (split n))) (root (ds.drop (split n)))) := by
        have e := root_more (l := ds) (by rw [HLN.out]; exact h2)
        rw [HLN.out] at e
        exact e
      have HL1 := Lib.hid (root_len (ds.take (split n)))
      have HL2 := Lib.hid (root_len (ds.drop (split n)))
      generalize root ds = D at *
      generalize root (ds.take (split n)) = D1 at *
      generalize root (ds.drop (split n)) = D2 at *
      generalize split n = k at *
      clear hr1 hr2 ih
      go_enter Tryd.func27, Tryd.ntmps27
      go_wp2_with (with_reducible refine wpList_alloc_row (o := ⟨some 2, _, _, _, _, _⟩) rfl _ rfl zeros16 zero_b16 ?_; intro w1 hrow1 hs1 hg1)
      refine (HSP _).out.mono ?_
      rintro e w2 ⟨rfl, rfl⟩
      have hb1 : Below w.heap.size w w2 := grown_below hg1 (Nat.le_refl _) (by simp)
      clear hg1 HSP
      go_wp2_with fail
      refine wp_region_plan (fun _ => True) (.take 0 <| .take 1 <| .take 2 <| .take 4 <| .take 5 <| .take 6 <| .one 3 <| .one 7 <| .one 8 <| .one 9 <| .done) (by kernel_rfl) (by kernel_rfl) (by kernel_rfl) (fun _ _ _ _ _ h => h) trivial ?_
      repeat (refine plan_take _ rfl ?_; go_big_quiet_step ((intros; rfl)); refine wpQuiet_nil ?_)
      refine plan_one _ rfl fun K hK => ?_
      go_simp
      refine (HL _ hb1.drew).out.mono ?_
      rintro e w3 ⟨rfl, hb3⟩
      have hb3' := hb1.drew.trans (hb3.mono hb1.size)
      refine hK _ _ trivial ?_
      clear hK K
      refine plan_one _ rfl fun K hK => ?_
      go_simp
      refine (HR _ hb3').out.mono ?_
      rintro e w4 ⟨rfl, hb4⟩
      have hb34 := hb3.trans (hb4.mono hb3.size)
      have hb4' := hb3'.trans (hb4.mono hb3'.size)
      refine hK _ _ trivial ?_
      clear hK K
      refine plan_one _ rfl fun K hK => ?_
      go_simp
      refine (refNode_any D1 D2 HL1.out HL2.out w4).mono ?_
      rintro e w5 ⟨rfl, hb5⟩
      rw [← HE.out]
      have hb25 := hb34.trans (hb5.mono hb34.size)
      have hb5' := hb4'.trans (hb5.mono hb4'.size)
      have hrow5 : Row w5 w.heap.size _ zeros16 := hrow1.drew.on hb25
      refine hK _ _ trivial ?_
      clear hK K
      refine plan_one _ rfl fun K hK => ?_
      refine step_store_all rfl _ _ _ rfl w.heap.size rfl _ _ hrow5 (bvs D) rfl (bvs_one _) (b16_zeros _ HRL.out) (b16_size _ HRL.out) fun wz hrowz hgz => ?_
      refine hK _ _ trivial ?_
      clear hK K
      refine plan_done ?_
      go_wp2_with fail
      have hload := run_loadVar_at (P := Tryd.prog) wz 23 ⟨w.heap.size, 0, none⟩ (bvs D) hrowz.cells _ Tryd.underlying23 rfl (b16_size _ HRL.out)
      exact bodyPost_ret (results_cell1 Tryd.results27 _ _ _ _ rfl hload) rfl ⟨rfl, below_kept hb5' hgz hb5'.size (by rintro k hk; cases hk; exact Nat.le_refl _)⟩
    · by_cases h1 : n = 1
      · subst h1
        obtain ⟨d, rfl⟩ := one_of (l := ds) (by rw [HLN.out]; omega) (by rw [HLN.out]; omega)
        exact refRoot_one A c d w hr
      · obtain rfl : n = 0 := by omega
        obtain rfl : ds = [] := List.eq_nil_of_length_eq_zero HLN.out
        exact refRoot_none A c w
end Go.Proofs.YtfmcgcdppbcfjaaDoor

/-
  What the reference's Prove returns: a contract by a walk, by induction on the number of leaves. Condition: at most 1000 leaves.
-/
namespace Go.Proofs.YtfmcgcdppbcfjaaDoor
open Go.RowKit

/-- A new slice of digests and an error come back; nothing that was there has changed. -/
def GivesDE (ds : List (List UInt8)) (err : Int) (w : World) (e : Ending) (w' : World) : Prop :=
  ∃ v, e = .returned (.tuple #[v, .int .i64 err]) ∧ w'.ownsRow w.heap.size 23 16 v ds.length (bvs ds.flatten) ∧ Below w.heap.size w w'
def mProof (l : List (List UInt8)) (i : Nat) : List (List UInt8) := (proveR l i).reverse
theorem mProof_len {l : List (List UInt8)} {i n : Nat} (h : l.length = n) (hn : n ≤ 1000) : (mProof l i).length ≤ 10 := by
  unfold mProof
  rw [List.length_reverse, proveR_len l.length l i (Nat.le_refl _), h]
  exact plen_le 10 n i (by omega)
theorem proveR_16 (m : Nat) : ∀ (l : List (List UInt8)) (i : Nat), l.length ≤ m → Len16 (proveR l i) := by
  induction m with
  | zero => intro l i h; rw [proveR_less (by omega)]; intro d hd; simp at hd
  | succ m ih =>
    intro l i hm
    by_cases h : 2 ≤ l.length
    · have h1 := split_pos l.length
      have h2 := split_lt h
      by_cases hi : i < split l.length
      · rw [proveR_left h hi]
        intro d hd
        rcases List.mem_cons.1 hd with rfl | hd
        · exact root_len _
        · exact ih _ i (by rw [take_len h]; omega) d hd
      · rw [proveR_right h hi]
        intro d hd
        rcases List.mem_cons.1 hd with rfl | hd
        · exact root_len _
        · exact ih _ (i - split l.length) (by rw [List.length_drop]; omega) d hd
    · rw [proveR_less h]; intro d hd; simp at hd
theorem mProof_16 (l : List (List UInt8)) (i : Nat) : Len16 (mProof l i) := fun d hd => proveR_16 l.length l i (Nat.le_refl _) d (List.mem_reverse.1 hd)

set_option maxRecDepth 100000 in
set_option maxHeartbeats 1000000 in
theorem refProve_bad (A : Option Addr) (c n : Nat) (i : Int) (w : World) (hi : i < 0 ∨ (n : Int) ≤ i) :
    Calls Tryd.prog 31 #[.slice A n c, .int .i64 i] w (GivesDE [] 1 w) := by
  by_cases h0 : i < 0
  · go_enter Tryd.func31, Tryd.ntmps31
    go_wp2_with fail
    go_ret2
    exact ⟨_, rfl, World.ownsRow_nil w _ _ _, Below.refl _ _⟩
  · have h1 : (n : Int) ≤ i := by omega
    go_enter Tryd.func31, Tryd.ntmps31
    go_wp2_with fail
    go_ret2
    exact ⟨_, rfl, World.ownsRow_nil w _ _ _, Below.refl _ _⟩

set_option maxRecDepth 100000 in
set_option maxHeartbeats 1000000 in
theorem refProve_any (m : Nat) : ∀ (A : Option Addr) (c n i : Nat) (ds : List (List UInt8)) (w : World), n ≤ m → ReadsD w A n ds → n ≤ c → n ≤ 1000 → i < n →
    Calls Tryd.prog 31 #[.slice A n c, .int .i64 (i : Int)] w (GivesDE (mProof ds i) 0 w) := by
  obtain ⟨i0, hi0, hz0, hz1, hz2⟩ := info_parts info_dig
  induction m with
  | zero => intro A c n i ds w hm hr hc hn hi; omega
  | succ m ih =>
    intro A c n i ds w hm hr hc hn hi
    have HLN := Lib.hid hr.len
    by_cases h2 : 2 ≤ n
    · obtain ⟨ad, rfl⟩ : ∃ ad, A = some ad := by obtain ⟨ad, h, _⟩ := hr.1.2 (by omega); exact ⟨ad, h⟩
      have HS1 := split_pos n
      have HS2 := split_lt h2
      have hr1 := hr.first (k := split n) (by omega)
      have hr2 := hr.last (k := split n) (cap := c) (by omega) hc
      rw [if_neg (by omega)] at hr2
      have HSP := fun W => Lib.hid (refSplit_any n h2 (by omega) W)
      by_cases hik : i < split n
      · have HP := fun W hW => Lib.hid (ih (some ad) c (split n) i (ds.take (split n)) W (by omega) (hr1.on hW) (by omega) (by omega) hik)
        have HR := fun W hW => Lib.hid (refRoot_any 1000 (some (ad.add (split n * 16))) (c - split n) (n - split n) (ds.drop (split n)) W (by omega) (hr2.on hW) (by omega) (by omega))
        have HE : Hid (mProof ds i = mProof (ds.take (split n)) i ++ [root (ds.drop (split n))]) := by
          have e := proveR_left (l := ds) (by rw [HLN.out]; exact h2) (i := i) (by rw [HLN.out]; exact hik)
          rw [HLN.out] at e
          show _ = _
          unfold mProof
          rw [e, List.reverse_cons]
        have HPL := Lib.hid (mProof_len (l := ds.take (split n)) (i := i) hr1.len (by omega))
        have HRL := Lib.hid (root_len (ds.drop (split n)))
        generalize mProof ds i = D at *
        generalize mProof (ds.take (split n)) i = D1 at *
        generalize root (ds.drop (split n)) = D2 at *
        have HBL : Hid ((bvs D2).length = 16) := by show _ = _; rw [bvs_length, HRL.out]
        generalize split n = k at *
        clear hr1 hr2 ih
        go_enter Tryd.func31, Tryd.ntmps31
        go_wp2_with fail
        refine (HSP _).out.mono ?_
        rintro e w2 ⟨rfl, rfl⟩
        clear HSP
        go_wp2_with fail
        refine (HP _ (Below.refl _ _)).out.mono ?_
        rintro e w3 ⟨v3, rfl, hown3, hb3⟩
        go_wp2_with fail
        refine (HR _ hb3).out.mono ?_
        rintro e w4 ⟨rfl, hb4⟩
        have hown4 := own_below hown3 hb4
        have hb4' := hb3.trans (hb4.mono hb3.size)
        have hl1 := HPL.out
        go_wp2_with (first
          | (refine wpList_valueW (o := ⟨some 41, _, _, _, _, _⟩) rfl _ (by exact exec_slice1 _ 30 23 _ rfl Tryd.underlying30 i0 _ hi0 hz0 (bvs D2) (by rw [hz1, HBL.out]) (by rw [HBL.out]; omega) (by rw [HBL.out]; omega) rfl) ?_)
          | (at_builtin
             refine wpList_append_src _ rfl (.tmp 36) (.tmp 41) _ _ rfl w2.heap.size 23 i0 _ 16 16 Tryd.underlying30 hi0 hz0 hz1 hz2 rfl _ _ _ rfl (own_below hown4 ((Below.refl _ _).alloc (Nat.le_refl _) _)) 1 (bvs D2) (Src.boxRow Tryd.underlying30 _ _ _ 16 HBL.out (bvs_one D2) _) (by unfold maxLen; omega) (by omega) (by have := hb4'.size; simp; omega) ?_
             intro v5 w5 hown5 hb5))
        go_ret2
        refine ⟨_, rfl, ?_, (hb4'.alloc hb4'.size _).trans hb5⟩
        rw [HE.out, List.length_append, List.flatten_append, bvs_append]
        simpa using hown5
      · have hik2 : split n ≤ i := by omega
        have HP := fun W hW => Lib.hid (ih (some (ad.add (split n * 16))) (c - split n) (n - split n) (i - split n) (ds.drop (split n)) W (by omega) (hr2.on hW) (by omega) (by omega) (by omega))
        simp only [show ((i - split n : Nat) : Int) = (i : Int) - (split n : Int) from by omega] at HP
        have HR := fun W hW => Lib.hid (refRoot_any 1000 (some ad) c (split n) (ds.take (split n)) W (by omega) (hr1.on hW) (by omega) (by omega))
        have HE : Hid (mProof ds i = mProof (ds.drop (split n)) (i - split n) ++ [root (ds.take (split n))]) := by
          have e := proveR_right (l := ds) (by rw [HLN.out]; exact h2) (i := i) (by rw [HLN.out]; exact hik)
          rw [HLN.out] at e
          show _ = _
          unfold mProof
          rw [e, List.reverse_cons]
        have HPL := Lib.hid (mProof_len (l := ds.drop (split n)) (i := i - split n) hr2.len (by omega))
        have HRL := Lib.hid (root_len (ds.take (split n)))
        generalize mProof ds i = D at *
        generalize mProof (ds.drop (split n)) (i - split n) = D1 at *
        generalize root (ds.take (split n)) = D2 at *
        have HBL : Hid ((bvs D2).length = 16) := by show _ = _; rw [bvs_length, HRL.out]
        generalize split n = k at *
        clear hr1 hr2 ih
        go_enter Tryd.func31, Tryd.ntmps31
        go_wp2_with fail
        refine (HSP _).out.mono ?_
        rintro e w2 ⟨rfl, rfl⟩
        clear HSP
        go_wp2_with fail
        refine (HP _ (Below.refl _ _)).out.mono ?_
        rintro e w3 ⟨v3, rfl, hown3, hb3⟩
        go_wp2_with fail
        refine (HR _ hb3).out.mono ?_
        rintro e w4 ⟨rfl, hb4⟩
        have hown4 := own_below hown3 hb4
        have hb4' := hb3.trans (hb4.mono hb3.size)
        have hl1 := HPL.out
        go_wp2_with (first
          | (refine wpList_valueW (o := ⟨some 58, _, _, _, _, _⟩) rfl _ (by exact exec_slice1 _ 30 23 _ rfl Tryd.underlying30 i0 _ hi0 hz0 (bvs D2) (by rw [hz1, HBL.out]) (by rw [HBL.out]; omega) (by rw [HBL.out]; omega) rfl) ?_)
          | (at_builtin
             refine wpList_append_src _ rfl (.tmp 53) (.tmp 58) _ _ rfl w2.heap.size 23 i0 _ 16 16 Tryd.underlying30 hi0 hz0 hz1 hz2 rfl _ _ _ rfl (own_below hown4 ((Below.refl _ _).alloc (Nat.le_refl _) _)) 1 (bvs D2) (Src.boxRow Tryd.underlying30 _ _ _ 16 HBL.out (bvs_one D2) _) (by unfold maxLen; omega) (by omega) (by have := hb4'.size; simp; omega) ?_
             intro v5 w5 hown5 hb5))
        go_ret2
        refine ⟨_, rfl, ?_, (hb4'.alloc hb4'.size _).trans hb5⟩
        rw [HE.out, List.length_append, List.flatten_append, bvs_append]
        simpa using hown5
    · obtain rfl : n = 1 := by omega
      have HE : Hid (mProof ds i = []) := by show _ = _; unfold mProof; rw [proveR_less (by rw [HLN.out]; omega)]; rfl
      rw [HE.out]
      obtain rfl : i = 0 := by omega
      go_enter Tryd.func31, Tryd.ntmps31
      go_wp2_with fail
      go_ret2
      exact ⟨_, rfl, World.ownsRow_nil w _ _ _, Below.refl _ _⟩
end Go.Proofs.YtfmcgcdppbcfjaaDoor

/-
  What the reference's combine and Verify return: contracts by walks, combine's by induction on the length of the proof. Conditions: bounded sizes; an index of the tree.
-/
namespace Go.Proofs.YtfmcgcdppbcfjaaDoor
open Go.RowKit

/-- What a proof (from the leaf up) yields. -/
def combL (leaf : List UInt8) (p : List (List UInt8)) (n i : Nat) : List UInt8 × Bool := comb leaf p.reverse n i
theorem combL_len (leaf : List UInt8) (p : List (List UInt8)) (n i : Nat) : (combL leaf p n i).1.length = 16 := comb_len _ _ _ _
theorem combL_one (leaf : List UInt8) (p : List (List UInt8)) (i : Nat) : combL leaf p 1 i = (mLeaf leaf, decide (p.length = 0)) := by
  unfold combL
  rcases p.eq_nil_or_concat with rfl | ⟨q, s, rfl⟩
  · simp [comb]
  · simp [comb]
theorem combL_nil (leaf : List UInt8) {n : Nat} (h : n ≠ 1) (i : Nat) : combL leaf [] n i = (zero16B, false) := by
  unfold combL
  rw [List.reverse_nil, comb, if_neg h]
theorem rev_snoc {α : Type} {p : List α} {q : Nat} {s : α} (hl : p.length = q + 1) (hs : p[q]? = some s) : p.reverse = s :: (p.take q).reverse := by
  have e : p = p.take q ++ [s] := by
    have := List.take_add_one (l := p) (i := q)
    rw [List.take_of_length_le (by omega), hs] at this
    simpa using this
  have : p.reverse = (p.take q ++ [s]).reverse := by rw [← e]
  rw [this, List.reverse_append]
  rfl
theorem combL_left (leaf : List UInt8) {p : List (List UInt8)} {n i q : Nat} {s : List UInt8} (h : n ≠ 1) (hl : p.length = q + 1) (hs : p[q]? = some s) (hi : i < split n) :
    combL leaf p n i = (mNode (combL leaf (p.take q) (split n) i).1 s, (combL leaf (p.take q) (split n) i).2) := by
  unfold combL
  rw [rev_snoc hl hs, comb, if_neg h, if_pos hi]
theorem combL_right (leaf : List UInt8) {p : List (List UInt8)} {n i q : Nat} {s : List UInt8} (h : n ≠ 1) (hl : p.length = q + 1) (hs : p[q]? = some s) (hi : ¬ i < split n) :
    combL leaf p n i = (mNode s (combL leaf (p.take q) (n - split n) (i - split n)).1, (combL leaf (p.take q) (n - split n) (i - split n)).2) := by
  unfold combL
  rw [rev_snoc hl hs, comb, if_neg h, if_neg hi]

/-- A digest and a bool come back; nothing that was there has changed. -/
def GivesDB (r : List UInt8 × Bool) (w : World) (e : Ending) (w' : World) : Prop :=
  e = .returned (.tuple #[.agg (bvs r.1).toArray, .bool r.2]) ∧ Below w.heap.size w w'
theorem results_cell2 {P : Program} {fn : Func} {p t : Tmp} {ty : TypeId} (h : fn.results = #[.cell p ty, .tmp t]) (tmps : Array Value) (w : World) (ad : Addr) (x : Value) (hp : tmps.getD p undef = .pointer (some ad))
    (hl : (loadVar ty ad).run P w = .ok x w) : (results fn tmps).run P w = .ok (.tuple #[x, tmps.getD t undef]) w := by
  have hp' : tmps[p]?.getD undef = .pointer (some ad) := by simpa using hp
  simp [results, h, hp', asAddr, hl]

theorem int_eq0 (q : Nat) : ((q : Int) == 0) = decide (q = 0) := by rw [Bool.eq_iff_iff]; simp
set_option maxRecDepth 100000 in
set_option maxHeartbeats 1000000 in
theorem combine_one (A : Option Addr) (c q i : Nat) (leaf : List UInt8) (p : List (List UInt8)) (w : World) (hl : leaf.length = 16) (hr : ReadsD w A q p) :
    Calls Tryd.prog 63 #[.int .i64 1, .int .i64 (i : Int), .agg (bvs leaf).toArray, .slice A q c] w (GivesDB (combL leaf p 1 i) w) := by
  rw [combL_one, hr.len]
  have HL := Lib.hid hl
  have HRL := Lib.hid (mLeaf_len leaf)
  have HLF := fun W => Lib.hid (refLeaf_any leaf hl W)
  clear hl
  generalize mLeaf leaf = D at *
  go_enter Tryd.func63, Tryd.ntmps63
  go_wp2_with (first
    | (with_reducible refine wpList_box_row (o := ⟨some 6, _, _, _, _, _⟩) rfl _ _ rfl (bvs leaf) rfl ?_; intro w1 hrow1 hs1 hg1)
    | (with_reducible refine wpList_alloc_row (o := ⟨some 8, _, _, _, _, _⟩) rfl _ rfl zeros16 zero_b16 ?_; intro w2 hrow2 hs2 hg2; have hrow1' := hrow1.kept hg2 (by simp))
    | (with_reducible refine wpList_load_all (o := ⟨some 18, _, _, _, _, _⟩) rfl _ _ rfl w.heap.size rfl _ _ hrow1' _ Tryd.underlying23 rfl (b16_size _ HL.out) ?_))
  refine (HLF _).out.mono ?_
  rintro e w3 ⟨rfl, hb3⟩
  have hb2 : Below w.heap.size w w2 := below_kept (grown_below hg1 (Nat.le_refl _) (by simp)) hg2 (by omega) (by simp)
  have hrow3 := hrow2.on hb3
  have hb3' := hb2.trans (hb3.mono hb2.size)
  clear hg1 hg2
  go_wp2_with (with_reducible refine wpList_store_all (o := ⟨none, _, _, _, _, _⟩) rfl _ _ _ rfl w1.heap.size rfl _ _ hrow3 (bvs D) rfl (bvs_one _) (b16_zeros _ HRL.out) (b16_size _ HRL.out) ?_; intro wz hrowz hgz)
  have hload := run_loadVar_at (P := Tryd.prog) wz 23 ⟨w1.heap.size, 0, none⟩ (bvs D) hrowz.cells _ Tryd.underlying23 rfl (b16_size _ HRL.out)
  refine bodyPost_ret (results_cell2 Tryd.results63 _ _ _ _ rfl hload) rfl ⟨?_, below_kept hb3' hgz hb3'.size (by rintro k hk; cases hk; omega)⟩
  simp [int_eq0]
set_option maxRecDepth 100000 in
set_option maxHeartbeats 1000000 in
theorem combine_nil (A : Option Addr) (c n i : Nat) (leaf : List UInt8) (w : World) (hl : leaf.length = 16) (hn : 2 ≤ n) (hn2 : n ≤ 1000000000) :
    Calls Tryd.prog 63 #[.int .i64 (n : Int), .int .i64 (i : Int), .agg (bvs leaf).toArray, .slice A 0 c] w (GivesDB (combL leaf [] n i) w) := by
  rw [combL_nil leaf (by omega)]
  have HL := Lib.hid hl
  have HRL : Hid (zero16B.length = 16) := rfl
  clear hl
  go_enter Tryd.func63, Tryd.ntmps63
  go_wp2_with (first
    | (with_reducible refine wpList_box_row (o := ⟨some 6, _, _, _, _, _⟩) rfl _ _ rfl (bvs leaf) rfl ?_; intro w1 hrow1 hs1 hg1)
    | (with_reducible refine wpList_alloc_row (o := ⟨some 8, _, _, _, _, _⟩) rfl _ rfl zeros16 zero_b16 ?_; intro w2 hrow2 hs2 hg2)
    | (refine wpList_store_all (o := ⟨none, _, _, _, _, _⟩) rfl _ _ _ rfl w1.heap.size rfl _ _ hrow2 (bvs zero16B) rfl (bvs_one _) (b16_zeros _ HRL.out) (b16_size _ HRL.out) ?_; intro wz hrowz hgz))
  have hb2 : Below w.heap.size w w2 := below_kept (grown_below hg1 (Nat.le_refl _) (by simp)) hg2 (by omega) (by simp)
  have hload := run_loadVar_at (P := Tryd.prog) wz 23 ⟨w1.heap.size, 0, none⟩ (bvs zero16B) hrowz.cells _ Tryd.underlying23 rfl (b16_size _ HRL.out)
  exact bodyPost_ret (results_cell2 Tryd.results63 _ _ _ _ rfl hload) rfl ⟨rfl, below_kept hb2 hgz hb2.size (by rintro k hk; cases hk; omega)⟩

set_option maxRecDepth 100000 in
set_option maxHeartbeats 2000000 in
theorem combine_any (m : Nat) : ∀ (A : Option Addr) (c q n i : Nat) (leaf : List UInt8) (p : List (List UInt8)) (w : World), q ≤ m → leaf.length = 16 → ReadsD w A q p → q ≤ c → q ≤ 1000 → 1 ≤ n → n ≤ 1000000000 → i < n →
    Calls Tryd.prog 63 #[.int .i64 (n : Int), .int .i64 (i : Int), .agg (bvs leaf).toArray, .slice A q c] w (GivesDB (combL leaf p n i) w) := by
  induction m with
  | zero =>
    intro A c q n i leaf p w hm hl hr hc hq hn1 hn hi
    by_cases h1 : n = 1
    · subst h1; exact combine_one A c q i leaf p w hl hr
    · obtain rfl : q = 0 := by omega
      obtain rfl : p = [] := List.eq_nil_of_length_eq_zero hr.len
      exact combine_nil A c n i leaf w hl (by omega) hn
  | succ m ih =>
    intro A c q n i leaf p w hm hl hr hc hq hn1 hn hi
    by_cases h1 : n = 1
    · subst h1; exact combine_one A c q i leaf p w hl hr
    by_cases h0 : q = 0
    · subst h0
      obtain rfl : p = [] := List.eq_nil_of_length_eq_zero hr.len
      exact combine_nil A c n i leaf w hl (by omega) hn
    obtain ⟨q, rfl⟩ : ∃ r, q = r + 1 := ⟨q - 1, by omega⟩
    obtain ⟨ad, s, rfl, hab, hs, hs16, hcl⟩ := hr.1.dig_at hr.2 (k := q) (by omega)
    have h2 : 2 ≤ n := by omega
    have HS1 := split_pos n
    have HS2 := split_lt h2
    have HLN := Lib.hid hr.len
    have hr1 := hr.first (k := q) (by omega)
    have HSP := fun W => Lib.hid (refSplit_any n h2 hn W)
    have HC := Lib.hid hcl
    have HS := Lib.hid hs16
    have HL := Lib.hid hl
    by_cases hik : i < split n
    · have HP := fun W hW => Lib.hid (ih (some ad) c q (split n) i leaf (p.take q) W (by omega) hl (hr1.on hW) (by omega) (by omega) (by omega) (by omega) hik)
      have HE := Lib.hid (combL_left leaf (n := n) (i := i) (by omega) hr.len hs hik)
      have HRL := Lib.hid (combL_len leaf (p.take q) (split n) i)
      have HNL := Lib.hid (combL_len leaf p n i)
      generalize combL leaf p n i = R at *
      generalize combL leaf (p.take q) (split n) i = R1 at *
      obtain ⟨D1, ok⟩ := R1
      obtain ⟨D, okR⟩ := R
      have hD : D = mNode D1 s := congrArg Prod.fst HE.out
      have hok : okR = ok := congrArg Prod.snd HE.out
      subst hok
      have HD := Lib.hid hD
      clear hD HE
      generalize split n = k at *
      clear hr1 ih hcl hs16 hl hs
      go_enter Tryd.func63, Tryd.ntmps63
      go_wp2_with (first
        | (with_reducible refine wpList_box_row (o := ⟨some 6, _, _, _, _, _⟩) rfl _ _ rfl (bvs leaf) rfl ?_; intro w1 hrow1 hs1 hg1)
        | (with_reducible refine wpList_alloc_row (o := ⟨some 8, _, _, _, _, _⟩) rfl _ rfl zeros16 zero_b16 ?_; intro w2 hrow2 hs2 hg2; have hrow1' := hrow1.kept hg2 (by simp)))
      have hb2 : Below w.heap.size w w2 := below_kept (grown_below hg1 (Nat.le_refl _) (by simp)) hg2 (by omega) (by simp)
      clear hg1 hg2 hrow1
      refine (HSP _).out.mono ?_
      rintro e w3 ⟨rfl, rfl⟩
      clear HSP
      go_wp2_with fail
      go_cut [12, 13] (fun s1 s2 wc => ∃ g, s1 = .pointer (some ⟨g, 0, none⟩) ∧ s2 = .bool okR ∧ w1.heap.size < g ∧ Row wc g 23 (bvs D1) ∧ Row wc w1.heap.size 23 zeros16 ∧ Below w.heap.size w wc)
      case first =>
        refine wp_region_plan (fun w' => Row w' w.heap.size 23 (bvs leaf)) (.take 0 <| .take 1 <| .take 2 <| .take 3 <| .take 4 <| .take 5 <| .two 6 (.take 7 <| .take 8 <| .take 9 <| .one 10 <| .one 11 <| .take 12 <| .done) 10 (.one 6 <| .take 7 <| .take 8 <| .take 9 <| .one 11 <| .take 12 <| .done)) (by kernel_rfl) (by kernel_rfl) (by kernel_rfl) (fun _ _ _ _ _ h => h) hrow1'.drew ?_
        repeat (refine plan_take _ rfl ?_; (first
          | (refine wpQuiet_load_all (o := ⟨some 38, _, _, _, _, _⟩) rfl _ _ rfl w.heap.size rfl _ _ (fun _ h => h) _ Tryd.underlying23 rfl (b16_size _ HL.out) (wpQuiet_nil ?_); simp only [Act.put, List.setIfInBounds_toArray, List.set_cons_zero, List.set_cons_succ])
          | (go_big_quiet_step ((intros; rfl)); refine wpQuiet_nil ?_)))
        have hlt3 := hrow2.lt
        refine plan_two ?_ ?_
        · refine step_at _ rfl fun K hK => ?_
          go_simp
          refine (HP _ hb2.drew).out.mono ?_
          rintro e w4 ⟨rfl, hb4⟩
          have hb4' := hb2.drew.trans (hb4.mono hb2.size)
          have hrow4 := hrow2.drew.on hb4
          have hlt4 := hrow4.lt
          refine hK _ _ (hrow1'.drew.on hb4) ?_
          clear hK K
          repeat (refine plan_take _ rfl ?_; go_big_quiet_step ((intros; rfl)); refine wpQuiet_nil ?_)
          refine plan_one _ rfl fun K hK => step_alloc rfl _ rfl zeros16 zero_b16 ?_
          intro w5 hrow5 hs5 hg5
          have hrl5 := (hrow1'.drew.on hb4).kept hg5 (by simp)
          refine hK _ _ hrl5 ?_
          clear hK K
          simp only [Act.put, List.setIfInBounds_toArray, List.set_cons_zero, List.set_cons_succ]
          refine plan_one _ rfl fun K hK => step_store_all rfl _ _ _ rfl w4.heap.size rfl _ _ hrow5 (bvs D1) rfl (bvs_one _) (b16_zeros _ HRL.out) (b16_size _ HRL.out) ?_
          intro wz rz gz
          refine hK _ _ (hrl5.kept gz (by simp; omega)) ?_
          clear hK K
          simp only [Act.put]
          repeat (refine plan_take _ rfl ?_; go_big_quiet_step ((intros; rfl)); refine wpQuiet_nil ?_)
          refine plan_done ?_
          go_wp2_with fail
          go_meet
          exact ⟨w4.heap.size, rfl, rfl, hlt4, rz, (hrow4.kept hg5 (by simp)).kept gz (by simp; omega), below_kept (below_kept hb4' hg5 hb4'.size (by simp)) gz (by have := hb4'.size; omega) (by rintro k hk; cases hk; exact hb4'.size)⟩
        · refine step_at _ rfl fun K hK => step_alloc rfl _ rfl zeros16 zero_b16 ?_
          intro w5 hrow5 hs5 hg5
          have hrl5 := hrow1'.drew.kept hg5 (by simp)
          have hrow6 := hrow2.drew.kept hg5 (by simp)
          have hb5 := below_kept hb2.drew hg5 hb2.size (by simp)
          refine hK _ _ hrl5 ?_
          clear hK K
          simp only [Act.put, List.setIfInBounds_toArray, List.set_cons_zero, List.set_cons_succ]
          refine plan_one _ rfl fun K hK => ?_
          go_simp
          refine (HP _ hb5).out.mono ?_
          rintro e w6 ⟨rfl, hb6⟩
          have hb6' := hb5.trans (hb6.mono hb5.size)
          refine hK _ _ (hrl5.on hb6) ?_
          clear hK K
          repeat (refine plan_take _ rfl ?_; go_big_quiet_step ((intros; rfl)); refine wpQuiet_nil ?_)
          refine plan_one _ rfl fun K hK => step_store_all rfl _ _ _ rfl w3.drew.heap.size rfl _ _ (hrow5.on hb6) (bvs D1) rfl (bvs_one _) (b16_zeros _ HRL.out) (b16_size _ HRL.out) ?_
          intro wz rz gz
          refine hK _ _ ((hrl5.on hb6).kept gz (by simp; omega)) ?_
          clear hK K
          simp only [Act.put]
          repeat (refine plan_take _ rfl ?_; go_big_quiet_step ((intros; rfl)); refine wpQuiet_nil ?_)
          refine plan_done ?_
          go_wp2_with fail
          go_meet
          exact ⟨_, rfl, rfl, hlt3, rz, (hrow6.on hb6).kept gz (by simp; omega), below_kept hb6' gz hb6'.size (by rintro k hk; cases hk; exact hb2.size)⟩
      case rest =>
        obtain ⟨g, rfl, rfl, hg, hrowg, hrowr, hbc⟩ := hcut
        have hsc : ∀ j u, (bvs s)[j]? = some u → wc.cell? ((ad.add (q * 16)).add j) = some u := fun j u hu => by
          rw [add_of_add]
          exact (hbc.cell (by rw [block_of_add]; exact hab)).trans (HC.out j u hu)
        have HSC := Lib.hid hsc
        clear hsc hrow2 hrow1' hb2 HP
        go_wp2_with fail

        refine wp_region_plan (fun w' => Row w' g 23 (bvs D1) ∧ ∀ j u, (bvs s)[j]? = some u → w'.cell? ((ad.add (q * 16)).add j) = some u) (.take 0 <| .take 1 <| .take 2 <| .take 3 <| .take 4 <| .take 6 <| .one 5 <| .one 7 <| .take 8 <| .done) (by kernel_rfl) (by kernel_rfl) (by kernel_rfl) (fun _ _ _ _ _ h => h) ⟨hrowg.drew, fun j u hu => HSC.out j u hu⟩ ?_
        repeat (refine plan_take _ rfl ?_; (first
          | (refine wpQuiet_load_all (o := ⟨some 45, _, _, _, _, _⟩) rfl _ _ rfl g rfl _ _ (fun _ h => h.1) _ Tryd.underlying23 rfl (b16_size _ HRL.out) (wpQuiet_nil ?_); simp only [Act.put, List.setIfInBounds_toArray, List.set_cons_zero, List.set_cons_succ])
          | (refine wpQuiet_valueK (o := ⟨some 49, _, _, _, _, _⟩) rfl _ (by intro _ h; exact exec_load _ _ _ rfl _ rfl (bvs s) h.2 _ Tryd.underlying23 rfl (b16_size _ HS.out)) (fun K hK => ?_); go_simp; refine hK _ ?_; clear hK K; refine wpQuiet_nil ?_)
          | (go_big_quiet_step ((intros; rfl)); refine wpQuiet_nil ?_)))
        refine plan_one _ rfl fun K hK => ?_
        go_simp
        refine (refNode_any D1 s HRL.out HS.out _).mono ?_
        rintro e w7 ⟨rfl, hb7⟩
        rw [← HD.out]
        have hb7' := hbc.drew.trans (hb7.mono hbc.size)
        have hrowr7 := hrowr.drew.on hb7
        have hlt7 := hrowr7.lt
        refine hK _ _ ⟨hrowg.drew.on hb7, fun j u hu => (hb7.cell (Nat.lt_of_lt_of_le (by rw [block_of_add, block_of_add]; exact hab) hbc.size)).trans (HSC.out j u hu)⟩ ?_
        clear hK K
        refine plan_one _ rfl fun K hK => step_store_all rfl _ _ _ rfl w1.heap.size rfl _ _ hrowr7 (bvs D) rfl (bvs_one _) (b16_zeros _ HNL.out) (b16_size _ HNL.out) ?_
        intro wz rz gz
        have hbz := below_kept hb7' gz hb7'.size (by rintro k hk; cases hk; omega)
        refine hK _ _ ⟨(hrowg.drew.on hb7).kept gz (by simp; omega), fun j u hu => (hbz.cell (by rw [block_of_add, block_of_add]; exact hab)).trans ((hbc.cell (by rw [block_of_add, block_of_add]; exact hab)).symm.trans (HSC.out j u hu))⟩ ?_
        clear hK K
        simp only [Act.put]
        repeat (refine plan_take _ rfl ?_; go_big_quiet_step ((intros; rfl)); refine wpQuiet_nil ?_)
        refine plan_done ?_
        go_wp2_with fail
        have hload := run_loadVar_at (P := Tryd.prog) wz 23 ⟨w1.heap.size, 0, none⟩ (bvs D) rz.cells _ Tryd.underlying23 rfl (b16_size _ HNL.out)
        exact bodyPost_ret (results_cell2 Tryd.results63 _ _ _ _ rfl hload) rfl ⟨rfl, hbz⟩
    · have HP := fun W hW => Lib.hid (ih (some ad) c q (n - split n) (i - split n) leaf (p.take q) W (by omega) hl (hr1.on hW) (by omega) (by omega) (by omega) (by omega) (by omega))
      simp only [show ((i - split n : Nat) : Int) = (i : Int) - (split n : Int) from by omega, show ((n - split n : Nat) : Int) = (n : Int) - (split n : Int) from by omega] at HP
      have hik2 : split n ≤ i := by omega
      have HE := Lib.hid (combL_right leaf (n := n) (i := i) (by omega) hr.len hs hik)
      have HRL := Lib.hid (combL_len leaf (p.take q) (n - split n) (i - split n))
      have HNL := Lib.hid (combL_len leaf p n i)
      generalize combL leaf p n i = R at *
      generalize combL leaf (p.take q) (n - split n) (i - split n) = R1 at *
      obtain ⟨D1, ok⟩ := R1
      obtain ⟨D, okR⟩ := R
      have hD : D = mNode s D1 := congrArg Prod.fst HE.out
      have hok : okR = ok := congrArg Prod.snd HE.out
      subst hok
      have HD := Lib.hid hD
      clear hD HE
      generalize split n = k at *
      clear hr1 ih hcl hs16 hl hs
      go_enter Tryd.func63, Tryd.ntmps63
      go_wp2_with (first
        | (with_reducible refine wpList_box_row (o := ⟨some 6, _, _, _, _, _⟩) rfl _ _ rfl (bvs leaf) rfl ?_; intro w1 hrow1 hs1 hg1)
        | (with_reducible refine wpList_alloc_row (o := ⟨some 8, _, _, _, _, _⟩) rfl _ rfl zeros16 zero_b16 ?_; intro w2 hrow2 hs2 hg2; have hrow1' := hrow1.kept hg2 (by simp)))
      have hb2 : Below w.heap.size w w2 := below_kept (grown_below hg1 (Nat.le_refl _) (by simp)) hg2 (by omega) (by simp)
      clear hg1 hg2 hrow1
      refine (HSP _).out.mono ?_
      rintro e w3 ⟨rfl, rfl⟩
      clear HSP
      go_wp2_with fail
      go_cut [14, 15] (fun s1 s2 wc => ∃ g, s1 = .pointer (some ⟨g, 0, none⟩) ∧ s2 = .bool okR ∧ w1.heap.size < g ∧ Row wc g 23 (bvs D1) ∧ Row wc w1.heap.size 23 zeros16 ∧ Below w.heap.size w wc)
      case first =>
        refine wp_region_plan (fun w' => Row w' w.heap.size 23 (bvs leaf)) (.take 0 <| .take 1 <| .take 2 <| .take 3 <| .take 4 <| .take 5 <| .take 6 <| .take 7 <| .take 8 <| .take 9 <| .two 10 (.take 11 <| .take 12 <| .take 13 <| .one 14 <| .one 15 <| .take 16 <| .done) 14 (.one 10 <| .take 11 <| .take 12 <| .take 13 <| .one 15 <| .take 16 <| .done)) (by kernel_rfl) (by kernel_rfl) (by kernel_rfl) (fun _ _ _ _ _ h => h) hrow1'.drew ?_
        repeat (refine plan_take _ rfl ?_; (first
          | (refine wpQuiet_load_all (o := ⟨some 59, _, _, _, _, _⟩) rfl _ _ rfl w.heap.size rfl _ _ (fun _ h => h) _ Tryd.underlying23 rfl (b16_size _ HL.out) (wpQuiet_nil ?_); simp only [Act.put, List.setIfInBounds_toArray, List.set_cons_zero, List.set_cons_succ])
          | (go_big_quiet_step ((intros; rfl)); refine wpQuiet_nil ?_)))
        have hlt3 := hrow2.lt
        refine plan_two ?_ ?_
        · refine step_at _ rfl fun K hK => ?_
          go_simp
          refine (HP _ hb2.drew).out.mono ?_
          rintro e w4 ⟨rfl, hb4⟩
          have hb4' := hb2.drew.trans (hb4.mono hb2.size)
          have hrow4 := hrow2.drew.on hb4
          have hlt4 := hrow4.lt
          refine hK _ _ (hrow1'.drew.on hb4) ?_
          clear hK K
          repeat (refine plan_take _ rfl ?_; go_big_quiet_step ((intros; rfl)); refine wpQuiet_nil ?_)
          refine plan_one _ rfl fun K hK => step_alloc rfl _ rfl zeros16 zero_b16 ?_
          intro w5 hrow5 hs5 hg5
          have hrl5 := (hrow1'.drew.on hb4).kept hg5 (by simp)
          refine hK _ _ hrl5 ?_
          clear hK K
          simp only [Act.put, List.setIfInBounds_toArray, List.set_cons_zero, List.set_cons_succ]
          refine plan_one _ rfl fun K hK => step_store_all rfl _ _ _ rfl w4.heap.size rfl _ _ hrow5 (bvs D1) rfl (bvs_one _) (b16_zeros _ HRL.out) (b16_size _ HRL.out) ?_
          intro wz rz gz
          refine hK _ _ (hrl5.kept gz (by simp; omega)) ?_
          clear hK K
          simp only [Act.put]
          repeat (refine plan_take _ rfl ?_; go_big_quiet_step ((intros; rfl)); refine wpQuiet_nil ?_)
          refine plan_done ?_
          go_wp2_with fail
          go_meet
          exact ⟨w4.heap.size, rfl, rfl, hlt4, rz, (hrow4.kept hg5 (by simp)).kept gz (by simp; omega), below_kept (below_kept hb4' hg5 hb4'.size (by simp)) gz (by have := hb4'.size; omega) (by rintro k hk; cases hk; exact hb4'.size)⟩
        · refine step_at _ rfl fun K hK => step_alloc rfl _ rfl zeros16 zero_b16 ?_
          intro w5 hrow5 hs5 hg5
          have hrl5 := hrow1'.drew.kept hg5 (by simp)
          have hrow6 := hrow2.drew.kept hg5 (by simp)
          have hb5 := below_kept hb2.drew hg5 hb2.size (by simp)
          refine hK _ _ hrl5 ?_
          clear hK K
          simp only [Act.put, List.setIfInBounds_toArray, List.set_cons_zero, List.set_cons_succ]
          refine plan_one _ rfl fun K hK => ?_
          go_simp
          refine (HP _ hb5).out.mono ?_
          rintro e w6 ⟨rfl, hb6⟩
          have hb6' := hb5.trans (hb6.mono hb5.size)
          refine hK _ _ (hrl5.on hb6) ?_
          clear hK K
          repeat (refine plan_take _ rfl ?_; go_big_quiet_step ((intros; rfl)); refine wpQuiet_nil ?_)
          refine plan_one _ rfl fun K hK => step_store_all rfl _ _ _ rfl w3.drew.heap.size rfl _ _ (hrow5.on hb6) (bvs D1) rfl (bvs_one _) (b16_zeros _ HRL.out) (b16_size _ HRL.out) ?_
          intro wz rz gz
          refine hK _ _ ((hrl5.on hb6).kept gz (by simp; omega)) ?_
          clear hK K
          simp only [Act.put]
          repeat (refine plan_take _ rfl ?_; go_big_quiet_step ((intros; rfl)); refine wpQuiet_nil ?_)
          refine plan_done ?_
          go_wp2_with fail
          go_meet
          exact ⟨_, rfl, rfl, hlt3, rz, (hrow6.on hb6).kept gz (by simp; omega), below_kept hb6' gz hb6'.size (by rintro k hk; cases hk; exact hb2.size)⟩
      case rest =>
        obtain ⟨g, rfl, rfl, hg, hrowg, hrowr, hbc⟩ := hcut
        have hsc : ∀ j u, (bvs s)[j]? = some u → wc.cell? ((ad.add (q * 16)).add j) = some u := fun j u hu => by
          rw [add_of_add]
          exact (hbc.cell (by rw [block_of_add]; exact hab)).trans (HC.out j u hu)
        have HSC := Lib.hid hsc
        clear hsc hrow2 hrow1' hb2 HP
        go_wp2_with fail

        refine wp_region_plan (fun w' => Row w' g 23 (bvs D1) ∧ ∀ j u, (bvs s)[j]? = some u → w'.cell? ((ad.add (q * 16)).add j) = some u) (.take 0 <| .take 1 <| .take 2 <| .take 3 <| .take 4 <| .take 6 <| .one 5 <| .one 7 <| .take 8 <| .done) (by kernel_rfl) (by kernel_rfl) (by kernel_rfl) (fun _ _ _ _ _ h => h) ⟨hrowg.drew, fun j u hu => HSC.out j u hu⟩ ?_
        repeat (refine plan_take _ rfl ?_; (first
          | (refine wpQuiet_load_all (o := ⟨some 70, _, _, _, _, _⟩) rfl _ _ rfl g rfl _ _ (fun _ h => h.1) _ Tryd.underlying23 rfl (b16_size _ HRL.out) (wpQuiet_nil ?_); simp only [Act.put, List.setIfInBounds_toArray, List.set_cons_zero, List.set_cons_succ])
          | (refine wpQuiet_valueK (o := ⟨some 69, _, _, _, _, _⟩) rfl _ (by intro _ h; exact exec_load _ _ _ rfl _ rfl (bvs s) h.2 _ Tryd.underlying23 rfl (b16_size _ HS.out)) (fun K hK => ?_); go_simp; refine hK _ ?_; clear hK K; refine wpQuiet_nil ?_)
          | (go_big_quiet_step ((intros; rfl)); refine wpQuiet_nil ?_)))
        refine plan_one _ rfl fun K hK => ?_
        go_simp
        refine (refNode_any s D1 HS.out HRL.out _).mono ?_
        rintro e w7 ⟨rfl, hb7⟩
        rw [← HD.out]
        have hb7' := hbc.drew.trans (hb7.mono hbc.size)
        have hrowr7 := hrowr.drew.on hb7
        have hlt7 := hrowr7.lt
        refine hK _ _ ⟨hrowg.drew.on hb7, fun j u hu => (hb7.cell (Nat.lt_of_lt_of_le (by rw [block_of_add, block_of_add]; exact hab) hbc.size)).trans (HSC.out j u hu)⟩ ?_
        clear hK K
        refine plan_one _ rfl fun K hK => step_store_all rfl _ _ _ rfl w1.heap.size rfl _ _ hrowr7 (bvs D) rfl (bvs_one _) (b16_zeros _ HNL.out) (b16_size _ HNL.out) ?_
        intro wz rz gz
        have hbz := below_kept hb7' gz hb7'.size (by rintro k hk; cases hk; omega)
        refine hK _ _ ⟨(hrowg.drew.on hb7).kept gz (by simp; omega), fun j u hu => (hbz.cell (by rw [block_of_add, block_of_add]; exact hab)).trans ((hbc.cell (by rw [block_of_add, block_of_add]; exact hab)).symm.trans (HSC.out j u hu))⟩ ?_
        clear hK K
        simp only [Act.put]
        repeat (refine plan_take _ rfl ?_; go_big_quiet_step ((intros; rfl)); refine wpQuiet_nil ?_)
        refine plan_done ?_
        go_wp2_with fail
        have hload := run_loadVar_at (P := Tryd.prog) wz 23 ⟨w1.heap.size, 0, none⟩ (bvs D) rz.cells _ Tryd.underlying23 rfl (b16_size _ HNL.out)
        exact bodyPost_ret (results_cell2 Tryd.results63 _ _ _ _ rfl hload) rfl ⟨rfl, hbz⟩
end Go.Proofs.YtfmcgcdppbcfjaaDoor

/-
  What the reference's Verify returns: a contract by a walk. Conditions: bounded sizes.
-/
namespace Go.Proofs.YtfmcgcdppbcfjaaDoor
open Go.RowKit

/-- Whether a proof (from the leaf up) yields the root. -/
def mVerify (rt leaf : List UInt8) (p : List (List UInt8)) (n i : Nat) : Bool := (combL leaf p n i).2 && (combL leaf p n i).1 == rt

set_option maxRecDepth 100000 in
set_option maxHeartbeats 1000000 in
theorem refVerify_bad (A : Option Addr) (c q n : Nat) (i : Int) (rt leaf : List UInt8) (w : World) (hi : i < 0 ∨ (n : Int) ≤ i) :
    Calls Tryd.prog 37 #[.agg (bvs rt).toArray, .int .i64 (n : Int), .int .i64 i, .agg (bvs leaf).toArray, .slice A q c] w (TellsB false w) := by
  by_cases h0 : i < 0
  · go_enter Tryd.func37, Tryd.ntmps37
    go_wp2_with (first
      | (with_reducible refine wpList_box_row (o := ⟨some 5, _, _, _, _, _⟩) rfl _ _ rfl (bvs rt) rfl ?_; intro w1 hrow1 hs1 hg1)
      | (with_reducible refine wpList_box_row (o := ⟨some 8, _, _, _, _, _⟩) rfl _ _ rfl (bvs leaf) rfl ?_; intro w2 hrow2 hs2 hg2))
    go_ret
    exact ⟨rfl, below_kept (grown_below hg1 (Nat.le_refl _) (by simp)) hg2 (by omega) (by simp)⟩
  · have h1 : (n : Int) ≤ i := by omega
    go_enter Tryd.func37, Tryd.ntmps37
    go_wp2_with (first
      | (with_reducible refine wpList_box_row (o := ⟨some 5, _, _, _, _, _⟩) rfl _ _ rfl (bvs rt) rfl ?_; intro w1 hrow1 hs1 hg1)
      | (with_reducible refine wpList_box_row (o := ⟨some 8, _, _, _, _, _⟩) rfl _ _ rfl (bvs leaf) rfl ?_; intro w2 hrow2 hs2 hg2))
    go_ret
    exact ⟨rfl, below_kept (grown_below hg1 (Nat.le_refl _) (by simp)) hg2 (by omega) (by simp)⟩

set_option maxRecDepth 100000 in
set_option maxHeartbeats 1000000 in
theorem refVerify_any (A : Option Addr) (c q n i : Nat) (rt leaf : List UInt8) (p : List (List UInt8)) (w : World) (ht : rt.length = 16) (hl : leaf.length = 16) (hr : ReadsD w A q p) (hc : q ≤ c) (hq : q ≤ 1000) (hn : n ≤ 1000000000) (hi : i < n) :
    Calls Tryd.prog 37 #[.agg (bvs rt).toArray, .int .i64 (n : Int), .int .i64 (i : Int), .agg (bvs leaf).toArray, .slice A q c] w (TellsB (mVerify rt leaf p n i) w) := by
  have HT := Lib.hid ht
  have HL := Lib.hid hl
  have HRL := Lib.hid (combL_len leaf p n i)
  have HC := fun W hW => Lib.hid (combine_any 1000 A c q n i leaf p W hq hl (hr.on hW) hc hq (by omega) hn hi)
  unfold mVerify
  generalize combL leaf p n i = R at *
  obtain ⟨D, ok⟩ := R
  clear ht hl
  have hik : ¬ n ≤ i := by omega
  go_enter Tryd.func37, Tryd.ntmps37
  go_wp2_with (first
    | (with_reducible refine wpList_box_row (o := ⟨some 5, _, _, _, _, _⟩) rfl _ _ rfl (bvs rt) rfl ?_; intro w1 hrow1 hs1 hg1)
    | (with_reducible refine wpList_box_row (o := ⟨some 8, _, _, _, _, _⟩) rfl _ _ rfl (bvs leaf) rfl ?_; intro w2 hrow2 hs2 hg2; have hb2 : Below w.heap.size w w2 := below_kept (grown_below hg1 (Nat.le_refl _) (by simp)) hg2 (by omega) (by simp))
    | (with_reducible refine wpList_load_all (o := ⟨some 23, _, _, _, _, _⟩) rfl _ _ rfl w1.heap.size rfl _ _ hrow2 _ Tryd.underlying23 rfl (b16_size _ HL.out) ?_))
  have hrow1' := hrow1.kept hg2 (by simp)
  clear hg1 hg2
  refine (HC _ hb2).out.mono ?_
  rintro e w3 ⟨rfl, hb3⟩
  have hrow3 := hrow1'.on hb3
  have hb3' := hb2.trans (hb3.mono hb2.size)
  have hlt3 := hrow3.lt
  cases ok with
  | false =>
    go_wp2_with (first
      | (with_reducible refine wpList_alloc_row (o := ⟨some 11, _, _, _, _, _⟩) rfl _ rfl zeros16 zero_b16 ?_; intro w4 hrow4 hs4 hg4)
      | (with_reducible refine wpList_store_all (o := ⟨none, _, _, _, _, _⟩) rfl _ _ _ rfl w3.heap.size rfl _ _ hrow4 (bvs D) rfl (bvs_one _) (b16_zeros _ HRL.out) (b16_size _ HRL.out) ?_; intro w5 hrow5 hg5))
    have hb5 := below_kept (below_kept hb3' hg4 hb3'.size (by simp)) hg5 (by have := hb3'.size; omega) (by rintro k hk; cases hk; exact hb3'.size)
    go_ret
    exact ⟨rfl, hb5⟩
  | true =>
    go_wp2_with (first
      | (with_reducible refine wpList_alloc_row (o := ⟨some 11, _, _, _, _, _⟩) rfl _ rfl zeros16 zero_b16 ?_; intro w4 hrow4 hs4 hg4)
      | (with_reducible refine wpList_store_all (o := ⟨none, _, _, _, _, _⟩) rfl _ _ _ rfl w3.heap.size rfl _ _ hrow4 (bvs D) rfl (bvs_one _) (b16_zeros _ HRL.out) (b16_size _ HRL.out) ?_; intro w5 hrow5 hg5; have hrow3' := (hrow3.kept hg4 (by simp)).kept hg5 (by simp; omega))
      | (refine wpList_valueG (o := ⟨some 30, _, _, _, _, _⟩) rfl _ (by exact exec_load16 _ _ rfl _ rfl D HRL.out hrow5.cells) ?_)
      | (refine wpList_valueG (o := ⟨some 31, _, _, _, _, _⟩) rfl _ (by exact exec_load16 _ _ rfl _ rfl rt HT.out hrow3'.cells) ?_)
      | (refine wpList_valueG (o := ⟨some 32, _, _, _, _, _⟩) rfl _ (by exact exec_eql16 _ _ _ rfl D rt HRL.out HT.out rfl rfl) ?_))
    have hb5 := below_kept (below_kept hb3' hg4 hb3'.size (by simp)) hg5 (by have := hb3'.size; omega) (by rintro k hk; cases hk; exact hb3'.size)
    go_ret
    exact ⟨rfl, hb5⟩
end Go.Proofs.YtfmcgcdppbcfjaaDoor

/-
  The sides of a path and what a proof yields from the leaf up. Over any program. No condition.
-/
namespace Go.Proofs.YtfmcgcdppbcfjaaDoor
open Go.RowKit

/-- The sides of the path of an index, from the root to the leaf. -/
def turnsR (n i : Nat) : List Bool :=
  if _h : 2 ≤ n then if i < split n then false :: turnsR (split n) i else true :: turnsR (n - split n) (i - split n) else []
termination_by n
decreasing_by
  · exact split_lt ‹_›
  · have := split_pos n; omega
theorem turnsR_less {n : Nat} (h : ¬ 2 ≤ n) (i : Nat) : turnsR n i = [] := by rw [turnsR, dif_neg h]
theorem turnsR_left {n i : Nat} (h : 2 ≤ n) (hi : i < split n) : turnsR n i = false :: turnsR (split n) i := by rw [turnsR, dif_pos h, if_pos hi]
theorem turnsR_right {n i : Nat} (h : 2 ≤ n) (hi : ¬ i < split n) : turnsR n i = true :: turnsR (n - split n) (i - split n) := by rw [turnsR, dif_pos h, if_neg hi]
theorem turnsR_len (m : Nat) : ∀ n i, n ≤ m → (turnsR n i).length = plen n i := by
  induction m with
  | zero => intro n i h; rw [turnsR_less (by omega), plen, dif_neg (by omega)]; rfl
  | succ m ih =>
    intro n i hm
    by_cases h : 2 ≤ n
    · have h1 := split_pos n
      have h2 := split_lt h
      rw [plen, dif_pos h]
      by_cases hi : i < split n
      · rw [turnsR_left h hi, if_pos hi, List.length_cons, ih _ _ (by omega)]
      · rw [turnsR_right h hi, if_neg hi, List.length_cons, ih _ _ (by omega)]
    · rw [turnsR_less h, plen, dif_neg h]; rfl
/-- The sides of the path, from the leaf to the root. -/
def turns (n i : Nat) : List Bool := (turnsR n i).reverse
theorem turns_len (n i : Nat) : (turns n i).length = plen n i := by unfold turns; rw [List.length_reverse, turnsR_len n n i (Nat.le_refl _)]
/-- What the first k elements of a proof yield, from the leaf up, on the sides given. -/
def upK (leaf : List UInt8) (T : List Bool) (p : List (List UInt8)) : Nat → List UInt8
  | 0 => mLeaf leaf
  | k + 1 => if T.getD k false then mNode (p.getD k []) (upK leaf T p k) else mNode (upK leaf T p k) (p.getD k [])
theorem upK_len (leaf : List UInt8) (T : List Bool) (p : List (List UInt8)) (k : Nat) : (upK leaf T p k).length = 16 := by
  cases k with
  | zero => exact mLeaf_len _
  | succ k => unfold upK; split <;> exact mNode_len _ _
theorem upK_congr (leaf : List UInt8) (T T' : List Bool) (p p' : List (List UInt8)) : ∀ k, (∀ j, j < k → T.getD j false = T'.getD j false) → (∀ j, j < k → p.getD j [] = p'.getD j []) → upK leaf T p k = upK leaf T' p' k
  | 0, _, _ => rfl
  | k + 1, h1, h2 => by
    unfold upK
    rw [h1 k (by omega), h2 k (by omega), upK_congr leaf T T' p p' k (fun j hj => h1 j (by omega)) (fun j hj => h2 j (by omega))]
theorem upK_comb (leaf : List UInt8) (m : Nat) : ∀ (n i : Nat) (p : List (List UInt8)), n ≤ m → 1 ≤ n → p.length = plen n i → upK leaf (turns n i) p p.length = (combL leaf p n i).1 := by
  induction m with
  | zero => intro n i p hm h1 hp; omega
  | succ m ih =>
    intro n i p hm h1 hp
    by_cases h2 : 2 ≤ n
    · have hs1 := split_pos n
      have hs2 := split_lt h2
      rw [plen, dif_pos h2] at hp
      by_cases hi : i < split n
      · rw [if_pos hi] at hp
        generalize hq : plen (split n) i = q at hp
        obtain ⟨s, hs⟩ : ∃ s, p[q]? = some s := ⟨_, List.getElem?_eq_getElem (by omega)⟩
        have hT : turns n i = turns (split n) i ++ [false] := by unfold turns; rw [turnsR_left h2 hi]; simp
        have hTl : (turns (split n) i).length = q := by rw [turns_len, hq]
        have htl : (p.take q).length = q := by rw [List.length_take]; omega
        rw [combL_left leaf (by omega) hp hs hi, hp, upK]
        have e1 : (turns n i).getD q false = false := by rw [hT, List.getD_eq_getElem?_getD, List.getElem?_append_right (by omega), hTl]; simp
        have e2 : p.getD q [] = s := by rw [List.getD_eq_getElem?_getD, hs]; rfl
        have e3 := ih (split n) i (p.take q) (by omega) (by omega) (by rw [htl, hq])
        rw [htl] at e3
        rw [e1, e2, if_neg (by simp), ← e3, upK_congr leaf (turns n i) (turns (split n) i) p (p.take q) q
          (fun j hj => by rw [hT, List.getD_eq_getElem?_getD, List.getElem?_append_left (by omega), List.getD_eq_getElem?_getD])
          (fun j hj => by rw [List.getD_eq_getElem?_getD, List.getD_eq_getElem?_getD, List.getElem?_take, if_pos hj])]
      · rw [if_neg hi] at hp
        generalize hq : plen (n - split n) (i - split n) = q at hp
        obtain ⟨s, hs⟩ : ∃ s, p[q]? = some s := ⟨_, List.getElem?_eq_getElem (by omega)⟩
        have hT : turns n i = turns (n - split n) (i - split n) ++ [true] := by unfold turns; rw [turnsR_right h2 hi]; simp
        have hTl : (turns (n - split n) (i - split n)).length = q := by rw [turns_len, hq]
        have htl : (p.take q).length = q := by rw [List.length_take]; omega
        rw [combL_right leaf (by omega) hp hs hi, hp, upK]
        have e1 : (turns n i).getD q false = true := by rw [hT, List.getD_eq_getElem?_getD, List.getElem?_append_right (by omega), hTl]; simp
        have e2 : p.getD q [] = s := by rw [List.getD_eq_getElem?_getD, hs]; rfl
        have e3 := ih (n - split n) (i - split n) (p.take q) (by omega) (by omega) (by rw [htl, hq])
        rw [htl] at e3
        rw [e1, e2, if_pos rfl, ← e3, upK_congr leaf (turns n i) (turns (n - split n) (i - split n)) p (p.take q) q
          (fun j hj => by rw [hT, List.getD_eq_getElem?_getD, List.getElem?_append_left (by omega), List.getD_eq_getElem?_getD])
          (fun j hj => by rw [List.getD_eq_getElem?_getD, List.getD_eq_getElem?_getD, List.getElem?_take, if_pos hj])]
    · obtain rfl : n = 1 := by omega
      rw [plen, dif_neg (by omega)] at hp
      rw [hp, combL_one]
      rfl
theorem combL_ok (leaf : List UInt8) (p : List (List UInt8)) {n : Nat} (i : Nat) (h : 1 ≤ n) : (combL leaf p n i).2 = decide (p.length = plen n i) := by
  unfold combL
  rw [comb_ok leaf _ n i h, List.length_reverse]
theorem mVerify_no {rt leaf : List UInt8} {p : List (List UInt8)} {n i : Nat} (h : 1 ≤ n) (hp : p.length ≠ plen n i) : mVerify rt leaf p n i = false := by
  unfold mVerify
  rw [combL_ok leaf p i h, decide_eq_false hp, Bool.false_and]
theorem mVerify_up {rt leaf : List UInt8} {p : List (List UInt8)} {n i : Nat} (h : 1 ≤ n) (hp : p.length = plen n i) : mVerify rt leaf p n i = (upK leaf (turns n i) p p.length == rt) := by
  unfold mVerify
  rw [combL_ok leaf p i h, decide_eq_true hp, Bool.true_and, upK_comb leaf n n i p (Nat.le_refl _) h hp]
end Go.Proofs.YtfmcgcdppbcfjaaDoor
