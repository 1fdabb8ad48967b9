/-
  What sha.MAC and the reference's MAC return: contracts by walks. Conditions: those of HMAC.
-/
import Derived.Test.YtojdondipkbjhaaDoorRHmac
namespace Go.Proofs.YtojdondipkbjhaaDoor
open Go.RowKit

theorem mac_len (key b : List UInt8) : (mac key b).length = 16 := by unfold mac; rw [List.length_take, hmac_len]; rfl

set_option maxRecDepth 100000 in
set_option maxHeartbeats 1000000 in
theorem mac_any (Ak Ab : Option Addr) (ck cb : Nat) (key b : List UInt8) (nk nb : Nat) (w : World) (hK : Consts w) (hrk : Reads w w.heap.size 1 Ak nk (bvs key)) (hck : nk ≤ ck) (hnk : nk ≤ 50000) (hrb : Reads w w.heap.size 1 Ab nb (bvs b)) (hcb : nb ≤ cb) (hnb : nb ≤ 50000) :
    Calls Tryd.prog 50 #[.slice Ak nk ck, .slice Ab nb cb] w (GivesV (.agg (bvs (mac key b)).toArray) w) := by
  have HML := Lib.hid (mac_len key b)
  have HM : Hid (mac key b = (hmac key b).take 16) := rfl
  generalize mac key b = mc at *
  go_enter Tryd.func50, Tryd.ntmps50
  go_wp2_with (with_reducible refine wpList_alloc_row (o := ⟨some 4, _, _, _, _, _⟩) rfl _ rfl zeros16 zero_b16 ?_; intro w1 hrow1 hs1 hg1)
  have hb1 : Below w.heap.size w w1 := grown_below hg1 (Nat.le_refl _) (by simp)
  refine (hmac_any Ak Ab ck cb key b nk nb w1 (hK.on hb1) (hrk.on hb1) hck hnk (hrb.on hb1) hcb hnb).mono ?_
  rintro e w2 ⟨rfl, hb2⟩
  go_wp2_with fail
  refine (shorten_any _ (hmac_len _ _) w2).mono ?_
  rintro e w3 ⟨rfl, hb3⟩
  rw [← HM.out]
  have hb13 := hb2.trans (hb3.mono hb2.size)
  have hrow3 := hrow1.on hb13
  have hb3' := hb1.trans (hb13.mono hb1.size)
  go_wp2_with (with_reducible refine wpList_store_all (o := ⟨none, _, _, _, _, _⟩) rfl _ _ _ rfl w.heap.size rfl _ _ hrow3 (bvs mc) rfl (bvs_one _) (b16_zeros _ HML.out) (b16_size _ HML.out) ?_; intro wz hrowz hgz)
  have hload := run_loadVar_at (P := Tryd.prog) wz 23 ⟨w.heap.size, 0, none⟩ (bvs mc) hrowz.cells _ Tryd.underlying23 rfl (b16_size _ HML.out)
  exact bodyPost_ret (results_cell1 Tryd.results50 _ _ _ _ rfl hload) rfl ⟨rfl, below_kept hb3' hgz hb3'.size (by rintro k hk; cases hk; exact Nat.le_refl _)⟩

set_option maxRecDepth 100000 in
set_option maxHeartbeats 1000000 in
theorem refMac_any (Ak Ab : Option Addr) (ck cb : Nat) (key b : List UInt8) (nk nb : Nat) (w : World) (hrk : Reads w w.heap.size 1 Ak nk (bvs key)) (hck : nk ≤ ck) (hnk : nk ≤ 50000) (hrb : Reads w w.heap.size 1 Ab nb (bvs b)) (hcb : nb ≤ cb) (hnb : nb ≤ 50000) :
    Calls Tryd.prog 51 #[.slice Ak nk ck, .slice Ab nb cb] w (GivesV (.agg (bvs (mac key b)).toArray) w) := by
  have HML := Lib.hid (mac_len key b)
  have HM : Hid (mac key b = (hmac key b).take 16) := rfl
  generalize mac key b = mc at *
  go_enter Tryd.func51, Tryd.ntmps51
  go_wp2_with (with_reducible refine wpList_alloc_row (o := ⟨some 4, _, _, _, _, _⟩) rfl _ rfl zeros16 zero_b16 ?_; intro w1 hrow1 hs1 hg1)
  have hb1 : Below w.heap.size w w1 := grown_below hg1 (Nat.le_refl _) (by simp)
  refine (refHmac_any Ak Ab ck cb key b nk nb w1 (hrk.on hb1) hck hnk (hrb.on hb1) hcb hnb).mono ?_
  rintro e w2 ⟨rfl, hb2⟩
  go_wp2_with fail
  refine (refShort_any _ (hmac_len _ _) w2).mono ?_
  rintro e w3 ⟨rfl, hb3⟩
  rw [← HM.out]
  have hb13 := hb2.trans (hb3.mono hb2.size)
  have hrow3 := hrow1.on hb13
  have hb3' := hb1.trans (hb13.mono hb1.size)
  go_wp2_with (with_reducible refine wpList_store_all (o := ⟨none, _, _, _, _, _⟩) rfl _ _ _ rfl w.heap.size rfl _ _ hrow3 (bvs mc) rfl (bvs_one _) (b16_zeros _ HML.out) (b16_size _ HML.out) ?_; intro wz hrowz hgz)
  have hload := run_loadVar_at (P := Tryd.prog) wz 23 ⟨w.heap.size, 0, none⟩ (bvs mc) hrowz.cells _ Tryd.underlying23 rfl (b16_size _ HML.out)
  exact bodyPost_ret (results_cell1 Tryd.results51 _ _ _ _ rfl hload) rfl ⟨rfl, below_kept hb3' hgz hb3'.size (by rintro k hk; cases hk; exact Nat.le_refl _)⟩
end Go.Proofs.YtojdondipkbjhaaDoor
