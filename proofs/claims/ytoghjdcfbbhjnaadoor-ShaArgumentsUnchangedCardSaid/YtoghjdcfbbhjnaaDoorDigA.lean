/-
  What sha.Digest and the reference's Digest return: contracts by walks. Conditions: the table of constants as laid; bounded lengths.
-/
import Derived.Test.YtoghjdcfbbhjnaaDoorDig
namespace Go.Proofs.YtoghjdcfbbhjnaaDoor
open Go.RowKit

def tagB (n : Int) : UInt8 := UInt8.ofNat (n % 256).toNat
theorem tagB_val (n : Int) : Value.int .u8 (n % 256) = bv (tagB n) := by
  unfold bv tagB
  rw [UInt8.toNat_ofNat']
  congr 1
  have h1 := Int.emod_nonneg n (show (256 : Int) ≠ 0 by decide)
  have h2 := Int.emod_lt_of_pos n (show (0 : Int) < 256 by decide)
  omega
def dig (n : Int) (ps : List Part) : List UInt8 := (sha (tagB n :: epAll ps)).take 16
theorem dig_len (n : Int) (ps : List Part) : (dig n ps).length = 16 := by unfold dig; rw [List.length_take, sha_len]; rfl
theorem dig_more (n m : Int) (ps : List Part) : dig (n + 256 * m) ps = dig n ps := by
  unfold dig tagB
  rw [Int.add_mul_emod_self_left]
theorem epAll_len (ps : List Part) (hp : ∀ p ∈ ps, p.l.length ≤ 300) : (epAll ps).length ≤ 310 * ps.length := by
  rw [← epK_all ps ps.length rfl]
  exact epK_len ps hp ps.length
theorem parts_l {w : World} {B n : Nat} {A : Option Addr} {ps : List Part} (h : ReadsP w B A n ps) (hp : ∀ p ∈ ps, p.n ≤ 300) : ∀ p ∈ ps, p.l.length ≤ 300 := by
  intro p hpm
  have h1 := (h.2 p hpm).1.bytes_len
  have h2 := hp p hpm
  omega

set_option maxRecDepth 100000 in
set_option maxHeartbeats 2000000 in
theorem digest_any (t : Int) (A : Option Addr) (c : Nat) (ps : List Part) (n : Nat) (w : World) (hK : Consts w)
    (hr : ReadsP w w.heap.size A n ps) (hn : n ≤ 20) (hp : ∀ p ∈ ps, p.n ≤ 300) :
    Calls Tryd.prog 17 #[.int .i64 t, .slice A n c] w (GivesV (.agg (bvs (dig t ps)).toArray) w) := by
  have HDL := Lib.hid (dig_len t ps)
  have HD : Hid (dig t ps = (sha (tagB t :: epAll ps)).take 16) := rfl
  have HT := Lib.hid (tagB_val t)
  have HEL : Hid ((epAll ps).length ≤ 6200) := by
    show _ ≤ _
    have h1 := epAll_len ps (parts_l hr hp)
    have h2 := hr.len
    omega
  generalize dig t ps = D at *
  go_enter Tryd.func17, Tryd.ntmps17
  go_wp2_with (with_reducible refine wpList_alloc_row (o := ⟨some 4, _, _, _, _, _⟩) rfl _ rfl zeros16 zero_b16 ?_; intro w1 hrow1 hs1 hg1)
  have hb1 : Below w.heap.size w w1 := grown_below hg1 (Nat.le_refl _) (by simp)
  clear hg1
  have hown := (row_alloc w1 5 [bv (tagB t)]).owns_all (base := w1.heap.size) (Nat.le_refl _) 1 rfl (by unfold maxLen; omega)
  rw [HT.out]
  have hbx : Below w1.heap.size w1 (w1.alloc (.cells #[bv (tagB t)] 5)) := (Below.refl _ _).alloc (Nat.le_refl _) _
  refine (appendParts_any w1.heap.size _ [tagB t] A c ps n _ hown (by simp) (by simp) ((hr.on hb1).below hbx) hn hp).mono ?_
  rintro e w2 ⟨v2, rfl, hown2, hb2⟩
  rw [show [tagB t] ++ epAll ps = tagB t :: epAll ps from rfl] at hown2
  obtain ⟨A2, c2, rfl, hc2, _, hr2⟩ := own_form hown2
  have hb12 := hbx.trans hb2
  have hb2' := hb1.trans (hb12.mono hb1.size)
  have hrow2 := hrow1.below hb12 (by omega)
  clear hown hown2 hb2 hbx
  go_wp2_with fail
  refine (sum_any A2 c2 _ _ w2 (hK.on hb2') hr2 hc2 (by have := HEL.out; simp only [List.length_cons]; omega)).mono ?_
  rintro e w3 ⟨rfl, hb3⟩
  go_wp2_with fail
  refine (shorten_any _ (sha_len _) w3).mono ?_
  rintro e w4 ⟨rfl, hb4⟩
  rw [← HD.out]
  have hb24 := hb3.trans (hb4.mono hb3.size)
  have hrow4 := hrow2.on hb24
  have hb4' := hb2'.trans (hb24.mono hb2'.size)
  go_wp2_with (with_reducible refine wpList_store_all (o := ⟨none, _, _, _, _, _⟩) rfl _ _ _ rfl w.heap.size rfl _ _ hrow4 (bvs D) rfl (bvs_one _) (b16_zeros _ HDL.out) (b16_size _ HDL.out) ?_; intro wz hrowz hgz)
  have hload := run_loadVar_at (P := Tryd.prog) wz 28 ⟨w.heap.size, 0, none⟩ (bvs D) hrowz.cells _ Tryd.underlying28 rfl (b16_size _ HDL.out)
  exact bodyPost_ret (results_cell1 Tryd.results17 _ _ _ _ rfl hload) rfl ⟨rfl, below_kept hb4' hgz hb4'.size (by rintro k hk; cases hk; exact Nat.le_refl _)⟩
end Go.Proofs.YtoghjdcfbbhjnaaDoor
