/-
  ShaLongKey's walk. Condition: the table of constants as laid.
-/
import Derived.Test.YtoghjdcfbbhjnaaDoorEqs
import Derived.Test.YtoghjdcfbbhjnaaDoorSan
import Derived.Test.YtoghjdcfbbhjnaaDoorLaid
import Derived.Test.YtoghjdcfbbhjnaaDoorZeros
namespace Go.Proofs.YtoghjdcfbbhjnaaDoor
open Go.RowKit

theorem bvs_zeros (k : Nat) : List.replicate k (Value.int .u8 0) = bvs (List.replicate k (0 : UInt8)) := by
  unfold bvs
  rw [List.map_replicate]
  rfl

set_option maxRecDepth 100000 in
set_option maxHeartbeats 4000000 in
theorem walkLong (Ak Ab : Option Addr) (nk ck nb cb : Nat) (key b : List UInt8) (z : Int) (w : World) (hK : Consts w) (hrk : Reads w w.heap.size 1 Ak nk (bvs key)) (hck : nk ≤ ck) (hnk : nk ≤ 140737488351232) (hrb : Reads w w.heap.size 1 Ab nb (bvs b)) (hcb : nb ≤ cb) (hnb : nb ≤ 140737488351232) (hz0 : 0 ≤ z) (hz1 : z ≤ 255) :
    Calls Tryd.prog 8 #[.slice Ak nk ck, .slice Ab nb cb, .int .u8 z] w fun e w' => e = .returned (.bool true) ∧ Below w.heap.size w w' := by
  by_cases h1 : 300 < nk
  · go_enter Tryd.func8, Tryd.ntmps8
    go_wp2_with fail
    refine (sanity_any _ hK).mono ?_
    rintro e w1 ⟨rfl, hb1⟩
    go_wp2_with fail
    go_ret
    exact ⟨rfl, hb1⟩
  by_cases h2 : 300 < nb
  · go_enter Tryd.func8, Tryd.ntmps8
    go_wp2_with fail
    refine (sanity_any _ hK).mono ?_
    rintro e w1 ⟨rfl, hb1⟩
    go_wp2_with fail
    go_ret
    exact ⟨rfl, hb1⟩
  obtain ⟨i0, hi0, hiz, hi1, hi2⟩ := info_parts info_u8
  have HKL := Lib.hid hrk.bytes_len
  have HH := Lib.hid (hmac_len key b)
  have q2 := eq32 (hmac key b) HH.out
  have hhs := fun W hKW hrW hrW2 => Lib.hid (hmac_any Ak Ab ck cb key b nk nb W hKW hrW hck (by omega) hrW2 hcb (by omega))
  by_cases h64 : 64 < nk
  · have HS := Lib.hid (sha_len key)
    have HE := Lib.hid (hmac_hash key b (by rw [HKL.out]; exact h64))
    have hcs := fun W hKW hrW => Lib.hid (sum_any Ak ck key nk W hKW hrW hck (by omega))
    have hh2 := fun A W hKW hrW hrW2 => Lib.hid (hmac_any A Ab 32 cb (sha key) b 32 nb W hKW hrW (Nat.le_refl _) (by omega) hrW2 hcb (by omega))
    rw [HE.out] at hh2
    generalize hmac key b = hb at *
    generalize sha key = sk at *
    go_enter Tryd.func8, Tryd.ntmps8
    go_wp2_with fail
    refine (sanity_any _ hK).mono ?_
    rintro e w1 ⟨rfl, hb1⟩
    go_wp2_with fail
    refine (hcs _ (hK.on hb1) (hrk.on hb1)).out.mono ?_
    rintro e w2 ⟨rfl, hb2⟩
    have hb2 := hb1.trans (hb2.mono hb1.size)
    go_wp2_with (first
      | (with_reducible refine wpList_alloc_row (o := ⟨some 8, _, _, _, _, _⟩) rfl _ rfl zeros32 zero_b32 ?_; intro w3 hrow3 hs3 hg3)
      | ((with_reducible refine wpList_at ⟨none, .store 24 _ _, _, _, _, _⟩ ?_); refine wpList_store_all rfl _ _ _ rfl w2.heap.size rfl _ _ hrow3 (bvs sk) rfl (bvs_one _) (b32_zeros _ HS.out) (b32_size _ HS.out) ?_; intro w4 hrow4 hg4))
    have hb4 : Below w.heap.size w w4 := below_kept (below_kept hb2 hg3 hb2.size (by simp)) hg4 (by have := hb2.size; omega) (by rintro k hk; cases hk; exact hb2.size)
    have hrd4 := hrow4.reads (size := 1) (n := 32) (by rw [bvs_length, HS.out])
    simp only [Act.put, List.setIfInBounds_toArray, List.set_cons_zero, List.set_cons_succ]
    refine wp_region_plan (fun _ => True) (.take 0 <| .take 1 <| .take 2 <| .take 3 <| .take 5 <| .take 6 <| .one 4 <| .one 7 <| .one 8 <| .one 9 <| .one 10 <| .done) (by kernel_rfl) (by kernel_rfl) (by kernel_rfl) (fun _ _ _ _ _ h => h) trivial ?_
    repeat (refine plan_take _ rfl ?_; go_big_quiet_step ((intros; rfl)); refine wpQuiet_nil ?_)
    refine plan_one _ rfl fun K hK2 => ?_
    go_simp
    refine (hhs _ (hK.on hb4.drew) (hrk.on hb4.drew) (hrb.on hb4.drew)).out.mono ?_
    rintro e w5 ⟨rfl, hb5⟩
    have hrd5 := hrd4.drew.on hb5
    have hb5 := hb4.drew.trans (hb5.mono hb4.size)
    refine hK2 _ _ trivial ?_
    clear hK2 K
    refine plan_one _ rfl fun K hK2 => ?_
    go_simp
    refine (hh2 _ _ (hK.on hb5) hrd5 (hrb.on hb5)).out.mono ?_
    rintro e w6 ⟨rfl, hb6⟩
    have hb6 := hb5.trans (hb6.mono hb5.size)
    refine hK2 _ _ trivial ?_
    clear hK2 K
    refine plan_one _ rfl fun K hK2 => ?_
    go_simp
    refine hK2 _ _ trivial ?_
    clear hK2 K
    refine plan_one _ rfl fun K hK2 => ?_
    go_simp
    refine hK2 _ _ trivial ?_
    clear hK2 K
    refine plan_one _ rfl fun K hK2 => ?_
    go_simp
    refine hK2 _ _ trivial ?_
    clear hK2 K
    refine plan_done ?_
    go_wp2_with fail
    go_ret
    exact ⟨rfl, hb6⟩
  · obtain ⟨zn, rfl⟩ : ∃ zn : Nat, z = (zn : Int) := ⟨z.toNat, by omega⟩
    obtain ⟨kz, hkz⟩ : ∃ kz, kz = zn % (65 - nk) := ⟨_, rfl⟩
    have e66 : (zn : Int) % ((65 - nk : Nat) : Int) = (kz : Int) := by rw [hkz]; omega
    have hkz64 : nk + kz ≤ 64 := by have := Nat.mod_lt zn (show 0 < 65 - nk by omega); omega
    have e65 : (65 : Int) - (nk : Int) = ((65 - nk : Nat) : Int) := by omega
    have HE := Lib.hid (hmac_zeros key b kz (by rw [HKL.out]; exact hkz64))
    have hh2 := fun A c W hKW hrW hc hrW2 => Lib.hid (hmac_any A Ab c cb (key ++ List.replicate kz 0) b (nk + kz) nb W hKW hrW hc (by omega) hrW2 hcb (by omega))
    rw [HE.out] at hh2
    generalize hmac key b = hb at *
    have HKZ := Lib.hid hkz
    clear hkz
    go_enter Tryd.func8, Tryd.ntmps8
    go_wp2_with fail
    refine (sanity_any _ hK).mono ?_
    rintro e w1 ⟨rfl, hb1⟩
    have hown1 := (row_alloc w1 5 []).owns_all (base := w1.heap.size) (Nat.le_refl _) 0 rfl (by unfold maxLen; omega)
    have hrk1 := hrk.on hb1
    go_wp2_with (first
      | (at_builtin; refine wpList_append_srcG (by rfl) (.tmp 43) (.tmp 44) _ _ rfl w1.heap.size 5 i0 _ 1 1 Tryd.underlying22 hi0 hiz hi1 hi2 rfl _ _ _ rfl hown1 nk _ (Src.ofReads _ Tryd.underlying22 (hrk1.alloc (Nat.le_refl _) _) (bvs_one _)) (by unfold maxLen; omega) (by omega) (by simp) ?_; intro v2 w2 hown2 hb2; rw [Nat.zero_add, List.nil_append] at hown2; have hs2 : w1.heap.size ≤ w2.heap.size := by have := hb2.size; simp at this; omega)
      | (at_builtin; refine wpList_append_zeros (by rfl) (.tmp 45) (.tmp 46) _ _ rfl w1.heap.size 5 i0 Tryd.underlying22 Tryd.underlying3 hi0 hiz hi1 hi2 _ _ _ rfl hown2 kz rfl (by omega) hs2 ?_; intro v3 w3 hown3 hb3; obtain ⟨A3, c3, hv3, hc3, _, hr3⟩ := own_form hown3; subst hv3; rw [bvs_zeros, ← bvs_append] at hr3))
    have hb13 : Below w1.heap.size w1 w3 := ((Below.refl _ _).alloc (Nat.le_refl _) _).trans (hb2.trans hb3)
    have hb3 := hb1.trans (hb13.mono hb1.size)
    refine (hh2 A3 c3 w3 (hK.on hb3) hr3 hc3 (hrb.on hb3)).out.mono ?_
    rintro e w4 ⟨rfl, hb4⟩
    have hb4 := hb3.trans (hb4.mono hb3.size)
    go_wp2_with fail
    refine (hhs _ (hK.on hb4) (hrk.on hb4) (hrb.on hb4)).out.mono ?_
    rintro e w5 ⟨rfl, hb5⟩
    have hb5 := hb4.trans (hb5.mono hb4.size)
    go_wp2_with fail
    go_ret
    exact ⟨rfl, hb5⟩
end Go.Proofs.YtoghjdcfbbhjnaaDoor
