/-
  What sha.HMAC returns: a contract by a walk. Conditions: those of sha.Sum; at most 50,000 bytes.
-/
import Derived.Test.YtojdondipkbjhaaDoorKeyB
import Derived.Test.YtojdondipkbjhaaDoorParts
namespace Go.Proofs.YtojdondipkbjhaaDoor
open Go.RowKit

set_option maxRecDepth 100000 in
set_option maxHeartbeats 4000000 in
theorem hmac_any (Ak Ab : Option Addr) (ck cb : Nat) (key b : List UInt8) (nk nb : Nat) (w : World) (hK2 : Consts w) (hrk : Reads w w.heap.size 1 Ak nk (bvs key)) (hck : nk ≤ ck) (hnk : nk ≤ 50000) (hrb : Reads w w.heap.size 1 Ab nb (bvs b)) (hcb : nb ≤ cb) (hnb : nb ≤ 50000) :
    Calls Tryd.prog 57 #[.slice Ak nk ck, .slice Ab nb cb] w (GivesV (.agg (bvs (hmac key b)).toArray) w) := by
  have HB := Lib.hid hrb.bytes_len
  have HK64 := Lib.hid (key64_len key)
  have HH : Hid (hmac key b = sha (maskB 92 (key64 key) ++ sha (maskB 54 (key64 key) ++ b))) := rfl
  have HHL := Lib.hid (hmac_len key b)
  have hkb := fun W (hKW : Consts W) hrW => Lib.hid (keyBlock_any Ak ck key nk W hKW hrW hck (by omega))
  generalize hmac key b = hm at *
  generalize key64 key = k64 at *
  go_enter Tryd.func57, Tryd.ntmps57
  go_wp2_with (with_reducible refine wpList_alloc_row (o := ⟨some 4, _, _, _, _, _⟩) rfl _ rfl zeros32 zero_b32 ?_; intro w1 hrow1 hs1 hg1)
  have hb1 : Below w.heap.size w w1 := grown_below hg1 (Nat.le_refl _) (by simp)
  clear hg1
  refine (hkb w1 (hK2.on hb1) (hrk.on hb1)).out.mono ?_
  rintro e w2 ⟨rfl, hb2⟩
  have hb2' := hb1.trans (hb2.mono hb1.size)
  have hrow2 := hrow1.on hb2
  go_wp2_with (first
    | (with_reducible refine wpList_alloc_row (o := ⟨some 5, _, _, _, _, _⟩) rfl _ rfl zeros64b zero_b64 ?_; intro w3 hrow3 hs3 hg3)
    | (with_reducible refine wpList_at ⟨none, .store 80 _ _, _, _, _, _⟩ ?_; refine wpList_store_all rfl _ _ _ rfl w2.heap.size rfl _ _ hrow3 (bvs k64) rfl (bvs_one _) (b64_zeros _ HK64.out) (b64_size _ HK64.out) ?_; intro w4 hrow4 hg4)
    | (with_reducible refine wpList_load_all (o := ⟨some 9, _, _, _, _, _⟩) rfl _ _ rfl w2.heap.size rfl _ _ hrow4 _ Tryd.underlying80 rfl (b64_size _ HK64.out) ?_))
  have hb4 : Below w.heap.size w w4 := below_kept (below_kept hb2' hg3 hb2'.size (by simp)) hg4 (by have := hb2'.size; omega) (by rintro k hk; cases hk; exact hb2'.size)
  have hrow4r := (hrow2.kept hg3 (by simp)).kept hg4 (by have := hrow2.lt; simp; omega)
  have hz24 : w2.heap.size < w4.heap.size := hrow4.lt
  have hrw2 := hrow2.lt
  clear hrow3 hg3 hg4 hrow2 hb2
  refine (masked_any k64 HK64.out 54 _ rfl w4).mono ?_
  rintro e w5 ⟨v5, rfl, hown5, hb5⟩
  have hown5 := own_len hown5 ((maskB_len _ _).trans HK64.out)
  obtain ⟨A5, c5, rfl, hc5, _, hr5⟩ := own_form hown5
  have hb5' := hb4.trans (hb5.mono hb4.size)
  have hrp := readsP_two w5 41 A5 Ab 64 c5 nb cb _ _ hr5 hc5 (hrb.on hb5') hcb
  go_wp2_with fail
  refine (concat_any _ _ _ _ _ hrp (by omega) (parts_two_le _ _ 100000 (show 64 ≤ _ by omega) (show nb ≤ _ by omega))).mono ?_
  rintro e w6 ⟨v6, rfl, hown6, hb6⟩
  have hb56 : Below w5.heap.size w5 w6 := ((Below.refl _ _).alloc (Nat.le_refl _) _).trans (hb6.mono (by simp))
  rw [allBytes_two] at hown6
  have hl6 : (maskB 54 k64 ++ b).length = 64 + nb := by rw [List.length_append, maskB_len, HK64.out, HB.out]
  have hown6 := own_len hown6 hl6
  obtain ⟨A6, c6, rfl, hc6, _, hr6⟩ := own_form hown6
  have hb6' := hb5'.trans (hb56.mono hb5'.size)
  have hrow6 := (hrow4.on hb5).on hb56
  have hrow6r := (hrow4r.on hb5).on hb56
  clear hown5 hown6 hb6 hl6
  go_wp2_with fail
  refine (sum_any A6 c6 _ (64 + nb) w6 (hK2.on hb6') hr6 hc6 (by omega)).mono ?_
  rintro e w7 ⟨rfl, hb7⟩
  have HSI := Lib.hid (sha_len (maskB 54 k64 ++ b))
  have hb7' := hb6'.trans (hb7.mono hb6'.size)
  go_wp2_with (first
    | (with_reducible refine wpList_alloc_row (o := ⟨some 6, _, _, _, _, _⟩) rfl _ rfl zeros32 zero_b32 ?_; intro w8 hrow8 hs8 hg8)
    | (with_reducible refine wpList_at ⟨none, .store 56 _ _, _, _, _, _⟩ ?_; refine wpList_store_all rfl _ _ _ rfl w7.heap.size rfl _ _ hrow8 (bvs (sha (maskB 54 k64 ++ b))) rfl (bvs_one _) (b32_zeros _ HSI.out) (b32_size _ HSI.out) ?_; intro w9 hrow9 hg9))
  have hrow9k := ((hrow6.on hb7).kept hg8 (by simp)).kept hg9 (by have := (hrow6.on hb7).lt; simp; omega)
  have hrow9r := ((hrow6r.on hb7).kept hg8 (by simp)).kept hg9 (by have := (hrow6r.on hb7).lt; simp; omega)
  have hb9 : Below w.heap.size w w9 := below_kept (below_kept hb7' hg8 hb7'.size (by simp)) hg9 (by have := hb7'.size; omega) (by rintro k hk; cases hk; exact hb7'.size)
  have hrd9 := hrow9.reads (size := 1) (n := 32) (by rw [bvs_length, HSI.out])
  have HLK := Lib.hid (maskB_len 92 k64)
  simp only [Act.put, List.setIfInBounds_toArray, List.set_cons_zero, List.set_cons_succ]
  refine wp_region_plan (fun w' => Row w' w2.heap.size 80 (bvs k64)) (.take 0 <| .take 2 <| .one 1 <| .one 3 <| .one 4 <| .one 5 <| .one 6 <| .done) (by kernel_rfl) (by kernel_rfl) (by kernel_rfl) (fun _ _ _ _ _ h => h) hrow9k.drew ?_
  refine plan_take _ rfl (wpQuiet_load_all rfl _ _ rfl w2.heap.size rfl _ _ (fun _ h => h) _ Tryd.underlying80 rfl (b64_size _ HK64.out) (wpQuiet_nil ?_))
  simp only [Act.put, List.setIfInBounds_toArray, List.set_cons_zero, List.set_cons_succ]
  repeat (refine plan_take _ rfl ?_; go_big_quiet_step ((intros; rfl)); refine wpQuiet_nil ?_)
  refine plan_one _ rfl fun K hK => ?_
  go_simp
  refine (masked_any k64 HK64.out 92 _ rfl w9.drew).mono ?_
  rintro e wa ⟨va, rfl, howna, hba⟩
  have howna := own_len howna (HLK.out.trans HK64.out)
  obtain ⟨Aa, ca, rfl, hca, _, hra⟩ := own_form howna
  have hba' := hb9.drew.trans (hba.mono hb9.size)
  have hrda := hrd9.drew.on hba
  have hrpa := readsP_two wa 41 Aa (some ⟨w7.heap.size, 0, none⟩) 64 ca 32 32 _ _ hra hca hrda (Nat.le_refl _)
  refine hK _ _ (hrow9k.drew.on hba) ?_
  clear hK K
  refine plan_one _ rfl fun K hK => ?_
  go_simp
  refine hK _ _ ((hrow9k.drew.on hba).kept (World.grownBy_alloc _ _ none) (by simp)) ?_
  clear hK K
  refine plan_one _ rfl fun K hK => ?_
  go_simp
  refine (concat_any _ _ _ _ _ hrpa (by omega) (parts_two_le _ _ 100000 (show 64 ≤ _ by omega) (show 32 ≤ _ by omega))).mono ?_
  rintro e wb ⟨vb, rfl, hownb, hbb⟩
  have hbab : Below wa.heap.size wa wb := ((Below.refl _ _).alloc (Nat.le_refl _) _).trans (hbb.mono (by simp))
  rw [allBytes_two] at hownb
  have hlb : (maskB 92 k64 ++ sha (maskB 54 k64 ++ b)).length = 96 := by rw [List.length_append, HLK.out, HK64.out, HSI.out]
  have hownb := own_len hownb hlb
  obtain ⟨Ab2, cb2, rfl, hcb2, _, hrb2⟩ := own_form hownb
  have hbb' := hba'.trans (hbab.mono hba'.size)
  refine hK _ _ ((hrow9k.drew.on hba).on hbab) ?_
  clear hK K hownb hbb hlb
  refine plan_one _ rfl fun K hK => ?_
  go_simp
  refine (sum_any Ab2 cb2 _ 96 wb (hK2.on hbb') hrb2 hcb2 (by omega)).mono ?_
  rintro e wd ⟨rfl, hbd⟩
  have hrowd := (((hrow9k.drew.on hba).on hbab).on hbd)
  have hrowrd := (((hrow9r.drew.on hba).on hbab).on hbd)
  have hbd' := hbb'.trans (hbd.mono hbb'.size)
  have e1 : sha (maskB 92 k64 ++ sha (maskB 54 k64 ++ b)) = hm := HH.out.symm
  rw [e1]
  refine hK _ _ hrowd ?_
  clear hK K e1
  refine plan_one _ rfl fun K hK => step_store_all rfl _ _ _ rfl w.heap.size rfl _ zeros32 hrowrd (bvs hm) rfl (bvs_one _) (b32_zeros _ HHL.out) (b32_size _ HHL.out) ?_
  intro wz rz gz
  refine hK _ _ (hrowd.kept gz (by simp; omega)) ?_
  clear hK K
  refine plan_done ?_
  go_wp2_with fail
  have hload := run_loadVar_at (P := Tryd.prog) wz 56 ⟨w.heap.size, 0, none⟩ (bvs hm) rz.cells _ Tryd.underlying56 rfl (b32_size _ HHL.out)
  exact bodyPost_ret (results_cell1 Tryd.results57 _ _ _ _ rfl hload) rfl ⟨rfl, below_kept hbd' gz hbd'.size (by rintro k hk; cases hk; exact Nat.le_refl _)⟩
end Go.Proofs.YtojdondipkbjhaaDoor
