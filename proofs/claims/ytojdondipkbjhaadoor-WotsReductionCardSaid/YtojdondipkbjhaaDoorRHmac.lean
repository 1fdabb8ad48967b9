/-
  What the reference's HMAC returns: a contract by a walk. Condition: bounded lengths.
-/
import Derived.Test.YtojdondipkbjhaaDoorTwo
namespace Go.Proofs.YtojdondipkbjhaaDoor
open Go.RowKit

theorem maskB_succ (m : UInt8) (l : List UInt8) (k : Nat) (x : UInt8) (h : l[k]? = some x) : maskB m (l.take (k + 1)) = maskB m (l.take k) ++ [x ^^^ m] := by
  rw [List.take_add_one, h]
  unfold maskB
  simp

theorem mask54 (x : UInt8) : [Value.int .u8 (bits .xor .u8 (x.toNat : Int) 54)] = bvs [x ^^^ 54] := by
  rw [show (54 : Int) = ((54 : UInt8).toNat : Int) from rfl, u8_mask]; rfl
theorem mask92 (x : UInt8) : [Value.int .u8 (bits .xor .u8 (x.toNat : Int) 92)] = bvs [x ^^^ 92] := by
  rw [show (92 : Int) = ((92 : UInt8).toNat : Int) from rfl, u8_mask]; rfl

set_option maxRecDepth 100000 in
set_option maxHeartbeats 4000000 in
theorem refHmac_any (Ak Ab : Option Addr) (ck cb : Nat) (key b : List UInt8) (nk nb : Nat) (w : World) (hrk : Reads w w.heap.size 1 Ak nk (bvs key)) (_hck : nk ≤ ck) (hnk : nk ≤ 50000) (hrb : Reads w w.heap.size 1 Ab nb (bvs b)) (_hcb : nb ≤ cb) (hnb : nb ≤ 50000) :
    Calls Tryd.prog 58 #[.slice Ak nk ck, .slice Ab nb cb] w (GivesV (.agg (bvs (hmac key b)).toArray) w) := by
  obtain ⟨i0, hi0, hz0, hz1, hz2⟩ := info_parts info_u8
  have HL := Lib.hid hrk.bytes_len
  have H64 := Lib.hid (key64_len key)
  have HH : Hid (hmac key b = sha (maskB 92 (key64 key) ++ sha (maskB 54 (key64 key) ++ b))) := rfl
  have HHL := Lib.hid (hmac_len key b)
  have HKK : Hid (key64 key = keyOf key ++ List.replicate (64 - (keyOf key).length) 0) := rfl
  generalize hmac key b = hm at *
  generalize key64 key = k64 at *
  by_cases hlong : 64 < nk
  · have hkey : keyOf key = sha key := by unfold keyOf; rw [if_pos (by rw [HL.out]; exact hlong)]
    have HK0 : Hid ((keyOf key).length = 32) := by show _ = _; rw [hkey, sha_len]
    have HKEY := Lib.hid hkey
    clear hkey
    go_enter Tryd.func58, Tryd.ntmps58
    go_wp2_with (with_reducible refine wpList_alloc_row (o := ⟨some 4, _, _, _, _, _⟩) rfl _ rfl zeros32 zero_b32 ?_; intro w1 hrow1 hs1 hg1)
    have hb1 : Below w.heap.size w w1 := grown_below hg1 (Nat.le_refl _) (by simp)
    clear hg1
    refine (refSum_any Ak ck key nk w1 (hrk.on hb1) (by omega)).mono ?_
    rintro e w1b ⟨rfl, hb1b⟩
    go_wp2_with fail
    refine (refAll_any _ (sha_len _) w1b).mono ?_
    rintro e w2 ⟨v2, rfl, hown2, hb2b⟩
    have hown2 := own_len hown2 (sha_len _)
    obtain ⟨A0, c0, rfl, hc0, _, hr2⟩ := own_form hown2
    rw [← HKEY.out] at hr2
    have hb12 := hb1b.trans (hb2b.mono hb1b.size)
    have hrow2 := hrow1.on hb12
    have hb2 := hb1.trans (hb12.mono hb1.size)
    have hrb2 := hrb.on hb2
    clear hown2 hb1b hb2b hb12 hrow1
    go_wp2_with fail
    go_loopg [5, 6, 7, 8] 64 (fun g s5 s6 s7 s8 wr => ∃ k : Nat, Hid (k + g = 64) ∧ k ≤ 64 ∧ s7 = .int .i64 (k : Int) ∧ wr.ownsRow w2.heap.size 5 1 s5 k (bvs (maskB 54 (k64.take k))) ∧ wr.ownsRow w2.heap.size 5 1 s6 k (bvs (maskB 92 (k64.take k))) ∧ Apart s6 s5 ∧ Below w2.heap.size w2 wr)
    case atStart => exact ⟨0, rfl, by omega, rfl, World.ownsRow_nil _ _ _ _, World.ownsRow_nil _ _ _ _, .inl rfl, Below.refl _ _⟩
    case round =>
      obtain ⟨k, HI, hk, rfl, hown5, hown6, hap, hbel⟩ := hrel
      have hbz := hbel.size
      have hrk2 := hr2.on hbel
      have hrb2 := hrb2.on hbel
      by_cases hlt : k < 64
      · obtain ⟨x, hx⟩ : ∃ x, k64[k]? = some x := ⟨_, List.getElem?_eq_getElem (by rw [H64.out]; exact hlt)⟩
        have hT54 := Lib.hid (maskB_succ 54 k64 k x hx)
        have hT92 := Lib.hid (maskB_succ 92 k64 k x hx)
        by_cases hkn : k < 32
        · have hcx : (keyOf key)[k]? = some x := by rw [← hx, HKK.out, List.getElem?_append_left (by rw [HK0.out]; exact hkn)]
          obtain ⟨ad, u, hA0, _, hu, hcell⟩ := hrk2.at_ hkn
          have hux : u = .int .u8 (x.toNat : Int) := by
            unfold bvs at hu
            rw [List.getElem?_map, hcx] at hu
            exact (Option.some.inj hu).symm
          subst hux
          subst hA0
          clear hx hcx hu
          go_wp2_with (first
            | (at_builtin; refine wpList_append_two rfl (.tmp 27) (.tmp 30) _ _ rfl w2.heap.size 5 i0 _ 1 1 Tryd.underlying41 hi0 hz0 hz1 hz2 rfl _ _ _ rfl (hown5.alloc _) 1 _ (Src.box Tryd.underlying41 _ _ _ rfl _) (by unfold maxLen; omega) (by omega) (by simp; omega) _ k _ (hown6.alloc _) hap ?_; intro v5 w5 hown5' hb5 hown6' hap')
            | (at_builtin; refine wpList_append_two rfl (.tmp 32) (.tmp 35) _ _ rfl w2.heap.size 5 i0 _ 1 1 Tryd.underlying41 hi0 hz0 hz1 hz2 rfl _ _ _ rfl (hown6'.alloc _) 1 _ (Src.box Tryd.underlying41 _ _ _ rfl _) (by unfold maxLen; omega) (by omega) (by have := hb5.size; simp at this ⊢; omega) _ (k + 1) _ (hown5'.alloc _) hap'.symm ?_; intro v6 w6 hown6'' hb6 hown5'' hap''))
          have hb26 : Below w2.heap.size w2 w6 := (hbel.alloc hbz _).trans (hb5.trans (((Below.refl _ _).alloc (by have := hb5.size; simp at this ⊢; omega) _).trans hb6))
          go_roundg (gk - 1)
          case measure => have := HI.out; omega
          case rel =>
            refine ⟨k + 1, by have := HI.out; show _ = _; omega, by omega, by go_num, ?_, ?_, hap''.symm, hb26⟩
            · rw [hT54.out, bvs_append, ← mask54]; exact hown5''
            · rw [hT92.out, bvs_append, ← mask92]; exact hown6''
        · have hx0 : x = 0 := by
            rw [HKK.out, List.getElem?_append_right (by rw [HK0.out]; omega), List.getElem?_replicate] at hx
            split at hx
            · exact (Option.some.inj hx).symm
            · cases hx
          subst hx0
          clear hx
          go_wp2_with (first
            | (at_builtin; refine wpList_append_two rfl (.tmp 27) (.tmp 30) _ _ rfl w2.heap.size 5 i0 _ 1 1 Tryd.underlying41 hi0 hz0 hz1 hz2 rfl _ _ _ rfl (hown5.alloc _) 1 _ (Src.box Tryd.underlying41 _ _ _ rfl _) (by unfold maxLen; omega) (by omega) (by simp; omega) _ k _ (hown6.alloc _) hap ?_; intro v5 w5 hown5' hb5 hown6' hap')
            | (at_builtin; refine wpList_append_two rfl (.tmp 32) (.tmp 35) _ _ rfl w2.heap.size 5 i0 _ 1 1 Tryd.underlying41 hi0 hz0 hz1 hz2 rfl _ _ _ rfl (hown6'.alloc _) 1 _ (Src.box Tryd.underlying41 _ _ _ rfl _) (by unfold maxLen; omega) (by omega) (by have := hb5.size; simp at this ⊢; omega) _ (k + 1) _ (hown5'.alloc _) hap'.symm ?_; intro v6 w6 hown6'' hb6 hown5'' hap''))
          have hb26 : Below w2.heap.size w2 w6 := (hbel.alloc hbz _).trans (hb5.trans (((Below.refl _ _).alloc (by have := hb5.size; simp at this ⊢; omega) _).trans hb6))
          go_roundg (gk - 1)
          case measure => have := HI.out; omega
          case rel =>
            refine ⟨k + 1, by have := HI.out; show _ = _; omega, by omega, by go_num, ?_, ?_, hap''.symm, hb26⟩
            · rw [hT54.out, bvs_append]; exact hown5''
            · rw [hT92.out, bvs_append]; exact hown6''
      · have HK64 : Hid (k = 64) := by show _ = _; omega
        rw [HK64.out, List.take_of_length_le (by rw [H64.out]; exact Nat.le_refl _)] at hown5 hown6
        go_wp2_with (at_builtin; refine wpList_append_two rfl (.tmp 37) (.tmp 38) _ _ rfl w2.heap.size 5 i0 _ 1 1 Tryd.underlying41 hi0 hz0 hz1 hz2 rfl _ _ _ rfl hown5 nb _ (Src.ofReads _ Tryd.underlying41 hrb2 (bvs_one _)) (by unfold maxLen; omega) (by omega) hbz _ 64 _ hown6 hap ?_; intro v7 w7 hown7 hb7 hown67 hap7; obtain ⟨A7, c7, hv7, hc7, _, hr7⟩ := own_form hown7; subst hv7; rw [← bvs_append] at hr7)
        have hb27 := hbel.trans hb7
        refine (refSum_any A7 c7 _ (64 + nb) w7 hr7 (by omega)).mono ?_
        rintro e w8 ⟨rfl, hb8⟩
        go_wp2_with fail
        refine (refAll_any _ (sha_len _) w8).mono ?_
        rintro e w9 ⟨v9, rfl, hown9, hb9⟩
        have hown9 := own_len hown9 (sha_len _)
        obtain ⟨A9, c9, rfl, hc9, _, hr9⟩ := own_form hown9
        have hb79 := hb8.trans (hb9.mono hb8.size)
        have hown69 := own_below hown67 hb79
        have hb29 := hb27.trans (hb79.mono hb27.size)
        clear hown67 hown7 hown5 hown6
        go_wp2_with (at_builtin; refine wpList_append_src _ rfl (.tmp 40) (.tmp 43) _ _ rfl w2.heap.size 5 i0 _ 1 1 Tryd.underlying41 hi0 hz0 hz1 hz2 rfl _ _ _ rfl hown69 32 _ (Src.ofReads _ Tryd.underlying41 hr9 (bvs_one _)) (by unfold maxLen; omega) (by omega) hb29.size ?_; intro va wa howna hba; obtain ⟨Aa, ca, hva, hca, _, hra⟩ := own_form howna; subst hva; rw [← bvs_append] at hra)
        refine (refSum_any Aa ca _ (64 + 32) wa hra (by omega)).mono ?_
        rintro e wc ⟨rfl, hbc⟩
        rw [← HH.out]
        have hb2a := hb29.trans hba
        have hb2c := hb2a.trans (hbc.mono hb2a.size)
        have hrowc := hrow2.on hb2c
        go_wp2_with (with_reducible refine wpList_store_all (o := ⟨none, _, _, _, _, _⟩) rfl _ _ _ rfl w.heap.size rfl _ _ hrowc (bvs hm) rfl (bvs_one _) (b32_zeros _ HHL.out) (b32_size _ HHL.out) ?_; intro wz hrowz hgz)
        have hload := run_loadVar_at (P := Tryd.prog) wz 56 ⟨w.heap.size, 0, none⟩ (bvs hm) hrowz.cells _ Tryd.underlying56 rfl (b32_size _ HHL.out)
        have hbwc := hb2.trans (hb2c.mono hb2.size)
        exact bodyPost_ret (results_cell1 Tryd.results58 _ _ _ _ rfl hload) rfl ⟨rfl, below_kept hbwc hgz hbwc.size (by rintro k hk; cases hk; exact Nat.le_refl _)⟩
  · have hkey : keyOf key = key := by unfold keyOf; rw [if_neg (by rw [HL.out]; exact hlong)]
    have HK0 : Hid ((keyOf key).length = nk) := by show _ = _; rw [hkey, HL.out]
    have HKEY := Lib.hid hkey
    clear hkey
    go_enter Tryd.func58, Tryd.ntmps58
    go_wp2_with (with_reducible refine wpList_alloc_row (o := ⟨some 4, _, _, _, _, _⟩) rfl _ rfl zeros32 zero_b32 ?_; intro w2 hrow2 hs2 hg2)
    have hb2 : Below w.heap.size w w2 := grown_below hg2 (Nat.le_refl _) (by simp)
    have hr2 := hrk.on hb2
    rw [← HKEY.out] at hr2
    have hrb2 := hrb.on hb2
    clear hg2
    go_loopg [5, 6, 7, 8] 64 (fun g s5 s6 s7 s8 wr => ∃ k : Nat, Hid (k + g = 64) ∧ k ≤ 64 ∧ s7 = .int .i64 (k : Int) ∧ wr.ownsRow w2.heap.size 5 1 s5 k (bvs (maskB 54 (k64.take k))) ∧ wr.ownsRow w2.heap.size 5 1 s6 k (bvs (maskB 92 (k64.take k))) ∧ Apart s6 s5 ∧ Below w2.heap.size w2 wr)
    case atStart => exact ⟨0, rfl, by omega, rfl, World.ownsRow_nil _ _ _ _, World.ownsRow_nil _ _ _ _, .inl rfl, Below.refl _ _⟩
    case round =>
      obtain ⟨k, HI, hk, rfl, hown5, hown6, hap, hbel⟩ := hrel
      have hbz := hbel.size
      have hrk2 := hr2.on hbel
      have hrb2 := hrb2.on hbel
      by_cases hlt : k < 64
      · obtain ⟨x, hx⟩ : ∃ x, k64[k]? = some x := ⟨_, List.getElem?_eq_getElem (by rw [H64.out]; exact hlt)⟩
        have hT54 := Lib.hid (maskB_succ 54 k64 k x hx)
        have hT92 := Lib.hid (maskB_succ 92 k64 k x hx)
        by_cases hkn : k < nk
        · have hcx : (keyOf key)[k]? = some x := by rw [← hx, HKK.out, List.getElem?_append_left (by rw [HK0.out]; exact hkn)]
          obtain ⟨ad, u, hA0, _, hu, hcell⟩ := hrk2.at_ hkn
          have hux : u = .int .u8 (x.toNat : Int) := by
            unfold bvs at hu
            rw [List.getElem?_map, hcx] at hu
            exact (Option.some.inj hu).symm
          subst hux
          subst hA0
          clear hx hcx hu
          go_wp2_with (first
            | (at_builtin; refine wpList_append_two rfl (.tmp 27) (.tmp 30) _ _ rfl w2.heap.size 5 i0 _ 1 1 Tryd.underlying41 hi0 hz0 hz1 hz2 rfl _ _ _ rfl (hown5.alloc _) 1 _ (Src.box Tryd.underlying41 _ _ _ rfl _) (by unfold maxLen; omega) (by omega) (by simp; omega) _ k _ (hown6.alloc _) hap ?_; intro v5 w5 hown5' hb5 hown6' hap')
            | (at_builtin; refine wpList_append_two rfl (.tmp 32) (.tmp 35) _ _ rfl w2.heap.size 5 i0 _ 1 1 Tryd.underlying41 hi0 hz0 hz1 hz2 rfl _ _ _ rfl (hown6'.alloc _) 1 _ (Src.box Tryd.underlying41 _ _ _ rfl _) (by unfold maxLen; omega) (by omega) (by have := hb5.size; simp at this ⊢; omega) _ (k + 1) _ (hown5'.alloc _) hap'.symm ?_; intro v6 w6 hown6'' hb6 hown5'' hap''))
          have hb26 : Below w2.heap.size w2 w6 := (hbel.alloc hbz _).trans (hb5.trans (((Below.refl _ _).alloc (by have := hb5.size; simp at this ⊢; omega) _).trans hb6))
          go_roundg (gk - 1)
          case measure => have := HI.out; omega
          case rel =>
            refine ⟨k + 1, by have := HI.out; show _ = _; omega, by omega, by go_num, ?_, ?_, hap''.symm, hb26⟩
            · rw [hT54.out, bvs_append, ← mask54]; exact hown5''
            · rw [hT92.out, bvs_append, ← mask92]; exact hown6''
        · have hx0 : x = 0 := by
            rw [HKK.out, List.getElem?_append_right (by rw [HK0.out]; omega), List.getElem?_replicate] at hx
            split at hx
            · exact (Option.some.inj hx).symm
            · cases hx
          subst hx0
          clear hx
          go_wp2_with (first
            | (at_builtin; refine wpList_append_two rfl (.tmp 27) (.tmp 30) _ _ rfl w2.heap.size 5 i0 _ 1 1 Tryd.underlying41 hi0 hz0 hz1 hz2 rfl _ _ _ rfl (hown5.alloc _) 1 _ (Src.box Tryd.underlying41 _ _ _ rfl _) (by unfold maxLen; omega) (by omega) (by simp; omega) _ k _ (hown6.alloc _) hap ?_; intro v5 w5 hown5' hb5 hown6' hap')
            | (at_builtin; refine wpList_append_two rfl (.tmp 32) (.tmp 35) _ _ rfl w2.heap.size 5 i0 _ 1 1 Tryd.underlying41 hi0 hz0 hz1 hz2 rfl _ _ _ rfl (hown6'.alloc _) 1 _ (Src.box Tryd.underlying41 _ _ _ rfl _) (by unfold maxLen; omega) (by omega) (by have := hb5.size; simp at this ⊢; omega) _ (k + 1) _ (hown5'.alloc _) hap'.symm ?_; intro v6 w6 hown6'' hb6 hown5'' hap''))
          have hb26 : Below w2.heap.size w2 w6 := (hbel.alloc hbz _).trans (hb5.trans (((Below.refl _ _).alloc (by have := hb5.size; simp at this ⊢; omega) _).trans hb6))
          go_roundg (gk - 1)
          case measure => have := HI.out; omega
          case rel =>
            refine ⟨k + 1, by have := HI.out; show _ = _; omega, by omega, by go_num, ?_, ?_, hap''.symm, hb26⟩
            · rw [hT54.out, bvs_append]; exact hown5''
            · rw [hT92.out, bvs_append]; exact hown6''
      · have HK64 : Hid (k = 64) := by show _ = _; omega
        rw [HK64.out, List.take_of_length_le (by rw [H64.out]; exact Nat.le_refl _)] at hown5 hown6
        go_wp2_with (at_builtin; refine wpList_append_two rfl (.tmp 37) (.tmp 38) _ _ rfl w2.heap.size 5 i0 _ 1 1 Tryd.underlying41 hi0 hz0 hz1 hz2 rfl _ _ _ rfl hown5 nb _ (Src.ofReads _ Tryd.underlying41 hrb2 (bvs_one _)) (by unfold maxLen; omega) (by omega) hbz _ 64 _ hown6 hap ?_; intro v7 w7 hown7 hb7 hown67 hap7; obtain ⟨A7, c7, hv7, hc7, _, hr7⟩ := own_form hown7; subst hv7; rw [← bvs_append] at hr7)
        have hb27 := hbel.trans hb7
        refine (refSum_any A7 c7 _ (64 + nb) w7 hr7 (by omega)).mono ?_
        rintro e w8 ⟨rfl, hb8⟩
        go_wp2_with fail
        refine (refAll_any _ (sha_len _) w8).mono ?_
        rintro e w9 ⟨v9, rfl, hown9, hb9⟩
        have hown9 := own_len hown9 (sha_len _)
        obtain ⟨A9, c9, rfl, hc9, _, hr9⟩ := own_form hown9
        have hb79 := hb8.trans (hb9.mono hb8.size)
        have hown69 := own_below hown67 hb79
        have hb29 := hb27.trans (hb79.mono hb27.size)
        clear hown67 hown7 hown5 hown6
        go_wp2_with (at_builtin; refine wpList_append_src _ rfl (.tmp 40) (.tmp 43) _ _ rfl w2.heap.size 5 i0 _ 1 1 Tryd.underlying41 hi0 hz0 hz1 hz2 rfl _ _ _ rfl hown69 32 _ (Src.ofReads _ Tryd.underlying41 hr9 (bvs_one _)) (by unfold maxLen; omega) (by omega) hb29.size ?_; intro va wa howna hba; obtain ⟨Aa, ca, hva, hca, _, hra⟩ := own_form howna; subst hva; rw [← bvs_append] at hra)
        refine (refSum_any Aa ca _ (64 + 32) wa hra (by omega)).mono ?_
        rintro e wc ⟨rfl, hbc⟩
        rw [← HH.out]
        have hb2a := hb29.trans hba
        have hb2c := hb2a.trans (hbc.mono hb2a.size)
        have hrowc := hrow2.on hb2c
        go_wp2_with (with_reducible refine wpList_store_all (o := ⟨none, _, _, _, _, _⟩) rfl _ _ _ rfl w.heap.size rfl _ _ hrowc (bvs hm) rfl (bvs_one _) (b32_zeros _ HHL.out) (b32_size _ HHL.out) ?_; intro wz hrowz hgz)
        have hload := run_loadVar_at (P := Tryd.prog) wz 56 ⟨w.heap.size, 0, none⟩ (bvs hm) hrowz.cells _ Tryd.underlying56 rfl (b32_size _ HHL.out)
        have hbwc := hb2.trans (hb2c.mono hb2.size)
        exact bodyPost_ret (results_cell1 Tryd.results58 _ _ _ _ rfl hload) rfl ⟨rfl, below_kept hbwc hgz hbwc.size (by rintro k hk; cases hk; exact Nat.le_refl _)⟩
end Go.Proofs.YtojdondipkbjhaaDoor
