/-
  What sha.Derive and the reference's Derive return: contracts by walks. Conditions: the table of constants as laid (Derive); bounded lengths.
-/
import Derived.Test.YtojdondipkbjhaaDoorHash
import Derived.Test.YtojdondipkbjhaaDoorMac
import Derived.Test.YtojdondipkbjhaaDoorBase
namespace Go.Proofs.YtojdondipkbjhaaDoor
open Go.RowKit

def drv (key s : List UInt8) (ps : List Part) : List UInt8 := mac key (encBytes s ++ epAll ps)
theorem drv_len (key s : List UInt8) (ps : List Part) : (drv key s ps).length = 16 := mac_len _ _

set_option maxRecDepth 100000 in
set_option maxHeartbeats 2000000 in
theorem derive_big (Ak : Option Addr) (ck : Nat) (key : List UInt8) (nk : Nat) (s : ByteArray) (A : Option Addr) (c : Nat) (ps : List Part) (n : Nat) (w : World) (hK : Consts w) (hrk : Reads w w.heap.size 1 Ak nk (bvs key)) (hck : nk ≤ ck) (hnk : nk ≤ 300) (hs : s.size ≤ 300)
    (hr : ReadsP w w.heap.size A n ps) (hn : n ≤ 20) (hp : ∀ p ∈ ps, p.n ≤ 2000) :
    Calls Tryd.prog 39 #[.slice Ak nk ck, .string s, .slice A n c] w (GivesV (.agg (bvs (drv key s.data.toList ps)).toArray) w) := by
  have HDL := Lib.hid (drv_len key s.data.toList ps)
  have HD : Hid (drv key s.data.toList ps = mac key (encBytes s.data.toList ++ epAll ps)) := rfl
  have HEL : Hid ((epAll ps).length ≤ 40200) := by
    show _ ≤ _
    have h1 := epAll_len ps (parts_l hr hp)
    have h2 := hr.len
    omega
  have HSL := Lib.hid (encBytes_le s.data.toList 300 (by simpa using hs) (by omega))
  have hcb := fun W => Lib.hid (bytes_any s W (by omega))
  generalize drv key s.data.toList ps = D at *
  generalize encBytes s.data.toList = E at *
  go_enter Tryd.func39, Tryd.ntmps39
  go_wp2_with (with_reducible refine wpList_alloc_row (o := ⟨some 6, _, _, _, _, _⟩) rfl _ rfl zeros16 zero_b16 ?_; intro w1 hrow1 hs1 hg1)
  have hb1 : Below w.heap.size w w1 := grown_below hg1 (Nat.le_refl _) (by simp)
  clear hg1
  refine (hcb w1).out.mono ?_
  rintro e w2 ⟨v2, rfl, hown2, hb2⟩
  go_wp2_with fail
  refine (appendParts_any w1.heap.size _ E A c ps n w2 hown2 hb2.size (by have := HSL.out; omega) ((hr.on hb1).below hb2) hn hp).mono ?_
  rintro e w3 ⟨v3, rfl, hown3, hb3⟩
  have hown3 := own_len hown3 List.length_append
  obtain ⟨A3, c3, rfl, hc3, _, hr3⟩ := own_form hown3
  have hb13 := hb2.trans hb3
  have hb3' := hb1.trans (hb13.mono hb1.size)
  have hrow3 := hrow1.below hb13 (by omega)
  clear hown2 hown3 hb2 hb3
  go_wp2_with fail
  refine (mac_any Ak A3 ck c3 key _ nk _ w3 (hK.on hb3') (hrk.on hb3') hck (by omega) hr3 hc3 (by have h1 := HEL.out; have h2 := HSL.out; omega)).mono ?_
  rintro e w4 ⟨rfl, hb4⟩
  rw [← HD.out]
  have hrow4 := hrow3.on hb4
  have hb4' := hb3'.trans (hb4.mono hb3'.size)
  go_wp2_with (with_reducible refine wpList_store_all (o := ⟨none, _, _, _, _, _⟩) rfl _ _ _ rfl w.heap.size rfl _ _ hrow4 (bvs D) rfl (bvs_one _) (b16_zeros _ HDL.out) (b16_size _ HDL.out) ?_; intro wz hrowz hgz)
  have hload := run_loadVar_at (P := Tryd.prog) wz 23 ⟨w.heap.size, 0, none⟩ (bvs D) hrowz.cells _ Tryd.underlying23 rfl (b16_size _ HDL.out)
  exact bodyPost_ret (results_cell1 Tryd.results39 _ _ _ _ rfl hload) rfl ⟨rfl, below_kept hb4' hgz hb4'.size (by rintro k hk; cases hk; exact Nat.le_refl _)⟩

set_option maxRecDepth 100000 in
set_option maxHeartbeats 2000000 in
theorem refDerive_big (Ak : Option Addr) (ck : Nat) (key : List UInt8) (nk : Nat) (s : ByteArray) (A : Option Addr) (c : Nat) (ps : List Part) (n : Nat) (w : World) (hrk : Reads w w.heap.size 1 Ak nk (bvs key)) (hck : nk ≤ ck) (hnk : nk ≤ 300) (hs : s.size ≤ 300)
    (hr : ReadsP w w.heap.size A n ps) (hn : n ≤ 20) (hp : ∀ p ∈ ps, p.n ≤ 2000) :
    Calls Tryd.prog 40 #[.slice Ak nk ck, .string s, .slice A n c] w (GivesV (.agg (bvs (drv key s.data.toList ps)).toArray) w) := by
  obtain ⟨i0, hi0, hz0, hz1, hz2⟩ := info_parts info_u8
  have HDL := Lib.hid (drv_len key s.data.toList ps)
  have HD : Hid (drv key s.data.toList ps = mac key (encBytes s.data.toList ++ epAll ps)) := rfl
  have HLN := Lib.hid hr.len
  have HPL := Lib.hid (parts_l hr hp)
  have HLE := Lib.hid (epK_len ps HPL.out)
  have HPN := Lib.hid hp
  clear hp
  have hsl := encBytes_le s.data.toList 300 (by simpa using hs) (by omega)
  have hcb := fun W => Lib.hid (refBytes_any s W (by omega))
  generalize drv key s.data.toList ps = D at *
  generalize encBytes s.data.toList = E at *
  go_enter Tryd.func40, Tryd.ntmps40
  go_wp2_with (with_reducible refine wpList_alloc_row (o := ⟨some 6, _, _, _, _, _⟩) rfl _ rfl zeros16 zero_b16 ?_; intro w1 hrow1 hs1 hg1)
  have hb1 : Below w.heap.size w w1 := grown_below hg1 (Nat.le_refl _) (by simp)
  clear hg1
  have hr1 := hr.on hb1
  have hown := (row_alloc w1 5 []).owns_all (base := w1.heap.size) (Nat.le_refl _) 0 rfl (by unfold maxLen; omega)
  refine (hcb _).out.mono ?_
  rintro e w2 ⟨v2, rfl, hown2, hb2⟩
  obtain ⟨A2, c2, rfl, hc2, _, hr2⟩ := own_form hown2
  have hown12 := own_below hown hb2
  have hb12 : Below w1.heap.size w1 w2 := ((Below.refl _ _).alloc (Nat.le_refl _) _).trans (hb2.mono (by simp))
  clear hown hown2 hb2
  go_wp2_with (at_builtin; refine wpList_append_src _ rfl (.tmp 9) (.tmp 11) _ _ rfl w1.heap.size 5 i0 _ 1 1 Tryd.underlying41 hi0 hz0 hz1 hz2 rfl _ _ _ rfl hown12 E.length _ (Src.ofReads _ Tryd.underlying41 hr2 (bvs_one _)) (by unfold maxLen; omega) (by omega) hb12.size ?_; intro v3 w3 hown3 hb3; rw [Nat.zero_add, List.nil_append] at hown3)
  have hb13 := hb12.trans hb3
  go_loopg [7, 8] n (fun g s5 s6 wr => ∃ k : Nat, Hid (k + g = n) ∧ k ≤ n ∧ s6 = .int .i64 (k : Int) ∧ wr.ownsRow w1.heap.size 5 1 s5 (E ++ epK ps k).length (bvs (E ++ epK ps k)) ∧ Below w1.heap.size w1 wr)
  case atStart => exact ⟨0, by show _ = _; omega, by omega, rfl, by rw [epK_zero, List.append_nil]; exact hown3, hb13⟩
  case round =>
    obtain ⟨k, HK, hk, rfl, hownk, hbel⟩ := hrel
    have hlen : (E ++ epK ps k).length ≤ 45000 := by have := HLE.out k; rw [List.length_append]; omega
    have hsz := hbel.size
    by_cases hlt : k < n
    · obtain ⟨ad, p, rfl, _, hpk, hc, hrp, _⟩ := (hr1.below hbel).at_ hlt
      have hpn := HPN.out p (List.mem_of_getElem? hpk)
      have HS : Hid (E ++ epK ps (k + 1) = (E ++ epK ps k) ++ encBytes p.l) := by show _ = _; rw [epK_succ ps k p hpk, List.append_assoc]
      have HEL := Lib.hid (encBytes_le p.l 2000 (HPL.out p (List.mem_of_getElem? hpk)) (by omega))
      have HPL2 := Lib.hid hrp.bytes_len
      clear hpk
      generalize E ++ epK ps k = L at *
      go_wp2_with (refine wpList_valueW (o := ⟨some 24, _, _, _, _, _⟩) rfl _ (by exact exec_string_of _ _ _ _ _ rfl Tryd.underlying41 Tryd.underlying5 Tryd.underlying9 rfl hrp) ?_)
      refine (refBytes_any ⟨p.l.toArray⟩ wr (by show p.l.toArray.size ≤ _; rw [List.size_toArray, HPL2.out]; omega)).mono ?_
      rintro e w4 ⟨v4, rfl, hown4, hb4⟩
      rw [show (ByteArray.mk p.l.toArray).data.toList = p.l from rfl] at hown4
      obtain ⟨A4, c4, rfl, hc4, _, hr4⟩ := own_form hown4
      have hownk4 := own_below hownk hb4
      have hb4' := hbel.trans (hb4.mono hsz)
      have hel := HEL.out
      generalize encBytes p.l = E4 at *
      clear hown4 hownk
      go_wp2_with (at_builtin; refine wpList_append_src _ rfl (.tmp 19) (.tmp 25) _ _ rfl w1.heap.size 5 i0 _ 1 1 Tryd.underlying41 hi0 hz0 hz1 hz2 rfl _ _ _ rfl hownk4 E4.length _ (Src.ofReads _ Tryd.underlying41 hr4 (bvs_one _)) (by unfold maxLen; omega) (by omega) hb4'.size ?_; intro v5 w5 hown5 hb5)
      go_roundg (gk - 1)
      case measure => have := HK.out; omega
      case rel =>
        refine ⟨k + 1, by have := HK.out; show _ = _; omega, by omega, by go_num, ?_, hb4'.trans hb5⟩
        rw [HS.out, bvs_append, List.length_append]
        exact hown5
    · have HKN : Hid (k = n) := by show _ = _; omega
      rw [HKN.out, epK_all ps n HLN.out] at hownk hlen
      have hownk := own_len hownk List.length_append
      rw [List.length_append] at hlen
      obtain ⟨A5, c5, rfl, hc5, _, hr5⟩ := own_form hownk
      have hrow5 := hrow1.below hbel (by omega)
      have hb5 := hb1.trans (hbel.mono hb1.size)
      go_wp2_with fail
      refine (refMac_any Ak A5 ck c5 key _ nk _ wr (hrk.on hb5) hck (by omega) hr5 hc5 (by omega)).mono ?_
      rintro e w6 ⟨rfl, hb6⟩
      rw [← HD.out]
      have hrow6 := hrow5.on hb6
      have hb6' := hb5.trans (hb6.mono hb5.size)
      go_wp2_with (with_reducible refine wpList_store_all (o := ⟨none, _, _, _, _, _⟩) rfl _ _ _ rfl w.heap.size rfl _ _ hrow6 (bvs D) rfl (bvs_one _) (b16_zeros _ HDL.out) (b16_size _ HDL.out) ?_; intro wz hrowz hgz)
      have hload := run_loadVar_at (P := Tryd.prog) wz 23 ⟨w.heap.size, 0, none⟩ (bvs D) hrowz.cells _ Tryd.underlying23 rfl (b16_size _ HDL.out)
      exact bodyPost_ret (results_cell1 Tryd.results40 _ _ _ _ rfl hload) rfl ⟨rfl, below_kept hb6' hgz hb6'.size (by rintro k hk; cases hk; exact Nat.le_refl _)⟩
theorem derive_any (Ak : Option Addr) (ck : Nat) (key : List UInt8) (nk : Nat) (s : ByteArray) (A : Option Addr) (c : Nat) (ps : List Part) (n : Nat) (w : World) (hK : Consts w) (hrk : Reads w w.heap.size 1 Ak nk (bvs key)) (hck : nk ≤ ck) (hnk : nk ≤ 300) (hs : s.size ≤ 300)
    (hr : ReadsP w w.heap.size A n ps) (hn : n ≤ 20) (hp : ∀ p ∈ ps, p.n ≤ 300) :
    Calls Tryd.prog 39 #[.slice Ak nk ck, .string s, .slice A n c] w (GivesV (.agg (bvs (drv key s.data.toList ps)).toArray) w) :=
  derive_big Ak ck key nk s A c ps n w hK hrk hck hnk hs hr hn fun p h => Nat.le_trans (hp p h) (by omega)
theorem refDerive_any (Ak : Option Addr) (ck : Nat) (key : List UInt8) (nk : Nat) (s : ByteArray) (A : Option Addr) (c : Nat) (ps : List Part) (n : Nat) (w : World) (hrk : Reads w w.heap.size 1 Ak nk (bvs key)) (hck : nk ≤ ck) (hnk : nk ≤ 300) (hs : s.size ≤ 300)
    (hr : ReadsP w w.heap.size A n ps) (hn : n ≤ 20) (hp : ∀ p ∈ ps, p.n ≤ 300) :
    Calls Tryd.prog 40 #[.slice Ak nk ck, .string s, .slice A n c] w (GivesV (.agg (bvs (drv key s.data.toList ps)).toArray) w) :=
  refDerive_big Ak ck key nk s A c ps n w hrk hck hnk hs hr hn fun p h => Nat.le_trans (hp p h) (by omega)
end Go.Proofs.YtojdondipkbjhaaDoor
