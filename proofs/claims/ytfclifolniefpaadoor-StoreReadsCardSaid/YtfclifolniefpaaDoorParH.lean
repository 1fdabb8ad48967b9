/-
  Encoded parts: their lengths, and what sha.appendParts returns: a contract by a walk. Condition: bounded lengths.
-/
import Derived.Test.YtfclifolniefpaaDoorShort
import Derived.Test.YtfclifolniefpaaDoorBase
import Derived.Test.YtfclifolniefpaaDoorEncG
namespace Go.Proofs.YtfclifolniefpaaDoor
open Go.RowKit

def epK (ps : List Part) (k : Nat) : List UInt8 := encParts ((ps.take k).map Part.l)
def epAll (ps : List Part) : List UInt8 := encParts (ps.map Part.l)
theorem epK_zero (ps : List Part) : epK ps 0 = [] := rfl
theorem epK_succ (ps : List Part) (k : Nat) (p : Part) (h : ps[k]? = some p) : epK ps (k + 1) = epK ps k ++ encBytes p.l := by
  unfold epK
  rw [List.take_add_one, h]
  unfold encParts
  simp
  rfl
theorem epK_all (ps : List Part) (n : Nat) (h : ps.length = n) : epK ps n = epAll ps := by
  unfold epK epAll
  rw [List.take_of_length_le (by omega)]
theorem encBytes_le (l : List UInt8) (m : Nat) (h : l.length ≤ m) (hm : m ≤ 100000000) : (encBytes l).length ≤ m + 10 := by
  have h10 : (encInt (l.length : Int)).length ≤ 10 := leb_le10 _ (zz_lt _ (by omega) (by omega))
  unfold encBytes
  rw [List.length_append]
  omega
theorem epK_len (ps : List Part) (hp : ∀ p ∈ ps, p.l.length ≤ 3000) : ∀ k, (epK ps k).length ≤ 3010 * k
  | 0 => by rw [epK_zero]; simp
  | k + 1 => by
    have ih := epK_len ps hp k
    cases h : ps[k]? with
    | none =>
      have : epK ps (k + 1) = epK ps k := by unfold epK; rw [List.take_add_one, h]; simp
      rw [this]; omega
    | some p =>
      rw [epK_succ ps k p h, List.length_append]
      have := encBytes_le p.l 3000 (hp p (List.mem_of_getElem? h)) (by omega)
      omega

set_option maxRecDepth 100000 in
set_option maxHeartbeats 2000000 in
theorem appendParts_any (base : Nat) (v : Value) (l : List UInt8) (A : Option Addr) (c : Nat) (ps : List Part) (n : Nat) (w : World) (hown : w.ownsRow base 5 1 v l.length (bvs l)) (hbase : base ≤ w.heap.size) (hl : l.length ≤ 1000)
    (hr : ReadsP w base A n ps) (hn : n ≤ 20) (hp : ∀ p ∈ ps, p.n ≤ 3000) :
    Calls Tryd.prog 84 #[v, .slice A n c] w fun e w' => ∃ v', e = .returned v' ∧ w'.ownsRow base 5 1 v' (l ++ epAll ps).length (bvs (l ++ epAll ps)) ∧ Below base w w' := by
  obtain ⟨i0, hi0, hz0, hz1, hz2⟩ := info_parts info_u8
  have HLN := Lib.hid hr.len
  have HPL : Hid (∀ p ∈ ps, p.l.length ≤ 3000) := by
    show ∀ p ∈ ps, p.l.length ≤ 3000
    intro p hpm
    have h1 := (hr.2 p hpm).1.bytes_len
    have h2 := hp p hpm
    omega
  have HLE := Lib.hid (epK_len ps HPL.out)
  have HPN := Lib.hid hp
  clear hp
  go_enter Tryd.func84, Tryd.ntmps84
  go_wp2_with fail
  go_loopg [0, 9] n (fun g s0 s9 wr => ∃ k : Nat, Hid (k + g = n) ∧ k ≤ n ∧ s9 = .int .i64 (k : Int) ∧ wr.ownsRow base 5 1 s0 (l ++ epK ps k).length (bvs (l ++ epK ps k)) ∧ Below base w wr)
  case atStart => exact ⟨0, by show _ = _; omega, by omega, rfl, by rw [epK_zero, List.append_nil]; exact hown, Below.refl _ _⟩
  case round =>
    obtain ⟨k, HK, hk, rfl, hownk, hbel⟩ := hrel
    have hlen : (l ++ epK ps k).length ≤ 65000 := by have := HLE.out k; rw [List.length_append]; omega
    have hsz := hbel.size
    by_cases hlt : k < n
    · obtain ⟨ad, p, rfl, _, hpk, hc, hrp, _⟩ := (hr.below hbel).at_ hlt
      have hpn := HPN.out p (List.mem_of_getElem? hpk)
      have HS : Hid (l ++ epK ps (k + 1) = (l ++ epK ps k) ++ encBytes p.l) := by show _ = _; rw [epK_succ ps k p hpk, List.append_assoc]
      have HEL := Lib.hid (encBytes_le p.l 3000 (HPL.out p (List.mem_of_getElem? hpk)) (by omega))
      have hpl := hrp.bytes_len
      have HPL2 := Lib.hid hpl
      clear hpk hpl
      generalize l ++ epK ps k = L at *
      go_wp2_with (refine wpList_valueW (o := ⟨some 15, _, _, _, _, _⟩) rfl _ (by exact exec_string_of _ _ _ _ _ rfl Tryd.underlying42 Tryd.underlying5 Tryd.underlying9 rfl hrp) ?_)
      refine (bytes_any ⟨p.l.toArray⟩ wr (by show p.l.toArray.size ≤ _; rw [List.size_toArray, HPL2.out]; omega)).mono ?_
      rintro e w1 ⟨v1, rfl, hown1, hb1⟩
      rw [show (ByteArray.mk p.l.toArray).data.toList = p.l from rfl] at hown1
      obtain ⟨A1, c1, rfl, hc1, _, hr1⟩ := own_form hown1
      have hownk1 := own_below hownk hb1
      have hb1' := hbel.trans (hb1.mono (Nat.le_trans hbase hsz))
      have hel := HEL.out
      generalize encBytes p.l = E at *
      clear hown1 hownk
      go_wp2_with (at_builtin; refine wpList_append_src _ rfl (.tmp 13) (.tmp 16) _ _ rfl base 5 i0 _ 1 1 Tryd.underlying42 hi0 hz0 hz1 hz2 rfl _ _ _ rfl hownk1 E.length _ (Src.ofReads _ Tryd.underlying42 hr1 (bvs_one _)) (by unfold maxLen; omega) (by omega) (Nat.le_trans hbase hb1'.size) ?_; intro v4 w4 hown4 hb4)
      go_roundg (gk - 1)
      case measure => have := HK.out; omega
      case rel =>
        refine ⟨k + 1, by have := HK.out; show _ = _; omega, by omega, by go_num, ?_, hb1'.trans hb4⟩
        rw [HS.out, bvs_append, List.length_append]
        exact hown4
    · have HKN : Hid (k = n) := by show _ = _; omega
      rw [HKN.out, epK_all ps n HLN.out] at hownk
      go_wp2_with fail
      go_ret
      exact ⟨_, rfl, hownk, hbel⟩
theorem epAll_len (ps : List Part) (hp : ∀ p ∈ ps, p.l.length ≤ 3000) : (epAll ps).length ≤ 3010 * ps.length := by
  rw [← epK_all ps ps.length rfl]
  exact epK_len ps hp ps.length
theorem parts_l {w : World} {B n : Nat} {A : Option Addr} {ps : List Part} (h : ReadsP w B A n ps) (hp : ∀ p ∈ ps, p.n ≤ 3000) : ∀ p ∈ ps, p.l.length ≤ 3000 := by
  intro p hpm
  have h1 := (h.2 p hpm).1.bytes_len
  have h2 := hp p hpm
  omega

end Go.Proofs.YtfclifolniefpaaDoor

/-
  What sha.Digest and the reference's Digest return: contracts by walks. Conditions: the table of constants as laid (sha.Digest); bounded lengths.
-/
namespace Go.Proofs.YtfclifolniefpaaDoor
open Go.RowKit

def tagB (n : Int) : UInt8 := UInt8.ofNat (n % 256).toNat
theorem tagB_val (n : Int) : Value.int .u8 (n % 256) = bv (tagB n) := by
  unfold bv tagB
  rw [UInt8.toNat_ofNat']
  congr 1
  have h1 := Int.emod_nonneg n (show (256 : Int) ≠ 0 by decide)
  have h2 := Int.emod_lt_of_pos n (show (0 : Int) < 256 by decide)
  omega
def dig (n : Int) (ps : List Part) : List UInt8 := (sha (tagB n :: epAll ps)).take 16
theorem dig_len (n : Int) (ps : List Part) : (dig n ps).length = 16 := by unfold dig; rw [List.length_take, sha_len]; rfl
theorem dig_more (n m : Int) (ps : List Part) : dig (n + 256 * m) ps = dig n ps := by
  unfold dig tagB
  rw [Int.add_mul_emod_self_left]
set_option maxRecDepth 100000 in
set_option maxHeartbeats 2000000 in
theorem digest_big (t : Int) (A : Option Addr) (c : Nat) (ps : List Part) (n : Nat) (w : World) (hK : Consts w)
    (hr : ReadsP w w.heap.size A n ps) (hn : n ≤ 20) (hp : ∀ p ∈ ps, p.n ≤ 3000) :
    Calls Tryd.prog 75 #[.int .i64 t, .slice A n c] w (GivesV (.agg (bvs (dig t ps)).toArray) w) := by
  have HDL := Lib.hid (dig_len t ps)
  have HD : Hid (dig t ps = (sha (tagB t :: epAll ps)).take 16) := rfl
  have HT := Lib.hid (tagB_val t)
  have HEL : Hid ((epAll ps).length ≤ 60200) := by
    show _ ≤ _
    have h1 := epAll_len ps (parts_l hr hp)
    have h2 := hr.len
    omega
  generalize dig t ps = D at *
  go_enter Tryd.func75, Tryd.ntmps75
  go_wp2_with (with_reducible refine wpList_alloc_row (o := ⟨some 4, _, _, _, _, _⟩) rfl _ rfl zeros16 zero_b16 ?_; intro w1 hrow1 hs1 hg1)
  have hb1 : Below w.heap.size w w1 := grown_below hg1 (Nat.le_refl _) (by simp)
  clear hg1
  have hown := (row_alloc w1 5 [bv (tagB t)]).owns_all (base := w1.heap.size) (Nat.le_refl _) 1 rfl (by unfold maxLen; omega)
  rw [HT.out]
  have hbx : Below w1.heap.size w1 (w1.alloc (.cells #[bv (tagB t)] 5)) := (Below.refl _ _).alloc (Nat.le_refl _) _
  refine (appendParts_any w1.heap.size _ [tagB t] A c ps n _ hown (by simp) (by simp) ((hr.on hb1).below hbx) hn hp).mono ?_
  rintro e w2 ⟨v2, rfl, hown2, hb2⟩
  rw [show [tagB t] ++ epAll ps = tagB t :: epAll ps from rfl] at hown2
  obtain ⟨A2, c2, rfl, hc2, _, hr2⟩ := own_form hown2
  have hb12 := hbx.trans hb2
  have hb2' := hb1.trans (hb12.mono hb1.size)
  have hrow2 := hrow1.below hb12 (by omega)
  clear hown hown2 hb2 hbx
  go_wp2_with fail
  refine (sum_any A2 c2 _ _ w2 (hK.on hb2') hr2 hc2 (by have := HEL.out; simp only [List.length_cons]; omega)).mono ?_
  rintro e w3 ⟨rfl, hb3⟩
  go_wp2_with fail
  refine (shorten_any _ (sha_len _) w3).mono ?_
  rintro e w4 ⟨rfl, hb4⟩
  rw [← HD.out]
  have hb24 := hb3.trans (hb4.mono hb3.size)
  have hrow4 := hrow2.on hb24
  have hb4' := hb2'.trans (hb24.mono hb2'.size)
  go_wp2_with (with_reducible refine wpList_store_all (o := ⟨none, _, _, _, _, _⟩) rfl _ _ _ rfl w.heap.size rfl _ _ hrow4 (bvs D) rfl (bvs_one _) (b16_zeros _ HDL.out) (b16_size _ HDL.out) ?_; intro wz hrowz hgz)
  have hload := run_loadVar_at (P := Tryd.prog) wz 76 ⟨w.heap.size, 0, none⟩ (bvs D) hrowz.cells _ Tryd.underlying76 rfl (b16_size _ HDL.out)
  exact bodyPost_ret (results_cell1 Tryd.results75 _ _ _ _ rfl hload) rfl ⟨rfl, below_kept hb4' hgz hb4'.size (by rintro k hk; cases hk; exact Nat.le_refl _)⟩
set_option maxRecDepth 100000 in
set_option maxHeartbeats 2000000 in
theorem refDigest_big (t : Int) (A : Option Addr) (c : Nat) (ps : List Part) (n : Nat) (w : World)
    (hr : ReadsP w w.heap.size A n ps) (hn : n ≤ 20) (hp : ∀ p ∈ ps, p.n ≤ 3000) :
    Calls Tryd.prog 36 #[.int .i64 t, .slice A n c] w (GivesV (.agg (bvs (dig t ps)).toArray) w) := by
  obtain ⟨i0, hi0, hz0, hz1, hz2⟩ := info_parts info_u8
  have HDL := Lib.hid (dig_len t ps)
  have HD : Hid (dig t ps = (sha (tagB t :: epAll ps)).take 16) := rfl
  have HT := Lib.hid (tagB_val t)
  have HLN := Lib.hid hr.len
  have HPL := Lib.hid (parts_l hr hp)
  have HLE := Lib.hid (epK_len ps HPL.out)
  have HPN := Lib.hid hp
  clear hp
  generalize dig t ps = D at *
  go_enter Tryd.func36, Tryd.ntmps36
  go_wp2_with (with_reducible refine wpList_alloc_row (o := ⟨some 4, _, _, _, _, _⟩) rfl _ rfl zeros16 zero_b16 ?_; intro w1 hrow1 hs1 hg1)
  have hb1 : Below w.heap.size w w1 := grown_below hg1 (Nat.le_refl _) (by simp)
  clear hg1
  have hr1 := hr.on hb1
  have hown := (row_alloc w1 5 [bv (tagB t)]).owns_all (base := w1.heap.size) (Nat.le_refl _) 1 rfl (by unfold maxLen; omega)
  rw [HT.out]
  go_loopg [5, 6] n (fun g s5 s6 wr => ∃ k : Nat, Hid (k + g = n) ∧ k ≤ n ∧ s6 = .int .i64 (k : Int) ∧ wr.ownsRow w1.heap.size 5 1 s5 (1 + (epK ps k).length) (bvs (tagB t :: epK ps k)) ∧ Below w1.heap.size w1 wr)
  case atStart => exact ⟨0, by show _ = _; omega, by omega, rfl, hown, (Below.refl _ _).alloc (Nat.le_refl _) _⟩
  case round =>
    obtain ⟨k, HK, hk, rfl, hownk, hbel⟩ := hrel
    have hlen : (epK ps k).length ≤ 65000 := by have := HLE.out k; omega
    have hsz := hbel.size
    by_cases hlt : k < n
    · obtain ⟨ad, p, rfl, _, hpk, hc, hrp, _⟩ := (hr1.below hbel).at_ hlt
      have hpn := HPN.out p (List.mem_of_getElem? hpk)
      have HS := Lib.hid (epK_succ ps k p hpk)
      have HEL := Lib.hid (encBytes_le p.l 3000 (HPL.out p (List.mem_of_getElem? hpk)) (by omega))
      have HPL2 := Lib.hid hrp.bytes_len
      clear hpk
      go_wp2_with (refine wpList_valueW (o := ⟨some 21, _, _, _, _, _⟩) rfl _ (by exact exec_string_of _ _ _ _ _ rfl Tryd.underlying42 Tryd.underlying5 Tryd.underlying9 rfl hrp) ?_)
      refine (refBytes_any ⟨p.l.toArray⟩ wr (by show p.l.toArray.size ≤ _; rw [List.size_toArray, HPL2.out]; omega)).mono ?_
      rintro e w2 ⟨v2, rfl, hown2, hb2⟩
      rw [show (ByteArray.mk p.l.toArray).data.toList = p.l from rfl] at hown2
      obtain ⟨A2, c2, rfl, hc2, _, hr2⟩ := own_form hown2
      have hownk2 := own_below hownk hb2
      have hb2' := hbel.trans (hb2.mono hsz)
      have hel := HEL.out
      generalize encBytes p.l = E at *
      clear hown2 hownk
      go_wp2_with (at_builtin; refine wpList_append_src _ rfl (.tmp 16) (.tmp 22) _ _ rfl w1.heap.size 5 i0 _ 1 1 Tryd.underlying42 hi0 hz0 hz1 hz2 rfl _ _ _ rfl hownk2 E.length _ (Src.ofReads _ Tryd.underlying42 hr2 (bvs_one _)) (by unfold maxLen; omega) (by omega) hb2'.size ?_; intro v4 w4 hown4 hb4)
      go_roundg (gk - 1)
      case measure => have := HK.out; omega
      case rel =>
        refine ⟨k + 1, by have := HK.out; show _ = _; omega, by omega, by go_num, ?_, hb2'.trans hb4⟩
        rw [HS.out, List.length_append, ← Nat.add_assoc, ← List.cons_append, bvs_append]
        exact hown4
    · have HKN : Hid (k = n) := by show _ = _; omega
      rw [HKN.out, epK_all ps n HLN.out] at hownk
      have hlen2 : (epAll ps).length ≤ 65000 := by rw [← epK_all ps n HLN.out]; have := HLE.out n; omega
      obtain ⟨A5, c5, rfl, hc5, _, hr5⟩ := own_form hownk
      have hrow5 := hrow1.below hbel (by omega)
      have hb5 := hb1.trans (hbel.mono hb1.size)
      go_wp2_with fail
      refine (refSum_any A5 c5 _ _ wr hr5 (by omega)).mono ?_
      rintro e w6 ⟨rfl, hb6⟩
      go_wp2_with fail
      refine (refShort_any _ (sha_len _) w6).mono ?_
      rintro e w7 ⟨rfl, hb7⟩
      rw [← HD.out]
      have hb57 := hb6.trans (hb7.mono hb6.size)
      have hrow7 := hrow5.on hb57
      have hb7' := hb5.trans (hb57.mono hb5.size)
      go_wp2_with (with_reducible refine wpList_store_all (o := ⟨none, _, _, _, _, _⟩) rfl _ _ _ rfl w.heap.size rfl _ _ hrow7 (bvs D) rfl (bvs_one _) (b16_zeros _ HDL.out) (b16_size _ HDL.out) ?_; intro wz hrowz hgz)
      have hload := run_loadVar_at (P := Tryd.prog) wz 76 ⟨w.heap.size, 0, none⟩ (bvs D) hrowz.cells _ Tryd.underlying76 rfl (b16_size _ HDL.out)
      exact bodyPost_ret (results_cell1 Tryd.results36 _ _ _ _ rfl hload) rfl ⟨rfl, below_kept hb7' hgz hb7'.size (by rintro k hk; cases hk; exact Nat.le_refl _)⟩
theorem digest_any (t : Int) (A : Option Addr) (c : Nat) (ps : List Part) (n : Nat) (w : World) (hK : Consts w)
    (hr : ReadsP w w.heap.size A n ps) (hn : n ≤ 20) (hp : ∀ p ∈ ps, p.n ≤ 300) :
    Calls Tryd.prog 75 #[.int .i64 t, .slice A n c] w (GivesV (.agg (bvs (dig t ps)).toArray) w) :=
  digest_big t A c ps n w hK hr hn fun p h => Nat.le_trans (hp p h) (by omega)
theorem refDigest_any (t : Int) (A : Option Addr) (c : Nat) (ps : List Part) (n : Nat) (w : World)
    (hr : ReadsP w w.heap.size A n ps) (hn : n ≤ 20) (hp : ∀ p ∈ ps, p.n ≤ 300) :
    Calls Tryd.prog 36 #[.int .i64 t, .slice A n c] w (GivesV (.agg (bvs (dig t ps)).toArray) w) :=
  refDigest_big t A c ps n w hr hn fun p h => Nat.le_trans (hp p h) (by omega)
end Go.Proofs.YtfclifolniefpaaDoor
