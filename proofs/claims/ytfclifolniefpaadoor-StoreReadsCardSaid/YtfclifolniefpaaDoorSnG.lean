/-
  The values of the law file's sanity example: numbers and lists alone. No condition.
-/
import Derived.Test.YtfclifolniefpaaDoorStMU
import Derived.Test.YtfclifolniefpaaDoorFlNG
import Derived.Test.YtfclifolniefpaaDoorFast
import Derived.Test.YtfclifolniefpaaDoorEncG
import Derived.Test.YtfclifolniefpaaDoorFlG
import Derived.Test.YtfclifolniefpaaDoorStQA
set_option linter.unusedSimpArgs false
set_option linter.unusedVariables false
namespace Go.Proofs.YtfclifolniefpaaDoor
open Go.RowKit

set_option maxRecDepth 100000
def snZ : ByteArray := fullS 0
def snF (A B : ByteArray) : List ByteArray := ((flNew 128).set 0 A).set 8 B
theorem sn_zero : flNew 128 = snF snZ snZ := rfl
theorem sn_l (A B : ByteArray) : stL (snF A B) 0 = [A, snZ, snZ, snZ, snZ, snZ, snZ, snZ, B, snZ, snZ, snZ, snZ, snZ, snZ, snZ] := by kernel_rfl
theorem sn_A0 (A B : ByteArray) : stA0 0 (stL (snF A B) 0) = stDec 0 (tl A ++ stCat [snZ, snZ, snZ, snZ, snZ, snZ, snZ]) := by rw [sn_l]; rfl
theorem sn_A1 (A B : ByteArray) : stA1 0 (stL (snF A B) 0) = stDec 0 (tl B ++ stCat [snZ, snZ, snZ, snZ, snZ, snZ, snZ]) := by rw [sn_l]; rfl
theorem sn_none (t : List UInt8) : stDec 0 (tl snZ ++ t) = (0, []) := stDec_zero (by rw [snZ, tl_full]; rfl)
theorem sn_sec {n : Int} {c : List UInt8} (h1 : 1 ≤ n) (h2 : n ≤ 100) (hc : c.length = 2) (t : List UInt8) : stDec 0 (tl (stSec (stEnc 0 n c)) ++ t) = (n, c) := by
  refine stDec_of h1 (by omega) (by omega) ?_
  have hl : (stEnc 0 n c).length ≤ 256 := by
    have := stEnc_len 0 n c
    have h3 : (stH n c).length ≤ 20 := by
      unfold stH encBytes
      have := encInt_le6 (n := n) (by omega) (by omega)
      have := encLen_le2 (c := c) (by omega)
      simp only [List.length_append]
      omega
    omega
  unfold stSec stPad
  rw [tl_mk, List.take_append, List.take_of_length_le hl, List.append_assoc]
  exact ⟨_, rfl⟩
def snAB : ByteArray := ⟨#[97, 98]⟩
def snCD : ByteArray := ⟨#[99, 100]⟩
def snB1 : List UInt8 := stEnc 0 1 [97, 98]
def snB2 : List UInt8 := stEnc 0 2 [99, 100]
def snS1 : ByteArray := stSec snB1
def snS2 : ByteArray := stSec snB2
def snX : ByteArray := flW snS2 3 snZ
theorem sn_cnt1 : stCnt snB1 = 1 := by
  have h := stEnc_len 0 1 [97, 98]
  unfold stCnt snB1
  rw [h, show (stH 1 [97, 98]).length = 4 by decide]
theorem sn_cnt2 : stCnt snB2 = 1 := by
  have h := stEnc_len 0 2 [99, 100]
  unfold stCnt snB2
  rw [h, show (stH 2 [99, 100]).length = 4 by decide]
theorem sn_nil : stSec [] = snZ := by
  unfold stSec stPad snZ fullS
  rw [List.nil_append, List.take_replicate]
  rfl
theorem sn_cur0 : stCur 0 (stL (snF snZ snZ) 0) = (0, []) := by
  unfold stCur stNew
  rw [sn_A0, sn_A1, sn_none]
  rfl
theorem sn_cur1 : stCur 0 (stL (snF snS1 snZ) 0) = (1, [97, 98]) ∧ stTgt 0 (stL (snF snS1 snZ) 0) = 1 := by
  have h : stCur 0 (stL (snF snS1 snZ) 0) = (1, [97, 98]) := by
    unfold stCur stNew
    rw [sn_A0, sn_A1, sn_none, snS1, snB1, sn_sec (by omega) (by omega) rfl]
    rfl
  refine ⟨h, ?_⟩
  unfold stTgt stNew
  rw [h, sn_A0, sn_A1, sn_none, snS1, snB1, sn_sec (by omega) (by omega) rfl]
  rfl
/-- One digest, by computation. -/
theorem sn_dig : (dgl 5 [encInt 0, [4, 4, 99, 0]]).head? ≠ some 0 := by
  unfold dgl
  rw [← fDig_eq]
  decide +kernel
theorem sn_tlX : ∃ t, tl snX = [4, 4, 99, 0] ++ (List.replicate 16 0 ++ t) := by
  refine ⟨List.replicate 236 0, ?_⟩
  unfold snX
  rw [show (3 : Int) = ((3 : Nat) : Int) from rfl, tl_cut (by omega), snZ, tl_full, List.drop_replicate]
  have h2 : (tl snS2).take 3 = [4, 4, 99] := by
    unfold snS2 stSec stPad snB2
    rw [tl_mk, List.take_take]
    rfl
  rw [h2]
  rfl
theorem sn_torn (u : List UInt8) : stDec 0 (tl snX ++ u) = (0, []) := by
  obtain ⟨t, ht⟩ := sn_tlX
  rw [ht, List.append_assoc]
  have hg : getInt ([4, 4, 99, 0] ++ ((List.replicate 16 0 ++ t) ++ u)) = (2, 1, 0) := getInt_encInt 2 ⟨by omega, by omega⟩ _
  have hb : getBytes (([4, 4, 99, 0] ++ ((List.replicate 16 0 ++ t) ++ u)).drop 1) = ([99, 0], 3, 0) := getBytes_enc [99, 0] _ (by decide)
  rw [stDec_code hg (by omega) (by omega) hb (by decide)]
  rw [if_neg]
  intro hp
  have e : ([4, 4, 99, 0] ++ ((List.replicate 16 0 ++ t) ++ u)).take (1 + 3) = [4, 4, 99, 0] := rfl
  rw [e] at hp
  obtain ⟨v, hv⟩ := hp
  have h2 := sn_dig
  have h16 := dgl_len 5 [encInt 0, [4, 4, 99, 0]]
  generalize dgl 5 [encInt 0, [4, 4, 99, 0]] = D at *
  cases D with
  | nil => cases h16
  | cons x D =>
    apply h2
    have := congrArg List.head? hv
    exact this
theorem sn_cur2 : stCur 0 (stL (snF snS1 snX) 0) = (1, [97, 98]) := by
  unfold stCur stNew
  rw [sn_A0, sn_A1, sn_torn, snS1, snB1, sn_sec (by omega) (by omega) rfl]
  rfl
def snO : StO := ⟨snAB, 1, 0⟩
theorem sn_get0 : stSt (flNew 128) 0 = ⟨em, 0, 13⟩ := by unfold stSt; rw [sn_zero, sn_cur0]; rfl
theorem sn_get1 : stSt (snF snS1 snZ) 0 = snO := by unfold stSt; rw [sn_cur1.1]; rfl
theorem sn_get2 : stSt (snF snS1 snX) 0 = snO := by unfold stSt; rw [sn_cur2]; rfl
theorem sn_S1 : snS1.size = 256 := stSec_size _
theorem sn_S2 : snS2.size = 256 := stSec_size _
theorem sn_Zs : snZ.size = 256 := fullS_size 0
theorem sn_put1 : stRun (flNew 128) 0 snAB (-1) 0 = ⟨snF snS1 snZ, snO, true, stAs (flNew 128) 0 snAB⟩ ∧ (stAs (flNew 128) 0 snAB).length = 18 := by
  have hq : stSq (flNew 128) 0 = 0 := by unfold stSq; rw [sn_zero, sn_cur0]
  have hb : stB (flNew 128) 0 snAB = snB1 := by unfold stB stBytes; rw [sn_zero, sn_cur0]; rfl
  have hf : stFst (flNew 128) 0 = 0 := by
    unfold stFst stTgt
    rw [sn_zero, sn_cur0]
    rfl
  have hw : stWs (flNew 128) 0 snAB = [⟨4, 0, 0, snZ⟩, ⟨4, 0, 0, snS1⟩] := by
    unfold stWs
    rw [hq, if_pos (by omega), hb, hf, sn_cnt1, ← sn_nil]
    show [stWrt 0 snB1 0, stWrt 0 snB1 1] = _
    have : stWrt 0 snB1 1 = ⟨4, 0, 0, snS1⟩ := by
      unfold stWrt
      rw [if_neg (by omega), if_neg (by have := sn_cnt1; unfold stCnt at this; omega)]
      rfl
    rw [this]
    rfl
  rw [stRun_end (.inl (by omega)), stAs_len, hw]
  refine ⟨?_, rfl⟩
  have hm : stMem (flNew 128) [⟨4, 0, 0, snZ⟩, ⟨4, 0, 0, snS1⟩] 2 = snF snS1 snZ := by
    have h1 : flWrite (flNew 128) 0 snZ (-1) = snF snZ snZ := by
      rw [show (0 : Int) = ((0 : Nat) : Int) from rfl, flWrite_nat (fs := flNew 128) (j := 0) (s := snZ) rfl sn_Zs, flW_again]
      rfl
    have h2 : flWrite (snF snZ snZ) 0 snS1 (-1) = snF snS1 snZ := by
      rw [show (0 : Int) = ((0 : Nat) : Int) from rfl, flWrite_nat (fs := snF snZ snZ) (j := 0) (s := snZ) rfl sn_S1, flW_again]
      rfl
    show flWrite (flWrite (flNew 128) 0 snZ (-1)) 0 snS1 (-1) = _
    rw [h1, h2]
  have hfin : stFin (flNew 128) 0 snAB = snO := by
    unfold stFin
    rw [hq]
    rfl
  show StRun.mk (stMem (flNew 128) [⟨4, 0, 0, snZ⟩, ⟨4, 0, 0, snS1⟩] 2) _ _ _ = _
  rw [hm, hfin]
theorem sn_put2 : ∃ l, stRun (snF snS1 snZ) 0 snCD 17 3 = ⟨snF snS1 snX, noO, false, l⟩ := by
  have hq : stSq (snF snS1 snZ) 0 = 1 := by unfold stSq; rw [sn_cur1.1]
  have hb : stB (snF snS1 snZ) 0 snCD = snB2 := by unfold stB stBytes; rw [sn_cur1.1]; rfl
  have hf : stFst (snF snS1 snZ) 0 = 8 := by
    unfold stFst
    rw [sn_cur1.2]
    rfl
  have hw : stWs (snF snS1 snZ) 0 snCD = [⟨4, 0, 8, snZ⟩, ⟨4, 0, 8, snS2⟩] := by
    unfold stWs
    rw [hq, if_pos (by omega), hb, hf, sn_cnt2, ← sn_nil]
    show [stWrt 8 snB2 0, stWrt 8 snB2 1] = _
    have : stWrt 8 snB2 1 = ⟨4, 0, 8, snS2⟩ := by
      unfold stWrt
      rw [if_neg (by omega), if_neg (by have := sn_cnt2; unfold stCnt at this; omega)]
      rfl
    rw [this]
    rfl
  refine ⟨(stAs (snF snS1 snZ) 0 snCD).take 18, ?_⟩
  rw [stRun_write (cut := 17) (j := 1) (a := ⟨4, 0, 8, snS2⟩) rfl (by rw [hw]; rfl), hw]
  have hm : flWrite (stMem (snF snS1 snZ) [⟨4, 0, 8, snZ⟩, ⟨4, 0, 8, snS2⟩] 1) 8 snS2 (max 0 3) = snF snS1 snX := by
    have h1 : flWrite (snF snS1 snZ) 8 snZ (-1) = snF snS1 snZ := by
      rw [show (8 : Int) = ((8 : Nat) : Int) from rfl, flWrite_nat (fs := snF snS1 snZ) (j := 8) (s := snZ) rfl sn_Zs, flW_again]
      rfl
    show flWrite (flWrite (snF snS1 snZ) 8 snZ (-1)) 8 snS2 3 = _
    rw [h1, show (8 : Int) = ((8 : Nat) : Int) from rfl, flWrite_nat (fs := snF snS1 snZ) (j := 8) (s := snZ) rfl sn_S2]
    rfl
  show StRun.mk (flWrite (stMem (snF snS1 snZ) [⟨4, 0, 8, snZ⟩, ⟨4, 0, 8, snS2⟩] 1) 8 snS2 (max 0 3)) _ _ _ = _
  rw [hm]
end Go.Proofs.YtfclifolniefpaaDoor

/-
  What keeps a flash memory when a row of another kind is written. No condition.
-/
namespace Go.Proofs.YtfclifolniefpaaDoor
open Go.RowKit

section
variable {w w' : World} {A : Option Addr} {n c g : Nat} {fs : List ByteArray}
theorem fl_ne {e : TypeId} {X : Option Addr} {k m : Nat} (h : FlOK w A n c fs) (h0 : 0 < n) (hr : Row w g e [.slice X k m]) : ∀ ad, A = some ad → ad.block ≠ g := by
  intro ad e' hb
  obtain ⟨ad', e2, hlt, hc⟩ := h.1.2 h0
  rw [e'] at e2
  cases e2
  have hl := h.len
  have h1 := hc 0 (.string fs[0]) (by unfold svs; rw [List.getElem?_map, List.getElem?_eq_getElem (by omega)]; rfl)
  unfold World.cell? at h1
  rw [block_of_add, hb, show w.heap[g]? = _ from hr] at h1
  simp only at h1
  split at h1
  · cases h1
  · rcases hz : (ad.add 0).off with _ | q
    · rw [hz] at h1; simp at h1
    · rw [hz] at h1; simp at h1
theorem fl_lt (h : FlOK w A n c fs) (h0 : 0 < n) : ∀ ad, A = some ad → ad.block < w.heap.size := by
  intro ad e'
  obtain ⟨ad', e2, hlt, _⟩ := h.1.2 h0
  rw [e'] at e2
  cases e2
  exact hlt
theorem fl_kept (h : FlOK w A n c fs) (hg : w.grownBy w' (some g)) (hne : 0 < n → ∀ ad, A = some ad → ad.block ≠ g) : FlOK w' A n c fs := by
  refine ⟨⟨h.1.1, fun h0 => ?_⟩, h.2⟩
  obtain ⟨ad, e, hlt, hc⟩ := h.1.2 h0
  refine ⟨ad, e, Nat.lt_of_lt_of_le hlt hg.size, fun j u hu => ?_⟩
  exact (World.cell?_of_block (hg.block _ (by rw [block_of_add]; exact hlt) (by rw [block_of_add]; intro h2; exact hne h0 ad e (Option.some.inj h2)))).trans (hc j u hu)
end
theorem sn_sz (A B : ByteArray) (hA : A.size = 256) (hB : B.size = 256) : ∀ s ∈ snF A B, s.size ≤ 400 := by
  intro s hs
  unfold snF at hs
  rcases List.mem_or_eq_of_mem_set hs with h | h
  · rcases List.mem_or_eq_of_mem_set h with h | h
    · rw [show (128 : Int) = ((128 : Nat) : Int) from rfl, (flNew_nat (n := 128) (by omega)).1] at h
      rw [List.eq_of_mem_replicate h, fullS_size]
      omega
    · rw [h, hA]; omega
  · rw [h, hB]; omega
theorem sn_len (A B : ByteArray) : (snF A B).length = 128 := by
  unfold snF
  rw [List.length_set, List.length_set, show (128 : Int) = ((128 : Nat) : Int) from rfl, (flNew_nat (n := 128) (by omega)).1, List.length_replicate]
theorem sn_X : snX.size = 256 := flW_size sn_S2 sn_Zs 3
end Go.Proofs.YtfclifolniefpaaDoor
