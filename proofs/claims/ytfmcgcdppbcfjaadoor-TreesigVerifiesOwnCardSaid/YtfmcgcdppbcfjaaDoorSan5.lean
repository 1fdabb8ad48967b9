/-
  What the law's sanity returns: a contract by a walk. Condition: the table of constants as laid.
-/
import Derived.Test.YtfmcgcdppbcfjaaDoorTsW
import Derived.Test.YtfmcgcdppbcfjaaDoorPut
namespace Go.Proofs.YtfmcgcdppbcfjaaDoor
open Go.RowKit

def zA : List UInt8 := 1 :: List.replicate 15 0
def zB : List UInt8 := 2 :: List.replicate 15 0
theorem exec_load_sig {ρ : Operand → Value} {o : Oper} (w : World) (x : Operand) (ho : o.op = .load 32 x) (ad : Addr) (hx : ρ x = .pointer (some ad)) (a b c : Value) (hc : ∀ j u, [a, b, c][j]? = some u → w.cell? (ad.add j) = some u) :
    (execOp ρ o).run Tryd.prog w = .ok (.value (.agg #[a, b, c])) w := exec_load w _ x ho ad hx [a, b, c] hc _ Tryd.underlying32 rfl (sig_size a b c)
theorem exec_eql16_same {ρ : Operand → Value} {o : Oper} (w : World) (x y : Operand) (ho : o.op = .binOp .eql 23 x y 23) (d : List UInt8) (hd : d.length = 16) (h1 : ρ x = .agg (bvs d).toArray) (h2 : ρ y = .agg (bvs d).toArray) :
    (execOp ρ o).run Tryd.prog w = .ok (.value (.bool true)) w := by
  have e := exec_eql16 w x y ho d d hd hd h1 h2
  rw [show (d == d) = true by simp] at e
  exact e
theorem Row.part {w : World} {g : Nat} {e : TypeId} {cs : List Value} (h : Row w g e cs) {pre mid post : List Value} (hcs : cs = pre ++ (mid ++ post)) {o : Nat} (ho : pre.length = o) : ∀ j u, mid[j]? = some u → w.cell? ((⟨g, o, none⟩ : Addr).add j) = some u := by
  intro j u hj
  have hc : cs[o + j]? = some u := by
    rw [hcs, List.getElem?_append_right (by omega), ho, Nat.add_sub_cancel_left, List.getElem?_append_left (List.getElem?_eq_some_iff.1 hj).1]
    exact hj
  have e : (⟨g, o, none⟩ : Addr).add j = (⟨g, 0, none⟩ : Addr).add (o + j) := by
    rw [← add_row g o, add_of_add]
  rw [e]
  exact h.cells _ _ hc
theorem tSame_self (i : Int) (c p : List (List UInt8)) : tSame i c p i c p = true := by unfold tSame; simp

set_option maxRecDepth 100000 in
set_option maxHeartbeats 4000000 in
theorem sanity5_any (w : World) (hCo : Consts w) : Calls Tryd.prog 9 #[] w (TellsB true w) := by
  have HA : Hid (zA.length = 16) := rfl
  have HB : Hid (zB.length = 16) := rfl
  have hA0 : (#[.int .u8 1, .int .u8 0, .int .u8 0, .int .u8 0, .int .u8 0, .int .u8 0, .int .u8 0, .int .u8 0, .int .u8 0, .int .u8 0, .int .u8 0, .int .u8 0, .int .u8 0, .int .u8 0, .int .u8 0, .int .u8 0] : Array Value) = (bvs zA).toArray := rfl
  have hB0 : (#[.int .u8 2, .int .u8 0, .int .u8 0, .int .u8 0, .int .u8 0, .int .u8 0, .int .u8 0, .int .u8 0, .int .u8 0, .int .u8 0, .int .u8 0, .int .u8 0, .int .u8 0, .int .u8 0, .int .u8 0, .int .u8 0] : Array Value) = (bvs zB).toArray := rfl
  have hM1 : tMany 1 = 2 := rfl
  have HRL := Lib.hid (tRoot_len zA 1)
  have HRO := fun W hK => Lib.hid (troot_any zA HA.out 1 (by omega) (by omega) W hK)
  rw [show tRootE 1 = 0 from rfl] at HRO
  have HC16 := Lib.hid (tChain_16 zA 1 1 zB)
  have HP16 := Lib.hid (tPath_16 zA 1 1)
  have HCL : (tChain zA 1 1 zB).length = 68 := by unfold tChain; rw [if_pos (show tErr 1 1 = 0 from rfl), wSign_len]
  have HPL : (tPath zA 1 1).length = 1 := by unfold tPath; rw [if_pos (show tErr 1 1 = 0 from rfl)]; exact mProof_two (e := 1) zA (by omega)
  have HS1 := fun W hK => Lib.hid (tsign_any zA zB HA.out HB.out 1 1 (by omega) (by omega) (by omega) (by omega) W hK)
  rw [show tErr 1 1 = 0 from rfl, show tIdx 1 1 = 1 from rfl] at HS1
  have HS2 := fun W hK => Lib.hid (tsign_any zA zB HA.out HB.out 1 2 (by omega) (by omega) (by omega) (by omega) W hK)
  rw [show tErr 1 2 = 17 from rfl, show tIdx 1 2 = 0 from rfl, show tChain zA 1 2 zB = [] from rfl, show tPath zA 1 2 = [] from rfl] at HS2
  have HS3 := fun W hK => Lib.hid (tsign_any zA zB HA.out HB.out 5 0 (by omega) (by omega) (by omega) (by omega) W hK)
  rw [show tErr 5 0 = 1 from rfl, show tIdx 5 0 = 0 from rfl, show tChain zA 5 0 zB = [] from rfl, show tPath zA 5 0 = [] from rfl] at HS3
  have hv : tVerify (tRoot zA 1) 1 zB 1 (tChain zA 1 1 zB) (tPath zA 1 1) = true := tVerify_own zA zB 1 1 (by rw [hM1]; omega)
  have hv0 : tVerify (tRoot zA 1) 0 zB 1 (tChain zA 1 1 zB) (tPath zA 1 1) = false := tVerify_out (by rw [show tMany 0 = 1 from rfl]; omega)
  have HV1 := fun A B c d W hK hC hP hc hd => Lib.hid (tverify_any (tRoot zA 1) zB HRL.out HB.out 1 1 (by omega) (by omega) (by omega) (by omega) A B 68 c 1 d (tChain zA 1 1 zB) (tPath zA 1 1) W hK hC hP hc hd (by omega) (by omega))
  have HV0 := fun A B c d W hK hC hP hc hd => Lib.hid (tverify_any (tRoot zA 1) zB HRL.out HB.out 0 1 (by omega) (by omega) (by omega) (by omega) A B 68 c 1 d (tChain zA 1 1 zB) (tPath zA 1 1) W hK hC hP hc hd (by omega) (by omega))
  rw [hv] at HV1
  rw [hv0] at HV0
  clear hv hv0 hM1
  generalize tRoot zA 1 = R at *
  generalize tChain zA 1 1 zB = C at *
  generalize tPath zA 1 1 = P at *
  have hsa : tSame 1 C P 1 C P = true := by unfold tSame; simp
  have hsb : tSame 1 C P 0 [] [] = false := by unfold tSame; simp
  have HSA := fun A B c d W hK hC hP hc hd => Lib.hid (tsame_any 1 1 A B A B 68 c 1 d 68 c 1 d C P C P W hK hC hP hC hP hc hd hc hd (by omega) (by omega) (by omega) (by omega))
  have HSB := fun A B c d W hK hC hP hc hd => Lib.hid (tsame_any 1 0 A B none none 68 c 1 d 0 0 0 0 C P [] [] W hK hC hP ReadsD.nil_ ReadsD.nil_ hc hd (Nat.le_refl _) (Nat.le_refl _) (by omega) (by omega) (by omega) (by omega))
  rw [hsa] at HSA
  rw [hsb] at HSB
  have HCH := Lib.hid HCL
  have HPH := Lib.hid HPL
  clear hsa hsb HCL HPL
  go_enter Tryd.func9, Tryd.ntmps9
  go_wp2_with (first
    | (with_reducible refine wpList_alloc_row (o := ⟨some 1, _, _, _, _, _⟩) rfl _ rfl zeros16 zero_b16 ?_; intro w1 hr1 hs1 hg1)
    | (with_reducible refine wpList_at ⟨none, .store _ (.tmp 1) _, _, _, _, _⟩ ?_; refine wpList_store_all rfl _ _ _ rfl w.heap.size rfl _ _ hr1 (bvs zA) rfl (bvs_one _) (b16_zeros _ HA.out) (b16_size _ HA.out) ?_; intro w2 hr2 hg2)
    | (with_reducible refine wpList_load_all (o := ⟨some 12, _, _, _, _, _⟩) rfl _ _ rfl w.heap.size rfl _ _ hr2 _ Tryd.underlying23 rfl (b16_size _ HA.out) ?_))
  have hb2 : Below w.heap.size w w2 := below_kept (grown_below hg1 (Nat.le_refl _) (by simp)) hg2 (by omega) (by rintro k hk; cases hk; exact Nat.le_refl _)
  clear hr1 hg1 hg2
  refine (HRO _ (hCo.on hb2)).out.mono ?_
  rintro e w3 ⟨rfl, hb3⟩
  have ra3 := hr2.on hb3
  have B3 := hb2.trans (hb3.mono hb2.size)
  have hz3 := B3.size
  go_wp2_with (first
    | (with_reducible refine wpList_alloc_row (o := ⟨some 2, _, _, _, _, _⟩) rfl _ rfl zeros16 zero_b16 ?_; intro w4 hr4 hs4 hg4; have ra4 := ra3.kept hg4 (by simp))
    | (with_reducible refine wpList_at ⟨none, .store _ (.tmp 2) _, _, _, _, _⟩ ?_; refine wpList_store_all rfl _ _ _ rfl w3.heap.size rfl _ _ hr4 (bvs R) rfl (bvs_one _) (b16_zeros _ HRL.out) (b16_size _ HRL.out) ?_; intro w5 rr5 hg5; have ra5 := ra4.kept hg5 (by have := ra3.lt; simp; omega))
    | (with_reducible refine wpList_load_all (o := ⟨some 17, _, _, _, _, _⟩) rfl _ _ rfl w.heap.size rfl _ _ ra5 _ Tryd.underlying23 rfl (b16_size _ HA.out) ?_))
  have B5 : Below w.heap.size w w5 := below_kept (below_kept B3 hg4 hz3 (by simp)) hg5 (by omega) (by rintro k hk; cases hk; exact hz3)
  clear hr2 ra3 ra4 hr4 hg4 hg5
  refine (HS1 _ (hCo.on B5)).out.mono ?_
  rintro e w6 ⟨A, c, B, d, rfl, hC, hP, hc, hd, hb6⟩
  rw [HCH.out] at hC hc ⊢
  rw [HPH.out] at hP hd ⊢
  have ra6 := ra5.on hb6
  have rr6 := rr5.on hb6
  have B6 := B5.trans (hb6.mono B5.size)
  have hz6 := B6.size
  go_wp2_with (first
    | (with_reducible refine wpList_alloc_row (o := ⟨some 4, _, _, _, _, _⟩) rfl _ rfl sgz zero_sig ?_; intro w7 hr7 hs7 hg7; have ra7 := ra6.kept hg7 (by simp); have rr7 := rr6.kept hg7 (by simp))
    | (with_reducible refine wpList_at ⟨none, .store _ (.tmp 4) _, _, _, _, _⟩ ?_; refine wpList_store_all rfl _ _ _ rfl w6.heap.size rfl _ _ hr7 [.int .i64 1, .slice A 68 c, .slice B 1 d] rfl (by simp [Value.oneCell']) rfl (sig_size _ _ _) ?_; intro w8 rs8 hg8; have ra8 := ra7.kept hg8 (by have := ra6.lt; simp; omega))
    | (with_reducible refine wpList_load_all (o := ⟨some 23, _, _, _, _, _⟩) rfl _ _ rfl w.heap.size rfl _ _ ra8 _ Tryd.underlying23 rfl (b16_size _ HA.out) ?_))
  have rr8 := rr7.kept hg8 (by have := rr6.lt; simp; omega)
  have hb68 : Below w6.heap.size w6 w8 := below_kept (grown_below hg7 (Nat.le_refl _) (by simp)) hg8 (by omega) (by rintro k hk; cases hk; exact Nat.le_refl _)
  have hC8 := hC.on hb68
  have hP8 := hP.on hb68
  have B8 := B6.trans (hb68.mono B6.size)
  clear ra5 rr5 ra6 rr6 hr7 hg7 hg8 ra7 rr7 hC hP
  refine (HS2 _ (hCo.on B8)).out.mono ?_
  rintro e w9 ⟨A', c', B', d', rfl, _, _, _, _, hb9⟩
  have ra9 := ra8.on hb9
  have rr9 := rr8.on hb9
  have rs9 := rs8.on hb9
  have hC9 := hC8.on hb9
  have hP9 := hP8.on hb9
  have B9 := B8.trans (hb9.mono B8.size)
  have hz9 := B9.size
  go_wp2_with (first
    | (with_reducible refine wpList_alloc_row (o := ⟨some 6, _, _, _, _, _⟩) rfl _ rfl sgz zero_sig ?_; intro wa hra hsa hga; have raa := ra9.kept hga (by simp))
    | (with_reducible refine wpList_at ⟨none, .store _ (.tmp 6) _, _, _, _, _⟩ ?_; refine wpList_store_all rfl _ _ _ rfl w9.heap.size rfl _ _ hra [.int .i64 0, .slice A' 0 c', .slice B' 0 d'] rfl (by simp [Value.oneCell']) rfl (sig_size _ _ _) ?_; intro wb hrb hgb; have rab := raa.kept hgb (by have := ra9.lt; simp; omega))
    | (with_reducible refine wpList_load_all (o := ⟨some 29, _, _, _, _, _⟩) rfl _ _ rfl w.heap.size rfl _ _ rab _ Tryd.underlying23 rfl (b16_size _ HA.out) ?_))
  have hb9b : Below w9.heap.size w9 wb := below_kept (grown_below hga (Nat.le_refl _) (by simp)) hgb (by omega) (by rintro k hk; cases hk; exact Nat.le_refl _)
  have rrb := rr9.on hb9b
  have rsb := rs9.on hb9b
  have hCb := hC9.on hb9b
  have hPb := hP9.on hb9b
  have Bb := B9.trans (hb9b.mono B9.size)
  clear ra8 rr8 rs8 ra9 rr9 rs9 hra hga hgb raa hC8 hP8 hC9 hP9 rab hrb
  refine (HS3 _ (hCo.on Bb)).out.mono ?_
  rintro e wc ⟨A2, c2, B2, d2, rfl, _, _, _, _, hbc⟩
  have rrc := rrb.on hbc
  have rsc := rsb.on hbc
  have hCc := hCb.on hbc
  have hPc := hPb.on hbc
  have Bc := Bb.trans (hbc.mono Bb.size)
  have hzc := Bc.size
  go_wp2_with (first
    | (with_reducible refine wpList_alloc_row (o := ⟨some 8, _, _, _, _, _⟩) rfl _ rfl sgz zero_sig ?_; intro wd hrd hsd hgd)
    | (with_reducible refine wpList_at ⟨none, .store _ (.tmp 8) _, _, _, _, _⟩ ?_; refine wpList_store_all rfl _ _ _ rfl wc.heap.size rfl _ _ hrd [.int .i64 0, .slice A2 0 c2, .slice B2 0 d2] rfl (by simp [Value.oneCell']) rfl (sig_size _ _ _) ?_; intro we hre hge; have hbce : Below wc.heap.size wc we := below_kept (grown_below hgd (Nat.le_refl _) (by simp)) hge (by omega) (by rintro k hk; cases hk; exact Nat.le_refl _); have rre := rrc.on hbce; have rse := rsc.on hbce; have hCe := hCc.on hbce; have hPe := hPc.on hbce; have Be := Bc.trans (hbce.mono Bc.size); have s2 := rse.cell (j := 2) rfl)
    | (refine wpList_valueG (o := ⟨some 55, _, _, _, _, _⟩) rfl _ (by exact exec_load16 _ _ rfl _ rfl R HRL.out rre.cells) ?_)
    | (refine wpList_valueG (o := ⟨some 57, _, _, _, _, _⟩) rfl _ (by exact exec_load_sig _ _ rfl _ rfl _ _ _ rse.cells) ?_))
  refine (HV1 _ _ _ _ _ (hCo.on Be) hCe hPe hc hd).out.mono ?_
  rintro e wf ⟨rfl, hbf⟩
  have rrf := rre.on hbf
  have rsf := rse.on hbf
  have hCf := hCe.on hbf
  have hPf := hPe.on hbf
  have Bf := Be.trans (hbf.mono Be.size)
  clear rrb rsb rrc rsc hCb hPb hCc hPc hrd hgd hge hre rre rse s2 hCe hPe
  go_wp2_with (first
    | (refine wpList_valueG (o := ⟨some 61, _, _, _, _, _⟩) rfl _ (by exact exec_load16 _ _ rfl _ rfl R HRL.out rrf.cells) ?_)
    | (refine wpList_valueG (o := ⟨some 63, _, _, _, _, _⟩) rfl _ (by exact exec_load_sig _ _ rfl _ rfl _ _ _ rsf.cells) ?_))
  refine (HV0 _ _ _ _ _ (hCo.on Bf) hCf hPf hc hd).out.mono ?_
  rintro e wg ⟨rfl, hbg⟩
  have rsg := rsf.on hbg
  have hCg := hCf.on hbg
  have hPg := hPf.on hbg
  have Bg := Bf.trans (hbg.mono Bf.size)
  clear rrf rsf hCf hPf
  go_wp2_with (first
    | (refine wpList_valueG (o := ⟨some 68, _, _, _, _, _⟩) rfl _ (by exact exec_load_sig _ _ rfl _ rfl _ _ _ rsg.cells) ?_)
    | (refine wpList_valueG (o := ⟨some 69, _, _, _, _, _⟩) rfl _ (by exact exec_load_sig _ _ rfl _ rfl _ _ _ rsg.cells) ?_))
  refine (HSA _ _ _ _ _ (hCo.on Bg) hCg hPg hc hd).out.mono ?_
  rintro e wh ⟨rfl, hbh⟩
  have rsh := rsg.on hbh
  have hCh := hCg.on hbh
  have hPh := hPg.on hbh
  have Bh := Bg.trans (hbh.mono Bg.size)
  clear rsg hCg hPg
  go_wp2_with (refine wpList_valueG (o := ⟨some 73, _, _, _, _, _⟩) rfl _ (by exact exec_load_sig _ _ rfl _ rfl _ _ _ rsh.cells) ?_)
  refine (HSB _ _ _ _ _ (hCo.on Bh) hCh hPh hc hd).out.mono ?_
  rintro e wi ⟨rfl, hbi⟩
  go_wp2_with fail
  go_ret
  exact ⟨rfl, Bh.trans (hbi.mono Bh.size)⟩
end Go.Proofs.YtfmcgcdppbcfjaaDoor
