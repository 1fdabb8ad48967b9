/-
  What the reference's All returns: a contract by a walk. Condition: bounded lengths.
-/
import Derived.Test.YtkepmhkakkkliaaDvL
import Derived.Test.YtkepmhkakkkliaaDvR
namespace Go.Proofs.Ytkepmhkakkkliaa
open Go.RowKit

set_option maxRecDepth 100000 in
set_option maxHeartbeats 4000000 in
theorem rall_any9 (h : Hw) (A B : Option Addr) (n c m d : Nat) (l : List DvA) (fl : List DvF) (w : World) (hok : HwOK w h) (hs : dvSm h.s) (hr : Reads w w.heap.size 4 A n (l.flatMap DvA.cs)) (hf : Reads w w.heap.size 3 B m (fl.flatMap DvF.cs)) (hn : n ≤ 1000000) :
    Calls Try.prog 17 #[h.v, .slice A n c, .slice B m d] w (GivesA (dvAll h.s [] l fl) w) := by
  have H16 := Lib.hid hok.h16
  have HSM := Lib.hid hs
  have HLN := Lib.hid (hr.len_of (by decide) DvA.cs_len)
  have HFN := Lib.hid (hf.len_of (by decide) DvF.cs_len)
  obtain ⟨i0, hi0, hz0, hz1, hz2⟩ := info_parts info_rs
  generalize hs0 : h.s = s0 at *
  generalize hR : dvAll s0 [] l fl = R at *
  have HR := Lib.hid hR.symm
  have HS0 := Lib.hid hs0
  clear hR hs0 hs
  go_enter Try.func17, Try.ntmps17
  go_wp2_with (first
    | ((with_reducible refine wpList_at ⟨some 3, _, _, _, _, _⟩ ?_); refine wpList_box_row rfl _ _ rfl (h.cs) rfl ?_; intro w1 rh_1 s1 g1; have k1 : Below w.heap.size w w1 := grown_below g1 (Nat.le_refl _) (by simp); have B1 : Below w.heap.size w w1 := k1; have okh_1 := hok.on k1)
    | (with_reducible refine wpList_alloc_row (o := ⟨some 6, _, _, _, _, _⟩) rfl _ rfl zeroH zero_hw ?_; intro w2 z6_2 s2 g2; have k2 : Below w1.heap.size w1 w2 := grown_below g2 (Nat.le_refl _) (by simp); have B2 := B1.trans (k2.mono B1.size); have okh_2 := okh_1.on k2; have rh_2 := rh_1.on k2; clear okh_1 rh_1))
  have in1 := hok.in_
  have l6 := z6_2.lt
  have hB0 := B2
  go_loopg [9, 10] n (fun g s9 s10 wr => ∃ (i : Nat) (hw : Hw) (X : Nat → Prop) (rs : List DvR), Hid (i + g = n) ∧ i ≤ n ∧ s10 = .int .i64 (i : Int) ∧ Hid (R = dvAll hw.s rs (l.drop i) (fl.drop i)) ∧ Row wr w.heap.size 31 hw.cs ∧ Row wr w1.heap.size 31 zeroH ∧ HwOK wr hw ∧ HwIn X hw ∧ (¬ X w.heap.size ∧ ¬ X w1.heap.size ∧ ∀ q, X q → q < wr.heap.size) ∧ Hid (dvSm hw.s) ∧ wr.ownsRow w.heap.size 40 2 s9 rs.length (rs.flatMap DvR.cs) ∧ (∀ k, s9.ownBlock = some k → ¬ X k) ∧ Hid (rs.length = i) ∧ Below w.heap.size w wr)
  case atStart => exact ⟨0, h, _, [], by show _ = _; omega, by omega, rfl, by show _ = _; rw [HR.out, HS0.out]; rfl, rh_2, z6_2, okh_2, in1, ⟨by omega, by omega, fun q hq => by omega⟩, by rw [HS0.out]; exact HSM, World.ownsRow_nil _ _ _ _, fun k hk => by simp [Value.ownBlock] at hk, Lib.hid rfl, B2⟩
  case round =>
    obtain ⟨i, hw, X, rs, HI, hi, rfl, HINV, rh, z6, hk, hin, hX, HM, ow, hob, HRL, hB⟩ := hrel
    have H16w := Lib.hid hk.h16
    have lr := rh.lt
    have l6r := z6.lt
    by_cases hlt : i < n
    · obtain ⟨a, hai⟩ : ∃ a, l[i]? = some a := ⟨_, List.getElem?_eq_getElem (by rw [HLN.out]; exact hlt)⟩
      obtain ⟨ad, rfl, hlta, hca⟩ := hr.elem DvA.cs_len hai hlt
      have HCA := Lib.hid hca
      have HAI := Lib.hid hai
      clear hca hai
      have HST := fun f W h1 => Lib.hid (rdo_any9 X hw a f W hin h1 HM.out)
      by_cases hfi : i < m
      · obtain ⟨f, hf0⟩ : ∃ f, fl[i]? = some f := ⟨_, List.getElem?_eq_getElem (by rw [HFN.out]; exact hfi)⟩
        obtain ⟨fd, rfl, hltf, hcf⟩ := hf.elem DvF.cs_len hf0 hfi
        have HCF := Lib.hid hcf
        have HFV := Lib.hid (dvFl_in hf0)
        clear hcf hf0
        go_wp2_with (first
          | (with_reducible refine wpList_alloc_row (o := ⟨some 11, _, _, _, _, _⟩) rfl _ rfl zeroT zero_ft ?_; intro w101 r101 s101 g101)
          | ((with_reducible refine wpList_at ⟨none, .store _ (.tmp 11) _, _, _, _, _⟩ ?_); refine wpList_store_all rfl _ _ _ rfl wr.heap.size rfl _ _ r101 (noF.cs) rfl (noF.cs_one) rfl (by kernel_rfl) ?_; intro w102 rf_102 g102; have k102 : Below wr.heap.size wr w102 := below_kept (grown_below g101 (Nat.le_refl _) (by simp)) g102 (Nat.le_of_lt s101) (by rintro q hq; cases hq; exact Nat.le_refl _); have B102 : Below wr.heap.size wr w102 := k102; have hk_102 := hk.on k102; have rh_102 := rh.on k102; have z6_102 := z6.on k102; have ow_102 := own_below ow k102; clear r101 g101 g102; have s102 := rf_102.lt)
          | ((with_reducible refine wpList_at ⟨some 29, _, _, _, _, _⟩ ?_); refine wpList_valueG rfl _ (by exact exec_load _ 35 _ rfl (fd.add (i * 3)) rfl f.cs (fun j u hu => ((hB.trans (B102.mono hB.size)).cell (by rw [block_of_add, block_of_add]; exact hltf)).trans (HCF.out j u hu)) _ Try.underlying35 rfl (by kernel_rfl)) ?_)
          | ((with_reducible refine wpList_at ⟨none, .store _ (.tmp 11) _, _, _, _, _⟩ ?_); refine wpList_store_all rfl _ _ _ rfl (wr.heap.size) rfl _ _ rf_102 f.cs rfl (DvF.cs_one _) rfl (by kernel_rfl) ?_; intro wF rfF gF))
        have kF : Below wr.heap.size wr wF := (below_kept B102 gF B102.size (by rintro q hq; cases hq; exact Nat.le_refl _))
        have hkF := hk.on kF
        have rhF := rh.on kF
        have z6F := z6.on kF
        have owF := own_below ow kF
        try simp only [Act.put, List.setIfInBounds_toArray, List.set_cons_zero, List.set_cons_succ]
        go_cut [12, 13, 14] (fun s1 s2 s3 wc => ∃ ga gr h2, s1 = .pointer (some ⟨ga, 0, none⟩) ∧ s2 = .pointer (some ⟨gr, 0, none⟩) ∧ s3 = .int .i64 (dvErr hw.s a) ∧ Row wc ga 31 h2.cs ∧ Row wc gr 40 (dvRs hw.s a f).cs ∧ HwOK wc h2 ∧ HwIn (fun q => X q ∨ (wF.heap.size ≤ q ∧ q ≠ ga ∧ q ≠ gr)) h2 ∧ h2.s = dvSt hw.s a f ∧ wF.heap.size ≤ ga ∧ wF.heap.size ≤ gr ∧ ga ≠ gr ∧ Below wF.heap.size wF wc)
        case first =>
          have b0 : Below wF.heap.size wF wF.drew := (Below.refl _ _).drew
          have z0 : wF.drew.heap.size = wF.heap.size := rfl
          have BW0 : Below w.heap.size w wF := hB.trans (kF.mono hB.size)
          have rhd := rhF.drew
          have lrh := rhF.lt
          have rfd := rfF.drew
          have lrf := rfF.lt
          have okd : HwOK wF.drew hw := hkF
          have lcur : wr.heap.size ≤ wF.heap.size := kF.size
          refine wp_region_plan (fun w' => Row w' (w.heap.size) 31 hw.cs ∧ Row w' (wr.heap.size) 35 (f).cs ∧ (∀ j u, a.cs[j]? = some u → w'.cell? ((ad.add (i * 4)).add j) = some u)) (.take 0 <| .take 1 <| .take 2 <| .take 3 <| .take 4 <| .take 5 <| .three 6 (.take 7 <| .take 8 <| .take 9 <| .take 10 <| .two 11 (.one 12 <| .one 13 <| .one 14 <| .take 15 <| .done) 12 (.one 11 <| .one 13 <| .one 14 <| .take 15 <| .done)) 11 (.two 6 (.take 7 <| .take 8 <| .take 9 <| .take 10 <| .one 12 <| .one 13 <| .one 14 <| .take 15 <| .done) 12 (.one 6 <| .take 7 <| .take 8 <| .take 9 <| .take 10 <| .one 13 <| .one 14 <| .take 15 <| .done)) 12 (.two 6 (.take 7 <| .take 8 <| .take 9 <| .take 10 <| .one 11 <| .one 13 <| .one 14 <| .take 15 <| .done) 11 (.one 6 <| .take 7 <| .take 8 <| .take 9 <| .take 10 <| .one 13 <| .one 14 <| .take 15 <| .done))) (by kernel_rfl) (by kernel_rfl) (by kernel_rfl) (fun _ _ _ _ _ h => h) ⟨rhd, rfd, fun j u hu => ((BW0.trans (b0.mono BW0.size)).cell (by rw [block_of_add, block_of_add]; exact hlta)).trans (HCA.out j u hu)⟩ ?_
          repeat (refine plan_take _ rfl ?_; (first | ((with_reducible refine wpQuiet_at ⟨some 31, _, _, _, _, _⟩ ?_); refine wpQuiet_valueG rfl _ (by intro _ hS; exact exec_loadH _ _ rfl (w.heap.size) rfl hw H16w.out hS.1) (wpQuiet_nil ?_); simp only [Act.put, List.setIfInBounds_toArray, List.set_cons_zero, List.set_cons_succ]) | ((with_reducible refine wpQuiet_at ⟨some 35, _, _, _, _, _⟩ ?_); refine wpQuiet_valueG rfl _ (by intro _ hS; exact exec_load _ 33 _ rfl (ad.add (i * 4)) rfl a.cs hS.2.2 _ Try.underlying33 rfl (by kernel_rfl)) (wpQuiet_nil ?_); simp only [Act.put, List.setIfInBounds_toArray, List.set_cons_zero, List.set_cons_succ]) | ((with_reducible refine wpQuiet_at ⟨some 36, _, _, _, _, _⟩ ?_); refine wpQuiet_valueG rfl _ (by intro _ hS; exact exec_loadT _ _ rfl (wr.heap.size) rfl (f) hS.2.1) (wpQuiet_nil ?_); simp only [Act.put, List.setIfInBounds_toArray, List.set_cons_zero, List.set_cons_succ]) | (go_big_quiet_step ((intros; rfl)); refine wpQuiet_nil ?_)))
          refine plan_three ?_ ?_ ?_
          · refine step_at _ rfl fun K hK => ?_
            go_simp
            refine (HST (f) _ okd).out.mono ?_
            rintro e wu1 ⟨hu1, rfl, hku1, hiu1, hsu1, hbu1⟩
            have inu1 := hiu1.and hku1.in_
            have rhu1 := rhd.on hbu1
            have rfu1 := rfd.on hbu1
            have oku1 := okd.on hbu1
            have bu1 := b0.trans (hbu1.mono b0.size)
            have zu1 := hbu1.size
            refine hK _ _ ⟨rhu1, rfu1, fun j u hu => ((BW0.trans (bu1.mono BW0.size)).cell (by rw [block_of_add, block_of_add]; exact hlta)).trans (HCA.out j u hu)⟩ ?_
            clear hK K
            repeat (refine plan_take _ rfl ?_; (first | ((with_reducible refine wpQuiet_at ⟨some 31, _, _, _, _, _⟩ ?_); refine wpQuiet_valueG rfl _ (by intro _ hS; exact exec_loadH _ _ rfl (w.heap.size) rfl hw H16w.out hS.1) (wpQuiet_nil ?_); simp only [Act.put, List.setIfInBounds_toArray, List.set_cons_zero, List.set_cons_succ]) | ((with_reducible refine wpQuiet_at ⟨some 35, _, _, _, _, _⟩ ?_); refine wpQuiet_valueG rfl _ (by intro _ hS; exact exec_load _ 33 _ rfl (ad.add (i * 4)) rfl a.cs hS.2.2 _ Try.underlying33 rfl (by kernel_rfl)) (wpQuiet_nil ?_); simp only [Act.put, List.setIfInBounds_toArray, List.set_cons_zero, List.set_cons_succ]) | ((with_reducible refine wpQuiet_at ⟨some 36, _, _, _, _, _⟩ ?_); refine wpQuiet_valueG rfl _ (by intro _ hS; exact exec_loadT _ _ rfl (wr.heap.size) rfl (f) hS.2.1) (wpQuiet_nil ?_); simp only [Act.put, List.setIfInBounds_toArray, List.set_cons_zero, List.set_cons_succ]) | (go_big_quiet_step ((intros; rfl)); refine wpQuiet_nil ?_)))
            refine plan_two ?_ ?_
            · refine step_at _ rfl fun K hK => ?_
              refine step_alloc rfl _ rfl zeroH zero_hw ?_
              intro wu2 z12u2 su2 gu2
              have hu2 := grown_below gu2 (Nat.le_refl _) (by simp)
              have rhu2 := rhu1.on hu2
              have rfu2 := rfu1.on hu2
              have oku2 := oku1.on hu2
              have hku2 := hku1.on hu2
              have bu2 := bu1.trans (hu2.mono bu1.size)
              have zu2 := hu2.size
              refine hK _ _ ⟨rhu2, rfu2, fun j u hu => ((BW0.trans (bu2.mono BW0.size)).cell (by rw [block_of_add, block_of_add]; exact hlta)).trans (HCA.out j u hu)⟩ ?_
              clear hK K
              simp only [Act.put, List.setIfInBounds_toArray, List.set_cons_zero, List.set_cons_succ]
              refine plan_one _ rfl fun K hK => ?_
              refine step_alloc rfl _ rfl zeroR zero_rs ?_
              intro wu3 z13u3 su3 gu3
              have hu3 := grown_below gu3 (Nat.le_refl _) (by simp)
              have rhu3 := rhu2.on hu3
              have rfu3 := rfu2.on hu3
              have oku3 := oku2.on hu3
              have hku3 := hku2.on hu3
              have z12u3 := z12u2.on hu3
              have bu3 := bu2.trans (hu3.mono bu2.size)
              have zu3 := hu3.size
              refine hK _ _ ⟨rhu3, rfu3, fun j u hu => ((BW0.trans (bu3.mono BW0.size)).cell (by rw [block_of_add, block_of_add]; exact hlta)).trans (HCA.out j u hu)⟩ ?_
              clear hK K
              simp only [Act.put, List.setIfInBounds_toArray, List.set_cons_zero, List.set_cons_succ]
              refine plan_one _ rfl fun K hK => ?_
              refine step_store_all rfl _ _ _ rfl (wu1.heap.size) rfl _ _ z12u3 (hu1.cs) rfl (Hw.cs_one _) (hw_zl hku3.h16) (hw_size hku3.h16) ?_
              intro wu4 ru4 gu4
              have rhu4 := rhu3.kept gu4 (by simp; omega)
              have rfu4 := rfu3.kept gu4 (by simp; omega)
              have hku4 := hku3.apart inu1 gu4 (by rintro ⟨h1 | h1, h2⟩; exact absurd (hX.2.2 _ h1) (by omega); omega)
              have z13u4 := z13u3.kept gu4 (by simp; omega)
              have bu4 := below_kept bu3 gu4 bu3.size (by rintro q hq; cases hq; omega)
              have zu4 := gu4.size
              refine hK _ _ ⟨rhu4, rfu4, fun j u hu => ((BW0.trans (bu4.mono BW0.size)).cell (by rw [block_of_add, block_of_add]; exact hlta)).trans (HCA.out j u hu)⟩ ?_
              clear hK K
              simp only [Act.put]
              refine plan_one _ rfl fun K hK => ?_
              refine step_store_all rfl _ _ _ rfl (wu2.heap.size) rfl _ _ z13u4 ((dvRs hw.s a (f)).cs) rfl (DvR.cs_one _) rfl (by kernel_rfl) ?_
              intro wu5 ru5 gu5
              have rhu5 := rhu4.kept gu5 (by simp; omega)
              have rfu5 := rfu4.kept gu5 (by simp; omega)
              have hku5 := hku4.apart inu1 gu5 (by rintro ⟨h1 | h1, h2⟩; exact absurd (hX.2.2 _ h1) (by omega); omega)
              have ra1u5 := ru4.kept gu5 (by simp; omega)
              have bu5 := below_kept bu4 gu5 bu4.size (by rintro q hq; cases hq; omega)
              have zu5 := gu5.size
              refine hK _ _ ⟨rhu5, rfu5, fun j u hu => ((BW0.trans (bu5.mono BW0.size)).cell (by rw [block_of_add, block_of_add]; exact hlta)).trans (HCA.out j u hu)⟩ ?_
              clear hK K
              simp only [Act.put]
              repeat (refine plan_take _ rfl ?_; (first | ((with_reducible refine wpQuiet_at ⟨some 31, _, _, _, _, _⟩ ?_); refine wpQuiet_valueG rfl _ (by intro _ hS; exact exec_loadH _ _ rfl (w.heap.size) rfl hw H16w.out hS.1) (wpQuiet_nil ?_); simp only [Act.put, List.setIfInBounds_toArray, List.set_cons_zero, List.set_cons_succ]) | ((with_reducible refine wpQuiet_at ⟨some 35, _, _, _, _, _⟩ ?_); refine wpQuiet_valueG rfl _ (by intro _ hS; exact exec_load _ 33 _ rfl (ad.add (i * 4)) rfl a.cs hS.2.2 _ Try.underlying33 rfl (by kernel_rfl)) (wpQuiet_nil ?_); simp only [Act.put, List.setIfInBounds_toArray, List.set_cons_zero, List.set_cons_succ]) | ((with_reducible refine wpQuiet_at ⟨some 36, _, _, _, _, _⟩ ?_); refine wpQuiet_valueG rfl _ (by intro _ hS; exact exec_loadT _ _ rfl (wr.heap.size) rfl (f) hS.2.1) (wpQuiet_nil ?_); simp only [Act.put, List.setIfInBounds_toArray, List.set_cons_zero, List.set_cons_succ]) | (go_big_quiet_step ((intros; rfl)); refine wpQuiet_nil ?_)))
              refine plan_done ?_
              go_wp2_with fail
              go_meet
              exact ⟨_, _, hu1, rfl, rfl, rfl, ra1u5, ru5, hku5, inu1.weak (fun q hq => by rcases hq with ⟨h1 | h1, h2⟩; exact .inl h1; exact .inr (by omega)), hsu1, by omega, by omega, by omega, bu5⟩
            · refine step_at _ rfl fun K hK => ?_
              refine step_alloc rfl _ rfl zeroR zero_rs ?_
              intro wu6 z13u6 su6 gu6
              have hu6 := grown_below gu6 (Nat.le_refl _) (by simp)
              have rhu6 := rhu1.on hu6
              have rfu6 := rfu1.on hu6
              have oku6 := oku1.on hu6
              have hku6 := hku1.on hu6
              have bu6 := bu1.trans (hu6.mono bu1.size)
              have zu6 := hu6.size
              refine hK _ _ ⟨rhu6, rfu6, fun j u hu => ((BW0.trans (bu6.mono BW0.size)).cell (by rw [block_of_add, block_of_add]; exact hlta)).trans (HCA.out j u hu)⟩ ?_
              clear hK K
              simp only [Act.put, List.setIfInBounds_toArray, List.set_cons_zero, List.set_cons_succ]
              refine plan_one _ rfl fun K hK => ?_
              refine step_alloc rfl _ rfl zeroH zero_hw ?_
              intro wu7 z12u7 su7 gu7
              have hu7 := grown_below gu7 (Nat.le_refl _) (by simp)
              have rhu7 := rhu6.on hu7
              have rfu7 := rfu6.on hu7
              have oku7 := oku6.on hu7
              have hku7 := hku6.on hu7
              have z13u7 := z13u6.on hu7
              have bu7 := bu6.trans (hu7.mono bu6.size)
              have zu7 := hu7.size
              refine hK _ _ ⟨rhu7, rfu7, fun j u hu => ((BW0.trans (bu7.mono BW0.size)).cell (by rw [block_of_add, block_of_add]; exact hlta)).trans (HCA.out j u hu)⟩ ?_
              clear hK K
              simp only [Act.put, List.setIfInBounds_toArray, List.set_cons_zero, List.set_cons_succ]
              refine plan_one _ rfl fun K hK => ?_
              refine step_store_all rfl _ _ _ rfl (wu6.heap.size) rfl _ _ z12u7 (hu1.cs) rfl (Hw.cs_one _) (hw_zl hku7.h16) (hw_size hku7.h16) ?_
              intro wu8 ru8 gu8
              have rhu8 := rhu7.kept gu8 (by simp; omega)
              have rfu8 := rfu7.kept gu8 (by simp; omega)
              have hku8 := hku7.apart inu1 gu8 (by rintro ⟨h1 | h1, h2⟩; exact absurd (hX.2.2 _ h1) (by omega); omega)
              have z13u8 := z13u7.kept gu8 (by simp; omega)
              have bu8 := below_kept bu7 gu8 bu7.size (by rintro q hq; cases hq; omega)
              have zu8 := gu8.size
              refine hK _ _ ⟨rhu8, rfu8, fun j u hu => ((BW0.trans (bu8.mono BW0.size)).cell (by rw [block_of_add, block_of_add]; exact hlta)).trans (HCA.out j u hu)⟩ ?_
              clear hK K
              simp only [Act.put]
              refine plan_one _ rfl fun K hK => ?_
              refine step_store_all rfl _ _ _ rfl (wu1.heap.size) rfl _ _ z13u8 ((dvRs hw.s a (f)).cs) rfl (DvR.cs_one _) rfl (by kernel_rfl) ?_
              intro wu9 ru9 gu9
              have rhu9 := rhu8.kept gu9 (by simp; omega)
              have rfu9 := rfu8.kept gu9 (by simp; omega)
              have hku9 := hku8.apart inu1 gu9 (by rintro ⟨h1 | h1, h2⟩; exact absurd (hX.2.2 _ h1) (by omega); omega)
              have ra1u9 := ru8.kept gu9 (by simp; omega)
              have bu9 := below_kept bu8 gu9 bu8.size (by rintro q hq; cases hq; omega)
              have zu9 := gu9.size
              refine hK _ _ ⟨rhu9, rfu9, fun j u hu => ((BW0.trans (bu9.mono BW0.size)).cell (by rw [block_of_add, block_of_add]; exact hlta)).trans (HCA.out j u hu)⟩ ?_
              clear hK K
              simp only [Act.put]
              repeat (refine plan_take _ rfl ?_; (first | ((with_reducible refine wpQuiet_at ⟨some 31, _, _, _, _, _⟩ ?_); refine wpQuiet_valueG rfl _ (by intro _ hS; exact exec_loadH _ _ rfl (w.heap.size) rfl hw H16w.out hS.1) (wpQuiet_nil ?_); simp only [Act.put, List.setIfInBounds_toArray, List.set_cons_zero, List.set_cons_succ]) | ((with_reducible refine wpQuiet_at ⟨some 35, _, _, _, _, _⟩ ?_); refine wpQuiet_valueG rfl _ (by intro _ hS; exact exec_load _ 33 _ rfl (ad.add (i * 4)) rfl a.cs hS.2.2 _ Try.underlying33 rfl (by kernel_rfl)) (wpQuiet_nil ?_); simp only [Act.put, List.setIfInBounds_toArray, List.set_cons_zero, List.set_cons_succ]) | ((with_reducible refine wpQuiet_at ⟨some 36, _, _, _, _, _⟩ ?_); refine wpQuiet_valueG rfl _ (by intro _ hS; exact exec_loadT _ _ rfl (wr.heap.size) rfl (f) hS.2.1) (wpQuiet_nil ?_); simp only [Act.put, List.setIfInBounds_toArray, List.set_cons_zero, List.set_cons_succ]) | (go_big_quiet_step ((intros; rfl)); refine wpQuiet_nil ?_)))
              refine plan_done ?_
              go_wp2_with fail
              go_meet
              exact ⟨_, _, hu1, rfl, rfl, rfl, ra1u9, ru9, hku9, inu1.weak (fun q hq => by rcases hq with ⟨h1 | h1, h2⟩; exact .inl h1; exact .inr (by omega)), hsu1, by omega, by omega, by omega, bu9⟩
          · refine step_at _ rfl fun K hK => ?_
            refine step_alloc rfl _ rfl zeroH zero_hw ?_
            intro wu10 z12u10 su10 gu10
            have hu10 := grown_below gu10 (Nat.le_refl _) (by simp)
            have rhu10 := rhd.on hu10
            have rfu10 := rfd.on hu10
            have oku10 := okd.on hu10
            have bu10 := b0.trans (hu10.mono b0.size)
            have zu10 := hu10.size
            refine hK _ _ ⟨rhu10, rfu10, fun j u hu => ((BW0.trans (bu10.mono BW0.size)).cell (by rw [block_of_add, block_of_add]; exact hlta)).trans (HCA.out j u hu)⟩ ?_
            clear hK K
            simp only [Act.put, List.setIfInBounds_toArray, List.set_cons_zero, List.set_cons_succ]
            refine plan_two ?_ ?_
            · refine step_at _ rfl fun K hK => ?_
              go_simp
              refine (HST (f) _ oku10).out.mono ?_
              rintro e wu11 ⟨hu11, rfl, hku11, hiu11, hsu11, hbu11⟩
              have inu11 := hiu11.and hku11.in_
              have rhu11 := rhu10.on hbu11
              have rfu11 := rfu10.on hbu11
              have oku11 := oku10.on hbu11
              have z12u11 := z12u10.on hbu11
              have bu11 := bu10.trans (hbu11.mono bu10.size)
              have zu11 := hbu11.size
              refine hK _ _ ⟨rhu11, rfu11, fun j u hu => ((BW0.trans (bu11.mono BW0.size)).cell (by rw [block_of_add, block_of_add]; exact hlta)).trans (HCA.out j u hu)⟩ ?_
              clear hK K
              repeat (refine plan_take _ rfl ?_; (first | ((with_reducible refine wpQuiet_at ⟨some 31, _, _, _, _, _⟩ ?_); refine wpQuiet_valueG rfl _ (by intro _ hS; exact exec_loadH _ _ rfl (w.heap.size) rfl hw H16w.out hS.1) (wpQuiet_nil ?_); simp only [Act.put, List.setIfInBounds_toArray, List.set_cons_zero, List.set_cons_succ]) | ((with_reducible refine wpQuiet_at ⟨some 35, _, _, _, _, _⟩ ?_); refine wpQuiet_valueG rfl _ (by intro _ hS; exact exec_load _ 33 _ rfl (ad.add (i * 4)) rfl a.cs hS.2.2 _ Try.underlying33 rfl (by kernel_rfl)) (wpQuiet_nil ?_); simp only [Act.put, List.setIfInBounds_toArray, List.set_cons_zero, List.set_cons_succ]) | ((with_reducible refine wpQuiet_at ⟨some 36, _, _, _, _, _⟩ ?_); refine wpQuiet_valueG rfl _ (by intro _ hS; exact exec_loadT _ _ rfl (wr.heap.size) rfl (f) hS.2.1) (wpQuiet_nil ?_); simp only [Act.put, List.setIfInBounds_toArray, List.set_cons_zero, List.set_cons_succ]) | (go_big_quiet_step ((intros; rfl)); refine wpQuiet_nil ?_)))
              refine plan_one _ rfl fun K hK => ?_
              refine step_alloc rfl _ rfl zeroR zero_rs ?_
              intro wu12 z13u12 su12 gu12
              have hu12 := grown_below gu12 (Nat.le_refl _) (by simp)
              have rhu12 := rhu11.on hu12
              have rfu12 := rfu11.on hu12
              have oku12 := oku11.on hu12
              have z12u12 := z12u11.on hu12
              have hku12 := hku11.on hu12
              have bu12 := bu11.trans (hu12.mono bu11.size)
              have zu12 := hu12.size
              refine hK _ _ ⟨rhu12, rfu12, fun j u hu => ((BW0.trans (bu12.mono BW0.size)).cell (by rw [block_of_add, block_of_add]; exact hlta)).trans (HCA.out j u hu)⟩ ?_
              clear hK K
              simp only [Act.put, List.setIfInBounds_toArray, List.set_cons_zero, List.set_cons_succ]
              refine plan_one _ rfl fun K hK => ?_
              refine step_store_all rfl _ _ _ rfl (wF.drew.heap.size) rfl _ _ z12u12 (hu11.cs) rfl (Hw.cs_one _) (hw_zl hku12.h16) (hw_size hku12.h16) ?_
              intro wu13 ru13 gu13
              have rhu13 := rhu12.kept gu13 (by simp; omega)
              have rfu13 := rfu12.kept gu13 (by simp; omega)
              have hku13 := hku12.apart inu11 gu13 (by rintro ⟨h1 | h1, h2⟩; exact absurd (hX.2.2 _ h1) (by omega); omega)
              have z13u13 := z13u12.kept gu13 (by simp; omega)
              have bu13 := below_kept bu12 gu13 bu12.size (by rintro q hq; cases hq; omega)
              have zu13 := gu13.size
              refine hK _ _ ⟨rhu13, rfu13, fun j u hu => ((BW0.trans (bu13.mono BW0.size)).cell (by rw [block_of_add, block_of_add]; exact hlta)).trans (HCA.out j u hu)⟩ ?_
              clear hK K
              simp only [Act.put]
              refine plan_one _ rfl fun K hK => ?_
              refine step_store_all rfl _ _ _ rfl (wu11.heap.size) rfl _ _ z13u13 ((dvRs hw.s a (f)).cs) rfl (DvR.cs_one _) rfl (by kernel_rfl) ?_
              intro wu14 ru14 gu14
              have rhu14 := rhu13.kept gu14 (by simp; omega)
              have rfu14 := rfu13.kept gu14 (by simp; omega)
              have hku14 := hku13.apart inu11 gu14 (by rintro ⟨h1 | h1, h2⟩; exact absurd (hX.2.2 _ h1) (by omega); omega)
              have ra1u14 := ru13.kept gu14 (by simp; omega)
              have bu14 := below_kept bu13 gu14 bu13.size (by rintro q hq; cases hq; omega)
              have zu14 := gu14.size
              refine hK _ _ ⟨rhu14, rfu14, fun j u hu => ((BW0.trans (bu14.mono BW0.size)).cell (by rw [block_of_add, block_of_add]; exact hlta)).trans (HCA.out j u hu)⟩ ?_
              clear hK K
              simp only [Act.put]
              repeat (refine plan_take _ rfl ?_; (first | ((with_reducible refine wpQuiet_at ⟨some 31, _, _, _, _, _⟩ ?_); refine wpQuiet_valueG rfl _ (by intro _ hS; exact exec_loadH _ _ rfl (w.heap.size) rfl hw H16w.out hS.1) (wpQuiet_nil ?_); simp only [Act.put, List.setIfInBounds_toArray, List.set_cons_zero, List.set_cons_succ]) | ((with_reducible refine wpQuiet_at ⟨some 35, _, _, _, _, _⟩ ?_); refine wpQuiet_valueG rfl _ (by intro _ hS; exact exec_load _ 33 _ rfl (ad.add (i * 4)) rfl a.cs hS.2.2 _ Try.underlying33 rfl (by kernel_rfl)) (wpQuiet_nil ?_); simp only [Act.put, List.setIfInBounds_toArray, List.set_cons_zero, List.set_cons_succ]) | ((with_reducible refine wpQuiet_at ⟨some 36, _, _, _, _, _⟩ ?_); refine wpQuiet_valueG rfl _ (by intro _ hS; exact exec_loadT _ _ rfl (wr.heap.size) rfl (f) hS.2.1) (wpQuiet_nil ?_); simp only [Act.put, List.setIfInBounds_toArray, List.set_cons_zero, List.set_cons_succ]) | (go_big_quiet_step ((intros; rfl)); refine wpQuiet_nil ?_)))
              refine plan_done ?_
              go_wp2_with fail
              go_meet
              exact ⟨_, _, hu11, rfl, rfl, rfl, ra1u14, ru14, hku14, inu11.weak (fun q hq => by rcases hq with ⟨h1 | h1, h2⟩; exact .inl h1; exact .inr (by omega)), hsu11, by omega, by omega, by omega, bu14⟩
            · refine step_at _ rfl fun K hK => ?_
              refine step_alloc rfl _ rfl zeroR zero_rs ?_
              intro wu15 z13u15 su15 gu15
              have hu15 := grown_below gu15 (Nat.le_refl _) (by simp)
              have rhu15 := rhu10.on hu15
              have rfu15 := rfu10.on hu15
              have oku15 := oku10.on hu15
              have z12u15 := z12u10.on hu15
              have bu15 := bu10.trans (hu15.mono bu10.size)
              have zu15 := hu15.size
              refine hK _ _ ⟨rhu15, rfu15, fun j u hu => ((BW0.trans (bu15.mono BW0.size)).cell (by rw [block_of_add, block_of_add]; exact hlta)).trans (HCA.out j u hu)⟩ ?_
              clear hK K
              simp only [Act.put, List.setIfInBounds_toArray, List.set_cons_zero, List.set_cons_succ]
              refine plan_one _ rfl fun K hK => ?_
              go_simp
              refine (HST (f) _ oku15).out.mono ?_
              rintro e wu16 ⟨hu16, rfl, hku16, hiu16, hsu16, hbu16⟩
              have inu16 := hiu16.and hku16.in_
              have rhu16 := rhu15.on hbu16
              have rfu16 := rfu15.on hbu16
              have oku16 := oku15.on hbu16
              have z12u16 := z12u15.on hbu16
              have z13u16 := z13u15.on hbu16
              have bu16 := bu15.trans (hbu16.mono bu15.size)
              have zu16 := hbu16.size
              refine hK _ _ ⟨rhu16, rfu16, fun j u hu => ((BW0.trans (bu16.mono BW0.size)).cell (by rw [block_of_add, block_of_add]; exact hlta)).trans (HCA.out j u hu)⟩ ?_
              clear hK K
              repeat (refine plan_take _ rfl ?_; (first | ((with_reducible refine wpQuiet_at ⟨some 31, _, _, _, _, _⟩ ?_); refine wpQuiet_valueG rfl _ (by intro _ hS; exact exec_loadH _ _ rfl (w.heap.size) rfl hw H16w.out hS.1) (wpQuiet_nil ?_); simp only [Act.put, List.setIfInBounds_toArray, List.set_cons_zero, List.set_cons_succ]) | ((with_reducible refine wpQuiet_at ⟨some 35, _, _, _, _, _⟩ ?_); refine wpQuiet_valueG rfl _ (by intro _ hS; exact exec_load _ 33 _ rfl (ad.add (i * 4)) rfl a.cs hS.2.2 _ Try.underlying33 rfl (by kernel_rfl)) (wpQuiet_nil ?_); simp only [Act.put, List.setIfInBounds_toArray, List.set_cons_zero, List.set_cons_succ]) | ((with_reducible refine wpQuiet_at ⟨some 36, _, _, _, _, _⟩ ?_); refine wpQuiet_valueG rfl _ (by intro _ hS; exact exec_loadT _ _ rfl (wr.heap.size) rfl (f) hS.2.1) (wpQuiet_nil ?_); simp only [Act.put, List.setIfInBounds_toArray, List.set_cons_zero, List.set_cons_succ]) | (go_big_quiet_step ((intros; rfl)); refine wpQuiet_nil ?_)))
              refine plan_one _ rfl fun K hK => ?_
              refine step_store_all rfl _ _ _ rfl (wF.drew.heap.size) rfl _ _ z12u16 (hu16.cs) rfl (Hw.cs_one _) (hw_zl hku16.h16) (hw_size hku16.h16) ?_
              intro wu17 ru17 gu17
              have rhu17 := rhu16.kept gu17 (by simp; omega)
              have rfu17 := rfu16.kept gu17 (by simp; omega)
              have z13u17 := z13u16.kept gu17 (by simp; omega)
              have hku17 := hku16.apart inu16 gu17 (by rintro ⟨h1 | h1, h2⟩; exact absurd (hX.2.2 _ h1) (by omega); omega)
              have bu17 := below_kept bu16 gu17 bu16.size (by rintro q hq; cases hq; omega)
              have zu17 := gu17.size
              refine hK _ _ ⟨rhu17, rfu17, fun j u hu => ((BW0.trans (bu17.mono BW0.size)).cell (by rw [block_of_add, block_of_add]; exact hlta)).trans (HCA.out j u hu)⟩ ?_
              clear hK K
              simp only [Act.put]
              refine plan_one _ rfl fun K hK => ?_
              refine step_store_all rfl _ _ _ rfl (wu10.heap.size) rfl _ _ z13u17 ((dvRs hw.s a (f)).cs) rfl (DvR.cs_one _) rfl (by kernel_rfl) ?_
              intro wu18 ru18 gu18
              have rhu18 := rhu17.kept gu18 (by simp; omega)
              have rfu18 := rfu17.kept gu18 (by simp; omega)
              have hku18 := hku17.apart inu16 gu18 (by rintro ⟨h1 | h1, h2⟩; exact absurd (hX.2.2 _ h1) (by omega); omega)
              have ra1u18 := ru17.kept gu18 (by simp; omega)
              have bu18 := below_kept bu17 gu18 bu17.size (by rintro q hq; cases hq; omega)
              have zu18 := gu18.size
              refine hK _ _ ⟨rhu18, rfu18, fun j u hu => ((BW0.trans (bu18.mono BW0.size)).cell (by rw [block_of_add, block_of_add]; exact hlta)).trans (HCA.out j u hu)⟩ ?_
              clear hK K
              simp only [Act.put]
              repeat (refine plan_take _ rfl ?_; (first | ((with_reducible refine wpQuiet_at ⟨some 31, _, _, _, _, _⟩ ?_); refine wpQuiet_valueG rfl _ (by intro _ hS; exact exec_loadH _ _ rfl (w.heap.size) rfl hw H16w.out hS.1) (wpQuiet_nil ?_); simp only [Act.put, List.setIfInBounds_toArray, List.set_cons_zero, List.set_cons_succ]) | ((with_reducible refine wpQuiet_at ⟨some 35, _, _, _, _, _⟩ ?_); refine wpQuiet_valueG rfl _ (by intro _ hS; exact exec_load _ 33 _ rfl (ad.add (i * 4)) rfl a.cs hS.2.2 _ Try.underlying33 rfl (by kernel_rfl)) (wpQuiet_nil ?_); simp only [Act.put, List.setIfInBounds_toArray, List.set_cons_zero, List.set_cons_succ]) | ((with_reducible refine wpQuiet_at ⟨some 36, _, _, _, _, _⟩ ?_); refine wpQuiet_valueG rfl _ (by intro _ hS; exact exec_loadT _ _ rfl (wr.heap.size) rfl (f) hS.2.1) (wpQuiet_nil ?_); simp only [Act.put, List.setIfInBounds_toArray, List.set_cons_zero, List.set_cons_succ]) | (go_big_quiet_step ((intros; rfl)); refine wpQuiet_nil ?_)))
              refine plan_done ?_
              go_wp2_with fail
              go_meet
              exact ⟨_, _, hu16, rfl, rfl, rfl, ra1u18, ru18, hku18, inu16.weak (fun q hq => by rcases hq with ⟨h1 | h1, h2⟩; exact .inl h1; exact .inr (by omega)), hsu16, by omega, by omega, by omega, bu18⟩
          · refine step_at _ rfl fun K hK => ?_
            refine step_alloc rfl _ rfl zeroR zero_rs ?_
            intro wu19 z13u19 su19 gu19
            have hu19 := grown_below gu19 (Nat.le_refl _) (by simp)
            have rhu19 := rhd.on hu19
            have rfu19 := rfd.on hu19
            have oku19 := okd.on hu19
            have bu19 := b0.trans (hu19.mono b0.size)
            have zu19 := hu19.size
            refine hK _ _ ⟨rhu19, rfu19, fun j u hu => ((BW0.trans (bu19.mono BW0.size)).cell (by rw [block_of_add, block_of_add]; exact hlta)).trans (HCA.out j u hu)⟩ ?_
            clear hK K
            simp only [Act.put, List.setIfInBounds_toArray, List.set_cons_zero, List.set_cons_succ]
            refine plan_two ?_ ?_
            · refine step_at _ rfl fun K hK => ?_
              go_simp
              refine (HST (f) _ oku19).out.mono ?_
              rintro e wu20 ⟨hu20, rfl, hku20, hiu20, hsu20, hbu20⟩
              have inu20 := hiu20.and hku20.in_
              have rhu20 := rhu19.on hbu20
              have rfu20 := rfu19.on hbu20
              have oku20 := oku19.on hbu20
              have z13u20 := z13u19.on hbu20
              have bu20 := bu19.trans (hbu20.mono bu19.size)
              have zu20 := hbu20.size
              refine hK _ _ ⟨rhu20, rfu20, fun j u hu => ((BW0.trans (bu20.mono BW0.size)).cell (by rw [block_of_add, block_of_add]; exact hlta)).trans (HCA.out j u hu)⟩ ?_
              clear hK K
              repeat (refine plan_take _ rfl ?_; (first | ((with_reducible refine wpQuiet_at ⟨some 31, _, _, _, _, _⟩ ?_); refine wpQuiet_valueG rfl _ (by intro _ hS; exact exec_loadH _ _ rfl (w.heap.size) rfl hw H16w.out hS.1) (wpQuiet_nil ?_); simp only [Act.put, List.setIfInBounds_toArray, List.set_cons_zero, List.set_cons_succ]) | ((with_reducible refine wpQuiet_at ⟨some 35, _, _, _, _, _⟩ ?_); refine wpQuiet_valueG rfl _ (by intro _ hS; exact exec_load _ 33 _ rfl (ad.add (i * 4)) rfl a.cs hS.2.2 _ Try.underlying33 rfl (by kernel_rfl)) (wpQuiet_nil ?_); simp only [Act.put, List.setIfInBounds_toArray, List.set_cons_zero, List.set_cons_succ]) | ((with_reducible refine wpQuiet_at ⟨some 36, _, _, _, _, _⟩ ?_); refine wpQuiet_valueG rfl _ (by intro _ hS; exact exec_loadT _ _ rfl (wr.heap.size) rfl (f) hS.2.1) (wpQuiet_nil ?_); simp only [Act.put, List.setIfInBounds_toArray, List.set_cons_zero, List.set_cons_succ]) | (go_big_quiet_step ((intros; rfl)); refine wpQuiet_nil ?_)))
              refine plan_one _ rfl fun K hK => ?_
              refine step_alloc rfl _ rfl zeroH zero_hw ?_
              intro wu21 z12u21 su21 gu21
              have hu21 := grown_below gu21 (Nat.le_refl _) (by simp)
              have rhu21 := rhu20.on hu21
              have rfu21 := rfu20.on hu21
              have oku21 := oku20.on hu21
              have z13u21 := z13u20.on hu21
              have hku21 := hku20.on hu21
              have bu21 := bu20.trans (hu21.mono bu20.size)
              have zu21 := hu21.size
              refine hK _ _ ⟨rhu21, rfu21, fun j u hu => ((BW0.trans (bu21.mono BW0.size)).cell (by rw [block_of_add, block_of_add]; exact hlta)).trans (HCA.out j u hu)⟩ ?_
              clear hK K
              simp only [Act.put, List.setIfInBounds_toArray, List.set_cons_zero, List.set_cons_succ]
              refine plan_one _ rfl fun K hK => ?_
              refine step_store_all rfl _ _ _ rfl (wu20.heap.size) rfl _ _ z12u21 (hu20.cs) rfl (Hw.cs_one _) (hw_zl hku21.h16) (hw_size hku21.h16) ?_
              intro wu22 ru22 gu22
              have rhu22 := rhu21.kept gu22 (by simp; omega)
              have rfu22 := rfu21.kept gu22 (by simp; omega)
              have z13u22 := z13u21.kept gu22 (by simp; omega)
              have hku22 := hku21.apart inu20 gu22 (by rintro ⟨h1 | h1, h2⟩; exact absurd (hX.2.2 _ h1) (by omega); omega)
              have bu22 := below_kept bu21 gu22 bu21.size (by rintro q hq; cases hq; omega)
              have zu22 := gu22.size
              refine hK _ _ ⟨rhu22, rfu22, fun j u hu => ((BW0.trans (bu22.mono BW0.size)).cell (by rw [block_of_add, block_of_add]; exact hlta)).trans (HCA.out j u hu)⟩ ?_
              clear hK K
              simp only [Act.put]
              refine plan_one _ rfl fun K hK => ?_
              refine step_store_all rfl _ _ _ rfl (wF.drew.heap.size) rfl _ _ z13u22 ((dvRs hw.s a (f)).cs) rfl (DvR.cs_one _) rfl (by kernel_rfl) ?_
              intro wu23 ru23 gu23
              have rhu23 := rhu22.kept gu23 (by simp; omega)
              have rfu23 := rfu22.kept gu23 (by simp; omega)
              have hku23 := hku22.apart inu20 gu23 (by rintro ⟨h1 | h1, h2⟩; exact absurd (hX.2.2 _ h1) (by omega); omega)
              have ra1u23 := ru22.kept gu23 (by simp; omega)
              have bu23 := below_kept bu22 gu23 bu22.size (by rintro q hq; cases hq; omega)
              have zu23 := gu23.size
              refine hK _ _ ⟨rhu23, rfu23, fun j u hu => ((BW0.trans (bu23.mono BW0.size)).cell (by rw [block_of_add, block_of_add]; exact hlta)).trans (HCA.out j u hu)⟩ ?_
              clear hK K
              simp only [Act.put]
              repeat (refine plan_take _ rfl ?_; (first | ((with_reducible refine wpQuiet_at ⟨some 31, _, _, _, _, _⟩ ?_); refine wpQuiet_valueG rfl _ (by intro _ hS; exact exec_loadH _ _ rfl (w.heap.size) rfl hw H16w.out hS.1) (wpQuiet_nil ?_); simp only [Act.put, List.setIfInBounds_toArray, List.set_cons_zero, List.set_cons_succ]) | ((with_reducible refine wpQuiet_at ⟨some 35, _, _, _, _, _⟩ ?_); refine wpQuiet_valueG rfl _ (by intro _ hS; exact exec_load _ 33 _ rfl (ad.add (i * 4)) rfl a.cs hS.2.2 _ Try.underlying33 rfl (by kernel_rfl)) (wpQuiet_nil ?_); simp only [Act.put, List.setIfInBounds_toArray, List.set_cons_zero, List.set_cons_succ]) | ((with_reducible refine wpQuiet_at ⟨some 36, _, _, _, _, _⟩ ?_); refine wpQuiet_valueG rfl _ (by intro _ hS; exact exec_loadT _ _ rfl (wr.heap.size) rfl (f) hS.2.1) (wpQuiet_nil ?_); simp only [Act.put, List.setIfInBounds_toArray, List.set_cons_zero, List.set_cons_succ]) | (go_big_quiet_step ((intros; rfl)); refine wpQuiet_nil ?_)))
              refine plan_done ?_
              go_wp2_with fail
              go_meet
              exact ⟨_, _, hu20, rfl, rfl, rfl, ra1u23, ru23, hku23, inu20.weak (fun q hq => by rcases hq with ⟨h1 | h1, h2⟩; exact .inl h1; exact .inr (by omega)), hsu20, by omega, by omega, by omega, bu23⟩
            · refine step_at _ rfl fun K hK => ?_
              refine step_alloc rfl _ rfl zeroH zero_hw ?_
              intro wu24 z12u24 su24 gu24
              have hu24 := grown_below gu24 (Nat.le_refl _) (by simp)
              have rhu24 := rhu19.on hu24
              have rfu24 := rfu19.on hu24
              have oku24 := oku19.on hu24
              have z13u24 := z13u19.on hu24
              have bu24 := bu19.trans (hu24.mono bu19.size)
              have zu24 := hu24.size
              refine hK _ _ ⟨rhu24, rfu24, fun j u hu => ((BW0.trans (bu24.mono BW0.size)).cell (by rw [block_of_add, block_of_add]; exact hlta)).trans (HCA.out j u hu)⟩ ?_
              clear hK K
              simp only [Act.put, List.setIfInBounds_toArray, List.set_cons_zero, List.set_cons_succ]
              refine plan_one _ rfl fun K hK => ?_
              go_simp
              refine (HST (f) _ oku24).out.mono ?_
              rintro e wu25 ⟨hu25, rfl, hku25, hiu25, hsu25, hbu25⟩
              have inu25 := hiu25.and hku25.in_
              have rhu25 := rhu24.on hbu25
              have rfu25 := rfu24.on hbu25
              have oku25 := oku24.on hbu25
              have z13u25 := z13u24.on hbu25
              have z12u25 := z12u24.on hbu25
              have bu25 := bu24.trans (hbu25.mono bu24.size)
              have zu25 := hbu25.size
              refine hK _ _ ⟨rhu25, rfu25, fun j u hu => ((BW0.trans (bu25.mono BW0.size)).cell (by rw [block_of_add, block_of_add]; exact hlta)).trans (HCA.out j u hu)⟩ ?_
              clear hK K
              repeat (refine plan_take _ rfl ?_; (first | ((with_reducible refine wpQuiet_at ⟨some 31, _, _, _, _, _⟩ ?_); refine wpQuiet_valueG rfl _ (by intro _ hS; exact exec_loadH _ _ rfl (w.heap.size) rfl hw H16w.out hS.1) (wpQuiet_nil ?_); simp only [Act.put, List.setIfInBounds_toArray, List.set_cons_zero, List.set_cons_succ]) | ((with_reducible refine wpQuiet_at ⟨some 35, _, _, _, _, _⟩ ?_); refine wpQuiet_valueG rfl _ (by intro _ hS; exact exec_load _ 33 _ rfl (ad.add (i * 4)) rfl a.cs hS.2.2 _ Try.underlying33 rfl (by kernel_rfl)) (wpQuiet_nil ?_); simp only [Act.put, List.setIfInBounds_toArray, List.set_cons_zero, List.set_cons_succ]) | ((with_reducible refine wpQuiet_at ⟨some 36, _, _, _, _, _⟩ ?_); refine wpQuiet_valueG rfl _ (by intro _ hS; exact exec_loadT _ _ rfl (wr.heap.size) rfl (f) hS.2.1) (wpQuiet_nil ?_); simp only [Act.put, List.setIfInBounds_toArray, List.set_cons_zero, List.set_cons_succ]) | (go_big_quiet_step ((intros; rfl)); refine wpQuiet_nil ?_)))
              refine plan_one _ rfl fun K hK => ?_
              refine step_store_all rfl _ _ _ rfl (wu19.heap.size) rfl _ _ z12u25 (hu25.cs) rfl (Hw.cs_one _) (hw_zl hku25.h16) (hw_size hku25.h16) ?_
              intro wu26 ru26 gu26
              have rhu26 := rhu25.kept gu26 (by simp; omega)
              have rfu26 := rfu25.kept gu26 (by simp; omega)
              have z13u26 := z13u25.kept gu26 (by simp; omega)
              have hku26 := hku25.apart inu25 gu26 (by rintro ⟨h1 | h1, h2⟩; exact absurd (hX.2.2 _ h1) (by omega); omega)
              have bu26 := below_kept bu25 gu26 bu25.size (by rintro q hq; cases hq; omega)
              have zu26 := gu26.size
              refine hK _ _ ⟨rhu26, rfu26, fun j u hu => ((BW0.trans (bu26.mono BW0.size)).cell (by rw [block_of_add, block_of_add]; exact hlta)).trans (HCA.out j u hu)⟩ ?_
              clear hK K
              simp only [Act.put]
              refine plan_one _ rfl fun K hK => ?_
              refine step_store_all rfl _ _ _ rfl (wF.drew.heap.size) rfl _ _ z13u26 ((dvRs hw.s a (f)).cs) rfl (DvR.cs_one _) rfl (by kernel_rfl) ?_
              intro wu27 ru27 gu27
              have rhu27 := rhu26.kept gu27 (by simp; omega)
              have rfu27 := rfu26.kept gu27 (by simp; omega)
              have hku27 := hku26.apart inu25 gu27 (by rintro ⟨h1 | h1, h2⟩; exact absurd (hX.2.2 _ h1) (by omega); omega)
              have ra1u27 := ru26.kept gu27 (by simp; omega)
              have bu27 := below_kept bu26 gu27 bu26.size (by rintro q hq; cases hq; omega)
              have zu27 := gu27.size
              refine hK _ _ ⟨rhu27, rfu27, fun j u hu => ((BW0.trans (bu27.mono BW0.size)).cell (by rw [block_of_add, block_of_add]; exact hlta)).trans (HCA.out j u hu)⟩ ?_
              clear hK K
              simp only [Act.put]
              repeat (refine plan_take _ rfl ?_; (first | ((with_reducible refine wpQuiet_at ⟨some 31, _, _, _, _, _⟩ ?_); refine wpQuiet_valueG rfl _ (by intro _ hS; exact exec_loadH _ _ rfl (w.heap.size) rfl hw H16w.out hS.1) (wpQuiet_nil ?_); simp only [Act.put, List.setIfInBounds_toArray, List.set_cons_zero, List.set_cons_succ]) | ((with_reducible refine wpQuiet_at ⟨some 35, _, _, _, _, _⟩ ?_); refine wpQuiet_valueG rfl _ (by intro _ hS; exact exec_load _ 33 _ rfl (ad.add (i * 4)) rfl a.cs hS.2.2 _ Try.underlying33 rfl (by kernel_rfl)) (wpQuiet_nil ?_); simp only [Act.put, List.setIfInBounds_toArray, List.set_cons_zero, List.set_cons_succ]) | ((with_reducible refine wpQuiet_at ⟨some 36, _, _, _, _, _⟩ ?_); refine wpQuiet_valueG rfl _ (by intro _ hS; exact exec_loadT _ _ rfl (wr.heap.size) rfl (f) hS.2.1) (wpQuiet_nil ?_); simp only [Act.put, List.setIfInBounds_toArray, List.set_cons_zero, List.set_cons_succ]) | (go_big_quiet_step ((intros; rfl)); refine wpQuiet_nil ?_)))
              refine plan_done ?_
              go_wp2_with fail
              go_meet
              exact ⟨_, _, hu25, rfl, rfl, rfl, ra1u27, ru27, hku27, inu25.weak (fun q hq => by rcases hq with ⟨h1 | h1, h2⟩; exact .inl h1; exact .inr (by omega)), hsu25, by omega, by omega, by omega, bu27⟩
        case rest =>
          revert wc
          intro wc hcut
          obtain ⟨ga, gr, h2, rfl, rfl, rfl, ra2, rr2, hk2, hi2, hs2, hga, hgr, hne, hbc⟩ := hcut
          have HS2 := Lib.hid hs2
          have H16b := Lib.hid hk2.h16
          clear hs2
          have lcur : wr.heap.size ≤ wF.heap.size := kF.size
          have lrf := rfF.lt
          have Bc := kF.trans (hbc.mono kF.size)
          have hk_c := hkF.on hbc
          have rh_c := rhF.on hbc
          have z6_c := z6F.on hbc
          have rf_c := rfF.on hbc
          have ow_c := own_below owF hbc
          have lbc := hbc.size
          have in2 := hi2.and hk2.in_
          have nX2 : ∀ q, ¬ X q → q < wF.heap.size → ¬ ((X q ∨ (wF.heap.size ≤ q ∧ q ≠ ga ∧ q ≠ gr)) ∧ q < wc.heap.size) := fun q h1 h2 h3 => by rcases h3.1 with h4 | h4; exact h1 h4; omega
          have BC : Below w.heap.size w wc := hB.trans (Bc.mono hB.size)
          by_cases he : dvErr hw.s a = 0
          rotate_left
          · have HEND : Hid (R = (hw.s, rs, dvErr hw.s a)) := Lib.hid (by rw [HINV.out]; exact dvAt_err HAI.out he)
            have hq : (dvErr hw.s a != 0) = true := by simpa using he
            generalize dvErr hw.s a = E at *
            clear he
            go_wp2_with (first
              | ((with_reducible refine wpList_at ⟨some 43, _, _, _, _, _⟩ ?_); refine wpList_valueG rfl _ (by exact exec_loadH _ _ rfl w.heap.size rfl hw H16w.out rh_c) ?_)
              | ((with_reducible refine wpList_at ⟨none, .store _ (.tmp 6) _, _, _, _, _⟩ ?_); refine wpList_store_all rfl _ _ _ rfl (w1.heap.size) rfl _ _ z6_c (hw).cs rfl (Hw.cs_one _) (hw_zl H16w.out) (hw_size H16w.out) ?_; intro wY rY gY))
            have hkY := hk_c.apart hin gY hX.2.1
            have owY := ow_c.kept gY (.inr (z6_c.not_row7 (by decide) ow_c).symm)
            obtain ⟨AY, cY, rfl, _, _, rdY⟩ := own_form owY
            refine bodyPost_ret (results_c3 Try.results17 _ _ _ _ rfl (load_hw rY H16w.out)) rfl ⟨hw, AY, rs.length, cY, by rw [HEND.out]; rfl, hkY, by rw [HEND.out], by rw [HEND.out]; exact rdY, by rw [HEND.out], below_kept BC gY BC.size (by rintro q hq; cases hq; omega)⟩
          · rw [he]
            cases hc : (f).cut with
            | true =>
              have HEND : Hid (R = (dvSt hw.s a (f), rs, 0)) := Lib.hid (by have := dvAt_cut (rs := rs) HAI.out he (HFV.out ▸ hc); rw [HINV.out, this, HFV.out])
              clear he
              go_wp2_with (first
                | ((with_reducible refine wpList_at ⟨some 46, _, _, _, _, _⟩ ?_); refine wpList_valueG rfl _ (by exact exec_loadH _ _ rfl ga rfl h2 H16b.out ra2) ?_)
                | ((with_reducible refine wpList_at ⟨none, .store _ (.tmp 3) _, _, _, _, _⟩ ?_); refine wpList_store_all rfl _ _ _ rfl w.heap.size rfl _ _ rh_c (h2.cs) rfl (Hw.cs_one _) (by rw [Hw.cs_len H16w.out, Hw.cs_len H16b.out]) (hw_size H16b.out) ?_; intro wS2 rhS2 gS2; have z6S2 := z6_c.kept gS2 (by simp; omega); have rrS2 := rr2.kept gS2 (by simp; omega); have rfS2 := rf_c.kept gS2 (by simp; omega); have cf0 := rfS2.cell (j := 0) rfl)
                | ((with_reducible refine wpList_at ⟨some 49, _, _, _, _, _⟩ ?_); refine wpList_valueG rfl _ (by exact exec_loadH _ _ rfl w.heap.size rfl h2 H16b.out rhS2) ?_)
                | ((with_reducible refine wpList_at ⟨none, .store _ (.tmp 6) _, _, _, _, _⟩ ?_); refine wpList_store_all rfl _ _ _ rfl (w1.heap.size) rfl _ _ z6S2 (h2).cs rfl (Hw.cs_one _) (hw_zl H16b.out) (hw_size H16b.out) ?_; intro wY rY gY))
              have owS2 := ow_c.kept gS2 (.inr (rh_c.not_row7 (by decide) ow_c).symm)
              have hkS2 := hk2.apart in2 gS2 (nX2 _ hX.1 (by omega))
              have BS2 := below_kept BC gS2 BC.size (by rintro q hq; cases hq; exact Nat.le_refl _)
              have lS2 := gS2.size
              have hkY := hkS2.apart in2 gY (nX2 _ hX.2.1 (by omega))
              have owY := owS2.kept gY (.inr (z6S2.not_row7 (by decide) owS2).symm)
              obtain ⟨AY, cY, rfl, _, _, rdY⟩ := own_form owY
              refine bodyPost_ret (results_c3 Try.results17 _ _ _ _ rfl (load_hw rY H16b.out)) rfl ⟨h2, AY, rs.length, cY, by rw [HEND.out]; rfl, hkY, by rw [HEND.out]; exact HS2.out, by rw [HEND.out]; exact rdY, by rw [HEND.out], below_kept BS2 gY BS2.size (by rintro q hq; cases hq; omega)⟩
            | false =>
              have HEND : Hid (R = dvAll (dvSt hw.s a (f)) (rs ++ [dvRs hw.s a (f)]) (l.drop (i + 1)) (fl.drop (i + 1))) := Lib.hid (by have := dvAt_go (rs := rs) HAI.out he (HFV.out ▸ hc); rw [HINV.out, this, HFV.out])
              clear he
              go_wp2_with (first
                | ((with_reducible refine wpList_at ⟨some 46, _, _, _, _, _⟩ ?_); refine wpList_valueG rfl _ (by exact exec_loadH _ _ rfl ga rfl h2 H16b.out ra2) ?_)
                | ((with_reducible refine wpList_at ⟨none, .store _ (.tmp 3) _, _, _, _, _⟩ ?_); refine wpList_store_all rfl _ _ _ rfl w.heap.size rfl _ _ rh_c (h2.cs) rfl (Hw.cs_one _) (by rw [Hw.cs_len H16w.out, Hw.cs_len H16b.out]) (hw_size H16b.out) ?_; intro wS2 rhS2 gS2; have z6S2 := z6_c.kept gS2 (by simp; omega); have rrS2 := rr2.kept gS2 (by simp; omega); have rfS2 := rf_c.kept gS2 (by simp; omega); have cf0 := rfS2.cell (j := 0) rfl)
                | ((with_reducible refine wpList_at ⟨some 52, _, _, _, _, _⟩ ?_); refine wpList_valueG rfl _ (by exact exec_loadR _ _ rfl gr rfl (dvRs hw.s a (f)) rrS2) ?_)
                | (refine wpList_valueW (o := ⟨some 53, _, _, _, _, _⟩) rfl _ (by exact exec_slice1 _ 50 40 _ rfl Try.underlying50 i0 _ hi0 hz0 (dvRs hw.s a (f)).cs (by rw [hz1]; rfl) (by show 0 < 2; decide) (by show 2 ≤ 1000; decide) rfl) ?_)
                | (at_builtin; have bx : Below wS2.heap.size wS2 (wS2.alloc (.cells (dvRs hw.s a (f)).cs.toArray 40)) := (Below.refl _ _).alloc (Nat.le_refl _) _; have owx := own_below (ow_c.kept gS2 (.inr (rh_c.not_row7 (by decide) ow_c).symm)) bx; have rhx := rhS2.on bx; have z6x := z6S2.on bx; refine wpList_append_at9 rfl (.tmp 51) (.tmp 53) _ _ rfl w.heap.size 40 i0 _ 2 24 Try.underlying50 hi0 hz0 hz1 hz2 rfl _ _ _ rfl owx 1 (dvRs hw.s a (f)).cs (boxRow9 Try.underlying50 _ _ _ 2 rfl (DvR.cs_one _) _) (by unfold maxLen; have := HRL.out; omega) (by have := HRL.out; omega) (by have := rhx.lt; omega) ?_; intro vA wA owA gA obA; have rhA := rhx.kept gA (rhx.not_row7 (by decide) owx); have z6A := z6x.kept gA (z6x.not_row7 (by decide) owx)))
              have owS2 := ow_c.kept gS2 (.inr (rh_c.not_row7 (by decide) ow_c).symm)
              have hkS2 := hk2.apart in2 gS2 (nX2 _ hX.1 (by omega))
              have BS2 := below_kept BC gS2 BC.size (by rintro q hq; cases hq; exact Nat.le_refl _)
              have lS2 := gS2.size
              have hkx := hkS2.on bx
              have hbx := bx.size
              have nOW : ∀ k, u9.ownBlock = some k → ¬ ((X k ∨ (wF.heap.size ≤ k ∧ k ≠ ga ∧ k ≠ gr)) ∧ k < wc.heap.size) := fun k hk0 => nX2 k (hob k hk0) (by have := (ow.lt k hk0).2; omega)
              have hkA := hkx.apartO in2 gA (fun k hk0 => nOW k hk0)
              have BA := below_kept (BS2.trans (bx.mono BS2.size)) gA (Nat.le_trans BS2.size hbx) (by rintro q hq; exact (ow.lt q hq).1)
              have lA := gA.size
              go_roundg (gk - 1)
              case measure => have := HI.out; omega
              case rel => exact ⟨i + 1, h2, _, rs ++ [(dvRs hw.s a (f))], by have := HI.out; show _ = _; omega, by omega, by go_num, by show _ = _; rw [HEND.out, HS2.out], rhA, z6A, hkA, in2, ⟨nX2 _ hX.1 (by omega), nX2 _ hX.2.1 (by omega), fun q hq => by omega⟩, by show dvSm _; rw [HS2.out]; exact dvSt_sm HM.out, by rw [List.length_append, List.flatMap_append]; simpa using owA, fun k hk0 => by rcases obA with e | e; exact nOW k (e.symm.trans hk0); (rw [e] at hk0; cases hk0; omega), by show _ = _; rw [List.length_append, HRL.out]; rfl, BA⟩
      · have HFV := Lib.hid (dvFl_out (fl := fl) (i := i) (by rw [HFN.out]; omega))
        go_wp2_with (first
          | (with_reducible refine wpList_alloc_row (o := ⟨some 11, _, _, _, _, _⟩) rfl _ rfl zeroT zero_ft ?_; intro w101 r101 s101 g101)
          | ((with_reducible refine wpList_at ⟨none, .store _ (.tmp 11) _, _, _, _, _⟩ ?_); refine wpList_store_all rfl _ _ _ rfl wr.heap.size rfl _ _ r101 (noF.cs) rfl (noF.cs_one) rfl (by kernel_rfl) ?_; intro w102 rf_102 g102; have k102 : Below wr.heap.size wr w102 := below_kept (grown_below g101 (Nat.le_refl _) (by simp)) g102 (Nat.le_of_lt s101) (by rintro q hq; cases hq; exact Nat.le_refl _); have B102 : Below wr.heap.size wr w102 := k102; have hk_102 := hk.on k102; have rh_102 := rh.on k102; have z6_102 := z6.on k102; have ow_102 := own_below ow k102; clear r101 g101 g102; have s102 := rf_102.lt))
        try simp only [Act.put, List.setIfInBounds_toArray, List.set_cons_zero, List.set_cons_succ]
        go_cut [12, 13, 14] (fun s1 s2 s3 wc => ∃ ga gr h2, s1 = .pointer (some ⟨ga, 0, none⟩) ∧ s2 = .pointer (some ⟨gr, 0, none⟩) ∧ s3 = .int .i64 (dvErr hw.s a) ∧ Row wc ga 31 h2.cs ∧ Row wc gr 40 (dvRs hw.s a noF).cs ∧ HwOK wc h2 ∧ HwIn (fun q => X q ∨ (w102.heap.size ≤ q ∧ q ≠ ga ∧ q ≠ gr)) h2 ∧ h2.s = dvSt hw.s a noF ∧ w102.heap.size ≤ ga ∧ w102.heap.size ≤ gr ∧ ga ≠ gr ∧ Below w102.heap.size w102 wc)
        case first =>
          have b0 : Below w102.heap.size w102 w102.drew := (Below.refl _ _).drew
          have z0 : w102.drew.heap.size = w102.heap.size := rfl
          have BW0 : Below w.heap.size w w102 := hB.trans (B102.mono hB.size)
          have rhd := rh_102.drew
          have lrh := rh_102.lt
          have rfd := rf_102.drew
          have lrf := rf_102.lt
          have okd : HwOK w102.drew hw := hk_102
          have lcur : wr.heap.size ≤ w102.heap.size := B102.size
          refine wp_region_plan (fun w' => Row w' (w.heap.size) 31 hw.cs ∧ Row w' (wr.heap.size) 35 (noF).cs ∧ (∀ j u, a.cs[j]? = some u → w'.cell? ((ad.add (i * 4)).add j) = some u)) (.take 0 <| .take 1 <| .take 2 <| .take 3 <| .take 4 <| .take 5 <| .three 6 (.take 7 <| .take 8 <| .take 9 <| .take 10 <| .two 11 (.one 12 <| .one 13 <| .one 14 <| .take 15 <| .done) 12 (.one 11 <| .one 13 <| .one 14 <| .take 15 <| .done)) 11 (.two 6 (.take 7 <| .take 8 <| .take 9 <| .take 10 <| .one 12 <| .one 13 <| .one 14 <| .take 15 <| .done) 12 (.one 6 <| .take 7 <| .take 8 <| .take 9 <| .take 10 <| .one 13 <| .one 14 <| .take 15 <| .done)) 12 (.two 6 (.take 7 <| .take 8 <| .take 9 <| .take 10 <| .one 11 <| .one 13 <| .one 14 <| .take 15 <| .done) 11 (.one 6 <| .take 7 <| .take 8 <| .take 9 <| .take 10 <| .one 13 <| .one 14 <| .take 15 <| .done))) (by kernel_rfl) (by kernel_rfl) (by kernel_rfl) (fun _ _ _ _ _ h => h) ⟨rhd, rfd, fun j u hu => ((BW0.trans (b0.mono BW0.size)).cell (by rw [block_of_add, block_of_add]; exact hlta)).trans (HCA.out j u hu)⟩ ?_
          repeat (refine plan_take _ rfl ?_; (first | ((with_reducible refine wpQuiet_at ⟨some 31, _, _, _, _, _⟩ ?_); refine wpQuiet_valueG rfl _ (by intro _ hS; exact exec_loadH _ _ rfl (w.heap.size) rfl hw H16w.out hS.1) (wpQuiet_nil ?_); simp only [Act.put, List.setIfInBounds_toArray, List.set_cons_zero, List.set_cons_succ]) | ((with_reducible refine wpQuiet_at ⟨some 35, _, _, _, _, _⟩ ?_); refine wpQuiet_valueG rfl _ (by intro _ hS; exact exec_load _ 33 _ rfl (ad.add (i * 4)) rfl a.cs hS.2.2 _ Try.underlying33 rfl (by kernel_rfl)) (wpQuiet_nil ?_); simp only [Act.put, List.setIfInBounds_toArray, List.set_cons_zero, List.set_cons_succ]) | ((with_reducible refine wpQuiet_at ⟨some 36, _, _, _, _, _⟩ ?_); refine wpQuiet_valueG rfl _ (by intro _ hS; exact exec_loadT _ _ rfl (wr.heap.size) rfl (noF) hS.2.1) (wpQuiet_nil ?_); simp only [Act.put, List.setIfInBounds_toArray, List.set_cons_zero, List.set_cons_succ]) | (go_big_quiet_step ((intros; rfl)); refine wpQuiet_nil ?_)))
          refine plan_three ?_ ?_ ?_
          · refine step_at _ rfl fun K hK => ?_
            go_simp
            refine (HST (noF) _ okd).out.mono ?_
            rintro e wu28 ⟨hu28, rfl, hku28, hiu28, hsu28, hbu28⟩
            have inu28 := hiu28.and hku28.in_
            have rhu28 := rhd.on hbu28
            have rfu28 := rfd.on hbu28
            have oku28 := okd.on hbu28
            have bu28 := b0.trans (hbu28.mono b0.size)
            have zu28 := hbu28.size
            refine hK _ _ ⟨rhu28, rfu28, fun j u hu => ((BW0.trans (bu28.mono BW0.size)).cell (by rw [block_of_add, block_of_add]; exact hlta)).trans (HCA.out j u hu)⟩ ?_
            clear hK K
            repeat (refine plan_take _ rfl ?_; (first | ((with_reducible refine wpQuiet_at ⟨some 31, _, _, _, _, _⟩ ?_); refine wpQuiet_valueG rfl _ (by intro _ hS; exact exec_loadH _ _ rfl (w.heap.size) rfl hw H16w.out hS.1) (wpQuiet_nil ?_); simp only [Act.put, List.setIfInBounds_toArray, List.set_cons_zero, List.set_cons_succ]) | ((with_reducible refine wpQuiet_at ⟨some 35, _, _, _, _, _⟩ ?_); refine wpQuiet_valueG rfl _ (by intro _ hS; exact exec_load _ 33 _ rfl (ad.add (i * 4)) rfl a.cs hS.2.2 _ Try.underlying33 rfl (by kernel_rfl)) (wpQuiet_nil ?_); simp only [Act.put, List.setIfInBounds_toArray, List.set_cons_zero, List.set_cons_succ]) | ((with_reducible refine wpQuiet_at ⟨some 36, _, _, _, _, _⟩ ?_); refine wpQuiet_valueG rfl _ (by intro _ hS; exact exec_loadT _ _ rfl (wr.heap.size) rfl (noF) hS.2.1) (wpQuiet_nil ?_); simp only [Act.put, List.setIfInBounds_toArray, List.set_cons_zero, List.set_cons_succ]) | (go_big_quiet_step ((intros; rfl)); refine wpQuiet_nil ?_)))
            refine plan_two ?_ ?_
            · refine step_at _ rfl fun K hK => ?_
              refine step_alloc rfl _ rfl zeroH zero_hw ?_
              intro wu29 z12u29 su29 gu29
              have hu29 := grown_below gu29 (Nat.le_refl _) (by simp)
              have rhu29 := rhu28.on hu29
              have rfu29 := rfu28.on hu29
              have oku29 := oku28.on hu29
              have hku29 := hku28.on hu29
              have bu29 := bu28.trans (hu29.mono bu28.size)
              have zu29 := hu29.size
              refine hK _ _ ⟨rhu29, rfu29, fun j u hu => ((BW0.trans (bu29.mono BW0.size)).cell (by rw [block_of_add, block_of_add]; exact hlta)).trans (HCA.out j u hu)⟩ ?_
              clear hK K
              simp only [Act.put, List.setIfInBounds_toArray, List.set_cons_zero, List.set_cons_succ]
              refine plan_one _ rfl fun K hK => ?_
              refine step_alloc rfl _ rfl zeroR zero_rs ?_
              intro wu30 z13u30 su30 gu30
              have hu30 := grown_below gu30 (Nat.le_refl _) (by simp)
              have rhu30 := rhu29.on hu30
              have rfu30 := rfu29.on hu30
              have oku30 := oku29.on hu30
              have hku30 := hku29.on hu30
              have z12u30 := z12u29.on hu30
              have bu30 := bu29.trans (hu30.mono bu29.size)
              have zu30 := hu30.size
              refine hK _ _ ⟨rhu30, rfu30, fun j u hu => ((BW0.trans (bu30.mono BW0.size)).cell (by rw [block_of_add, block_of_add]; exact hlta)).trans (HCA.out j u hu)⟩ ?_
              clear hK K
              simp only [Act.put, List.setIfInBounds_toArray, List.set_cons_zero, List.set_cons_succ]
              refine plan_one _ rfl fun K hK => ?_
              refine step_store_all rfl _ _ _ rfl (wu28.heap.size) rfl _ _ z12u30 (hu28.cs) rfl (Hw.cs_one _) (hw_zl hku30.h16) (hw_size hku30.h16) ?_
              intro wu31 ru31 gu31
              have rhu31 := rhu30.kept gu31 (by simp; omega)
              have rfu31 := rfu30.kept gu31 (by simp; omega)
              have hku31 := hku30.apart inu28 gu31 (by rintro ⟨h1 | h1, h2⟩; exact absurd (hX.2.2 _ h1) (by omega); omega)
              have z13u31 := z13u30.kept gu31 (by simp; omega)
              have bu31 := below_kept bu30 gu31 bu30.size (by rintro q hq; cases hq; omega)
              have zu31 := gu31.size
              refine hK _ _ ⟨rhu31, rfu31, fun j u hu => ((BW0.trans (bu31.mono BW0.size)).cell (by rw [block_of_add, block_of_add]; exact hlta)).trans (HCA.out j u hu)⟩ ?_
              clear hK K
              simp only [Act.put]
              refine plan_one _ rfl fun K hK => ?_
              refine step_store_all rfl _ _ _ rfl (wu29.heap.size) rfl _ _ z13u31 ((dvRs hw.s a (noF)).cs) rfl (DvR.cs_one _) rfl (by kernel_rfl) ?_
              intro wu32 ru32 gu32
              have rhu32 := rhu31.kept gu32 (by simp; omega)
              have rfu32 := rfu31.kept gu32 (by simp; omega)
              have hku32 := hku31.apart inu28 gu32 (by rintro ⟨h1 | h1, h2⟩; exact absurd (hX.2.2 _ h1) (by omega); omega)
              have ra1u32 := ru31.kept gu32 (by simp; omega)
              have bu32 := below_kept bu31 gu32 bu31.size (by rintro q hq; cases hq; omega)
              have zu32 := gu32.size
              refine hK _ _ ⟨rhu32, rfu32, fun j u hu => ((BW0.trans (bu32.mono BW0.size)).cell (by rw [block_of_add, block_of_add]; exact hlta)).trans (HCA.out j u hu)⟩ ?_
              clear hK K
              simp only [Act.put]
              repeat (refine plan_take _ rfl ?_; (first | ((with_reducible refine wpQuiet_at ⟨some 31, _, _, _, _, _⟩ ?_); refine wpQuiet_valueG rfl _ (by intro _ hS; exact exec_loadH _ _ rfl (w.heap.size) rfl hw H16w.out hS.1) (wpQuiet_nil ?_); simp only [Act.put, List.setIfInBounds_toArray, List.set_cons_zero, List.set_cons_succ]) | ((with_reducible refine wpQuiet_at ⟨some 35, _, _, _, _, _⟩ ?_); refine wpQuiet_valueG rfl _ (by intro _ hS; exact exec_load _ 33 _ rfl (ad.add (i * 4)) rfl a.cs hS.2.2 _ Try.underlying33 rfl (by kernel_rfl)) (wpQuiet_nil ?_); simp only [Act.put, List.setIfInBounds_toArray, List.set_cons_zero, List.set_cons_succ]) | ((with_reducible refine wpQuiet_at ⟨some 36, _, _, _, _, _⟩ ?_); refine wpQuiet_valueG rfl _ (by intro _ hS; exact exec_loadT _ _ rfl (wr.heap.size) rfl (noF) hS.2.1) (wpQuiet_nil ?_); simp only [Act.put, List.setIfInBounds_toArray, List.set_cons_zero, List.set_cons_succ]) | (go_big_quiet_step ((intros; rfl)); refine wpQuiet_nil ?_)))
              refine plan_done ?_
              go_wp2_with fail
              go_meet
              exact ⟨_, _, hu28, rfl, rfl, rfl, ra1u32, ru32, hku32, inu28.weak (fun q hq => by rcases hq with ⟨h1 | h1, h2⟩; exact .inl h1; exact .inr (by omega)), hsu28, by omega, by omega, by omega, bu32⟩
            · refine step_at _ rfl fun K hK => ?_
              refine step_alloc rfl _ rfl zeroR zero_rs ?_
              intro wu33 z13u33 su33 gu33
              have hu33 := grown_below gu33 (Nat.le_refl _) (by simp)
              have rhu33 := rhu28.on hu33
              have rfu33 := rfu28.on hu33
              have oku33 := oku28.on hu33
              have hku33 := hku28.on hu33
              have bu33 := bu28.trans (hu33.mono bu28.size)
              have zu33 := hu33.size
              refine hK _ _ ⟨rhu33, rfu33, fun j u hu => ((BW0.trans (bu33.mono BW0.size)).cell (by rw [block_of_add, block_of_add]; exact hlta)).trans (HCA.out j u hu)⟩ ?_
              clear hK K
              simp only [Act.put, List.setIfInBounds_toArray, List.set_cons_zero, List.set_cons_succ]
              refine plan_one _ rfl fun K hK => ?_
              refine step_alloc rfl _ rfl zeroH zero_hw ?_
              intro wu34 z12u34 su34 gu34
              have hu34 := grown_below gu34 (Nat.le_refl _) (by simp)
              have rhu34 := rhu33.on hu34
              have rfu34 := rfu33.on hu34
              have oku34 := oku33.on hu34
              have hku34 := hku33.on hu34
              have z13u34 := z13u33.on hu34
              have bu34 := bu33.trans (hu34.mono bu33.size)
              have zu34 := hu34.size
              refine hK _ _ ⟨rhu34, rfu34, fun j u hu => ((BW0.trans (bu34.mono BW0.size)).cell (by rw [block_of_add, block_of_add]; exact hlta)).trans (HCA.out j u hu)⟩ ?_
              clear hK K
              simp only [Act.put, List.setIfInBounds_toArray, List.set_cons_zero, List.set_cons_succ]
              refine plan_one _ rfl fun K hK => ?_
              refine step_store_all rfl _ _ _ rfl (wu33.heap.size) rfl _ _ z12u34 (hu28.cs) rfl (Hw.cs_one _) (hw_zl hku34.h16) (hw_size hku34.h16) ?_
              intro wu35 ru35 gu35
              have rhu35 := rhu34.kept gu35 (by simp; omega)
              have rfu35 := rfu34.kept gu35 (by simp; omega)
              have hku35 := hku34.apart inu28 gu35 (by rintro ⟨h1 | h1, h2⟩; exact absurd (hX.2.2 _ h1) (by omega); omega)
              have z13u35 := z13u34.kept gu35 (by simp; omega)
              have bu35 := below_kept bu34 gu35 bu34.size (by rintro q hq; cases hq; omega)
              have zu35 := gu35.size
              refine hK _ _ ⟨rhu35, rfu35, fun j u hu => ((BW0.trans (bu35.mono BW0.size)).cell (by rw [block_of_add, block_of_add]; exact hlta)).trans (HCA.out j u hu)⟩ ?_
              clear hK K
              simp only [Act.put]
              refine plan_one _ rfl fun K hK => ?_
              refine step_store_all rfl _ _ _ rfl (wu28.heap.size) rfl _ _ z13u35 ((dvRs hw.s a (noF)).cs) rfl (DvR.cs_one _) rfl (by kernel_rfl) ?_
              intro wu36 ru36 gu36
              have rhu36 := rhu35.kept gu36 (by simp; omega)
              have rfu36 := rfu35.kept gu36 (by simp; omega)
              have hku36 := hku35.apart inu28 gu36 (by rintro ⟨h1 | h1, h2⟩; exact absurd (hX.2.2 _ h1) (by omega); omega)
              have ra1u36 := ru35.kept gu36 (by simp; omega)
              have bu36 := below_kept bu35 gu36 bu35.size (by rintro q hq; cases hq; omega)
              have zu36 := gu36.size
              refine hK _ _ ⟨rhu36, rfu36, fun j u hu => ((BW0.trans (bu36.mono BW0.size)).cell (by rw [block_of_add, block_of_add]; exact hlta)).trans (HCA.out j u hu)⟩ ?_
              clear hK K
              simp only [Act.put]
              repeat (refine plan_take _ rfl ?_; (first | ((with_reducible refine wpQuiet_at ⟨some 31, _, _, _, _, _⟩ ?_); refine wpQuiet_valueG rfl _ (by intro _ hS; exact exec_loadH _ _ rfl (w.heap.size) rfl hw H16w.out hS.1) (wpQuiet_nil ?_); simp only [Act.put, List.setIfInBounds_toArray, List.set_cons_zero, List.set_cons_succ]) | ((with_reducible refine wpQuiet_at ⟨some 35, _, _, _, _, _⟩ ?_); refine wpQuiet_valueG rfl _ (by intro _ hS; exact exec_load _ 33 _ rfl (ad.add (i * 4)) rfl a.cs hS.2.2 _ Try.underlying33 rfl (by kernel_rfl)) (wpQuiet_nil ?_); simp only [Act.put, List.setIfInBounds_toArray, List.set_cons_zero, List.set_cons_succ]) | ((with_reducible refine wpQuiet_at ⟨some 36, _, _, _, _, _⟩ ?_); refine wpQuiet_valueG rfl _ (by intro _ hS; exact exec_loadT _ _ rfl (wr.heap.size) rfl (noF) hS.2.1) (wpQuiet_nil ?_); simp only [Act.put, List.setIfInBounds_toArray, List.set_cons_zero, List.set_cons_succ]) | (go_big_quiet_step ((intros; rfl)); refine wpQuiet_nil ?_)))
              refine plan_done ?_
              go_wp2_with fail
              go_meet
              exact ⟨_, _, hu28, rfl, rfl, rfl, ra1u36, ru36, hku36, inu28.weak (fun q hq => by rcases hq with ⟨h1 | h1, h2⟩; exact .inl h1; exact .inr (by omega)), hsu28, by omega, by omega, by omega, bu36⟩
          · refine step_at _ rfl fun K hK => ?_
            refine step_alloc rfl _ rfl zeroH zero_hw ?_
            intro wu37 z12u37 su37 gu37
            have hu37 := grown_below gu37 (Nat.le_refl _) (by simp)
            have rhu37 := rhd.on hu37
            have rfu37 := rfd.on hu37
            have oku37 := okd.on hu37
            have bu37 := b0.trans (hu37.mono b0.size)
            have zu37 := hu37.size
            refine hK _ _ ⟨rhu37, rfu37, fun j u hu => ((BW0.trans (bu37.mono BW0.size)).cell (by rw [block_of_add, block_of_add]; exact hlta)).trans (HCA.out j u hu)⟩ ?_
            clear hK K
            simp only [Act.put, List.setIfInBounds_toArray, List.set_cons_zero, List.set_cons_succ]
            refine plan_two ?_ ?_
            · refine step_at _ rfl fun K hK => ?_
              go_simp
              refine (HST (noF) _ oku37).out.mono ?_
              rintro e wu38 ⟨hu38, rfl, hku38, hiu38, hsu38, hbu38⟩
              have inu38 := hiu38.and hku38.in_
              have rhu38 := rhu37.on hbu38
              have rfu38 := rfu37.on hbu38
              have oku38 := oku37.on hbu38
              have z12u38 := z12u37.on hbu38
              have bu38 := bu37.trans (hbu38.mono bu37.size)
              have zu38 := hbu38.size
              refine hK _ _ ⟨rhu38, rfu38, fun j u hu => ((BW0.trans (bu38.mono BW0.size)).cell (by rw [block_of_add, block_of_add]; exact hlta)).trans (HCA.out j u hu)⟩ ?_
              clear hK K
              repeat (refine plan_take _ rfl ?_; (first | ((with_reducible refine wpQuiet_at ⟨some 31, _, _, _, _, _⟩ ?_); refine wpQuiet_valueG rfl _ (by intro _ hS; exact exec_loadH _ _ rfl (w.heap.size) rfl hw H16w.out hS.1) (wpQuiet_nil ?_); simp only [Act.put, List.setIfInBounds_toArray, List.set_cons_zero, List.set_cons_succ]) | ((with_reducible refine wpQuiet_at ⟨some 35, _, _, _, _, _⟩ ?_); refine wpQuiet_valueG rfl _ (by intro _ hS; exact exec_load _ 33 _ rfl (ad.add (i * 4)) rfl a.cs hS.2.2 _ Try.underlying33 rfl (by kernel_rfl)) (wpQuiet_nil ?_); simp only [Act.put, List.setIfInBounds_toArray, List.set_cons_zero, List.set_cons_succ]) | ((with_reducible refine wpQuiet_at ⟨some 36, _, _, _, _, _⟩ ?_); refine wpQuiet_valueG rfl _ (by intro _ hS; exact exec_loadT _ _ rfl (wr.heap.size) rfl (noF) hS.2.1) (wpQuiet_nil ?_); simp only [Act.put, List.setIfInBounds_toArray, List.set_cons_zero, List.set_cons_succ]) | (go_big_quiet_step ((intros; rfl)); refine wpQuiet_nil ?_)))
              refine plan_one _ rfl fun K hK => ?_
              refine step_alloc rfl _ rfl zeroR zero_rs ?_
              intro wu39 z13u39 su39 gu39
              have hu39 := grown_below gu39 (Nat.le_refl _) (by simp)
              have rhu39 := rhu38.on hu39
              have rfu39 := rfu38.on hu39
              have oku39 := oku38.on hu39
              have z12u39 := z12u38.on hu39
              have hku39 := hku38.on hu39
              have bu39 := bu38.trans (hu39.mono bu38.size)
              have zu39 := hu39.size
              refine hK _ _ ⟨rhu39, rfu39, fun j u hu => ((BW0.trans (bu39.mono BW0.size)).cell (by rw [block_of_add, block_of_add]; exact hlta)).trans (HCA.out j u hu)⟩ ?_
              clear hK K
              simp only [Act.put, List.setIfInBounds_toArray, List.set_cons_zero, List.set_cons_succ]
              refine plan_one _ rfl fun K hK => ?_
              refine step_store_all rfl _ _ _ rfl (w102.drew.heap.size) rfl _ _ z12u39 (hu38.cs) rfl (Hw.cs_one _) (hw_zl hku39.h16) (hw_size hku39.h16) ?_
              intro wu40 ru40 gu40
              have rhu40 := rhu39.kept gu40 (by simp; omega)
              have rfu40 := rfu39.kept gu40 (by simp; omega)
              have hku40 := hku39.apart inu38 gu40 (by rintro ⟨h1 | h1, h2⟩; exact absurd (hX.2.2 _ h1) (by omega); omega)
              have z13u40 := z13u39.kept gu40 (by simp; omega)
              have bu40 := below_kept bu39 gu40 bu39.size (by rintro q hq; cases hq; omega)
              have zu40 := gu40.size
              refine hK _ _ ⟨rhu40, rfu40, fun j u hu => ((BW0.trans (bu40.mono BW0.size)).cell (by rw [block_of_add, block_of_add]; exact hlta)).trans (HCA.out j u hu)⟩ ?_
              clear hK K
              simp only [Act.put]
              refine plan_one _ rfl fun K hK => ?_
              refine step_store_all rfl _ _ _ rfl (wu38.heap.size) rfl _ _ z13u40 ((dvRs hw.s a (noF)).cs) rfl (DvR.cs_one _) rfl (by kernel_rfl) ?_
              intro wu41 ru41 gu41
              have rhu41 := rhu40.kept gu41 (by simp; omega)
              have rfu41 := rfu40.kept gu41 (by simp; omega)
              have hku41 := hku40.apart inu38 gu41 (by rintro ⟨h1 | h1, h2⟩; exact absurd (hX.2.2 _ h1) (by omega); omega)
              have ra1u41 := ru40.kept gu41 (by simp; omega)
              have bu41 := below_kept bu40 gu41 bu40.size (by rintro q hq; cases hq; omega)
              have zu41 := gu41.size
              refine hK _ _ ⟨rhu41, rfu41, fun j u hu => ((BW0.trans (bu41.mono BW0.size)).cell (by rw [block_of_add, block_of_add]; exact hlta)).trans (HCA.out j u hu)⟩ ?_
              clear hK K
              simp only [Act.put]
              repeat (refine plan_take _ rfl ?_; (first | ((with_reducible refine wpQuiet_at ⟨some 31, _, _, _, _, _⟩ ?_); refine wpQuiet_valueG rfl _ (by intro _ hS; exact exec_loadH _ _ rfl (w.heap.size) rfl hw H16w.out hS.1) (wpQuiet_nil ?_); simp only [Act.put, List.setIfInBounds_toArray, List.set_cons_zero, List.set_cons_succ]) | ((with_reducible refine wpQuiet_at ⟨some 35, _, _, _, _, _⟩ ?_); refine wpQuiet_valueG rfl _ (by intro _ hS; exact exec_load _ 33 _ rfl (ad.add (i * 4)) rfl a.cs hS.2.2 _ Try.underlying33 rfl (by kernel_rfl)) (wpQuiet_nil ?_); simp only [Act.put, List.setIfInBounds_toArray, List.set_cons_zero, List.set_cons_succ]) | ((with_reducible refine wpQuiet_at ⟨some 36, _, _, _, _, _⟩ ?_); refine wpQuiet_valueG rfl _ (by intro _ hS; exact exec_loadT _ _ rfl (wr.heap.size) rfl (noF) hS.2.1) (wpQuiet_nil ?_); simp only [Act.put, List.setIfInBounds_toArray, List.set_cons_zero, List.set_cons_succ]) | (go_big_quiet_step ((intros; rfl)); refine wpQuiet_nil ?_)))
              refine plan_done ?_
              go_wp2_with fail
              go_meet
              exact ⟨_, _, hu38, rfl, rfl, rfl, ra1u41, ru41, hku41, inu38.weak (fun q hq => by rcases hq with ⟨h1 | h1, h2⟩; exact .inl h1; exact .inr (by omega)), hsu38, by omega, by omega, by omega, bu41⟩
            · refine step_at _ rfl fun K hK => ?_
              refine step_alloc rfl _ rfl zeroR zero_rs ?_
              intro wu42 z13u42 su42 gu42
              have hu42 := grown_below gu42 (Nat.le_refl _) (by simp)
              have rhu42 := rhu37.on hu42
              have rfu42 := rfu37.on hu42
              have oku42 := oku37.on hu42
              have z12u42 := z12u37.on hu42
              have bu42 := bu37.trans (hu42.mono bu37.size)
              have zu42 := hu42.size
              refine hK _ _ ⟨rhu42, rfu42, fun j u hu => ((BW0.trans (bu42.mono BW0.size)).cell (by rw [block_of_add, block_of_add]; exact hlta)).trans (HCA.out j u hu)⟩ ?_
              clear hK K
              simp only [Act.put, List.setIfInBounds_toArray, List.set_cons_zero, List.set_cons_succ]
              refine plan_one _ rfl fun K hK => ?_
              go_simp
              refine (HST (noF) _ oku42).out.mono ?_
              rintro e wu43 ⟨hu43, rfl, hku43, hiu43, hsu43, hbu43⟩
              have inu43 := hiu43.and hku43.in_
              have rhu43 := rhu42.on hbu43
              have rfu43 := rfu42.on hbu43
              have oku43 := oku42.on hbu43
              have z12u43 := z12u42.on hbu43
              have z13u43 := z13u42.on hbu43
              have bu43 := bu42.trans (hbu43.mono bu42.size)
              have zu43 := hbu43.size
              refine hK _ _ ⟨rhu43, rfu43, fun j u hu => ((BW0.trans (bu43.mono BW0.size)).cell (by rw [block_of_add, block_of_add]; exact hlta)).trans (HCA.out j u hu)⟩ ?_
              clear hK K
              repeat (refine plan_take _ rfl ?_; (first | ((with_reducible refine wpQuiet_at ⟨some 31, _, _, _, _, _⟩ ?_); refine wpQuiet_valueG rfl _ (by intro _ hS; exact exec_loadH _ _ rfl (w.heap.size) rfl hw H16w.out hS.1) (wpQuiet_nil ?_); simp only [Act.put, List.setIfInBounds_toArray, List.set_cons_zero, List.set_cons_succ]) | ((with_reducible refine wpQuiet_at ⟨some 35, _, _, _, _, _⟩ ?_); refine wpQuiet_valueG rfl _ (by intro _ hS; exact exec_load _ 33 _ rfl (ad.add (i * 4)) rfl a.cs hS.2.2 _ Try.underlying33 rfl (by kernel_rfl)) (wpQuiet_nil ?_); simp only [Act.put, List.setIfInBounds_toArray, List.set_cons_zero, List.set_cons_succ]) | ((with_reducible refine wpQuiet_at ⟨some 36, _, _, _, _, _⟩ ?_); refine wpQuiet_valueG rfl _ (by intro _ hS; exact exec_loadT _ _ rfl (wr.heap.size) rfl (noF) hS.2.1) (wpQuiet_nil ?_); simp only [Act.put, List.setIfInBounds_toArray, List.set_cons_zero, List.set_cons_succ]) | (go_big_quiet_step ((intros; rfl)); refine wpQuiet_nil ?_)))
              refine plan_one _ rfl fun K hK => ?_
              refine step_store_all rfl _ _ _ rfl (w102.drew.heap.size) rfl _ _ z12u43 (hu43.cs) rfl (Hw.cs_one _) (hw_zl hku43.h16) (hw_size hku43.h16) ?_
              intro wu44 ru44 gu44
              have rhu44 := rhu43.kept gu44 (by simp; omega)
              have rfu44 := rfu43.kept gu44 (by simp; omega)
              have z13u44 := z13u43.kept gu44 (by simp; omega)
              have hku44 := hku43.apart inu43 gu44 (by rintro ⟨h1 | h1, h2⟩; exact absurd (hX.2.2 _ h1) (by omega); omega)
              have bu44 := below_kept bu43 gu44 bu43.size (by rintro q hq; cases hq; omega)
              have zu44 := gu44.size
              refine hK _ _ ⟨rhu44, rfu44, fun j u hu => ((BW0.trans (bu44.mono BW0.size)).cell (by rw [block_of_add, block_of_add]; exact hlta)).trans (HCA.out j u hu)⟩ ?_
              clear hK K
              simp only [Act.put]
              refine plan_one _ rfl fun K hK => ?_
              refine step_store_all rfl _ _ _ rfl (wu37.heap.size) rfl _ _ z13u44 ((dvRs hw.s a (noF)).cs) rfl (DvR.cs_one _) rfl (by kernel_rfl) ?_
              intro wu45 ru45 gu45
              have rhu45 := rhu44.kept gu45 (by simp; omega)
              have rfu45 := rfu44.kept gu45 (by simp; omega)
              have hku45 := hku44.apart inu43 gu45 (by rintro ⟨h1 | h1, h2⟩; exact absurd (hX.2.2 _ h1) (by omega); omega)
              have ra1u45 := ru44.kept gu45 (by simp; omega)
              have bu45 := below_kept bu44 gu45 bu44.size (by rintro q hq; cases hq; omega)
              have zu45 := gu45.size
              refine hK _ _ ⟨rhu45, rfu45, fun j u hu => ((BW0.trans (bu45.mono BW0.size)).cell (by rw [block_of_add, block_of_add]; exact hlta)).trans (HCA.out j u hu)⟩ ?_
              clear hK K
              simp only [Act.put]
              repeat (refine plan_take _ rfl ?_; (first | ((with_reducible refine wpQuiet_at ⟨some 31, _, _, _, _, _⟩ ?_); refine wpQuiet_valueG rfl _ (by intro _ hS; exact exec_loadH _ _ rfl (w.heap.size) rfl hw H16w.out hS.1) (wpQuiet_nil ?_); simp only [Act.put, List.setIfInBounds_toArray, List.set_cons_zero, List.set_cons_succ]) | ((with_reducible refine wpQuiet_at ⟨some 35, _, _, _, _, _⟩ ?_); refine wpQuiet_valueG rfl _ (by intro _ hS; exact exec_load _ 33 _ rfl (ad.add (i * 4)) rfl a.cs hS.2.2 _ Try.underlying33 rfl (by kernel_rfl)) (wpQuiet_nil ?_); simp only [Act.put, List.setIfInBounds_toArray, List.set_cons_zero, List.set_cons_succ]) | ((with_reducible refine wpQuiet_at ⟨some 36, _, _, _, _, _⟩ ?_); refine wpQuiet_valueG rfl _ (by intro _ hS; exact exec_loadT _ _ rfl (wr.heap.size) rfl (noF) hS.2.1) (wpQuiet_nil ?_); simp only [Act.put, List.setIfInBounds_toArray, List.set_cons_zero, List.set_cons_succ]) | (go_big_quiet_step ((intros; rfl)); refine wpQuiet_nil ?_)))
              refine plan_done ?_
              go_wp2_with fail
              go_meet
              exact ⟨_, _, hu43, rfl, rfl, rfl, ra1u45, ru45, hku45, inu43.weak (fun q hq => by rcases hq with ⟨h1 | h1, h2⟩; exact .inl h1; exact .inr (by omega)), hsu43, by omega, by omega, by omega, bu45⟩
          · refine step_at _ rfl fun K hK => ?_
            refine step_alloc rfl _ rfl zeroR zero_rs ?_
            intro wu46 z13u46 su46 gu46
            have hu46 := grown_below gu46 (Nat.le_refl _) (by simp)
            have rhu46 := rhd.on hu46
            have rfu46 := rfd.on hu46
            have oku46 := okd.on hu46
            have bu46 := b0.trans (hu46.mono b0.size)
            have zu46 := hu46.size
            refine hK _ _ ⟨rhu46, rfu46, fun j u hu => ((BW0.trans (bu46.mono BW0.size)).cell (by rw [block_of_add, block_of_add]; exact hlta)).trans (HCA.out j u hu)⟩ ?_
            clear hK K
            simp only [Act.put, List.setIfInBounds_toArray, List.set_cons_zero, List.set_cons_succ]
            refine plan_two ?_ ?_
            · refine step_at _ rfl fun K hK => ?_
              go_simp
              refine (HST (noF) _ oku46).out.mono ?_
              rintro e wu47 ⟨hu47, rfl, hku47, hiu47, hsu47, hbu47⟩
              have inu47 := hiu47.and hku47.in_
              have rhu47 := rhu46.on hbu47
              have rfu47 := rfu46.on hbu47
              have oku47 := oku46.on hbu47
              have z13u47 := z13u46.on hbu47
              have bu47 := bu46.trans (hbu47.mono bu46.size)
              have zu47 := hbu47.size
              refine hK _ _ ⟨rhu47, rfu47, fun j u hu => ((BW0.trans (bu47.mono BW0.size)).cell (by rw [block_of_add, block_of_add]; exact hlta)).trans (HCA.out j u hu)⟩ ?_
              clear hK K
              repeat (refine plan_take _ rfl ?_; (first | ((with_reducible refine wpQuiet_at ⟨some 31, _, _, _, _, _⟩ ?_); refine wpQuiet_valueG rfl _ (by intro _ hS; exact exec_loadH _ _ rfl (w.heap.size) rfl hw H16w.out hS.1) (wpQuiet_nil ?_); simp only [Act.put, List.setIfInBounds_toArray, List.set_cons_zero, List.set_cons_succ]) | ((with_reducible refine wpQuiet_at ⟨some 35, _, _, _, _, _⟩ ?_); refine wpQuiet_valueG rfl _ (by intro _ hS; exact exec_load _ 33 _ rfl (ad.add (i * 4)) rfl a.cs hS.2.2 _ Try.underlying33 rfl (by kernel_rfl)) (wpQuiet_nil ?_); simp only [Act.put, List.setIfInBounds_toArray, List.set_cons_zero, List.set_cons_succ]) | ((with_reducible refine wpQuiet_at ⟨some 36, _, _, _, _, _⟩ ?_); refine wpQuiet_valueG rfl _ (by intro _ hS; exact exec_loadT _ _ rfl (wr.heap.size) rfl (noF) hS.2.1) (wpQuiet_nil ?_); simp only [Act.put, List.setIfInBounds_toArray, List.set_cons_zero, List.set_cons_succ]) | (go_big_quiet_step ((intros; rfl)); refine wpQuiet_nil ?_)))
              refine plan_one _ rfl fun K hK => ?_
              refine step_alloc rfl _ rfl zeroH zero_hw ?_
              intro wu48 z12u48 su48 gu48
              have hu48 := grown_below gu48 (Nat.le_refl _) (by simp)
              have rhu48 := rhu47.on hu48
              have rfu48 := rfu47.on hu48
              have oku48 := oku47.on hu48
              have z13u48 := z13u47.on hu48
              have hku48 := hku47.on hu48
              have bu48 := bu47.trans (hu48.mono bu47.size)
              have zu48 := hu48.size
              refine hK _ _ ⟨rhu48, rfu48, fun j u hu => ((BW0.trans (bu48.mono BW0.size)).cell (by rw [block_of_add, block_of_add]; exact hlta)).trans (HCA.out j u hu)⟩ ?_
              clear hK K
              simp only [Act.put, List.setIfInBounds_toArray, List.set_cons_zero, List.set_cons_succ]
              refine plan_one _ rfl fun K hK => ?_
              refine step_store_all rfl _ _ _ rfl (wu47.heap.size) rfl _ _ z12u48 (hu47.cs) rfl (Hw.cs_one _) (hw_zl hku48.h16) (hw_size hku48.h16) ?_
              intro wu49 ru49 gu49
              have rhu49 := rhu48.kept gu49 (by simp; omega)
              have rfu49 := rfu48.kept gu49 (by simp; omega)
              have z13u49 := z13u48.kept gu49 (by simp; omega)
              have hku49 := hku48.apart inu47 gu49 (by rintro ⟨h1 | h1, h2⟩; exact absurd (hX.2.2 _ h1) (by omega); omega)
              have bu49 := below_kept bu48 gu49 bu48.size (by rintro q hq; cases hq; omega)
              have zu49 := gu49.size
              refine hK _ _ ⟨rhu49, rfu49, fun j u hu => ((BW0.trans (bu49.mono BW0.size)).cell (by rw [block_of_add, block_of_add]; exact hlta)).trans (HCA.out j u hu)⟩ ?_
              clear hK K
              simp only [Act.put]
              refine plan_one _ rfl fun K hK => ?_
              refine step_store_all rfl _ _ _ rfl (w102.drew.heap.size) rfl _ _ z13u49 ((dvRs hw.s a (noF)).cs) rfl (DvR.cs_one _) rfl (by kernel_rfl) ?_
              intro wu50 ru50 gu50
              have rhu50 := rhu49.kept gu50 (by simp; omega)
              have rfu50 := rfu49.kept gu50 (by simp; omega)
              have hku50 := hku49.apart inu47 gu50 (by rintro ⟨h1 | h1, h2⟩; exact absurd (hX.2.2 _ h1) (by omega); omega)
              have ra1u50 := ru49.kept gu50 (by simp; omega)
              have bu50 := below_kept bu49 gu50 bu49.size (by rintro q hq; cases hq; omega)
              have zu50 := gu50.size
              refine hK _ _ ⟨rhu50, rfu50, fun j u hu => ((BW0.trans (bu50.mono BW0.size)).cell (by rw [block_of_add, block_of_add]; exact hlta)).trans (HCA.out j u hu)⟩ ?_
              clear hK K
              simp only [Act.put]
              repeat (refine plan_take _ rfl ?_; (first | ((with_reducible refine wpQuiet_at ⟨some 31, _, _, _, _, _⟩ ?_); refine wpQuiet_valueG rfl _ (by intro _ hS; exact exec_loadH _ _ rfl (w.heap.size) rfl hw H16w.out hS.1) (wpQuiet_nil ?_); simp only [Act.put, List.setIfInBounds_toArray, List.set_cons_zero, List.set_cons_succ]) | ((with_reducible refine wpQuiet_at ⟨some 35, _, _, _, _, _⟩ ?_); refine wpQuiet_valueG rfl _ (by intro _ hS; exact exec_load _ 33 _ rfl (ad.add (i * 4)) rfl a.cs hS.2.2 _ Try.underlying33 rfl (by kernel_rfl)) (wpQuiet_nil ?_); simp only [Act.put, List.setIfInBounds_toArray, List.set_cons_zero, List.set_cons_succ]) | ((with_reducible refine wpQuiet_at ⟨some 36, _, _, _, _, _⟩ ?_); refine wpQuiet_valueG rfl _ (by intro _ hS; exact exec_loadT _ _ rfl (wr.heap.size) rfl (noF) hS.2.1) (wpQuiet_nil ?_); simp only [Act.put, List.setIfInBounds_toArray, List.set_cons_zero, List.set_cons_succ]) | (go_big_quiet_step ((intros; rfl)); refine wpQuiet_nil ?_)))
              refine plan_done ?_
              go_wp2_with fail
              go_meet
              exact ⟨_, _, hu47, rfl, rfl, rfl, ra1u50, ru50, hku50, inu47.weak (fun q hq => by rcases hq with ⟨h1 | h1, h2⟩; exact .inl h1; exact .inr (by omega)), hsu47, by omega, by omega, by omega, bu50⟩
            · refine step_at _ rfl fun K hK => ?_
              refine step_alloc rfl _ rfl zeroH zero_hw ?_
              intro wu51 z12u51 su51 gu51
              have hu51 := grown_below gu51 (Nat.le_refl _) (by simp)
              have rhu51 := rhu46.on hu51
              have rfu51 := rfu46.on hu51
              have oku51 := oku46.on hu51
              have z13u51 := z13u46.on hu51
              have bu51 := bu46.trans (hu51.mono bu46.size)
              have zu51 := hu51.size
              refine hK _ _ ⟨rhu51, rfu51, fun j u hu => ((BW0.trans (bu51.mono BW0.size)).cell (by rw [block_of_add, block_of_add]; exact hlta)).trans (HCA.out j u hu)⟩ ?_
              clear hK K
              simp only [Act.put, List.setIfInBounds_toArray, List.set_cons_zero, List.set_cons_succ]
              refine plan_one _ rfl fun K hK => ?_
              go_simp
              refine (HST (noF) _ oku51).out.mono ?_
              rintro e wu52 ⟨hu52, rfl, hku52, hiu52, hsu52, hbu52⟩
              have inu52 := hiu52.and hku52.in_
              have rhu52 := rhu51.on hbu52
              have rfu52 := rfu51.on hbu52
              have oku52 := oku51.on hbu52
              have z13u52 := z13u51.on hbu52
              have z12u52 := z12u51.on hbu52
              have bu52 := bu51.trans (hbu52.mono bu51.size)
              have zu52 := hbu52.size
              refine hK _ _ ⟨rhu52, rfu52, fun j u hu => ((BW0.trans (bu52.mono BW0.size)).cell (by rw [block_of_add, block_of_add]; exact hlta)).trans (HCA.out j u hu)⟩ ?_
              clear hK K
              repeat (refine plan_take _ rfl ?_; (first | ((with_reducible refine wpQuiet_at ⟨some 31, _, _, _, _, _⟩ ?_); refine wpQuiet_valueG rfl _ (by intro _ hS; exact exec_loadH _ _ rfl (w.heap.size) rfl hw H16w.out hS.1) (wpQuiet_nil ?_); simp only [Act.put, List.setIfInBounds_toArray, List.set_cons_zero, List.set_cons_succ]) | ((with_reducible refine wpQuiet_at ⟨some 35, _, _, _, _, _⟩ ?_); refine wpQuiet_valueG rfl _ (by intro _ hS; exact exec_load _ 33 _ rfl (ad.add (i * 4)) rfl a.cs hS.2.2 _ Try.underlying33 rfl (by kernel_rfl)) (wpQuiet_nil ?_); simp only [Act.put, List.setIfInBounds_toArray, List.set_cons_zero, List.set_cons_succ]) | ((with_reducible refine wpQuiet_at ⟨some 36, _, _, _, _, _⟩ ?_); refine wpQuiet_valueG rfl _ (by intro _ hS; exact exec_loadT _ _ rfl (wr.heap.size) rfl (noF) hS.2.1) (wpQuiet_nil ?_); simp only [Act.put, List.setIfInBounds_toArray, List.set_cons_zero, List.set_cons_succ]) | (go_big_quiet_step ((intros; rfl)); refine wpQuiet_nil ?_)))
              refine plan_one _ rfl fun K hK => ?_
              refine step_store_all rfl _ _ _ rfl (wu46.heap.size) rfl _ _ z12u52 (hu52.cs) rfl (Hw.cs_one _) (hw_zl hku52.h16) (hw_size hku52.h16) ?_
              intro wu53 ru53 gu53
              have rhu53 := rhu52.kept gu53 (by simp; omega)
              have rfu53 := rfu52.kept gu53 (by simp; omega)
              have z13u53 := z13u52.kept gu53 (by simp; omega)
              have hku53 := hku52.apart inu52 gu53 (by rintro ⟨h1 | h1, h2⟩; exact absurd (hX.2.2 _ h1) (by omega); omega)
              have bu53 := below_kept bu52 gu53 bu52.size (by rintro q hq; cases hq; omega)
              have zu53 := gu53.size
              refine hK _ _ ⟨rhu53, rfu53, fun j u hu => ((BW0.trans (bu53.mono BW0.size)).cell (by rw [block_of_add, block_of_add]; exact hlta)).trans (HCA.out j u hu)⟩ ?_
              clear hK K
              simp only [Act.put]
              refine plan_one _ rfl fun K hK => ?_
              refine step_store_all rfl _ _ _ rfl (w102.drew.heap.size) rfl _ _ z13u53 ((dvRs hw.s a (noF)).cs) rfl (DvR.cs_one _) rfl (by kernel_rfl) ?_
              intro wu54 ru54 gu54
              have rhu54 := rhu53.kept gu54 (by simp; omega)
              have rfu54 := rfu53.kept gu54 (by simp; omega)
              have hku54 := hku53.apart inu52 gu54 (by rintro ⟨h1 | h1, h2⟩; exact absurd (hX.2.2 _ h1) (by omega); omega)
              have ra1u54 := ru53.kept gu54 (by simp; omega)
              have bu54 := below_kept bu53 gu54 bu53.size (by rintro q hq; cases hq; omega)
              have zu54 := gu54.size
              refine hK _ _ ⟨rhu54, rfu54, fun j u hu => ((BW0.trans (bu54.mono BW0.size)).cell (by rw [block_of_add, block_of_add]; exact hlta)).trans (HCA.out j u hu)⟩ ?_
              clear hK K
              simp only [Act.put]
              repeat (refine plan_take _ rfl ?_; (first | ((with_reducible refine wpQuiet_at ⟨some 31, _, _, _, _, _⟩ ?_); refine wpQuiet_valueG rfl _ (by intro _ hS; exact exec_loadH _ _ rfl (w.heap.size) rfl hw H16w.out hS.1) (wpQuiet_nil ?_); simp only [Act.put, List.setIfInBounds_toArray, List.set_cons_zero, List.set_cons_succ]) | ((with_reducible refine wpQuiet_at ⟨some 35, _, _, _, _, _⟩ ?_); refine wpQuiet_valueG rfl _ (by intro _ hS; exact exec_load _ 33 _ rfl (ad.add (i * 4)) rfl a.cs hS.2.2 _ Try.underlying33 rfl (by kernel_rfl)) (wpQuiet_nil ?_); simp only [Act.put, List.setIfInBounds_toArray, List.set_cons_zero, List.set_cons_succ]) | ((with_reducible refine wpQuiet_at ⟨some 36, _, _, _, _, _⟩ ?_); refine wpQuiet_valueG rfl _ (by intro _ hS; exact exec_loadT _ _ rfl (wr.heap.size) rfl (noF) hS.2.1) (wpQuiet_nil ?_); simp only [Act.put, List.setIfInBounds_toArray, List.set_cons_zero, List.set_cons_succ]) | (go_big_quiet_step ((intros; rfl)); refine wpQuiet_nil ?_)))
              refine plan_done ?_
              go_wp2_with fail
              go_meet
              exact ⟨_, _, hu52, rfl, rfl, rfl, ra1u54, ru54, hku54, inu52.weak (fun q hq => by rcases hq with ⟨h1 | h1, h2⟩; exact .inl h1; exact .inr (by omega)), hsu52, by omega, by omega, by omega, bu54⟩
        case rest =>
          revert wc
          intro wc hcut
          obtain ⟨ga, gr, h2, rfl, rfl, rfl, ra2, rr2, hk2, hi2, hs2, hga, hgr, hne, hbc⟩ := hcut
          have HS2 := Lib.hid hs2
          have H16b := Lib.hid hk2.h16
          clear hs2
          have lcur : wr.heap.size ≤ w102.heap.size := B102.size
          have lrf := rf_102.lt
          have Bc := B102.trans (hbc.mono B102.size)
          have hk_c := hk_102.on hbc
          have rh_c := rh_102.on hbc
          have z6_c := z6_102.on hbc
          have rf_c := rf_102.on hbc
          clear hk_102 rh_102 z6_102 rf_102
          have ow_c := own_below ow_102 hbc
          have lbc := hbc.size
          have in2 := hi2.and hk2.in_
          have nX2 : ∀ q, ¬ X q → q < w102.heap.size → ¬ ((X q ∨ (w102.heap.size ≤ q ∧ q ≠ ga ∧ q ≠ gr)) ∧ q < wc.heap.size) := fun q h1 h2 h3 => by rcases h3.1 with h4 | h4; exact h1 h4; omega
          have BC : Below w.heap.size w wc := hB.trans (Bc.mono hB.size)
          by_cases he : dvErr hw.s a = 0
          rotate_left
          · have HEND : Hid (R = (hw.s, rs, dvErr hw.s a)) := Lib.hid (by rw [HINV.out]; exact dvAt_err HAI.out he)
            have hq : (dvErr hw.s a != 0) = true := by simpa using he
            generalize dvErr hw.s a = E at *
            clear he
            go_wp2_with (first
              | ((with_reducible refine wpList_at ⟨some 43, _, _, _, _, _⟩ ?_); refine wpList_valueG rfl _ (by exact exec_loadH _ _ rfl w.heap.size rfl hw H16w.out rh_c) ?_)
              | ((with_reducible refine wpList_at ⟨none, .store _ (.tmp 6) _, _, _, _, _⟩ ?_); refine wpList_store_all rfl _ _ _ rfl (w1.heap.size) rfl _ _ z6_c (hw).cs rfl (Hw.cs_one _) (hw_zl H16w.out) (hw_size H16w.out) ?_; intro wY rY gY))
            have hkY := hk_c.apart hin gY hX.2.1
            have owY := ow_c.kept gY (.inr (z6_c.not_row7 (by decide) ow_c).symm)
            obtain ⟨AY, cY, rfl, _, _, rdY⟩ := own_form owY
            refine bodyPost_ret (results_c3 Try.results17 _ _ _ _ rfl (load_hw rY H16w.out)) rfl ⟨hw, AY, rs.length, cY, by rw [HEND.out]; rfl, hkY, by rw [HEND.out], by rw [HEND.out]; exact rdY, by rw [HEND.out], below_kept BC gY BC.size (by rintro q hq; cases hq; omega)⟩
          · rw [he]
            cases hc : (noF).cut with
            | true =>
              have HEND : Hid (R = (dvSt hw.s a (noF), rs, 0)) := Lib.hid (by have := dvAt_cut (rs := rs) HAI.out he (HFV.out ▸ hc); rw [HINV.out, this, HFV.out])
              clear he
              go_wp2_with (first
                | ((with_reducible refine wpList_at ⟨some 46, _, _, _, _, _⟩ ?_); refine wpList_valueG rfl _ (by exact exec_loadH _ _ rfl ga rfl h2 H16b.out ra2) ?_)
                | ((with_reducible refine wpList_at ⟨none, .store _ (.tmp 3) _, _, _, _, _⟩ ?_); refine wpList_store_all rfl _ _ _ rfl w.heap.size rfl _ _ rh_c (h2.cs) rfl (Hw.cs_one _) (by rw [Hw.cs_len H16w.out, Hw.cs_len H16b.out]) (hw_size H16b.out) ?_; intro wS2 rhS2 gS2; have z6S2 := z6_c.kept gS2 (by simp; omega); have rrS2 := rr2.kept gS2 (by simp; omega); have rfS2 := rf_c.kept gS2 (by simp; omega); have cf0 := rfS2.cell (j := 0) rfl)
                | ((with_reducible refine wpList_at ⟨some 49, _, _, _, _, _⟩ ?_); refine wpList_valueG rfl _ (by exact exec_loadH _ _ rfl w.heap.size rfl h2 H16b.out rhS2) ?_)
                | ((with_reducible refine wpList_at ⟨none, .store _ (.tmp 6) _, _, _, _, _⟩ ?_); refine wpList_store_all rfl _ _ _ rfl (w1.heap.size) rfl _ _ z6S2 (h2).cs rfl (Hw.cs_one _) (hw_zl H16b.out) (hw_size H16b.out) ?_; intro wY rY gY))
              have owS2 := ow_c.kept gS2 (.inr (rh_c.not_row7 (by decide) ow_c).symm)
              have hkS2 := hk2.apart in2 gS2 (nX2 _ hX.1 (by omega))
              have BS2 := below_kept BC gS2 BC.size (by rintro q hq; cases hq; exact Nat.le_refl _)
              have lS2 := gS2.size
              have hkY := hkS2.apart in2 gY (nX2 _ hX.2.1 (by omega))
              have owY := owS2.kept gY (.inr (z6S2.not_row7 (by decide) owS2).symm)
              obtain ⟨AY, cY, rfl, _, _, rdY⟩ := own_form owY
              refine bodyPost_ret (results_c3 Try.results17 _ _ _ _ rfl (load_hw rY H16b.out)) rfl ⟨h2, AY, rs.length, cY, by rw [HEND.out]; rfl, hkY, by rw [HEND.out]; exact HS2.out, by rw [HEND.out]; exact rdY, by rw [HEND.out], below_kept BS2 gY BS2.size (by rintro q hq; cases hq; omega)⟩
            | false =>
              have HEND : Hid (R = dvAll (dvSt hw.s a (noF)) (rs ++ [dvRs hw.s a (noF)]) (l.drop (i + 1)) (fl.drop (i + 1))) := Lib.hid (by have := dvAt_go (rs := rs) HAI.out he (HFV.out ▸ hc); rw [HINV.out, this, HFV.out])
              clear he
              go_wp2_with (first
                | ((with_reducible refine wpList_at ⟨some 46, _, _, _, _, _⟩ ?_); refine wpList_valueG rfl _ (by exact exec_loadH _ _ rfl ga rfl h2 H16b.out ra2) ?_)
                | ((with_reducible refine wpList_at ⟨none, .store _ (.tmp 3) _, _, _, _, _⟩ ?_); refine wpList_store_all rfl _ _ _ rfl w.heap.size rfl _ _ rh_c (h2.cs) rfl (Hw.cs_one _) (by rw [Hw.cs_len H16w.out, Hw.cs_len H16b.out]) (hw_size H16b.out) ?_; intro wS2 rhS2 gS2; have z6S2 := z6_c.kept gS2 (by simp; omega); have rrS2 := rr2.kept gS2 (by simp; omega); have rfS2 := rf_c.kept gS2 (by simp; omega); have cf0 := rfS2.cell (j := 0) rfl)
                | ((with_reducible refine wpList_at ⟨some 52, _, _, _, _, _⟩ ?_); refine wpList_valueG rfl _ (by exact exec_loadR _ _ rfl gr rfl (dvRs hw.s a (noF)) rrS2) ?_)
                | (refine wpList_valueW (o := ⟨some 53, _, _, _, _, _⟩) rfl _ (by exact exec_slice1 _ 50 40 _ rfl Try.underlying50 i0 _ hi0 hz0 (dvRs hw.s a (noF)).cs (by rw [hz1]; rfl) (by show 0 < 2; decide) (by show 2 ≤ 1000; decide) rfl) ?_)
                | (at_builtin; have bx : Below wS2.heap.size wS2 (wS2.alloc (.cells (dvRs hw.s a (noF)).cs.toArray 40)) := (Below.refl _ _).alloc (Nat.le_refl _) _; have owx := own_below (ow_c.kept gS2 (.inr (rh_c.not_row7 (by decide) ow_c).symm)) bx; have rhx := rhS2.on bx; have z6x := z6S2.on bx; refine wpList_append_at9 rfl (.tmp 51) (.tmp 53) _ _ rfl w.heap.size 40 i0 _ 2 24 Try.underlying50 hi0 hz0 hz1 hz2 rfl _ _ _ rfl owx 1 (dvRs hw.s a (noF)).cs (boxRow9 Try.underlying50 _ _ _ 2 rfl (DvR.cs_one _) _) (by unfold maxLen; have := HRL.out; omega) (by have := HRL.out; omega) (by have := rhx.lt; omega) ?_; intro vA wA owA gA obA; have rhA := rhx.kept gA (rhx.not_row7 (by decide) owx); have z6A := z6x.kept gA (z6x.not_row7 (by decide) owx)))
              have owS2 := ow_c.kept gS2 (.inr (rh_c.not_row7 (by decide) ow_c).symm)
              have hkS2 := hk2.apart in2 gS2 (nX2 _ hX.1 (by omega))
              have BS2 := below_kept BC gS2 BC.size (by rintro q hq; cases hq; exact Nat.le_refl _)
              have lS2 := gS2.size
              have hkx := hkS2.on bx
              have hbx := bx.size
              have nOW : ∀ k, u9.ownBlock = some k → ¬ ((X k ∨ (w102.heap.size ≤ k ∧ k ≠ ga ∧ k ≠ gr)) ∧ k < wc.heap.size) := fun k hk0 => nX2 k (hob k hk0) (by have := (ow.lt k hk0).2; omega)
              have hkA := hkx.apartO in2 gA (fun k hk0 => nOW k hk0)
              have BA := below_kept (BS2.trans (bx.mono BS2.size)) gA (Nat.le_trans BS2.size hbx) (by rintro q hq; exact (ow.lt q hq).1)
              have lA := gA.size
              go_roundg (gk - 1)
              case measure => have := HI.out; omega
              case rel => exact ⟨i + 1, h2, _, rs ++ [(dvRs hw.s a (noF))], by have := HI.out; show _ = _; omega, by omega, by go_num, by show _ = _; rw [HEND.out, HS2.out], rhA, z6A, hkA, in2, ⟨nX2 _ hX.1 (by omega), nX2 _ hX.2.1 (by omega), fun q hq => by omega⟩, by show dvSm _; rw [HS2.out]; exact dvSt_sm HM.out, by rw [List.length_append, List.flatMap_append]; simpa using owA, fun k hk0 => by rcases obA with e | e; exact nOW k (e.symm.trans hk0); (rw [e] at hk0; cases hk0; omega), by show _ = _; rw [List.length_append, HRL.out]; rfl, BA⟩
    · have hin2 : i = n := by omega
      have HEND : Hid (R = (hw.s, rs, 0)) := Lib.hid (by rw [HINV.out]; exact dvAt_end (by rw [HLN.out]; omega))
      go_wp2_with (first
        | ((with_reducible refine wpList_at ⟨some 55, _, _, _, _, _⟩ ?_); refine wpList_valueG rfl _ (by exact exec_loadH _ _ rfl w.heap.size rfl hw H16w.out rh) ?_)
        | ((with_reducible refine wpList_at ⟨none, .store _ (.tmp 6) _, _, _, _, _⟩ ?_); refine wpList_store_all rfl _ _ _ rfl (w1.heap.size) rfl _ _ z6 (hw).cs rfl (Hw.cs_one _) (hw_zl H16w.out) (hw_size H16w.out) ?_; intro wY rY gY))
      have hkY := hk.apart hin gY hX.2.1
      have owY := ow.kept gY (.inr (z6.not_row7 (by decide) ow).symm)
      obtain ⟨AY, cY, rfl, _, _, rdY⟩ := own_form owY
      refine bodyPost_ret (results_c3 Try.results17 _ _ _ _ rfl (load_hw rY H16w.out)) rfl ⟨hw, AY, rs.length, cY, by rw [HEND.out]; rfl, hkY, by rw [HEND.out], by rw [HEND.out]; exact rdY, by rw [HEND.out], below_kept hB gY hB.size (by rintro q hq; cases hq; omega)⟩

end Go.Proofs.Ytkepmhkakkkliaa
