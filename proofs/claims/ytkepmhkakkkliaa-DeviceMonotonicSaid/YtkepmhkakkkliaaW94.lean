/-
  DeviceMonotonic's walk. Condition: bounded lengths.
-/
import Derived.Test.YtkepmhkakkkliaaSan9
import Derived.Test.YtkepmhkakkkliaaDvL
import Derived.Test.YtkepmhkakkkliaaDvT
import Derived.Test.YtkepmhkakkkliaaFuL
import Derived.Test.YtkepmhkakkkliaaW92
namespace Go.Proofs.Ytkepmhkakkkliaa
open Go.RowKit

set_option maxRecDepth 100000 in
set_option maxHeartbeats 40000000 in
theorem walk94 (h : Hw) (A B : Option Addr) (n c m d : Nat) (l : List DvA) (fl : List DvF) (w : World) (hok : HwOK w h) (hr : Reads w w.heap.size 4 A n (l.flatMap DvA.cs)) (hf : Reads w w.heap.size 3 B m (fl.flatMap DvF.cs)) :
    Calls Try.prog 6 #[h.v, .slice A n c, .slice B m d] w (TellsB true w) := by
  have HSA := fun W => sanity9_any W
  have HSMA := fun W h1 => Lib.hid (small_any9 h W h1)
  have H16 := Lib.hid hok.h16
  go_enter Try.func6, Try.ntmps6
  go_wp2_with ((with_reducible refine wpList_at ⟨some 3, _, _, _, _, _⟩ ?_); refine wpList_box_row rfl _ _ rfl (h.cs) rfl ?_; intro w1 rh_1 s1 g1; have k1 : Below w.heap.size w w1 := grown_below g1 (Nat.le_refl _) (by simp); have B1 : Below w.heap.size w w1 := k1; have kh_1 := hok.on k1; have lr_1 := hr.on k1; have fr_1 := hf.on k1)
  refine (HSA _).mono ?_
  rintro e w2 ⟨rfl, h2⟩
  have B2 := B1.trans (h2.mono B1.size)
  have kh_2 := kh_1.on h2
  have lr_2 := lr_1.on h2
  have fr_2 := fr_1.on h2
  have rh_2 := rh_1.on h2
  clear kh_1 lr_1 fr_1 rh_1
  go_wp2_with ((with_reducible refine wpList_at ⟨some 16, _, _, _, _, _⟩ ?_); refine wpList_valueG rfl _ (by exact exec_loadH _ _ rfl (w.heap.size) rfl h H16.out rh_2) ?_)
  refine ((HSMA _ kh_2).out).mono ?_
  rintro e w3 ⟨v, rfl, hv, h3⟩
  have B3 := B2.trans (h3.mono B2.size)
  have kh_3 := kh_2.on h3
  have lr_3 := lr_2.on h3
  have fr_3 := fr_2.on h3
  have rh_3 := rh_2.on h3
  clear kh_2 lr_2 fr_2 rh_2
  have HV := Lib.hid hv
  clear hv
  rcases v_cases9 HV.out with rfl | ⟨rfl, hsm, hfv⟩
  · go_wp2_with fail
    go_ret
    exact ⟨rfl, B3⟩
  have HSM := Lib.hid hsm
  clear hsm hfv
  by_cases hn60 : 60 < n
  · go_wp2_with fail
    go_ret
    exact ⟨rfl, B3⟩
  by_cases hm60 : 60 < m
  · go_wp2_with fail
    go_ret
    exact ⟨rfl, B3⟩
  have HDA := fun W h1 h2 h3 => Lib.hid (dall_any9 h A B n c m d l fl W h1 HSM.out h2 h3 (by omega))
  have HRL : Hid (Rel Up1 (bk h.ps) (dvAll h.s [] l fl).1.bs ∧ ∀ i : Int, fuLevel (bk h.ps) i false ≤ fuLevel (dvAll h.s [] l fl).1.bs i false) := Lib.hid ⟨dvAll_rel Up1.refl Up1.trans Up1.pl l h.s [] fl, fun i => dvAll_level l h.s [] fl i false⟩
  generalize dvAll h.s [] l fl = R at *
  obtain ⟨S, RS', E⟩ := R
  simp only at HRL
  go_wp2_with ((with_reducible refine wpList_at ⟨some 31, _, _, _, _, _⟩ ?_); refine wpList_valueG rfl _ (by exact exec_loadH _ _ rfl (w.heap.size) rfl h H16.out rh_3) ?_)
  refine ((HDA _ kh_3 lr_3 fr_3).out).mono ?_
  rintro e w4 ⟨hx, Ax, nx, cx, rfl, kx, sx, rdx, lnx, h4⟩
  have B4 := B3.trans (h4.mono B3.size)
  have kh_4 := kh_3.on h4
  have lr_4 := lr_3.on h4
  have fr_4 := fr_3.on h4
  have rh_4 := rh_3.on h4
  clear kh_3 lr_3 fr_3 rh_3
  have HSX : Hid (bk hx.ps = S.bs) := Lib.hid (congrArg DvS.bs sx)
  have H16x := Lib.hid kx.h16
  clear sx lnx rdx
  rw [← HSX.out] at HRL
  have hnn : hx.n = h.n := by have e := HRL.out.1.1; rw [bk_len, bk_len, kx.1.1.len, hok.1.1.len] at e; exact e.symm
  have hz5 : ((hx.n : Int) != (h.n : Int)) = false := by rw [hnn]; simp
  have HNN := Lib.hid hnn
  clear hnn
  have hn100 := hok.sm1 HSM.out
  have hp1000 := Lib.hid (hok.sm2 HSM.out)
  have crh0 := rh_4.cell (j := 0) rfl
  have crh1 := rh_4.cell (j := 1) rfl
  go_wp2_with (first
    | (with_reducible refine wpList_alloc_row (o := ⟨some 8, _, _, _, _, _⟩) rfl _ rfl zeroH zero_hw ?_; intro w5 r5 s5 g5)
    | ((with_reducible refine wpList_at ⟨none, .store _ (.tmp 8) _, _, _, _, _⟩ ?_); refine wpList_store_all rfl _ _ _ rfl w4.heap.size rfl _ _ r5 (hx.cs) rfl (hx.cs_one) (hw_zl H16x.out) (hw_size H16x.out) ?_; intro w6 rx_6 g6; have k6 : Below w4.heap.size w4 w6 := below_kept (grown_below g5 (Nat.le_refl _) (by simp)) g6 (Nat.le_of_lt s5) (by rintro q hq; cases hq; exact Nat.le_refl _); have B6 := B4.trans (k6.mono B4.size); have kh_6 := kh_4.on k6; have lr_6 := lr_4.on k6; have fr_6 := fr_4.on k6; have rh_6 := rh_4.on k6; have kx_6 := kx.on k6; clear kh_4 lr_4 fr_4 rh_4; have crh0 := rh_6.cell (j := 0) rfl; have crh1 := rh_6.cell (j := 1) rfl; clear r5 g5 g6; have s6 := rx_6.lt; have crx0 := rx_6.cell (j := 0) rfl; have crx1 := rx_6.cell (j := 1) rfl))
  have hB1 := B6
  have khW := kh_6
  have kxW := kx_6
  obtain ⟨W1, hW1⟩ : ∃ W1, W1 = w6 := ⟨_, rfl⟩
  have HW1 := Lib.hid hW1
  clear hW1
  go_loopg [11] h.n (fun g s11 wr => ∃ b : Nat, Hid (b + g = h.n) ∧ b ≤ h.n ∧ s11 = .int .i64 (b : Int) ∧ Row wr (w.heap.size) 31 h.cs ∧ Row wr (w4.heap.size) 31 hx.cs ∧ Below w6.heap.size w6 wr)
  case atStart => exact ⟨0, by show _ = _; omega, by omega, rfl, rh_6, rx_6, Below.refl _ _⟩
  case round =>
    obtain ⟨i, HI, hi, rfl, e1, e2, hBr⟩ := hrel
    have c1 := e1.cell (j := 0) (u := .slice h.A h.n h.c) rfl
    have c2 := e2.cell (j := 0) (u := .slice hx.A hx.n hx.c) rfl
    by_cases hlt : i < h.n
    rotate_left
    · have hin : i = h.n := by omega
      go_wp2_with fail
      go_ret
      exact ⟨rfl, hB1.trans (hBr.mono hB1.size)⟩
    have hltx : i < hx.n := by have := HNN.out; omega
    obtain ⟨ad, p, hA, hlta, hp, hc0, hpr, _⟩ := khW.1.1.at_ hlt
    obtain ⟨bd, q, hBd, hltb, hq, hd0, hqr, _⟩ := kxW.1.1.at_ hltx
    have HC0 := Lib.hid hc0
    have HD0 := Lib.hid hd0
    have HP := Lib.hid hp
    have HQ := Lib.hid hq
    have HPR := Lib.hid hpr
    have HQR := Lib.hid hqr
    have HA := Lib.hid hA
    have HBD := Lib.hid hBd
    have hpn := hp1000.out p (List.mem_of_getElem? hp)
    obtain ⟨l2, hl2, hll, hcell⟩ := HRL.out.1.bank (bk_get hp)
    rw [bk_get hq] at hl2
    cases hl2
    have HLL := Lib.hid hll
    have HCELL := Lib.hid hcell
    have hqn : q.n = p.n := by rw [← hqr.bytes_len, ← hpr.bytes_len]; exact HLL.out.symm
    have HQN := Lib.hid hqn
    have hz6 : ((q.n : Int) != (p.n : Int)) = false := by rw [hqn]; simp
    have hlev := HRL.out.2 (i : Int)
    have HLH := fun W h1 => Lib.hid (fleast_any h.A h.n h.c h.ps (i : Int) W h1 hok.1.2.2)
    have HLX := fun W h1 => Lib.hid (fleast_any hx.A hx.n hx.c hx.ps (i : Int) W h1 kxW.1.2.2)
    generalize fuLevel (bk h.ps) (i : Int) false = LH at *
    generalize fuLevel (bk hx.ps) (i : Int) false = LX at *
    rw [hA] at c1
    rw [hBd] at c2
    clear hp hq hc0 hd0 hpr hqr hll hcell hqn hA hBd
    go_wp2_with fail
    have b0 : Below wr.heap.size wr wr.drew := (Below.refl _ _).drew
    have rhd := e1.drew
    have rxd := e2.drew
    have khd : HwOK wr.drew h := (show HwOK wr h from khW.on hBr)
    have kxd : HwOK wr.drew hx := (show HwOK wr hx from kxW.on hBr)
    refine wp_region_plan (fun w' => Row w' (w.heap.size) 31 h.cs ∧ Row w' (w4.heap.size) 31 hx.cs ∧ w'.cell? (ad.add i) = some (.slice p.A p.n p.c) ∧ w'.cell? (bd.add i) = some (.slice q.A q.n q.c)) (.take 0 <| .take 1 <| .take 2 <| .take 3 <| .take 4 <| .take 5 <| .take 6 <| .take 7 <| .take 8 <| .take 9 <| .take 10 <| .take 11 <| .take 12 <| .take 13 <| .take 14 <| .take 15 <| .take 16 <| .take 17 <| .take 18 <| .take 20 <| .take 21 <| .take 22 <| .one 19 <| .one 23 <| .take 24 <| .take 25 <| .done) (by kernel_rfl) (by kernel_rfl) (by kernel_rfl) (fun _ _ _ _ _ h => h) ⟨rhd, rxd, ((hBr.trans (b0.mono hBr.size)).cell (by rw [block_of_add]; exact hlta)).trans HC0.out, ((hBr.trans (b0.mono hBr.size)).cell (by rw [block_of_add]; exact hltb)).trans HD0.out⟩ ?_
    repeat (refine plan_take _ rfl ?_; (first | ((with_reducible refine wpQuiet_at ⟨some 57, _, _, _, _, _⟩ ?_); refine wpQuiet_valueG rfl _ (by intro _ hS; exact exec_load1 _ 22 _ rfl ⟨w4.heap.size, 0, none⟩ rfl (.slice (some bd) hx.n hx.c) (by have := hS.2.1.cell (j := 0) (u := .slice hx.A hx.n hx.c) rfl; rwa [HBD.out] at this) _ Try.underlying22 rfl) (wpQuiet_nil ?_); simp only [Act.put, List.setIfInBounds_toArray, List.set_cons_zero, List.set_cons_succ]) | ((with_reducible refine wpQuiet_at ⟨some 60, _, _, _, _, _⟩ ?_); refine wpQuiet_valueG rfl _ (by intro _ hS; exact exec_load1 _ 56 _ rfl (bd.add i) rfl (.slice q.A q.n q.c) hS.2.2.2 _ Try.underlying56 rfl) (wpQuiet_nil ?_); simp only [Act.put, List.setIfInBounds_toArray, List.set_cons_zero, List.set_cons_succ]) | ((with_reducible refine wpQuiet_at ⟨some 64, _, _, _, _, _⟩ ?_); refine wpQuiet_valueG rfl _ (by intro _ hS; exact exec_load1 _ 22 _ rfl ⟨w.heap.size, 0, none⟩ rfl (.slice (some ad) h.n h.c) (by have := hS.1.cell (j := 0) (u := .slice h.A h.n h.c) rfl; rwa [HA.out] at this) _ Try.underlying22 rfl) (wpQuiet_nil ?_); simp only [Act.put, List.setIfInBounds_toArray, List.set_cons_zero, List.set_cons_succ]) | ((with_reducible refine wpQuiet_at ⟨some 67, _, _, _, _, _⟩ ?_); refine wpQuiet_valueG rfl _ (by intro _ hS; exact exec_load1 _ 56 _ rfl (ad.add i) rfl (.slice p.A p.n p.c) hS.2.2.1 _ Try.underlying56 rfl) (wpQuiet_nil ?_); simp only [Act.put, List.setIfInBounds_toArray, List.set_cons_zero, List.set_cons_succ]) | ((with_reducible refine wpQuiet_at ⟨some 72, _, _, _, _, _⟩ ?_); refine wpQuiet_valueG rfl _ (by intro _ hS; exact exec_loadHF _ _ rfl (w4.heap.size) rfl hx hS.2.1) (wpQuiet_nil ?_); simp only [Act.put, List.setIfInBounds_toArray, List.set_cons_zero, List.set_cons_succ]) | ((with_reducible refine wpQuiet_at ⟨some 76, _, _, _, _, _⟩ ?_); refine wpQuiet_valueG rfl _ (by intro _ hS; exact exec_loadHF _ _ rfl (w.heap.size) rfl h hS.1) (wpQuiet_nil ?_); simp only [Act.put, List.setIfInBounds_toArray, List.set_cons_zero, List.set_cons_succ]) | (go_big_quiet_step ((intros; rfl)); refine wpQuiet_nil ?_)))
    refine plan_one _ rfl fun K hK => ?_
    go_simp
    refine ((HLX _ kxd.1.1).out).mono ?_
    rintro e wu1 ⟨rfl, hu1⟩
    have rhu1 := rhd.on hu1
    have rxu1 := rxd.on hu1
    have khu1 := khd.on hu1
    have kxu1 := kxd.on hu1
    have bu1 := b0.trans (hu1.mono b0.size)
    have zu1 := hu1.size
    refine hK _ _ ⟨rhu1, rxu1, ((hBr.trans (bu1.mono hBr.size)).cell (by rw [block_of_add]; exact hlta)).trans HC0.out, ((hBr.trans (bu1.mono hBr.size)).cell (by rw [block_of_add]; exact hltb)).trans HD0.out⟩ ?_
    clear hK K
    refine plan_one _ rfl fun K hK => ?_
    go_simp
    refine ((HLH _ khu1.1.1).out).mono ?_
    rintro e wu2 ⟨rfl, hu2⟩
    have rhu2 := rhu1.on hu2
    have rxu2 := rxu1.on hu2
    have khu2 := khu1.on hu2
    have kxu2 := kxu1.on hu2
    have bu2 := bu1.trans (hu2.mono bu1.size)
    have zu2 := hu2.size
    refine hK _ _ ⟨rhu2, rxu2, ((hBr.trans (bu2.mono hBr.size)).cell (by rw [block_of_add]; exact hlta)).trans HC0.out, ((hBr.trans (bu2.mono hBr.size)).cell (by rw [block_of_add]; exact hltb)).trans HD0.out⟩ ?_
    clear hK K
    repeat (refine plan_take _ rfl ?_; (first | ((with_reducible refine wpQuiet_at ⟨some 57, _, _, _, _, _⟩ ?_); refine wpQuiet_valueG rfl _ (by intro _ hS; exact exec_load1 _ 22 _ rfl ⟨w4.heap.size, 0, none⟩ rfl (.slice (some bd) hx.n hx.c) (by have := hS.2.1.cell (j := 0) (u := .slice hx.A hx.n hx.c) rfl; rwa [HBD.out] at this) _ Try.underlying22 rfl) (wpQuiet_nil ?_); simp only [Act.put, List.setIfInBounds_toArray, List.set_cons_zero, List.set_cons_succ]) | ((with_reducible refine wpQuiet_at ⟨some 60, _, _, _, _, _⟩ ?_); refine wpQuiet_valueG rfl _ (by intro _ hS; exact exec_load1 _ 56 _ rfl (bd.add i) rfl (.slice q.A q.n q.c) hS.2.2.2 _ Try.underlying56 rfl) (wpQuiet_nil ?_); simp only [Act.put, List.setIfInBounds_toArray, List.set_cons_zero, List.set_cons_succ]) | ((with_reducible refine wpQuiet_at ⟨some 64, _, _, _, _, _⟩ ?_); refine wpQuiet_valueG rfl _ (by intro _ hS; exact exec_load1 _ 22 _ rfl ⟨w.heap.size, 0, none⟩ rfl (.slice (some ad) h.n h.c) (by have := hS.1.cell (j := 0) (u := .slice h.A h.n h.c) rfl; rwa [HA.out] at this) _ Try.underlying22 rfl) (wpQuiet_nil ?_); simp only [Act.put, List.setIfInBounds_toArray, List.set_cons_zero, List.set_cons_succ]) | ((with_reducible refine wpQuiet_at ⟨some 67, _, _, _, _, _⟩ ?_); refine wpQuiet_valueG rfl _ (by intro _ hS; exact exec_load1 _ 56 _ rfl (ad.add i) rfl (.slice p.A p.n p.c) hS.2.2.1 _ Try.underlying56 rfl) (wpQuiet_nil ?_); simp only [Act.put, List.setIfInBounds_toArray, List.set_cons_zero, List.set_cons_succ]) | ((with_reducible refine wpQuiet_at ⟨some 72, _, _, _, _, _⟩ ?_); refine wpQuiet_valueG rfl _ (by intro _ hS; exact exec_loadHF _ _ rfl (w4.heap.size) rfl hx hS.2.1) (wpQuiet_nil ?_); simp only [Act.put, List.setIfInBounds_toArray, List.set_cons_zero, List.set_cons_succ]) | ((with_reducible refine wpQuiet_at ⟨some 76, _, _, _, _, _⟩ ?_); refine wpQuiet_valueG rfl _ (by intro _ hS; exact exec_loadHF _ _ rfl (w.heap.size) rfl h hS.1) (wpQuiet_nil ?_); simp only [Act.put, List.setIfInBounds_toArray, List.set_cons_zero, List.set_cons_succ]) | (go_big_quiet_step ((intros; rfl)); refine wpQuiet_nil ?_)))
    refine plan_done ?_
    go_wp2_with fail
    have g1 := rhu2
    have g2 := rxu2
    have hBq := hBr.trans (bu2.mono hBr.size)
    clear c1 c2
    obtain ⟨g0, hg0⟩ : ∃ g0 : Nat, g0 = gk := ⟨_, rfl⟩
    have HG0 := Lib.hid hg0
    clear hg0
    go_loopg [12] p.n (fun g s12 wi => ∃ k : Nat, Hid (k + g = p.n) ∧ k ≤ p.n ∧ s12 = .int .i64 (k : Int) ∧ Row wi (w.heap.size) 31 h.cs ∧ Row wi (w4.heap.size) 31 hx.cs ∧ Below w6.heap.size w6 wi)
    case atStart => exact ⟨0, by show _ = _; omega, by omega, rfl, g1, g2, hBq⟩
    case round =>
      clear g1 g2 hBq
      obtain ⟨k, HK, hk, rfl, g1, g2, hBi⟩ := hrel
      have c1 := g1.cell (j := 0) (u := .slice h.A h.n h.c) rfl
      have c2 := g2.cell (j := 0) (u := .slice hx.A hx.n hx.c) rfl
      rw [HA.out] at c1
      rw [HBD.out] at c2
      have hci := (hBi.cell (by rw [block_of_add]; exact hlta)).trans HC0.out
      have hdi := (hBi.cell (by rw [block_of_add]; exact hltb)).trans HD0.out
      by_cases hlk : k < p.n
      rotate_left
      · go_wp2_with fail
        go_roundg (g0 - 1)
        case measure => have := HI.out; have := HG0.out; omega
        case rel => exact ⟨i + 1, by have := HI.out; have := HG0.out; show _ = _; omega, by omega, by go_num, g1, g2, hBi⟩
      obtain ⟨s, hs⟩ : ∃ s, p.l[k]? = some s := ⟨_, List.getElem?_eq_getElem (by rw [HPR.out.bytes_len]; exact hlk)⟩
      obtain ⟨u, hu⟩ : ∃ u, q.l[k]? = some u := ⟨_, List.getElem?_eq_getElem (by rw [HQR.out.bytes_len, HQN.out]; exact hlk)⟩
      obtain ⟨pd, hpA, _, hsc⟩ := (HPR.out.below hBi).byte_at hs
      obtain ⟨qd, hqA, _, huc⟩ := (HQR.out.below hBi).byte_at hu
      rw [hpA] at hci
      rw [hqA] at hdi
      unfold bv at hsc huc
      have hup := HCELL.out k s u hs hu
      have hkq : k < q.n := by have := HQN.out; omega
      clear hs hu hpA hqA
      rcases hup with hup | ⟨h1, h2, h3⟩
      · have hz7 : (((s.toNat : Nat) : Int) != (u.toNat : Nat)) = false := by rw [hup]; simp
        have HUP := Lib.hid hup
        clear hup
        generalize s.toNat = sv at *
        generalize u.toNat = uv at *
        go_wp2_with fail
        go_roundg (gk - 1)
        case measure => have := HK.out; omega
        case rel => exact ⟨k + 1, by have := HK.out; show _ = _; omega, by omega, by go_num, g1, g2, hBi⟩
      · by_cases hse : s.toNat = u.toNat
        · have hz7 : (((s.toNat : Nat) : Int) != (u.toNat : Nat)) = false := by rw [hse]; simp
          clear hse h1 h2 h3
          generalize s.toNat = sv at *
          generalize u.toNat = uv at *
          go_wp2_with fail
          go_roundg (gk - 1)
          case measure => have := HK.out; omega
          case rel => exact ⟨k + 1, by have := HK.out; show _ = _; omega, by omega, by go_num, g1, g2, hBi⟩
        · have hz7 : (((s.toNat : Nat) : Int) != (u.toNat : Nat)) = true := by simp only [bne_iff_ne, ne_eq]; omega
          clear hse
          generalize s.toNat = sv at *
          generalize u.toNat = uv at *
          go_wp2_with fail
          go_roundg (gk - 1)
          case measure => have := HK.out; omega
          case rel => exact ⟨k + 1, by have := HK.out; show _ = _; omega, by omega, by go_num, g1, g2, hBi⟩
end Go.Proofs.Ytkepmhkakkkliaa
