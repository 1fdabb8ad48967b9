/-
  What the reference's compress returns: a contract by a walk. Condition: a block of 64 bytes, 8 words, the 64 constants.
-/
import Derived.Test.YtfclifolniefpaaDoorShaG
import Derived.Test.YtfclifolniefpaaDoorEncG
namespace Go.Proofs.YtfclifolniefpaaDoor
open Go.RowKit

/-- A new slice of words; nothing that was there has changed. -/
def GivesW (l : List UInt32) (w : World) (e : Ending) (w' : World) : Prop :=
  ∃ v, e = .returned v ∧ w'.ownsRow w.heap.size 108 1 v l.length (wvs l) ∧ Below w.heap.size w w'
theorem info_u32 : (Tryd.prog.info? 108).map (fun i => (i.zero, i.size, i.bytes)) = some (some (.int .u32 0), 1, 4) := by kernel_rfl

set_option maxRecDepth 100000 in
set_option maxHeartbeats 4000000 in
theorem refCompress_any (s : St) (Av Ab Ak : Option Addr) (cv cb ck : Nat) (b : List UInt8) (w : World) (hv : Reads w w.heap.size 1 Av 8 (wvs s.list)) (hr : Reads w w.heap.size 1 Ab 64 (bvs b)) (hk : Reads w w.heap.size 1 Ak 64 (wvs roundK)) :
    Calls Tryd.prog 70 #[.slice Av 8 cv, .slice Ab 64 cb, .slice Ak 64 ck] w (GivesW (compr s b).list w) := by
  obtain ⟨sa, sb, sc, sd, se, sf, sg, sh⟩ := s
  obtain ⟨i0, hi0, hz0, hz1, hz2⟩ := info_parts info_u8
  obtain ⟨ad, rfl, hab, hcell⟩ := hr.2 (by omega)
  have HC := Lib.hid hcell
  clear hcell
  obtain ⟨av, rfl, havb, hcell⟩ := hv.2 (by omega)
  have HVC := Lib.hid hcell
  clear hcell
  obtain ⟨ak, rfl, hakb, hcell⟩ := hk.2 (by omega)
  have HKC := Lib.hid hcell
  clear hcell
  go_enter Tryd.func70, Tryd.ntmps70
  go_wp2_with (with_reducible refine wpList_make_row (o := ⟨some 23, _, _, _, _, _⟩) rfl _ _ _ rfl 108 Tryd.underlying124 (.int .u32 0) rfl 4 info_u32 .i64 .i64 64 64 rfl rfl (by omega) (by omega) (by omega) ?_; intro w1 hrow1 hs1 hg1)
  have hbel : Below w.heap.size w w1 := grown_below hg1 (Nat.le_refl _) (by simp)
  clear hg1
  go_loopg [8] 16 (fun g s8 wr => ∃ i : Nat, Hid (i + g = 16) ∧ i ≤ 16 ∧ s8 = .int .i64 i ∧ Row wr w.heap.size 108 (filled (wordsOf b i)) ∧ Below w.heap.size w wr)
  case atStart => exact ⟨0, rfl, by omega, rfl, hrow1, hbel⟩
  case round =>
    obtain ⟨i, HI, hi, rfl, hrow, hbelr⟩ := hrel
    by_cases hlt : i < 16
    · have hcw : ∀ k, k < 4 → wr.cell? (ad.add (4 * i + k)) = some (bv (b.getD (4 * i + k) 0)) := fun k hk => by
        have hl : 4 * i + k < b.length := by have := hr.1; rw [bvs_length] at this; omega
        rw [hbelr.cell (by rw [block_of_add]; exact hab)]
        exact HC.out _ _ (by unfold bvs; rw [List.getElem?_map, List.getElem?_eq_getElem hl, List.getD, List.getElem?_eq_getElem hl]; rfl)
      have hc0 := hcw 0 (by omega)
      have hc1 := hcw 1 (by omega)
      have hc2 := hcw 2 (by omega)
      have hc3 := hcw 3 (by omega)
      rw [Nat.add_zero] at hc0
      rw [add_pos _ _ (by omega)] at hc1 hc2 hc3
      clear hcw
      have HW : Hid (wordsOf b (i + 1) = wordsOf b i ++ [UInt32.ofNat ((b.getD (4 * i) 0).toNat * 16777216 + (b.getD (4 * i + 1) 0).toNat * 65536 + (b.getD (4 * i + 2) 0).toNat * 256 + (b.getD (4 * i + 3) 0).toNat)]) := rfl
      generalize b.getD (4 * i) 0 = x0 at *
      generalize b.getD (4 * i + 1) 0 = x1 at *
      generalize b.getD (4 * i + 2) 0 = x2 at *
      generalize b.getD (4 * i + 3) 0 = x3 at *
      have HV := Lib.hid (word_val x0 x1 x2 x3)
      unfold bv at hc0 hc1 hc2 hc3
      go_wp2_with fail
      refine wp_region_tail 36 (by kernel_rfl) (by kernel_rfl) ?_
      simp only [List.take_succ_cons, List.take_zero, List.drop_succ_cons, List.drop_zero]
      repeat (go_big_quiet_step (fail))
      refine wpQuiet_nil ?_
      refine wpList_store_elem (o := ⟨none, _, _, _, _, _⟩) rfl _ _ _ rfl w.heap.size i rfl _ _ hrow.drew _ rfl rfl (by rw [filled_len _ (by rw [wordsOf_len]; omega)]; omega) (by kernel_rfl) ?_
      intro w3 hrow3 hg3
      have hb3 : Below w.heap.size w w3 := below_kept hbelr.drew hg3 (by have := hbelr.size; simpa using this) (by rintro k hk; cases hk; omega)
      clear hg3
      go_wp2_with fail
      go_roundg (gk - 1)
      case measure => have := HI.out; omega
      case rel =>
        refine ⟨i + 1, by have := HI.out; show _ = _; omega, by omega, by go_num, ?_, hb3⟩
        have e := filled_set (wordsOf b i) (UInt32.ofNat (x0.toNat * 16777216 + x1.toNat * 65536 + x2.toNat * 256 + x3.toNat)) (by rw [wordsOf_len]; omega)
        rw [wordsOf_len, ← HW.out] at e
        rw [← e]
        unfold wv
        rw [← HV.out]
        exact hrow3
    · have hrow16 : Row wr w.heap.size 108 (filled (sched b 0)) := by
        have hi16 : i = 16 := by omega
        rw [hi16] at hrow
        exact hrow
      clear hrow HI
      obtain ⟨wo, rfl⟩ : ∃ wo : World, wo = wr := ⟨_, rfl⟩
      obtain ⟨g0, rfl⟩ : ∃ g0 : Nat, g0 = gk := ⟨_, rfl⟩
      go_wp2_with fail
      go_loopg [9, 10, 11] 48 (fun g s6 s7 s8 wi => ∃ j : Nat, Hid (j + g = 48) ∧ j ≤ 48 ∧ s6 = .int .i64 ((16 + j : Nat) : Int) ∧ Row wi w.heap.size 108 (filled (sched b j)) ∧ Below w.heap.size w wi)
      case atStart => exact ⟨0, rfl, by omega, rfl, hrow16, hbelr⟩
      case round =>
        obtain ⟨j, HJ, hj, rfl, hrow, hbelr⟩ := hrel
        obtain ⟨m, hm⟩ : ∃ m, m = 16 + j := ⟨_, rfl⟩
        rw [← hm]
        have hm1 : 16 ≤ m := by omega
        have hm2 : m ≤ 64 := by omega
        have HM := Lib.hid hm
        clear hm
        by_cases hlm : m < 64
        · have HL : Hid ((sched b j).length = m) := by show _ = _; rw [sched_len, HM.out]
          have hcw : ∀ k, k ≤ 16 → 0 < k → wr.cell? ⟨w.heap.size, m - k, none⟩ = some (wv ((sched b j).getD (m - k) 0)) := fun k hk hk0 => hrow.cell (filled_at _ _ (by rw [HL.out]; omega))
          have hc16 := hcw 16 (by omega) (by omega)
          have hc15 := hcw 15 (by omega) (by omega)
          have hc7 := hcw 7 (by omega) (by omega)
          have hc2 := hcw 2 (by omega) (by omega)
          clear hcw
          have HN : Hid (sched b (j + 1) = sched b j ++ [(sched b j).getD (m - 16) 0 + sig0 ((sched b j).getD (m - 15) 0) + (sched b j).getD (m - 7) 0 + sig1 ((sched b j).getD (m - 2) 0)]) := by
            show _ = _
            rw [sched, nextW, HL.out]
          generalize (sched b j).getD (m - 16) 0 = x16 at *
          generalize (sched b j).getD (m - 15) 0 = x15 at *
          generalize (sched b j).getD (m - 7) 0 = x7 at *
          generalize (sched b j).getD (m - 2) 0 = x2 at *
          unfold wv at hc16 hc15 hc7 hc2
          have r1 := wi_xor
          have r2 := wi_plus
          have r3 := wi_shr3
          have r4 := wi_shr10
          go_wp2_with fail
          go_quiet ((go_at_call 80; exact Calls.quiet_of (refRot_any x15 _ _ (by omega) (by omega))))
          have hrow := hrow.drewN nq
          have hbelr := below_drewN hbelr nq
          have hc16 : (wr.drewN nq).cell? ⟨w.heap.size, m - 16, none⟩ = some (.int .u32 (wi x16)) := hc16
          have hc7 : (wr.drewN nq).cell? ⟨w.heap.size, m - 7, none⟩ = some (.int .u32 (wi x7)) := hc7
          have hc2 : (wr.drewN nq).cell? ⟨w.heap.size, m - 2, none⟩ = some (.int .u32 (wi x2)) := hc2
          generalize wr.drewN nq = wr2 at *
          go_wp2_with fail
          go_quiet ((go_at_call 80; exact Calls.quiet_of (refRot_any x2 _ _ (by omega) (by omega))))
          have hrow := hrow.drewN nq
          have hbelr := below_drewN hbelr nq
          have hc16 : (wr2.drewN nq).cell? ⟨w.heap.size, m - 16, none⟩ = some (.int .u32 (wi x16)) := hc16
          have hc7 : (wr2.drewN nq).cell? ⟨w.heap.size, m - 7, none⟩ = some (.int .u32 (wi x7)) := hc7
          clear hc2 hc15
          generalize wr2.drewN nq = wr3 at *
          go_wp2_with fail
          refine wp_region_tail 18 (by kernel_rfl) (by kernel_rfl) ?_
          simp only [List.take_succ_cons, List.take_zero, List.drop_succ_cons, List.drop_zero]
          repeat (go_big_quiet_step (fail))
          refine wpQuiet_nil ?_
          clear r1 r2 r3 r4
          refine wpList_store_elem (o := ⟨none, _, _, _, _, _⟩) rfl _ _ _ rfl w.heap.size m rfl _ _ hrow.drew _ rfl rfl (by rw [filled_len _ (by rw [HL.out]; omega)]; omega) (by kernel_rfl) ?_
          intro w3 hrow3 hg3
          have hb3 : Below w.heap.size w w3 := below_kept hbelr.drew hg3 (by have := hbelr.size; simpa using this) (by rintro k hk; cases hk; omega)
          clear hg3
          have HN2 : Hid (Row w3 w.heap.size 108 (filled (sched b (j + 1)))) := by
            have e := filled_set (sched b j) (x16 + sig0 x15 + x7 + sig1 x2) (by rw [HL.out]; omega)
            rw [HL.out, ← HN.out] at e
            show Row _ _ _ _
            rw [← e]
            exact hrow3
          clear hrow3
          go_wp2_with fail
          go_roundg (gk - 1)
          case measure => have := HJ.out; have := HM.out; omega
          case rel => exact ⟨j + 1, by have := HJ.out; have := HM.out; show _ = _; omega, by have := HM.out; omega, by have := HM.out; rw [this]; go_num, HN2.out, hb3⟩
        · have HJ48 : Hid (j = 48) := by show _ = _; have := HM.out; omega
          rw [HJ48.out, filled_all _ (by rw [sched_len])] at hrow
          have HWL := Lib.hid (sched_len b 48)
          obtain ⟨W, hW⟩ : ∃ W, W = sched b 48 := ⟨_, rfl⟩
          rw [← hW] at HWL hrow
          have HCM := Lib.hid (compr_eq ⟨sa, sb, sc, sd, se, sf, sg, sh⟩ b W hW)
          clear hW HJ HJ48 HM
          have hvc : ∀ k u, (wvs [sa, sb, sc, sd, se, sf, sg, sh])[k]? = some u → wr.cell? (av.add k) = some u := fun k u hu => (hbelr.cell (by rw [block_of_add]; exact havb)).trans (HVC.out k u hu)
          have e0 := hvc 0 _ rfl
          have e1 := hvc 1 _ rfl
          have e2 := hvc 2 _ rfl
          have e3 := hvc 3 _ rfl
          have e4 := hvc 4 _ rfl
          have e5 := hvc 5 _ rfl
          have e6 := hvc 6 _ rfl
          have e7 := hvc 7 _ rfl
          rw [show av.add 0 = av from rfl] at e0
          rw [add_pos _ _ (by omega)] at e1 e2 e3 e4 e5 e6 e7
          clear hvc
          unfold wv at e0 e1 e2 e3 e4 e5 e6 e7
          obtain ⟨wp, rfl⟩ : ∃ wp : World, wp = wr := ⟨_, rfl⟩
          obtain ⟨g1, rfl⟩ : ∃ g1 : Nat, g1 = gk := ⟨_, rfl⟩
          go_wp2_with fail
          clear e0 e1 e2 e3 e4 e5 e6 e7
          go_loopg [12, 13, 14, 15, 16, 17, 18, 19, 20, 21, 22] 64 (fun g s6 s7 s8 s9 s10 s11 s12 s13 s20 s21 s22 wr => ∃ (i : Nat) (va vb vc vd ve vf vg vh : UInt32), Hid (i + g = 64) ∧ i ≤ 64 ∧ s20 = .int .i64 i ∧
            Hid (rounds W ⟨sa, sb, sc, sd, se, sf, sg, sh⟩ i = ⟨va, vb, vc, vd, ve, vf, vg, vh⟩) ∧ s6 = .int .u32 (wi va) ∧ s7 = .int .u32 (wi vb) ∧ s8 = .int .u32 (wi vc) ∧ s9 = .int .u32 (wi vd) ∧ s10 = .int .u32 (wi ve) ∧ s11 = .int .u32 (wi vf) ∧ s12 = .int .u32 (wi vg) ∧ s13 = .int .u32 (wi vh) ∧
            Row wr w.heap.size 108 (wvs W) ∧ Below w.heap.size w wr)
          case atStart => exact ⟨0, sa, sb, sc, sd, se, sf, sg, sh, rfl, by omega, rfl, rfl, rfl, rfl, rfl, rfl, rfl, rfl, rfl, rfl, hrow, hbelr⟩
          case round =>
            obtain ⟨i, va, vb, vc, vd, ve, vf, vg, vh, HI, hi, rfl, HR, rfl, rfl, rfl, rfl, rfl, rfl, rfl, rfl, hrW, hbel⟩ := hrel
            by_cases hlt : i < 64
            · have hkr : wr.cell? (ak.add i) = some (wv (roundK.getD i 0)) := (hbel.cell (by rw [block_of_add]; exact hakb)).trans (HKC.out i _ (by
                have hl : i < roundK.length := hlt
                unfold wvs; rw [List.getElem?_map, List.getElem?_eq_getElem hl, List.getD, List.getElem?_eq_getElem hl]; rfl))
              have hwr := hrW.cell (j := i) (u := wv (W.getD i 0)) (by
                have hl : i < W.length := by rw [HWL.out]; omega
                unfold wvs; rw [List.getElem?_map, List.getElem?_eq_getElem hl, List.getD, List.getElem?_eq_getElem hl]; rfl)
              have HN : Hid (rounds W ⟨sa, sb, sc, sd, se, sf, sg, sh⟩ (i + 1) = St.round ⟨va, vb, vc, vd, ve, vf, vg, vh⟩ (roundK.getD i 0) (W.getD i 0)) := by
                show _ = _
                rw [rounds, HR.out]
              generalize roundK.getD i 0 = rk at *
              generalize W.getD i 0 = rw at *
              unfold wv at hkr hwr
              have r1 := wi_xor
              have r2 := wi_plus
              have r3 := wi_and
              have r4 := wi_not2
              go_wp2_with fail
              go_quiet ((go_at_call 80; exact Calls.quiet_of (refRot_any ve _ _ (by omega) (by omega))))
              have hrW := hrW.drewN nq
              have hbel := below_drewN hbel nq
              clear hkr hwr
              generalize wr.drewN nq = wr2 at *
              go_wp2_with fail
              refine (refRot_any va _ _ (by omega) (by omega)).mono ?_
              rintro e w' ⟨rfl, m1, rfl⟩
              go_wp2_with fail
              refine (refRot_any va _ _ (by omega) (by omega)).mono ?_
              rintro e w' ⟨rfl, m2, rfl⟩
              go_wp2_with fail
              refine (refRot_any va _ _ (by omega) (by omega)).mono ?_
              rintro e w' ⟨rfl, m3, rfl⟩
              go_wp2_with fail
              clear r1 r2 r3 r4
              go_roundg (gk - 1)
              case measure => have := HI.out; omega
              case rel =>
                refine ⟨i + 1, _, _, _, _, _, _, _, _, by have := HI.out; show _ = _; omega, by omega, by go_num, HN, congrArg (Value.int .u32) ?_, rfl, rfl, rfl, congrArg (Value.int .u32) ?_, rfl, rfl, rfl, ?_, ?_⟩
                · exact wi_plus _ _
                · exact wi_plus _ _
                · exact hrW
                · exact below_drewN hbel _
            · have hvc : ∀ k u, (wvs [sa, sb, sc, sd, se, sf, sg, sh])[k]? = some u → wr.cell? (av.add k) = some u := fun k u hu => (hbel.cell (by rw [block_of_add]; exact havb)).trans (HVC.out k u hu)
              have e0 := hvc 0 _ rfl
              have e1 := hvc 1 _ rfl
              have e2 := hvc 2 _ rfl
              have e3 := hvc 3 _ rfl
              have e4 := hvc 4 _ rfl
              have e5 := hvc 5 _ rfl
              have e6 := hvc 6 _ rfl
              have e7 := hvc 7 _ rfl
              rw [show av.add 0 = av from rfl] at e0
              rw [add_pos _ _ (by omega)] at e1 e2 e3 e4 e5 e6 e7
              clear hvc
              unfold wv at e0 e1 e2 e3 e4 e5 e6 e7
              have r2 := wi_plus
              go_wp2_with fail
              refine wp_region_tail 40 (by kernel_rfl) (by kernel_rfl) ?_
              simp only [List.take_succ_cons, List.take_zero, List.drop_succ_cons, List.drop_zero]
              repeat (go_big_quiet_step (fail))
              refine wpQuiet_nil ?_
              clear e0 e1 e2 e3 e4 e5 e6 e7 r2
              have HI64 : Hid (i = 64) := by show _ = _; omega
              rw [HI64.out] at HR
              have HC2 : Hid (compr ⟨sa, sb, sc, sd, se, sf, sg, sh⟩ b = ⟨sa + va, sb + vb, sc + vc, sd + vd, se + ve, sf + vf, sg + vg, sh + vh⟩) := by
                show _ = _
                rw [HCM.out, HR.out, St.plus]
              go_wp2_with fail
              go_ret
              have hsz := hbel.size
              refine ⟨_, rfl, ?_, (hbel.alloc hsz _).drew⟩
              rw [HC2.out]
              have hR := row_alloc wr 108 (wvs [sa + va, sb + vb, sc + vc, sd + vd, se + ve, sf + vf, sg + vg, sh + vh])
              have hO := (hR.drew).owns_all hsz 8 rfl (by unfold maxLen; omega)
              unfold wvs wv at hO ⊢
              simp only [List.map_cons, List.map_nil, ← wi_plus] at hO ⊢
              exact hO
end Go.Proofs.YtfclifolniefpaaDoor
