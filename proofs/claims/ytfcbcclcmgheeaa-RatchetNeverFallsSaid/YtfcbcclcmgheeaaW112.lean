/-
  RatchetNeverFalls: a walk. No condition.
-/
import Derived.Test.YtfcbcclcmgheeaaRtZ
import Derived.Test.YtfcbcclcmgheeaaFuRG
import Derived.Deep.LoopGhost
set_option linter.unusedSimpArgs false
set_option linter.unusedVariables false
namespace Go.Proofs.Ytfcbcclcmgheeaa
open Go.RowKit

theorem falls_ses (s : RtSes) {bits : Nat} {cs : List UInt8} (hs : Small3 cs) (hl : cs.length = 3 * bits) (hS : SoundC cs) : ∃ f n e d m, rtExec s bits cs = ⟨f, n, e, d, m⟩ ∧ Small3 f ∧ f.length = 3 * bits ∧ SoundC f ∧ lvl cs false ≤ lvl f false ∧
    (d = true → e = 0 ∧ ∃ p : Nat, n = (p : Int) ∧ lvl cs false ≤ p ∧ rtT s bits ≤ p ∧ p ≤ lvl f false) := by
  have H := rtExec_ok s bits cs hs hl
  refine ⟨_, _, _, _, _, RtRun.is rfl rfl rfl rfl, hs.up H.up, by rw [← H.up.1]; exact hl, hS.up H.up, lvl_up hl H.up, fun hd => ?_⟩
  obtain ⟨h1, h2, h3, h4⟩ := ses_least H hl hS hd
  exact ⟨h1, (rtExec s bits cs).n.toNat, by omega, by omega, by omega, by omega⟩
theorem rn_part {w : World} {g : Nat} {e : TypeId} {r : Rn} (h : Row w g e r.cs) : ∀ j u, [Value.slice r.A r.n r.c][j]? = some u → w.cell? ((⟨g, 0, none⟩ : Addr).add j) = some u := Row.part h (pre := []) (post := [.int .i64 r.o.n, .int .i64 r.o.e, .bool r.done, .int .i64 r.many, .bool r.bad]) rfl rfl
/-- An element of a slice. -/
def ElOK (w : World) (ad : Addr) (cs : List Value) : Prop := ad.block < w.heap.size ∧ ∀ j u, cs[j]? = some u → w.cell? (ad.add j) = some u
theorem ElOK.on {w w' : World} {ad : Addr} {cs : List Value} (h : ElOK w ad cs) (hb : Below w.heap.size w w') : ElOK w' ad cs := ⟨Nat.lt_of_lt_of_le h.1 hb.size, fun j u hu => (hb.cell (by rw [block_of_add]; exact h.1)).trans (h.2 j u hu)⟩
theorem ElOK.kept {w w' : World} {ad : Addr} {cs : List Value} {g : Nat} (h : ElOK w ad cs) (hg : w.grownBy w' (some g)) (hne : ad.block ≠ g) : ElOK w' ad cs := ⟨Nat.lt_of_lt_of_le h.1 hg.size, fun j u hu => (World.cell?_of_block (hg.block _ (by rw [block_of_add]; exact h.1) (by rw [block_of_add]; simp; omega))).trans (h.2 j u hu)⟩
set_option maxRecDepth 100000 in
set_option maxHeartbeats 4000000 in
theorem w112_any (A : Option Addr) (n c : Nat) (l : List UInt8) (SA : Option Addr) (Sn Sc : Nat) (ls : List (Se × List UInt8)) (w : World) (hr : Reads w w.heap.size 1 A n (bvs l)) (hn : n ≤ 9223372036854775807) (hsr : Reads w w.heap.size 3 SA Sn (ses ls)) (hSn : Sn ≤ 9223372036854775807) (hsi : SesIn w ls) (hsz : ∀ p ∈ ls, p.1.n ≤ 9223372036854775807) :
    Calls Try.prog 4 #[.slice A n c, .slice SA Sn Sc] w (GivesX (.bool true) w) := by
  have hB0 : Below w.heap.size w w := Below.refl _ _
  go_enter Try.func4, Try.ntmps4
  go_wp2_with fail
  refine ((san11_any _)).mono ?_
  rintro e w1 ⟨rfl, h1⟩
  have B1 := hB0.trans (h1.mono hB0.size)
  have rd_1 := hr.on h1
  have rs_1 := hsr.on h1
  have si_1 := hsi.on h1
  have sz1 := h1.size
  by_cases hbig : 48 < n
  · have q : decide ((48 : Int) < (n : Int)) = true := decide_eq_true (by omega)
    go_wp2_with fail
    go_ret
    exact ⟨rfl, B1⟩
  · have q : decide ((48 : Int) < (n : Int)) = false := decide_eq_false (by omega)
    go_wp2_with fail
    refine (few11_any SA Sn Sc ls _ rs_1 hSn hsz).mono ?_
    rintro e _ ⟨fb, rfl, rfl⟩
    cases fb with
    | false =>
      go_wp2_with fail
      go_ret
      exact ⟨rfl, B1⟩
    | true =>
      go_wp2_with fail
      obtain ⟨bits, hbits⟩ : ∃ bits, bits = rtBits l := ⟨_, rfl⟩
      have hb16 := rtBits_le l
      have HCE := cells11_any A n c l true _ rd_1 (by omega)
      have hcl := rtCells_len l true
      have hsm := rtCells_small l true
      have hso := rtCells_sound l
      rw [← hbits] at hb16 HCE hcl
      clear hbits
      generalize rtCells l true = cs0 at *
      have HSM := Lib.hid hsm
      have HSO := Lib.hid hso
      have HCL0 := Lib.hid hcl
      clear hsm hso hcl hr
      refine (HCE).mono ?_
      rintro e w2 ⟨A2, c2, p2, rfl, fa, hp2, hi2, h2⟩
      have B2 := B1.trans (h2.mono B1.size)
      have rs_2 := rs_1.on h2
      have si_2 := si_1.on h2
      clear rs_1 si_1
      have sz2 := h2.size
      have hnfa := fa.in_
      go_wp2_with (first
        | (with_reducible refine wpList_alloc_row (o := ⟨some 6, _, _, _, _, _⟩) rfl _ rfl zeroF zero_fu ?_; intro w3 r3 s3 g3)
        | ((with_reducible refine wpList_at ⟨none, .store _ (.tmp 6) _, _, _, _, _⟩ ?_); refine wpList_store_all rfl _ _ _ rfl w2.heap.size rfl _ _ r3 [.slice A2 1 c2] rfl (slice_one _ _ _) rfl (by kernel_rfl) ?_; intro w4 vfa_4 g4; have k4 : Below w2.heap.size w2 w4 := below_kept (grown_below g3 (Nat.le_refl _) (by simp)) g4 (Nat.le_of_lt s3) (by rintro q hq; cases hq; exact Nat.le_refl _); have B4 := B2.trans (k4.mono B2.size); have rs_4 := rs_2.on k4; have si_4 := si_2.on k4; have fa_4 := fa.on k4; clear rs_2 si_2; clear r3 g3 g4; have s4 := vfa_4.lt))
      have hrs0 := rs_4
      have hsi0 := si_4
      obtain ⟨INV, hINV⟩ : ∃ INV : World → Nat → List UInt8 → (Nat → Prop) → Option Addr → Nat → List Part → Prop, INV = fun wr best cs Y Af cf pf => FuOK wr Af 1 cf pf ∧ bk pf = [cs] ∧ FuIn Y Af 1 pf ∧ ¬ Y (w2.heap.size) ∧ (∀ q, Y q → q < wr.heap.size) ∧ Small3 cs ∧ SoundC cs ∧ cs.length = 3 * bits ∧ best ≤ lvl cs false := ⟨_, rfl⟩
      have HINV := Lib.hid hINV
      clear hINV
      go_loopg [8, 9] Sn (fun gh s8 s9 wr => ∃ (k best : Nat) (cs : List UInt8) (Y : Nat → Prop) (Af : Option Addr) (cf : Nat) (pf : List Part), Hid (k + gh = Sn) ∧ k ≤ Sn ∧ s9 = .int .i64 (k : Int) ∧ s8 = .int .i64 (best : Int) ∧ Row wr (w2.heap.size) 40 [.slice Af 1 cf] ∧ INV wr best cs Y Af cf pf ∧ Below w.heap.size w wr)
      case atStart => exact ⟨0, 0, cs0, fun q => q < w2.heap.size, A2, c2, p2, by show _ = _; omega, by omega, rfl, rfl, vfa_4, by rw [HINV.out]; exact ⟨fa_4, hp2, hnfa, by omega, fun q h9 => by omega, HSM.out, HSO.out, HCL0.out, Nat.zero_le _⟩, B4⟩
      case round =>
        obtain ⟨k, best, cs, Y, Af, cf, pf, HK, hk, rfl, rfl, r6, hI, hB⟩ := hrel
        rw [HINV.out] at hI
        obtain ⟨hfk, hbk, hfi, NY6, Y4, hsm, hso, hcl, hbl⟩ := hI
        by_cases hlt : k < Sn
        · obtain ⟨ad, ⟨⟨sr, st, sA, sn, sc⟩, fs⟩, rfl, hlta, hpl, hce⟩ := ses_at (hsr.on hB) hlt
          have hfs := (hsi.on hB) _ (List.mem_of_getElem? hpl)
          simp only at hfs hce
          have hltw : (ad.add (k * 3)).block < w.heap.size := by obtain ⟨ad9, _, e9, h9, _⟩ := ses_at hsr hlt; cases e9; rw [block_of_add]; exact h9
          have hel : ElOK wr (ad.add (k * 3)) (⟨sr, st, sA, sn, sc⟩ : Se).cs := ⟨by rw [block_of_add]; exact hlta, hce⟩
          obtain ⟨fB, nB, eB, dB, mB, hRB, hsm2, hcl2, hso2, hlv2, hdn⟩ := falls_ses (Se.m ⟨sr, st, sA, sn, sc⟩ fs) hsm hcl hso
          have HEX := fun W hfk hfs => Lib.hid (exec_any Y Af cf pf cs bits hb16 hcl (⟨sr, st, sA, sn, sc⟩ : Se) fs W hfk hbk hfi hfs)
          rw [hRB] at HEX
          have hLB := fuLevel_lvl fB false
          have hlvB := lvl_le (z := false) hcl2
          obtain ⟨v, hv⟩ : ∃ v, v = lvl cs false := ⟨_, rfl⟩
          rw [← hv] at hbl hlv2 hdn
          obtain ⟨u, hu⟩ : ∃ u, u = lvl fB false := ⟨_, rfl⟩
          rw [← hu] at hlv2 hdn hLB hlvB
          have HU := Lib.hid hu
          have HLB := Lib.hid hLB
          have HDN := Lib.hid hdn
          have HP2 := Lib.hid (And.intro hsm2 (And.intro hso2 hcl2))
          clear hpl hce hRB hdn hLB hu hsm hcl hso hsm2 hso2 hcl2 hv hbk hfi
          go_wp2_with fail
          try simp only [Act.put, List.setIfInBounds_toArray, List.set_cons_zero, List.set_cons_succ]
          have z0 : wr.drew.heap.size = wr.heap.size := rfl
          have b0 : Below wr.heap.size wr wr.drew := (Below.refl _ _).drew
          have r6e := r6.drew
          have fke : FuOK wr.drew Af 1 cf pf := hfk
          have ele : ElOK wr.drew (ad.add (k * 3)) (⟨sr, st, sA, sn, sc⟩ : Se).cs := hel
          have fse : Reads wr.drew wr.drew.heap.size 1 sA sn (bvs fs) := hfs
          have l6e := r6e.lt
          refine wp_region_plan (fun w' => Row w' (w2.heap.size) 40 [.slice Af 1 cf] ∧ ElOK w' (ad.add (k * 3)) (⟨sr, st, sA, sn, sc⟩ : Se).cs) (.take 0 <| .take 1 <| .take 2 <| .take 3 <| .take 4 <| .take 5 <| .two 6 (.one 7 <| .one 8 <| .done) 7 (.one 6 <| .one 8 <| .done)) (by kernel_rfl) (by kernel_rfl) (by kernel_rfl) (fun _ _ _ _ _ h => h) ⟨r6e, ele⟩ ?_
          -- plan: .take 0 <| .take 1 <| .take 2 <| .take 3 <| .take 4 <| .take 5 <| .two 6 (.one 7 <| .one 8 <| .done) 7 (.one 6 <| .one 8 <| .done)
          repeat (refine plan_take _ rfl ?_; (first | ((with_reducible refine wpQuiet_at ⟨some 32, _, _, _, _, _⟩ ?_); refine wpQuiet_valueG rfl _ (by intro _ hS; exact exec_loadF1 _ _ rfl (w2.heap.size) rfl Af 1 cf hS.1) (wpQuiet_nil ?_); simp only [Act.put, List.setIfInBounds_toArray, List.set_cons_zero, List.set_cons_succ]) | ((with_reducible refine wpQuiet_at ⟨some 36, _, _, _, _, _⟩ ?_); refine wpQuiet_valueG rfl _ (by intro _ hS; exact exec_load _ 47 _ rfl (ad.add (k * 3)) rfl (⟨sr, st, sA, sn, sc⟩ : Se).cs hS.2.2 _ Try.underlying47 rfl (by kernel_rfl)) (wpQuiet_nil ?_); simp only [Act.put, List.setIfInBounds_toArray, List.set_cons_zero, List.set_cons_succ]) | (go_big_quiet_step ((intros; rfl)); refine wpQuiet_nil ?_)))
          refine plan_two ?_ ?_
          · refine step_at _ rfl fun K hK => ?_
            go_simp
            refine ((HEX _ fke fse).out).mono ?_
            rintro e wu1 ⟨Au1, nu1, cu1, pu1, rfl, hku1, hbu1, hiu1, hu1⟩
            have r6u1 := r6e.on hu1
            have fku1 := fke.on hu1
            have elu1 := ele.on hu1
            have fsu1 := fse.on hu1
            have bu1 := b0.trans (hu1.mono b0.size)
            have zu1 := hu1.size
            have hn1u1 : nu1 = 1 := by have h1 := hku1.1.len; have h2 := bk_len pu1; rw [hbu1] at h2; simp at h2; omega
            subst hn1u1
            have hiau1 := hiu1.and hku1.in_
            refine hK _ _ ⟨r6u1, elu1⟩ ?_
            clear hK K
            simp only [Act.put, List.setIfInBounds_toArray, List.set_cons_zero, List.set_cons_succ]
            refine plan_one _ rfl fun K hK => ?_
            refine step_alloc rfl _ rfl zeroRN zero_rn ?_
            intro wu2 zru2 su2 gu2
            have hu2 := grown_below gu2 (Nat.le_refl _) (by simp)
            have r6u2 := r6u1.on hu2
            have fku2 := fku1.on hu2
            have elu2 := elu1.on hu2
            have fsu2 := fsu1.on hu2
            have nku2 := hku1.on hu2
            have bu2 := bu1.trans (hu2.mono bu1.size)
            have zu2 := hu2.size
            have zru2 : Row wu2 (wu1.heap.size) 44 zeroRN := zru2
            have lzu2 : wu1.heap.size < wu2.heap.size := zru2.lt
            refine hK _ _ ⟨r6u2, elu2⟩ ?_
            clear hK K
            simp only [Act.put, List.setIfInBounds_toArray, List.set_cons_zero, List.set_cons_succ]
            refine plan_one _ rfl fun K hK => ?_
            refine step_store_all rfl _ _ _ rfl (wu1.heap.size) rfl _ _ zru2 ((⟨Au1, 1, cu1, ⟨nB, eB⟩, dB, (mB : Int), false⟩ : Rn).cs) rfl ((⟨Au1, 1, cu1, ⟨nB, eB⟩, dB, (mB : Int), false⟩ : Rn).cs_one) rfl (by kernel_rfl) ?_
            intro wu3 rru3 gu3
            have lzu3 := zru2.lt
            have r6u3 := r6u2.kept gu3 (by simp; omega)
            have elu3 := elu2.kept gu3 (by omega)
            have nku3 := nku2.apart hiau1 gu3 (by rintro ⟨h9 | h9, h8⟩; (have := Y4 _ h9; omega); omega)
            have bu3 := below_kept bu2 gu3 bu2.size (by rintro q hq; cases hq; omega)
            have su3 := gu3.size
            refine hK _ _ ⟨r6u3, elu3⟩ ?_
            clear hK K
            simp only [Act.put, List.setIfInBounds_toArray, List.set_cons_zero, List.set_cons_succ]
            refine plan_done ?_
            have hgz : w4.heap.size ≤ w4.heap.size := Nat.le_refl _
            have lrr := rru3.lt
            have crr1 := rru3.cell (j := 1) rfl
            have crr2 := rru3.cell (j := 2) rfl
            have crr3 := rru3.cell (j := 3) rfl
            have crr5 := rru3.cell (j := 5) rfl
            cases dB with
            | false =>
              go_wp2_with (first
                | ((with_reducible refine wpList_at ⟨some 42, _, _, _, _, _⟩ ?_); refine wpList_valueG rfl _ (by exact exec_load _ 40 _ rfl ⟨wu1.heap.size, 0, none⟩ rfl [.slice Au1 1 cu1] (rn_part rru3) _ Try.underlying40 rfl (by kernel_rfl)) ?_)
                | ((with_reducible refine wpList_at ⟨none, .store _ (.tmp 6) _, _, _, _, _⟩ ?_); refine wpList_store_all rfl _ _ _ rfl (w2.heap.size) rfl _ _ r6u3 [.slice Au1 1 cu1] rfl (slice_one _ _ _) rfl (by kernel_rfl) ?_; intro wq r6q gq; have rrq := rru3.kept gq (by simp; omega); have elq := elu3.kept gq (by omega); have nkq := nku3.apart hiau1 gq (by rintro ⟨h9 | h9, h8⟩; (exact NY6 h9); omega); have BBq := hB.trans (Below.mono bu3 hB.size); have BQ := below_kept BBq gq BBq.size (by rintro q hq; cases hq; omega); have sq := gq.size; have crr1 := rrq.cell (j := 1) rfl; have crr2 := rrq.cell (j := 2) rfl; have crr3 := rrq.cell (j := 3) rfl; have crr5 := rrq.cell (j := 5) rfl)
                | ((with_reducible refine wpList_at ⟨some 81, _, _, _, _, _⟩ ?_); refine wpList_valueG rfl _ (by exact exec_loadF1 _ _ rfl (w2.heap.size) rfl Au1 1 cu1 r6q) ?_))
              have HLE := rleast_any Au1 1 cu1 pu1 0 _ nkq.1 nkq.2.2
              rw [hbu1, HLB.out] at HLE
              refine HLE.mono ?_
              rintro e wl ⟨rfl, hl⟩
              have qb : decide ((u : Int) < (best : Int)) = false := decide_eq_false (by omega)
              have qbn : ¬ u < best := by omega
              have slw := hl.size
              go_wp2_with fail
              go_roundg (gk - 1)
              case measure => have := HK.out; omega
              case rel => exact ⟨k + 1, best, fB, _, Au1, cu1, pu1, by have := HK.out; show _ = _; omega, by omega, by go_num, rfl, r6q.on hl, by rw [HINV.out]; exact ⟨nkq.on hl, hbu1, hiau1, (by rintro ⟨h9 | h9, h8⟩; (exact NY6 h9); omega), fun q h9 => by have := h9.2; omega, HP2.out.1, HP2.out.2.1, HP2.out.2.2, by rw [← HU.out]; omega⟩, BQ.trans (Below.mono hl BQ.size)⟩
            | true =>
              obtain ⟨he0, p, hp, hp1, hp2, hp3⟩ := HDN.out rfl
              subst he0 hp
              have qp : decide ((p : Int) < (best : Int)) = false := decide_eq_false (by omega)
              have qpn : ¬ p < best := by omega
              cases sr with
              | false =>
                go_wp2_with (first
                  | ((with_reducible refine wpList_at ⟨some 42, _, _, _, _, _⟩ ?_); refine wpList_valueG rfl _ (by exact exec_load _ 40 _ rfl ⟨wu1.heap.size, 0, none⟩ rfl [.slice Au1 1 cu1] (rn_part rru3) _ Try.underlying40 rfl (by kernel_rfl)) ?_)
                  | ((with_reducible refine wpList_at ⟨none, .store _ (.tmp 6) _, _, _, _, _⟩ ?_); refine wpList_store_all rfl _ _ _ rfl (w2.heap.size) rfl _ _ r6u3 [.slice Au1 1 cu1] rfl (slice_one _ _ _) rfl (by kernel_rfl) ?_; intro wq r6q gq; have rrq := rru3.kept gq (by simp; omega); have elq := elu3.kept gq (by omega); have nkq := nku3.apart hiau1 gq (by rintro ⟨h9 | h9, h8⟩; (exact NY6 h9); omega); have BBq := hB.trans (Below.mono bu3 hB.size); have BQ := below_kept BBq gq BBq.size (by rintro q hq; cases hq; omega); have sq := gq.size; have crr1 := rrq.cell (j := 1) rfl; have crr2 := rrq.cell (j := 2) rfl; have crr3 := rrq.cell (j := 3) rfl; have crr5 := rrq.cell (j := 5) rfl))
                have ce0 : wq.cell? (ad.add (k * 3)) = some (.bool false) := by have h := elq.2 0 _ rfl; exact h
                have ce1 : wq.cell? ⟨(ad.add (k * 3)).block, (ad.add (k * 3)).off + 1, none⟩ = some (.int .u8 (st.toNat : Int)) := by have h := elq.2 1 _ rfl; rw [add_pos _ _ (by decide)] at h; exact h
                go_quiet (fail)
                have r6r := r6q.drewN nq
                have nkr : FuOK (wq.drewN nq) Au1 1 cu1 pu1 := nkq
                have BR := below_drewN BQ nq
                have szr : (wq.drewN nq).heap.size = wq.heap.size := rfl
                have crr1q : (wq.drewN nq).cell? ⟨wu1.heap.size, 1, none⟩ = some (.int .i64 (p : Int)) := crr1
                go_wp2_with (first
                  | ((with_reducible refine wpList_at ⟨some 81, _, _, _, _, _⟩ ?_); refine wpList_valueG rfl _ (by exact exec_loadF1 _ _ rfl (w2.heap.size) rfl Au1 1 cu1 r6r) ?_))
                have HLE := rleast_any Au1 1 cu1 pu1 0 _ nkr.1 nkr.2.2
                rw [hbu1, HLB.out] at HLE
                refine HLE.mono ?_
                rintro e wl ⟨rfl, hl⟩
                have qb : decide ((u : Int) < (p : Int)) = false := decide_eq_false (by omega)
                have qbn : ¬ u < p := by omega
                have slw := hl.size
                go_wp2_with fail
                go_roundg (gk - 1)
                case measure => have := HK.out; omega
                case rel => exact ⟨k + 1, p, fB, _, Au1, cu1, pu1, by have := HK.out; show _ = _; omega, by omega, by go_num, rfl, r6r.on hl, by rw [HINV.out]; exact ⟨nkr.on hl, hbu1, hiau1, (by rintro ⟨h9 | h9, h8⟩; (exact NY6 h9); omega), fun q h9 => by have := h9.2; omega, HP2.out.1, HP2.out.2.1, HP2.out.2.2, by rw [← HU.out]; omega⟩, BR.trans (Below.mono hl BR.size)⟩
              | true =>
                obtain ⟨tg, htg⟩ : ∃ tg, tg = st.toNat % (bits + 1) := ⟨_, rfl⟩
                rw [show rtT (Se.m ⟨true, st, sA, sn, sc⟩ fs) bits = tg from htg.symm] at hp2
                have hq : (st.toNat : Int) % ((bits : Int) + 1) = (tg : Int) := by rw [htg, Int.natCast_emod]; rfl
                have ht255 : st.toNat ≤ 255 := by have := st.toNat_lt; omega
                have htl : tg ≤ bits := by rw [htg]; have := Nat.mod_lt st.toNat (show 0 < bits + 1 by omega); omega
                have qt : decide ((p : Int) < (tg : Int)) = false := decide_eq_false (by omega)
                have qtn : ¬ p < tg := by omega
                have HQ := Lib.hid hq
                clear hq htg
                go_wp2_with (first
                  | ((with_reducible refine wpList_at ⟨some 42, _, _, _, _, _⟩ ?_); refine wpList_valueG rfl _ (by exact exec_load _ 40 _ rfl ⟨wu1.heap.size, 0, none⟩ rfl [.slice Au1 1 cu1] (rn_part rru3) _ Try.underlying40 rfl (by kernel_rfl)) ?_)
                  | ((with_reducible refine wpList_at ⟨none, .store _ (.tmp 6) _, _, _, _, _⟩ ?_); refine wpList_store_all rfl _ _ _ rfl (w2.heap.size) rfl _ _ r6u3 [.slice Au1 1 cu1] rfl (slice_one _ _ _) rfl (by kernel_rfl) ?_; intro wq r6q gq; have rrq := rru3.kept gq (by simp; omega); have elq := elu3.kept gq (by omega); have nkq := nku3.apart hiau1 gq (by rintro ⟨h9 | h9, h8⟩; (exact NY6 h9); omega); have BBq := hB.trans (Below.mono bu3 hB.size); have BQ := below_kept BBq gq BBq.size (by rintro q hq; cases hq; omega); have sq := gq.size; have crr1 := rrq.cell (j := 1) rfl; have crr2 := rrq.cell (j := 2) rfl; have crr3 := rrq.cell (j := 3) rfl; have crr5 := rrq.cell (j := 5) rfl))
                have ce0 : wq.cell? (ad.add (k * 3)) = some (.bool true) := by have h := elq.2 0 _ rfl; exact h
                have ce1 : wq.cell? ⟨(ad.add (k * 3)).block, (ad.add (k * 3)).off + 1, none⟩ = some (.int .u8 (st.toNat : Int)) := by have h := elq.2 1 _ rfl; rw [add_pos _ _ (by decide)] at h; exact h
                have hq := HQ.out
                go_quiet (fail)
                clear hq
                have r6r := r6q.drewN nq
                have nkr : FuOK (wq.drewN nq) Au1 1 cu1 pu1 := nkq
                have BR := below_drewN BQ nq
                have szr : (wq.drewN nq).heap.size = wq.heap.size := rfl
                have crr1q : (wq.drewN nq).cell? ⟨wu1.heap.size, 1, none⟩ = some (.int .i64 (p : Int)) := crr1
                go_wp2_with (first
                  | ((with_reducible refine wpList_at ⟨some 81, _, _, _, _, _⟩ ?_); refine wpList_valueG rfl _ (by exact exec_loadF1 _ _ rfl (w2.heap.size) rfl Au1 1 cu1 r6r) ?_))
                have HLE := rleast_any Au1 1 cu1 pu1 0 _ nkr.1 nkr.2.2
                rw [hbu1, HLB.out] at HLE
                refine HLE.mono ?_
                rintro e wl ⟨rfl, hl⟩
                have qb : decide ((u : Int) < (p : Int)) = false := decide_eq_false (by omega)
                have qbn : ¬ u < p := by omega
                have slw := hl.size
                go_wp2_with fail
                go_roundg (gk - 1)
                case measure => have := HK.out; omega
                case rel => exact ⟨k + 1, p, fB, _, Au1, cu1, pu1, by have := HK.out; show _ = _; omega, by omega, by go_num, rfl, r6r.on hl, by rw [HINV.out]; exact ⟨nkr.on hl, hbu1, hiau1, (by rintro ⟨h9 | h9, h8⟩; (exact NY6 h9); omega), fun q h9 => by have := h9.2; omega, HP2.out.1, HP2.out.2.1, HP2.out.2.2, by rw [← HU.out]; omega⟩, BR.trans (Below.mono hl BR.size)⟩
          · refine step_at _ rfl fun K hK => ?_
            refine step_alloc rfl _ rfl zeroRN zero_rn ?_
            intro wu4 zru4 su4 gu4
            have hu4 := grown_below gu4 (Nat.le_refl _) (by simp)
            have r6u4 := r6e.on hu4
            have fku4 := fke.on hu4
            have elu4 := ele.on hu4
            have fsu4 := fse.on hu4
            have bu4 := b0.trans (hu4.mono b0.size)
            have zu4 := hu4.size
            have zru4 : Row wu4 (wr.heap.size) 44 zeroRN := zru4
            have lzu4 : wr.heap.size < wu4.heap.size := zru4.lt
            refine hK _ _ ⟨r6u4, elu4⟩ ?_
            clear hK K
            simp only [Act.put, List.setIfInBounds_toArray, List.set_cons_zero, List.set_cons_succ]
            refine plan_one _ rfl fun K hK => ?_
            go_simp
            refine ((HEX _ fku4 fsu4).out).mono ?_
            rintro e wu5 ⟨Au5, nu5, cu5, pu5, rfl, hku5, hbu5, hiu5, hu5⟩
            have r6u5 := r6u4.on hu5
            have fku5 := fku4.on hu5
            have elu5 := elu4.on hu5
            have fsu5 := fsu4.on hu5
            have zru5 := zru4.on hu5
            have bu5 := bu4.trans (hu5.mono bu4.size)
            have zu5 := hu5.size
            have hn1u5 : nu5 = 1 := by have h1 := hku5.1.len; have h2 := bk_len pu5; rw [hbu5] at h2; simp at h2; omega
            subst hn1u5
            have hiau5 := hiu5.and hku5.in_
            refine hK _ _ ⟨r6u5, elu5⟩ ?_
            clear hK K
            simp only [Act.put, List.setIfInBounds_toArray, List.set_cons_zero, List.set_cons_succ]
            refine plan_one _ rfl fun K hK => ?_
            refine step_store_all rfl _ _ _ rfl (wr.heap.size) rfl _ _ zru5 ((⟨Au5, 1, cu5, ⟨nB, eB⟩, dB, (mB : Int), false⟩ : Rn).cs) rfl ((⟨Au5, 1, cu5, ⟨nB, eB⟩, dB, (mB : Int), false⟩ : Rn).cs_one) rfl (by kernel_rfl) ?_
            intro wu6 rru6 gu6
            have lzu6 := zru5.lt
            have r6u6 := r6u5.kept gu6 (by simp; omega)
            have elu6 := elu5.kept gu6 (by omega)
            have nku6 := hku5.apart hiau5 gu6 (by rintro ⟨h9 | h9, h8⟩; (have := Y4 _ h9; omega); omega)
            have bu6 := below_kept bu5 gu6 bu5.size (by rintro q hq; cases hq; omega)
            have su6 := gu6.size
            refine hK _ _ ⟨r6u6, elu6⟩ ?_
            clear hK K
            simp only [Act.put, List.setIfInBounds_toArray, List.set_cons_zero, List.set_cons_succ]
            refine plan_done ?_
            have hgz : w4.heap.size ≤ w4.heap.size := Nat.le_refl _
            have lrr := rru6.lt
            have crr1 := rru6.cell (j := 1) rfl
            have crr2 := rru6.cell (j := 2) rfl
            have crr3 := rru6.cell (j := 3) rfl
            have crr5 := rru6.cell (j := 5) rfl
            cases dB with
            | false =>
              go_wp2_with (first
                | ((with_reducible refine wpList_at ⟨some 42, _, _, _, _, _⟩ ?_); refine wpList_valueG rfl _ (by exact exec_load _ 40 _ rfl ⟨wr.heap.size, 0, none⟩ rfl [.slice Au5 1 cu5] (rn_part rru6) _ Try.underlying40 rfl (by kernel_rfl)) ?_)
                | ((with_reducible refine wpList_at ⟨none, .store _ (.tmp 6) _, _, _, _, _⟩ ?_); refine wpList_store_all rfl _ _ _ rfl (w2.heap.size) rfl _ _ r6u6 [.slice Au5 1 cu5] rfl (slice_one _ _ _) rfl (by kernel_rfl) ?_; intro wq r6q gq; have rrq := rru6.kept gq (by simp; omega); have elq := elu6.kept gq (by omega); have nkq := nku6.apart hiau5 gq (by rintro ⟨h9 | h9, h8⟩; (exact NY6 h9); omega); have BBq := hB.trans (Below.mono bu6 hB.size); have BQ := below_kept BBq gq BBq.size (by rintro q hq; cases hq; omega); have sq := gq.size; have crr1 := rrq.cell (j := 1) rfl; have crr2 := rrq.cell (j := 2) rfl; have crr3 := rrq.cell (j := 3) rfl; have crr5 := rrq.cell (j := 5) rfl)
                | ((with_reducible refine wpList_at ⟨some 81, _, _, _, _, _⟩ ?_); refine wpList_valueG rfl _ (by exact exec_loadF1 _ _ rfl (w2.heap.size) rfl Au5 1 cu5 r6q) ?_))
              have HLE := rleast_any Au5 1 cu5 pu5 0 _ nkq.1 nkq.2.2
              rw [hbu5, HLB.out] at HLE
              refine HLE.mono ?_
              rintro e wl ⟨rfl, hl⟩
              have qb : decide ((u : Int) < (best : Int)) = false := decide_eq_false (by omega)
              have qbn : ¬ u < best := by omega
              have slw := hl.size
              go_wp2_with fail
              go_roundg (gk - 1)
              case measure => have := HK.out; omega
              case rel => exact ⟨k + 1, best, fB, _, Au5, cu5, pu5, by have := HK.out; show _ = _; omega, by omega, by go_num, rfl, r6q.on hl, by rw [HINV.out]; exact ⟨nkq.on hl, hbu5, hiau5, (by rintro ⟨h9 | h9, h8⟩; (exact NY6 h9); omega), fun q h9 => by have := h9.2; omega, HP2.out.1, HP2.out.2.1, HP2.out.2.2, by rw [← HU.out]; omega⟩, BQ.trans (Below.mono hl BQ.size)⟩
            | true =>
              obtain ⟨he0, p, hp, hp1, hp2, hp3⟩ := HDN.out rfl
              subst he0 hp
              have qp : decide ((p : Int) < (best : Int)) = false := decide_eq_false (by omega)
              have qpn : ¬ p < best := by omega
              cases sr with
              | false =>
                go_wp2_with (first
                  | ((with_reducible refine wpList_at ⟨some 42, _, _, _, _, _⟩ ?_); refine wpList_valueG rfl _ (by exact exec_load _ 40 _ rfl ⟨wr.heap.size, 0, none⟩ rfl [.slice Au5 1 cu5] (rn_part rru6) _ Try.underlying40 rfl (by kernel_rfl)) ?_)
                  | ((with_reducible refine wpList_at ⟨none, .store _ (.tmp 6) _, _, _, _, _⟩ ?_); refine wpList_store_all rfl _ _ _ rfl (w2.heap.size) rfl _ _ r6u6 [.slice Au5 1 cu5] rfl (slice_one _ _ _) rfl (by kernel_rfl) ?_; intro wq r6q gq; have rrq := rru6.kept gq (by simp; omega); have elq := elu6.kept gq (by omega); have nkq := nku6.apart hiau5 gq (by rintro ⟨h9 | h9, h8⟩; (exact NY6 h9); omega); have BBq := hB.trans (Below.mono bu6 hB.size); have BQ := below_kept BBq gq BBq.size (by rintro q hq; cases hq; omega); have sq := gq.size; have crr1 := rrq.cell (j := 1) rfl; have crr2 := rrq.cell (j := 2) rfl; have crr3 := rrq.cell (j := 3) rfl; have crr5 := rrq.cell (j := 5) rfl))
                have ce0 : wq.cell? (ad.add (k * 3)) = some (.bool false) := by have h := elq.2 0 _ rfl; exact h
                have ce1 : wq.cell? ⟨(ad.add (k * 3)).block, (ad.add (k * 3)).off + 1, none⟩ = some (.int .u8 (st.toNat : Int)) := by have h := elq.2 1 _ rfl; rw [add_pos _ _ (by decide)] at h; exact h
                go_quiet (fail)
                have r6r := r6q.drewN nq
                have nkr : FuOK (wq.drewN nq) Au5 1 cu5 pu5 := nkq
                have BR := below_drewN BQ nq
                have szr : (wq.drewN nq).heap.size = wq.heap.size := rfl
                have crr1q : (wq.drewN nq).cell? ⟨wr.heap.size, 1, none⟩ = some (.int .i64 (p : Int)) := crr1
                go_wp2_with (first
                  | ((with_reducible refine wpList_at ⟨some 81, _, _, _, _, _⟩ ?_); refine wpList_valueG rfl _ (by exact exec_loadF1 _ _ rfl (w2.heap.size) rfl Au5 1 cu5 r6r) ?_))
                have HLE := rleast_any Au5 1 cu5 pu5 0 _ nkr.1 nkr.2.2
                rw [hbu5, HLB.out] at HLE
                refine HLE.mono ?_
                rintro e wl ⟨rfl, hl⟩
                have qb : decide ((u : Int) < (p : Int)) = false := decide_eq_false (by omega)
                have qbn : ¬ u < p := by omega
                have slw := hl.size
                go_wp2_with fail
                go_roundg (gk - 1)
                case measure => have := HK.out; omega
                case rel => exact ⟨k + 1, p, fB, _, Au5, cu5, pu5, by have := HK.out; show _ = _; omega, by omega, by go_num, rfl, r6r.on hl, by rw [HINV.out]; exact ⟨nkr.on hl, hbu5, hiau5, (by rintro ⟨h9 | h9, h8⟩; (exact NY6 h9); omega), fun q h9 => by have := h9.2; omega, HP2.out.1, HP2.out.2.1, HP2.out.2.2, by rw [← HU.out]; omega⟩, BR.trans (Below.mono hl BR.size)⟩
              | true =>
                obtain ⟨tg, htg⟩ : ∃ tg, tg = st.toNat % (bits + 1) := ⟨_, rfl⟩
                rw [show rtT (Se.m ⟨true, st, sA, sn, sc⟩ fs) bits = tg from htg.symm] at hp2
                have hq : (st.toNat : Int) % ((bits : Int) + 1) = (tg : Int) := by rw [htg, Int.natCast_emod]; rfl
                have ht255 : st.toNat ≤ 255 := by have := st.toNat_lt; omega
                have htl : tg ≤ bits := by rw [htg]; have := Nat.mod_lt st.toNat (show 0 < bits + 1 by omega); omega
                have qt : decide ((p : Int) < (tg : Int)) = false := decide_eq_false (by omega)
                have qtn : ¬ p < tg := by omega
                have HQ := Lib.hid hq
                clear hq htg
                go_wp2_with (first
                  | ((with_reducible refine wpList_at ⟨some 42, _, _, _, _, _⟩ ?_); refine wpList_valueG rfl _ (by exact exec_load _ 40 _ rfl ⟨wr.heap.size, 0, none⟩ rfl [.slice Au5 1 cu5] (rn_part rru6) _ Try.underlying40 rfl (by kernel_rfl)) ?_)
                  | ((with_reducible refine wpList_at ⟨none, .store _ (.tmp 6) _, _, _, _, _⟩ ?_); refine wpList_store_all rfl _ _ _ rfl (w2.heap.size) rfl _ _ r6u6 [.slice Au5 1 cu5] rfl (slice_one _ _ _) rfl (by kernel_rfl) ?_; intro wq r6q gq; have rrq := rru6.kept gq (by simp; omega); have elq := elu6.kept gq (by omega); have nkq := nku6.apart hiau5 gq (by rintro ⟨h9 | h9, h8⟩; (exact NY6 h9); omega); have BBq := hB.trans (Below.mono bu6 hB.size); have BQ := below_kept BBq gq BBq.size (by rintro q hq; cases hq; omega); have sq := gq.size; have crr1 := rrq.cell (j := 1) rfl; have crr2 := rrq.cell (j := 2) rfl; have crr3 := rrq.cell (j := 3) rfl; have crr5 := rrq.cell (j := 5) rfl))
                have ce0 : wq.cell? (ad.add (k * 3)) = some (.bool true) := by have h := elq.2 0 _ rfl; exact h
                have ce1 : wq.cell? ⟨(ad.add (k * 3)).block, (ad.add (k * 3)).off + 1, none⟩ = some (.int .u8 (st.toNat : Int)) := by have h := elq.2 1 _ rfl; rw [add_pos _ _ (by decide)] at h; exact h
                have hq := HQ.out
                go_quiet (fail)
                clear hq
                have r6r := r6q.drewN nq
                have nkr : FuOK (wq.drewN nq) Au5 1 cu5 pu5 := nkq
                have BR := below_drewN BQ nq
                have szr : (wq.drewN nq).heap.size = wq.heap.size := rfl
                have crr1q : (wq.drewN nq).cell? ⟨wr.heap.size, 1, none⟩ = some (.int .i64 (p : Int)) := crr1
                go_wp2_with (first
                  | ((with_reducible refine wpList_at ⟨some 81, _, _, _, _, _⟩ ?_); refine wpList_valueG rfl _ (by exact exec_loadF1 _ _ rfl (w2.heap.size) rfl Au5 1 cu5 r6r) ?_))
                have HLE := rleast_any Au5 1 cu5 pu5 0 _ nkr.1 nkr.2.2
                rw [hbu5, HLB.out] at HLE
                refine HLE.mono ?_
                rintro e wl ⟨rfl, hl⟩
                have qb : decide ((u : Int) < (p : Int)) = false := decide_eq_false (by omega)
                have qbn : ¬ u < p := by omega
                have slw := hl.size
                go_wp2_with fail
                go_roundg (gk - 1)
                case measure => have := HK.out; omega
                case rel => exact ⟨k + 1, p, fB, _, Au5, cu5, pu5, by have := HK.out; show _ = _; omega, by omega, by go_num, rfl, r6r.on hl, by rw [HINV.out]; exact ⟨nkr.on hl, hbu5, hiau5, (by rintro ⟨h9 | h9, h8⟩; (exact NY6 h9); omega), fun q h9 => by have := h9.2; omega, HP2.out.1, HP2.out.2.1, HP2.out.2.2, by rw [← HU.out]; omega⟩, BR.trans (Below.mono hl BR.size)⟩
        · go_wp2_with fail
          go_ret
          exact ⟨rfl, hB⟩
end Go.Proofs.Ytfcbcclcmgheeaa
