/-
  MerkleTampered's walk. Condition: the table of constants as laid.
-/
import Derived.Test.YtpmkjnmddglckaaDoorWComp
import Derived.Test.YtpmkjnmddglckaaDoorStepA
namespace Go.Proofs.YtpmkjnmddglckaaDoor
open Go.RowKit

theorem mProof_plen (ds : List (List UInt8)) (i : Nat) : (mProof ds i).length = plen ds.length i := by
  unfold mProof
  rw [List.length_reverse, proveR_len ds.length ds i (Nat.le_refl _)]
theorem mVerify_bad {ds : List (List UInt8)} {i : Nat} {d bad : List UInt8} (hd : ds[i]? = some d) (hb : root ds ≠ bad) : mVerify bad d (mProof ds i) ds.length i = false := by
  unfold mVerify combL mProof
  rw [List.reverse_reverse, comb_prove ds.length ds i d (Nat.le_refl _) hd]
  simp [hb]
/-- One bit of one byte changed. -/
def flip (l : List UInt8) (j : Nat) (x : UInt8) : List UInt8 := l.set j (x ^^^ 1)
theorem flip_len (l : List UInt8) (j : Nat) (x : UInt8) : (flip l j x).length = l.length := List.length_set
theorem xor1_ne (x : UInt8) : x ^^^ 1 ≠ x := by
  intro h
  have h2 : x ^^^ (x ^^^ 1) = x ^^^ x := by rw [h]
  rw [← UInt8.xor_assoc, UInt8.xor_self, UInt8.zero_xor] at h2
  cases h2
theorem flip_ne {l : List UInt8} {j : Nat} {x : UInt8} (h : l[j]? = some x) : l ≠ flip l j x := by
  intro e
  have h2 : (flip l j x)[j]? = some x := by rw [← e]; exact h
  unfold flip at h2
  have hj : j < l.length := (List.getElem?_eq_some_iff.1 h).1
  rw [List.getElem?_set_self hj] at h2
  injection h2 with h2
  exact xor1_ne x h2
theorem flip_cells (l : List UInt8) (j : Nat) (x : UInt8) : (bvs l).set j (bv (x ^^^ 1)) = bvs (flip l j x) := by unfold bvs flip; rw [List.map_set]
theorem xor1_val (x : UInt8) : Value.int .u8 (bits .xor .u8 (x.toNat : Int) 1) = bv (x ^^^ 1) := by
  rw [show (1 : Int) = ((1 : UInt8).toNat : Int) from rfl, u8_xor_nat _ _ x.toNat_lt (by decide)]
  unfold bv
  rw [UInt8.toNat_xor]

theorem len16_app {p : List (List UInt8)} {m : List UInt8} (hp : Len16 p) (hm : m.length = 16) : Len16 (p ++ [m]) := fun d hd => by
  rcases List.mem_append.1 hd with h | h
  · exact hp d h
  · simp only [List.mem_cons, List.not_mem_nil, or_false] at h
    subst h; exact hm
set_option maxRecDepth 100000 in
set_option maxHeartbeats 4000000 in
theorem walkTamp (A : Option Addr) (n c : Nat) (ds : List (List UInt8)) (z y : Int) (hz0 : 0 ≤ z) (hz1 : z ≤ 255) (hy0 : 0 ≤ y) (hy1 : y ≤ 255) (more : List UInt8) (hm : more.length = 16) (w : World) (hK : Consts w) (hr : ReadsD w A n ds) (hc : n ≤ c) (hn : n ≤ 140737488351232) :
    Calls Tryd.prog 8 #[.slice A n c, .int .u8 z, .int .u8 y, .agg (bvs more).toArray] w fun e w' => e = .returned (.bool true) ∧ Below w.heap.size w w' := by
  have HM := Lib.hid hm
  by_cases h40 : 40 < n ∨ n = 0
  · rcases h40 with h40 | h40
    · go_enter Tryd.func8, Tryd.ntmps8
      go_wp2_with (with_reducible refine wpList_box_row (o := ⟨some 7, _, _, _, _, _⟩) rfl _ _ rfl (bvs more) rfl ?_; intro wa hra hsa hga)
      have hb : Below w.heap.size w wa := grown_below hga (Nat.le_refl _) (by simp)
      refine (sanity_any _ (hK.on hb)).mono ?_
      rintro e w1 ⟨rfl, hb1⟩
      go_wp2_with fail
      go_ret
      exact ⟨rfl, hb.trans (hb1.mono hb.size)⟩
    · subst h40
      go_enter Tryd.func8, Tryd.ntmps8
      go_wp2_with (with_reducible refine wpList_box_row (o := ⟨some 7, _, _, _, _, _⟩) rfl _ _ rfl (bvs more) rfl ?_; intro wa hra hsa hga)
      have hb : Below w.heap.size w wa := grown_below hga (Nat.le_refl _) (by simp)
      refine (sanity_any _ (hK.on hb)).mono ?_
      rintro e w1 ⟨rfl, hb1⟩
      go_wp2_with fail
      go_ret
      exact ⟨rfl, hb.trans (hb1.mono hb.size)⟩
  obtain ⟨i0, hi0, hzz, hi1, hi2⟩ := info_parts info_dig
  obtain ⟨zn, rfl⟩ : ∃ zn : Nat, z = (zn : Int) := ⟨z.toNat, by omega⟩
  obtain ⟨k, hk⟩ : ∃ k, k = zn % n := ⟨_, rfl⟩
  have ek : (zn : Int) % (n : Int) = (k : Int) := by rw [hk]; omega
  have hkn : k < n := by rw [hk]; exact Nat.mod_lt _ (by omega)
  obtain ⟨yn, rfl⟩ : ∃ yn : Nat, y = (yn : Int) := ⟨y.toNat, by omega⟩
  obtain ⟨j, hj⟩ : ∃ j, j = yn % 16 := ⟨_, rfl⟩
  have ej : (yn : Int) % 16 = (j : Int) := by rw [hj]; omega
  have hj16 : j < 16 := by rw [hj]; exact Nat.mod_lt _ (by omega)
  have hn40 : n ≤ 40 := by omega
  have hn0 : 0 < n := by omega
  clear hk hj h40
  have hnz : ((n : Int) == 0) = false := by simp only [beq_eq_false_iff_ne, ne_eq]; omega
  have h40 : ¬ 40 < n := by omega
  obtain ⟨ad, d, rfl, hab, hd, hd16, hcl⟩ := hr.1.dig_at hr.2 hkn
  have HD := Lib.hid hd16
  have C0 : Hid (∀ j u, (bvs d)[j]? = some u → w.cell? ((ad.add (k * 16)).add j) = some u) := fun j u hu => by rw [add_of_add]; exact hcl j u hu
  clear hcl
  have HPL := Lib.hid (mProof_le6 (ds := ds) (i := k) (by rw [hr.len]; omega))
  have HP16 := Lib.hid (mProof_16 ds k)
  have HPp : Hid ((mProof ds k).length = plen n k) := by show _ = _; rw [mProof_plen, hr.len]
  have HRL := Lib.hid (root_len ds)
  obtain ⟨x, hx⟩ : ∃ x, (root ds)[j]? = some x := ⟨_, List.getElem?_eq_getElem (by rw [HRL.out]; exact hj16)⟩
  have hbad := mVerify_bad hd (flip_ne hx)
  rw [hr.len] at hbad
  have HX := Lib.hid hx
  have HR := fun W hKW hW => Lib.hid (root_any (some ad) c n ds W hKW hW hc (by omega))
  have HP := fun W hKW hW => Lib.hid (prove_any (some ad) c n k ds W hKW hW hc (by omega) hkn)
  have HFL := Lib.hid ((flip_len (root ds) j x).trans HRL.out)
  have HFC := Lib.hid (flip_cells (root ds) j x)
  generalize root ds = R at *
  generalize flip R j x = F at *
  generalize mProof ds k = p at *
  have HV1 := fun B cq W hKW (hW : ReadsD W B p.length p) hcq => Lib.hid (verify_any B cq p.length n k F d p W hKW HFL.out hd16 hW hcq (by have := HPL.out; omega) (by omega) hkn)
  rw [hbad] at HV1
  have hlong : mVerify R d (p ++ [more]) n k = false := mVerify_no (by omega) (by rw [List.length_append, HPp.out]; simp)
  have HV2 := fun B cq W hKW (hW : ReadsD W B (p.length + 1) (p ++ [more])) hcq => Lib.hid (verify_any B cq (p.length + 1) n k R d (p ++ [more]) W hKW HRL.out hd16 hW hcq (by have := HPL.out; omega) (by omega) hkn)
  rw [hlong] at HV2
  have HV3 : ∀ (B : Option Addr) (cq : Nat) (W : World), 0 < p.length → Consts W → ReadsD W B (p.length - 1) (p.drop 1) → p.length - 1 ≤ cq → Hid (Calls Tryd.prog 15 #[.agg (bvs R).toArray, .int .i64 (n : Int), .int .i64 (k : Int), .agg (bvs d).toArray, .slice B (p.length - 1) cq] W (TellsB false W)) := by
    intro B cq W hp0 hKW hW hcq
    have h := verify_any B cq (p.length - 1) n k R d (p.drop 1) W hKW HRL.out hd16 hW hcq (by have := HPL.out; omega) (by omega) hkn
    rw [mVerify_no (by omega) (by rw [List.length_drop]; have := HPp.out; omega)] at h
    exact h
  have xv := xor1_val x
  clear hbad hlong hd16 hd hx hm
  go_enter Tryd.func8, Tryd.ntmps8
  go_wp2_with (with_reducible refine wpList_box_row (o := ⟨some 7, _, _, _, _, _⟩) rfl _ _ rfl (bvs more) rfl ?_; intro wa hra hsa hga)
  have hb : Below w.heap.size w wa := grown_below hga (Nat.le_refl _) (by simp)
  refine (sanity_any _ (hK.on hb)).mono ?_
  rintro e w1 ⟨rfl, hb1⟩
  have hb1' := hb.trans (hb1.mono hb.size)
  have rm1 := hra.on hb1
  clear hga hra
  go_wp2_with fail
  refine (HR _ (hK.on hb1') (hr.on hb1')).out.mono ?_
  rintro e w2 ⟨rfl, hb2⟩
  have hb2' := hb1'.trans (hb2.mono hb1'.size)
  have rm2 := rm1.on hb2
  have zm2 := rm2.lt
  go_wp2_with (first
    | (with_reducible refine wpList_alloc_row (o := ⟨some 12, _, _, _, _, _⟩) rfl _ rfl zeros16 zero_b16 ?_; intro w3 hr3 hs3 hg3)
    | (with_reducible refine wpList_at ⟨none, .store _ (.tmp 12) _, _, _, _, _⟩ ?_; refine wpList_store_all rfl _ _ _ rfl w2.heap.size rfl _ _ hr3 (bvs R) rfl (bvs_one _) (b16_zeros _ HRL.out) (b16_size _ HRL.out) ?_; intro w4 hr4 hg4))
  have hb4 := below_kept (below_kept hb2' hg3 hb2'.size (by simp)) hg4 (by have := hb2'.size; omega) (by rintro k hk; cases hk; exact hb2'.size)
  have rm4 := (rm2.kept hg3 (by simp)).kept hg4 (by simp; omega)
  clear hg3 hg4 hr3 hs3 rm1 rm2
  refine (HP _ (hK.on hb4) (hr.on hb4)).out.mono ?_
  rintro e w5 ⟨v5, rfl, hown, hb5⟩
  have hb5' := hb4.trans (hb5.mono hb4.size)
  obtain ⟨A5, c5, rfl, hc5, _, hr5⟩ := own_form hown
  have hp5 : ReadsD w5 A5 p.length p := ⟨hr5, HP16.out⟩
  have hpl := HPL.out
  have rm5 := rm4.on hb5
  have rR5 := hr4.on hb5
  have zm5 := rm5.lt
  have zR5 := rR5.lt
  clear hown hr5 hr4 rm4
  go_wp2_with (first
    | (refine wpList_valueG (o := ⟨some 44, _, _, _, _, _⟩) rfl _ (by exact exec_load16 _ _ rfl _ rfl R HRL.out rR5.cells) ?_)
    | (with_reducible refine wpList_alloc_row (o := ⟨some 15, _, _, _, _, _⟩) rfl _ rfl zeros16 zero_b16 ?_; intro w6 hr6 hs6 hg6)
    | (with_reducible refine wpList_at ⟨none, .store _ (.tmp 15) _, _, _, _, _⟩ ?_; refine wpList_store_all rfl _ _ _ rfl w5.heap.size rfl _ _ hr6 (bvs R) rfl (bvs_one _) (b16_zeros _ HRL.out) (b16_size _ HRL.out) ?_; intro w7 hr7 hg7; have hcx : w7.cell? ⟨w5.heap.size, j, none⟩ = some (bv x) := hr7.cell (by simp only [bvs, List.getElem?_map, HX.out, Option.map_some]); unfold bv at hcx)
    | (with_reducible refine wpList_at ⟨none, .store _ (.tmp 54) _, _, _, _, _⟩ ?_; refine wpList_store_elem rfl _ _ _ rfl w5.heap.size j rfl _ _ hr7 (bv (x ^^^ 1)) rfl rfl (by rw [bvs_length, HRL.out]; exact hj16) (by kernel_rfl) ?_; intro w8 hr8 hg8))
  have hb8 := below_kept (below_kept (below_kept hb5' hg6 hb5'.size (by simp)) hg7 (by have := hb5'.size; omega) (by rintro k hk; cases hk; exact hb5'.size)) hg8 (by have := hb5'.size; have := hr7.lt; omega) (by rintro k hk; cases hk; exact hb5'.size)
  have rm8 := ((rm5.kept hg6 (by simp)).kept hg7 (by simp; omega)).kept hg8 (by simp; omega)
  have rR8 := ((rR5.kept hg6 (by simp)).kept hg7 (by simp; omega)).kept hg8 (by simp; omega)
  have rF8 : Row w8 w5.heap.size 28 (bvs F) := by rw [← HFC.out]; exact hr8
  have hb58 : Below w5.heap.size w5 w8 := below_kept (below_kept (grown_below hg6 (Nat.le_refl _) (by simp)) hg7 (by omega) (by rintro k hk; cases hk; exact Nat.le_refl _)) hg8 (by have := hr7.lt; omega) (by rintro k hk; cases hk; exact Nat.le_refl _)
  have hp8 := hp5.on hb58
  clear hg6 hg7 hg8 hr6 hr7 hr8 hcx xv HR HP rm5 rR5 hp5
  simp only [Act.put]
  go_cut [16] (fun s16 wc => ∃ A9 c9, s16 = .slice A9 (p.length + 1) c9 ∧ p.length + 1 ≤ c9 ∧ ReadsD wc A9 (p.length + 1) (p ++ [more]) ∧ Below w8.heap.size w8 wc)
  case first =>
    have BD : Below w8.heap.size w8 w8.drew := (Below.refl _ _).drew
    refine wp_region_plan (fun w' => Row w' w.heap.size 28 (bvs more)) (.take 1 <| .take 3 <| .two 0 (.two 2 (.one 4 <| .one 5 <| .take 6 <| .done) 4 (.one 2 <| .one 5 <| .take 6 <| .done)) 4 (.one 0 <| .one 2 <| .one 5 <| .take 6 <| .done)) (by kernel_rfl) (by kernel_rfl) (by kernel_rfl) (fun _ _ _ _ _ h => h) rm8.drew ?_
    repeat (refine plan_take _ rfl ?_; (first | (refine wpQuiet_valueG (o := ⟨some 58, _, _, _, _, _⟩) rfl _ (by intro _ h; exact exec_load16 _ _ rfl _ rfl more HM.out h.cells) (wpQuiet_nil ?_); simp only [Act.put, List.setIfInBounds_toArray, List.set_cons_zero, List.set_cons_succ]) | (go_big_quiet_step ((intros; rfl)); refine wpQuiet_nil ?_)))
    have rmd : Row w8.drew w.heap.size 28 (bvs more) := rm8.drew
    have hpd : ReadsD w8.drew A5 p.length p := hp8
    generalize w8.drew = wd at *
    have B0 : Below wd.heap.size wd wd := Below.refl _ _
    refine plan_two ?_ ?_
    · refine step_at _ rfl fun K hK => ?_
      go_simp
      obtain ⟨g0, hg0⟩ : ∃ g0, g0 = wd.heap.size := ⟨_, rfl⟩
      have own0 : (wd.alloc (.cells #[] 28)).ownsRow wd.heap.size 28 16 (.slice (some ⟨g0, 0, none⟩) 0 0) 0 [] := by rw [hg0]; exact own_empty wd 28 16 wd.heap.size B0.size
      have g0l : wd.heap.size ≤ g0 := by rw [hg0]; exact B0.size
      have z0 : g0 < (wd.alloc (.cells #[] 28)).heap.size := by rw [hg0]; simp
      have BA := B0.alloc B0.size (.cells #[] 28)
      rw [← hg0]
      clear hg0
      generalize wd.alloc (.cells #[] 28) = u0 at *
      refine hK _ _ (rmd.on BA) ?_
      clear hK K
      refine plan_two ?_ ?_
      · refine step_at _ rfl fun K hK => ?_
        refine step_append_src rfl (.tmp 55) (.tmp 56) _ _ rfl wd.heap.size 28 i0 _ 16 16 Tryd.underlying22 hi0 hzz hi1 hi2 rfl _ _ _ rfl own0 p.length _ (Src.ofReads _ Tryd.underlying22 (hpd.on BA).1 (bvs_one _)) (by unfold maxLen; omega) (by omega) BA.size ?_
        intro v2 u2 own2 k2 b2
        have BB := BA.trans b2
        refine hK _ _ (rmd.on BB) ?_
        clear hK K
        simp only [Act.put, List.setIfInBounds_toArray, List.set_cons_zero, List.set_cons_succ]
        refine plan_one _ rfl fun K hK => ?_
        refine step_valueG rfl _ _ (by exact exec_slice1 _ 22 28 _ rfl Tryd.underlying22 i0 _ hi0 hzz (bvs more) (hi1.trans ((bvs_length _).trans HM.out).symm) (by rw [bvs_length, HM.out]; omega) (by rw [bvs_length, HM.out]; omega) rfl) ?_
        have q4 := row_alloc u2 28 (bvs more)
        have h4 : Below u2.heap.size u2 (u2.alloc (.cells (bvs more).toArray 28)) := (Below.refl _ _).alloc (Nat.le_refl _) _
        have BC := BB.trans (h4.mono BB.size)
        have own4 := own_below own2 h4
        obtain ⟨g4, hg4⟩ : ∃ g4, g4 = u2.heap.size := ⟨_, rfl⟩
        have g4l : wd.heap.size ≤ g4 := by rw [hg4]; exact BB.size
        rw [← hg4] at q4 ⊢
        clear hg4
        generalize u2.alloc (.cells (bvs more).toArray 28) = u4 at *
        refine hK _ _ (rmd.on BC) ?_
        clear hK K
        simp only [Act.put, List.setIfInBounds_toArray, List.set_cons_zero, List.set_cons_succ]
        refine plan_one _ rfl fun K hK => ?_
        refine step_append_src rfl (.tmp 57) (.tmp 59) _ _ rfl wd.heap.size 28 i0 _ 16 16 Tryd.underlying22 hi0 hzz hi1 hi2 rfl _ _ _ rfl own4 1 _ (Src.ofReads _ Tryd.underlying22 (q4.reads (n := 1) (by rw [bvs_length, HM.out])) (bvs_one _)) (by unfold maxLen; omega) (by omega) BC.size ?_
        intro v9 u9 own9 k9 b9
        have B9 := BC.trans b9
        refine hK _ _ (rmd.on B9) ?_
        clear hK K
        simp only [Act.put, List.setIfInBounds_toArray, List.set_cons_zero, List.set_cons_succ]
        repeat (refine plan_take _ rfl ?_; go_big_quiet_step ((intros; rfl)); refine wpQuiet_nil ?_)
        refine plan_done ?_
        go_wp2_with fail
        go_meet
        obtain ⟨A9, c9, rfl, hc9, _, hr9⟩ := own_form own9
        rw [Nat.zero_add] at hr9 hc9 ⊢
        exact ⟨A9, c9, rfl, hc9, ⟨by rw [List.nil_append, ← bvs_append] at hr9; rw [List.flatten_append]; simpa using hr9, len16_app HP16.out HM.out⟩, BD.trans (B9.mono BD.size)⟩
      · refine step_at _ rfl fun K hK => ?_
        refine step_valueG rfl _ _ (by exact exec_slice1 _ 22 28 _ rfl Tryd.underlying22 i0 _ hi0 hzz (bvs more) (hi1.trans ((bvs_length _).trans HM.out).symm) (by rw [bvs_length, HM.out]; omega) (by rw [bvs_length, HM.out]; omega) rfl) ?_
        have q4 := row_alloc u0 28 (bvs more)
        have h4 : Below u0.heap.size u0 (u0.alloc (.cells (bvs more).toArray 28)) := (Below.refl _ _).alloc (Nat.le_refl _) _
        have BC := BA.trans (h4.mono BA.size)
        have own4 := own_below own0 h4
        obtain ⟨g4, hg4⟩ : ∃ g4, g4 = u0.heap.size := ⟨_, rfl⟩
        have g4l : wd.heap.size ≤ g4 := by rw [hg4]; exact BA.size
        rw [← hg4] at q4 ⊢
        have g04 : g0 < g4 := by omega
        clear hg4
        generalize u0.alloc (.cells (bvs more).toArray 28) = u4 at *
        refine hK _ _ (rmd.on BC) ?_
        clear hK K
        simp only [Act.put, List.setIfInBounds_toArray, List.set_cons_zero, List.set_cons_succ]
        refine plan_one _ rfl fun K hK => ?_
        refine step_append_src rfl (.tmp 55) (.tmp 56) _ _ rfl wd.heap.size 28 i0 _ 16 16 Tryd.underlying22 hi0 hzz hi1 hi2 rfl _ _ _ rfl own4 p.length _ (Src.ofReads _ Tryd.underlying22 (hpd.on BC).1 (bvs_one _)) (by unfold maxLen; omega) (by omega) BC.size ?_
        intro v2 u2 own2 k2 b2
        have BB := BC.trans b2
        have q2 := q4.kept k2 (by intro h; have h2 : g4 = g0 := Option.some.inj h; omega)
        refine hK _ _ (rmd.on BB) ?_
        clear hK K
        simp only [Act.put, List.setIfInBounds_toArray, List.set_cons_zero, List.set_cons_succ]
        refine plan_one _ rfl fun K hK => ?_
        refine step_append_src rfl (.tmp 57) (.tmp 59) _ _ rfl wd.heap.size 28 i0 _ 16 16 Tryd.underlying22 hi0 hzz hi1 hi2 rfl _ _ _ rfl own2 1 _ (Src.ofReads _ Tryd.underlying22 (q2.reads (n := 1) (by rw [bvs_length, HM.out])) (bvs_one _)) (by unfold maxLen; omega) (by omega) BB.size ?_
        intro v9 u9 own9 k9 b9
        have B9 := BB.trans b9
        refine hK _ _ (rmd.on B9) ?_
        clear hK K
        simp only [Act.put, List.setIfInBounds_toArray, List.set_cons_zero, List.set_cons_succ]
        repeat (refine plan_take _ rfl ?_; go_big_quiet_step ((intros; rfl)); refine wpQuiet_nil ?_)
        refine plan_done ?_
        go_wp2_with fail
        go_meet
        obtain ⟨A9, c9, rfl, hc9, _, hr9⟩ := own_form own9
        rw [Nat.zero_add] at hr9 hc9 ⊢
        exact ⟨A9, c9, rfl, hc9, ⟨by rw [List.nil_append, ← bvs_append] at hr9; rw [List.flatten_append]; simpa using hr9, len16_app HP16.out HM.out⟩, BD.trans (B9.mono BD.size)⟩
    · refine step_at _ rfl fun K hK => ?_
      refine step_valueG rfl _ _ (by exact exec_slice1 _ 22 28 _ rfl Tryd.underlying22 i0 _ hi0 hzz (bvs more) (hi1.trans ((bvs_length _).trans HM.out).symm) (by rw [bvs_length, HM.out]; omega) (by rw [bvs_length, HM.out]; omega) rfl) ?_
      have q4 := row_alloc wd 28 (bvs more)
      have h4 : Below wd.heap.size wd (wd.alloc (.cells (bvs more).toArray 28)) := (Below.refl _ _).alloc (Nat.le_refl _) _
      have BC := B0.trans (h4.mono B0.size)
      obtain ⟨g4, hg4⟩ : ∃ g4, g4 = wd.heap.size := ⟨_, rfl⟩
      have g4l : wd.heap.size ≤ g4 := by rw [hg4]; exact B0.size
      rw [← hg4] at q4 ⊢
      have z4 : g4 < (wd.alloc (.cells (bvs more).toArray 28)).heap.size := by rw [hg4]; simp
      clear hg4
      generalize wd.alloc (.cells (bvs more).toArray 28) = u4 at *
      refine hK _ _ (rmd.on BC) ?_
      clear hK K
      simp only [Act.put, List.setIfInBounds_toArray, List.set_cons_zero, List.set_cons_succ]
      refine plan_one _ rfl fun K hK => ?_
      go_simp
      have q40 := q4.on ((Below.refl _ _).alloc (Nat.le_refl _) (.cells #[] 28))
      obtain ⟨g0, hg0⟩ : ∃ g0, g0 = u4.heap.size := ⟨_, rfl⟩
      have own0 : (u4.alloc (.cells #[] 28)).ownsRow wd.heap.size 28 16 (.slice (some ⟨g0, 0, none⟩) 0 0) 0 [] := by rw [hg0]; exact own_empty u4 28 16 wd.heap.size BC.size
      have g0l : wd.heap.size ≤ g0 := by rw [hg0]; exact BC.size
      have z0 : g0 < (u4.alloc (.cells #[] 28)).heap.size := by rw [hg0]; simp
      have BA := BC.alloc BC.size (.cells #[] 28)
      have z40 : g4 < g0 := by rw [hg0]; exact z4
      rw [← hg0]
      clear hg0
      generalize u4.alloc (.cells #[] 28) = u0 at *
      refine hK _ _ (rmd.on BA) ?_
      clear hK K
      refine plan_one _ rfl fun K hK => ?_
      refine step_append_src rfl (.tmp 55) (.tmp 56) _ _ rfl wd.heap.size 28 i0 _ 16 16 Tryd.underlying22 hi0 hzz hi1 hi2 rfl _ _ _ rfl own0 p.length _ (Src.ofReads _ Tryd.underlying22 (hpd.on BA).1 (bvs_one _)) (by unfold maxLen; omega) (by omega) BA.size ?_
      intro v2 u2 own2 k2 b2
      have BB := BA.trans b2
      have q2 := q40.kept k2 (by intro h; have h2 : g4 = g0 := Option.some.inj h; omega)
      refine hK _ _ (rmd.on BB) ?_
      clear hK K
      simp only [Act.put, List.setIfInBounds_toArray, List.set_cons_zero, List.set_cons_succ]
      refine plan_one _ rfl fun K hK => ?_
      refine step_append_src rfl (.tmp 57) (.tmp 59) _ _ rfl wd.heap.size 28 i0 _ 16 16 Tryd.underlying22 hi0 hzz hi1 hi2 rfl _ _ _ rfl own2 1 _ (Src.ofReads _ Tryd.underlying22 (q2.reads (n := 1) (by rw [bvs_length, HM.out])) (bvs_one _)) (by unfold maxLen; omega) (by omega) BB.size ?_
      intro v9 u9 own9 k9 b9
      have B9 := BB.trans b9
      refine hK _ _ (rmd.on B9) ?_
      clear hK K
      simp only [Act.put, List.setIfInBounds_toArray, List.set_cons_zero, List.set_cons_succ]
      repeat (refine plan_take _ rfl ?_; go_big_quiet_step ((intros; rfl)); refine wpQuiet_nil ?_)
      refine plan_done ?_
      go_wp2_with fail
      go_meet
      obtain ⟨A9, c9, rfl, hc9, _, hr9⟩ := own_form own9
      rw [Nat.zero_add] at hr9 hc9 ⊢
      exact ⟨A9, c9, rfl, hc9, ⟨by rw [List.nil_append, ← bvs_append] at hr9; rw [List.flatten_append]; simpa using hr9, len16_app HP16.out HM.out⟩, BD.trans (B9.mono BD.size)⟩
  case rest =>
    obtain ⟨A9, c9, rfl, hc9, hq9, hb9⟩ := hcut
    have hbw := hb8.trans (hb9.mono hb8.size)
    have C1 : ∀ j u, (bvs d)[j]? = some u → wc.drew.cell? ((ad.add (k * 16)).add j) = some u := fun j u hu => (hbw.cell (by rw [block_of_add, block_of_add]; exact hab)).trans (C0.out j u hu)
    have rF9 := rF8.on hb9
    have rR9 := rR8.on hb9
    have hp9 := hp8.on hb9
    go_wp2_with fail
    go_cut [80] (fun s80 wd => s80 = .bool false ∧ Below w8.heap.size w8 wd)
    case first =>
      have hK0 := hK
      refine wp_region_plan (fun w' => Row w' w5.heap.size 28 (bvs F) ∧ Row w' w2.heap.size 28 (bvs R) ∧ ∀ j u, (bvs d)[j]? = some u → w'.cell? ((ad.add (k * 16)).add j) = some u) (.take 0 <| .take 1 <| .take 2 <| .take 3 <| .take 4 <| .take 5 <| .take 6 <| .take 7 <| .one 8 <| .take 9 <| .take 10 <| .take 11 <| .take 12 <| .take 13 <| .take 14 <| .take 15 <| .take 16 <| .take 17 <| .one 18 <| .take 19 <| .done) (by kernel_rfl) (by kernel_rfl) (by kernel_rfl) (fun _ _ _ _ _ h => h) ⟨rF9.drew, rR9.drew, C1⟩ ?_
      repeat (refine plan_take _ rfl ?_; (first | (refine wpQuiet_valueG (o := ⟨some 61, _, _, _, _, _⟩) rfl _ (by intro _ h; exact exec_load16 _ _ rfl _ rfl F HFL.out h.1.cells) (wpQuiet_nil ?_); simp only [Act.put, List.setIfInBounds_toArray, List.set_cons_zero, List.set_cons_succ]) | (refine wpQuiet_valueG (o := ⟨some 67, _, _, _, _, _⟩) rfl _ (by intro _ h; exact exec_load16 _ _ rfl _ rfl d HD.out h.2.2) (wpQuiet_nil ?_); simp only [Act.put, List.setIfInBounds_toArray, List.set_cons_zero, List.set_cons_succ]) | (refine wpQuiet_valueG (o := ⟨some 71, _, _, _, _, _⟩) rfl _ (by intro _ h; exact exec_load16 _ _ rfl _ rfl R HRL.out h.2.1.cells) (wpQuiet_nil ?_); simp only [Act.put, List.setIfInBounds_toArray, List.set_cons_zero, List.set_cons_succ]) | (refine wpQuiet_valueG (o := ⟨some 77, _, _, _, _, _⟩) rfl _ (by intro _ h; exact exec_load16 _ _ rfl _ rfl d HD.out h.2.2) (wpQuiet_nil ?_); simp only [Act.put, List.setIfInBounds_toArray, List.set_cons_zero, List.set_cons_succ]) | (go_big_quiet_step ((intros; rfl)); refine wpQuiet_nil ?_)))
      refine plan_one _ rfl fun K hK => ?_
      go_simp
      refine ((HV1 A5 c5 _ (hK0.on hbw.drew) (show ReadsD wc.drew A5 p.length p from hp9) hc5).out).mono ?_
      rintro e wx1 ⟨rfl, hx1⟩
      have Ex1 := hb9.drew.trans (hx1.mono hb9.drew.size)
      have Bx2 := hbw.drew.trans (hx1.mono hbw.drew.size)
      have rFx2 := rF9.drew.on hx1
      have rRx2 := rR9.drew.on hx1
      have Px2 := (show ReadsD wc.drew A5 p.length p from hp9).on hx1
      have Qx2 := (show ReadsD wc.drew A9 (p.length + 1) (p ++ [more]) from hq9).on hx1
      have Kx2 := (hK0.on hbw.drew).on hx1
      have Cx2 : ∀ j u, (bvs d)[j]? = some u → wx1.cell? ((ad.add (k * 16)).add j) = some u := fun j u hu => (Bx2.cell (by rw [block_of_add, block_of_add]; exact hab)).trans (C0.out j u hu)
      refine hK _ _ ⟨rFx2, rRx2, Cx2⟩ ?_
      clear hK K
      repeat (refine plan_take _ rfl ?_; (first | (refine wpQuiet_valueG (o := ⟨some 61, _, _, _, _, _⟩) rfl _ (by intro _ h; exact exec_load16 _ _ rfl _ rfl F HFL.out h.1.cells) (wpQuiet_nil ?_); simp only [Act.put, List.setIfInBounds_toArray, List.set_cons_zero, List.set_cons_succ]) | (refine wpQuiet_valueG (o := ⟨some 67, _, _, _, _, _⟩) rfl _ (by intro _ h; exact exec_load16 _ _ rfl _ rfl d HD.out h.2.2) (wpQuiet_nil ?_); simp only [Act.put, List.setIfInBounds_toArray, List.set_cons_zero, List.set_cons_succ]) | (refine wpQuiet_valueG (o := ⟨some 71, _, _, _, _, _⟩) rfl _ (by intro _ h; exact exec_load16 _ _ rfl _ rfl R HRL.out h.2.1.cells) (wpQuiet_nil ?_); simp only [Act.put, List.setIfInBounds_toArray, List.set_cons_zero, List.set_cons_succ]) | (refine wpQuiet_valueG (o := ⟨some 77, _, _, _, _, _⟩) rfl _ (by intro _ h; exact exec_load16 _ _ rfl _ rfl d HD.out h.2.2) (wpQuiet_nil ?_); simp only [Act.put, List.setIfInBounds_toArray, List.set_cons_zero, List.set_cons_succ]) | (go_big_quiet_step ((intros; rfl)); refine wpQuiet_nil ?_)))
      refine plan_one _ rfl fun K hK => ?_
      go_simp
      refine ((HV2 A9 c9 _ Kx2 Qx2 hc9).out).mono ?_
      rintro e wx3 ⟨rfl, hx3⟩
      have Ex3 := Ex1.trans (hx3.mono Ex1.size)
      have Bx4 := Bx2.trans (hx3.mono Bx2.size)
      have rFx4 := rFx2.on hx3
      have rRx4 := rRx2.on hx3
      have Px4 := Px2.on hx3
      have Qx4 := Qx2.on hx3
      have Kx4 := Kx2.on hx3
      have Cx4 : ∀ j u, (bvs d)[j]? = some u → wx3.cell? ((ad.add (k * 16)).add j) = some u := fun j u hu => (Bx4.cell (by rw [block_of_add, block_of_add]; exact hab)).trans (C0.out j u hu)
      refine hK _ _ ⟨rFx4, rRx4, Cx4⟩ ?_
      clear hK K
      repeat (refine plan_take _ rfl ?_; (first | (refine wpQuiet_valueG (o := ⟨some 61, _, _, _, _, _⟩) rfl _ (by intro _ h; exact exec_load16 _ _ rfl _ rfl F HFL.out h.1.cells) (wpQuiet_nil ?_); simp only [Act.put, List.setIfInBounds_toArray, List.set_cons_zero, List.set_cons_succ]) | (refine wpQuiet_valueG (o := ⟨some 67, _, _, _, _, _⟩) rfl _ (by intro _ h; exact exec_load16 _ _ rfl _ rfl d HD.out h.2.2) (wpQuiet_nil ?_); simp only [Act.put, List.setIfInBounds_toArray, List.set_cons_zero, List.set_cons_succ]) | (refine wpQuiet_valueG (o := ⟨some 71, _, _, _, _, _⟩) rfl _ (by intro _ h; exact exec_load16 _ _ rfl _ rfl R HRL.out h.2.1.cells) (wpQuiet_nil ?_); simp only [Act.put, List.setIfInBounds_toArray, List.set_cons_zero, List.set_cons_succ]) | (refine wpQuiet_valueG (o := ⟨some 77, _, _, _, _, _⟩) rfl _ (by intro _ h; exact exec_load16 _ _ rfl _ rfl d HD.out h.2.2) (wpQuiet_nil ?_); simp only [Act.put, List.setIfInBounds_toArray, List.set_cons_zero, List.set_cons_succ]) | (go_big_quiet_step ((intros; rfl)); refine wpQuiet_nil ?_)))
      refine plan_done ?_
      go_wp2_with fail
      go_meet
      exact ⟨rfl, Ex3⟩
    case rest =>
      obtain ⟨rfl, hb10⟩ := hcut
      have hbw2 := hb8.trans (hb10.mono hb8.size)
      have C2 : ∀ j u, (bvs d)[j]? = some u → wc.drew.cell? ((ad.add (k * 16)).add j) = some u := fun j u hu => (hbw2.cell (by rw [block_of_add, block_of_add]; exact hab)).trans (C0.out j u hu)
      have rR10 := rR8.on hb10
      have hp10 := hp8.on hb10
      have hK0 := hK
      by_cases hp0 : 0 < p.length
      · have hl0 : ((p.length : Int) == 0) = false := by simp only [beq_eq_false_iff_ne, ne_eq]; omega
        obtain ⟨a5, rfl⟩ : ∃ a5, A5 = some a5 := by obtain ⟨a, h, _⟩ := hp10.1.2 hp0; exact ⟨a, h⟩
        have hp11 := hp10.last (k := 1) (cap := c5) (by omega) hc5
        by_cases hcap : c5 = 1
        · subst hcap
          rw [if_pos rfl] at hp11
          have hp11 : ReadsD wc.drew (some a5) (p.length - 1) (p.drop 1) := hp11
          rw [show p.length - 1 = 0 from by omega] at hp11 HV3
          go_wp2_with fail
          refine wp_region_plan (fun w' => Row w' w2.heap.size 28 (bvs R) ∧ ∀ j u, (bvs d)[j]? = some u → w'.cell? ((ad.add (k * 16)).add j) = some u) (.take 0 <| .take 1 <| .take 2 <| .one 3 <| .take 4 <| .take 5 <| .take 6 <| .take 7 <| .take 8 <| .take 9 <| .take 10 <| .take 11 <| .take 12 <| .take 13 <| .take 14 <| .one 15 <| .take 16 <| .take 17 <| .take 18 <| .take 19 <| .done) (by kernel_rfl) (by kernel_rfl) (by kernel_rfl) (fun _ _ _ _ _ h => h) ⟨rR10.drew, C2⟩ ?_
          repeat (refine plan_take _ rfl ?_; (first | (refine wpQuiet_valueG (o := ⟨some 87, _, _, _, _, _⟩) rfl _ (by intro _ h; exact exec_load16 _ _ rfl _ rfl R HRL.out h.1.cells) (wpQuiet_nil ?_); simp only [Act.put, List.setIfInBounds_toArray, List.set_cons_zero, List.set_cons_succ]) | (refine wpQuiet_valueG (o := ⟨some 93, _, _, _, _, _⟩) rfl _ (by intro _ h; exact exec_load16 _ _ rfl _ rfl d HD.out h.2) (wpQuiet_nil ?_); simp only [Act.put, List.setIfInBounds_toArray, List.set_cons_zero, List.set_cons_succ]) | (go_big_quiet_step ((intros; rfl)); refine wpQuiet_nil ?_)))
          refine plan_one _ rfl fun K hK => ?_
          go_simp
          refine hK _ _ ⟨rR10.drew, C2⟩ ?_
          clear hK K
          repeat (refine plan_take _ rfl ?_; (first | (refine wpQuiet_valueG (o := ⟨some 87, _, _, _, _, _⟩) rfl _ (by intro _ h; exact exec_load16 _ _ rfl _ rfl R HRL.out h.1.cells) (wpQuiet_nil ?_); simp only [Act.put, List.setIfInBounds_toArray, List.set_cons_zero, List.set_cons_succ]) | (refine wpQuiet_valueG (o := ⟨some 93, _, _, _, _, _⟩) rfl _ (by intro _ h; exact exec_load16 _ _ rfl _ rfl d HD.out h.2) (wpQuiet_nil ?_); simp only [Act.put, List.setIfInBounds_toArray, List.set_cons_zero, List.set_cons_succ]) | (go_big_quiet_step ((intros; rfl)); refine wpQuiet_nil ?_)))
          refine plan_one _ rfl fun K hK => ?_
          go_simp
          refine ((HV3 (some a5) 0 _ hp0 (hK0.on hbw2.drew) hp11 (by omega)).out).mono ?_
          rintro e wx5 ⟨rfl, hx5⟩
          have Bx6 := hbw2.drew.trans (hx5.mono hbw2.drew.size)
          have rRx6 := rR10.drew.on hx5
          have Kx6 := (hK0.on hbw2.drew).on hx5
          have Cx6 : ∀ j u, (bvs d)[j]? = some u → wx5.cell? ((ad.add (k * 16)).add j) = some u := fun j u hu => (Bx6.cell (by rw [block_of_add, block_of_add]; exact hab)).trans (C0.out j u hu)
          have Px6 := hp11.on hx5
          refine hK _ _ ⟨rRx6, Cx6⟩ ?_
          clear hK K
          repeat (refine plan_take _ rfl ?_; (first | (refine wpQuiet_valueG (o := ⟨some 87, _, _, _, _, _⟩) rfl _ (by intro _ h; exact exec_load16 _ _ rfl _ rfl R HRL.out h.1.cells) (wpQuiet_nil ?_); simp only [Act.put, List.setIfInBounds_toArray, List.set_cons_zero, List.set_cons_succ]) | (refine wpQuiet_valueG (o := ⟨some 93, _, _, _, _, _⟩) rfl _ (by intro _ h; exact exec_load16 _ _ rfl _ rfl d HD.out h.2) (wpQuiet_nil ?_); simp only [Act.put, List.setIfInBounds_toArray, List.set_cons_zero, List.set_cons_succ]) | (go_big_quiet_step ((intros; rfl)); refine wpQuiet_nil ?_)))
          refine plan_done ?_
          go_wp2_with fail
          go_ret
          exact ⟨rfl, Bx6⟩
        · rw [if_neg hcap] at hp11
          have hp11 : ReadsD wc.drew (some (a5.add 16)) (p.length - 1) (p.drop 1) := hp11
          rw [add_pos a5 16 (by omega)] at hp11
          go_wp2_with fail
          refine wp_region_plan (fun w' => Row w' w2.heap.size 28 (bvs R) ∧ ∀ j u, (bvs d)[j]? = some u → w'.cell? ((ad.add (k * 16)).add j) = some u) (.take 0 <| .take 1 <| .take 2 <| .one 3 <| .take 4 <| .take 5 <| .take 6 <| .take 7 <| .take 8 <| .take 9 <| .take 10 <| .take 11 <| .take 12 <| .take 13 <| .take 14 <| .one 15 <| .take 16 <| .take 17 <| .take 18 <| .take 19 <| .done) (by kernel_rfl) (by kernel_rfl) (by kernel_rfl) (fun _ _ _ _ _ h => h) ⟨rR10.drew, C2⟩ ?_
          repeat (refine plan_take _ rfl ?_; (first | (refine wpQuiet_valueG (o := ⟨some 87, _, _, _, _, _⟩) rfl _ (by intro _ h; exact exec_load16 _ _ rfl _ rfl R HRL.out h.1.cells) (wpQuiet_nil ?_); simp only [Act.put, List.setIfInBounds_toArray, List.set_cons_zero, List.set_cons_succ]) | (refine wpQuiet_valueG (o := ⟨some 93, _, _, _, _, _⟩) rfl _ (by intro _ h; exact exec_load16 _ _ rfl _ rfl d HD.out h.2) (wpQuiet_nil ?_); simp only [Act.put, List.setIfInBounds_toArray, List.set_cons_zero, List.set_cons_succ]) | (go_big_quiet_step ((intros; rfl)); refine wpQuiet_nil ?_)))
          refine plan_one _ rfl fun K hK => ?_
          go_simp
          refine hK _ _ ⟨rR10.drew, C2⟩ ?_
          clear hK K
          repeat (refine plan_take _ rfl ?_; (first | (refine wpQuiet_valueG (o := ⟨some 87, _, _, _, _, _⟩) rfl _ (by intro _ h; exact exec_load16 _ _ rfl _ rfl R HRL.out h.1.cells) (wpQuiet_nil ?_); simp only [Act.put, List.setIfInBounds_toArray, List.set_cons_zero, List.set_cons_succ]) | (refine wpQuiet_valueG (o := ⟨some 93, _, _, _, _, _⟩) rfl _ (by intro _ h; exact exec_load16 _ _ rfl _ rfl d HD.out h.2) (wpQuiet_nil ?_); simp only [Act.put, List.setIfInBounds_toArray, List.set_cons_zero, List.set_cons_succ]) | (go_big_quiet_step ((intros; rfl)); refine wpQuiet_nil ?_)))
          refine plan_one _ rfl fun K hK => ?_
          go_simp
          refine ((HV3 (some ⟨a5.block, a5.off + 16, none⟩) (c5 - 1) _ hp0 (hK0.on hbw2.drew) hp11 (by omega)).out).mono ?_
          rintro e wx7 ⟨rfl, hx7⟩
          have Bx8 := hbw2.drew.trans (hx7.mono hbw2.drew.size)
          have rRx8 := rR10.drew.on hx7
          have Kx8 := (hK0.on hbw2.drew).on hx7
          have Cx8 : ∀ j u, (bvs d)[j]? = some u → wx7.cell? ((ad.add (k * 16)).add j) = some u := fun j u hu => (Bx8.cell (by rw [block_of_add, block_of_add]; exact hab)).trans (C0.out j u hu)
          have Px8 := hp11.on hx7
          refine hK _ _ ⟨rRx8, Cx8⟩ ?_
          clear hK K
          repeat (refine plan_take _ rfl ?_; (first | (refine wpQuiet_valueG (o := ⟨some 87, _, _, _, _, _⟩) rfl _ (by intro _ h; exact exec_load16 _ _ rfl _ rfl R HRL.out h.1.cells) (wpQuiet_nil ?_); simp only [Act.put, List.setIfInBounds_toArray, List.set_cons_zero, List.set_cons_succ]) | (refine wpQuiet_valueG (o := ⟨some 93, _, _, _, _, _⟩) rfl _ (by intro _ h; exact exec_load16 _ _ rfl _ rfl d HD.out h.2) (wpQuiet_nil ?_); simp only [Act.put, List.setIfInBounds_toArray, List.set_cons_zero, List.set_cons_succ]) | (go_big_quiet_step ((intros; rfl)); refine wpQuiet_nil ?_)))
          refine plan_done ?_
          go_wp2_with fail
          go_ret
          exact ⟨rfl, Bx8⟩
      · have hl0 : ((p.length : Int) == 0) = true := by simp only [beq_iff_eq]; omega
        clear HV3
        go_wp2_with fail
        refine wp_region_plan (fun w' => Row w' w2.heap.size 28 (bvs R) ∧ ∀ j u, (bvs d)[j]? = some u → w'.cell? ((ad.add (k * 16)).add j) = some u) (.take 0 <| .take 1 <| .take 2 <| .one 3 <| .take 4 <| .take 5 <| .take 6 <| .take 7 <| .take 8 <| .take 9 <| .take 10 <| .take 11 <| .take 12 <| .take 13 <| .take 14 <| .one 15 <| .take 16 <| .take 17 <| .take 18 <| .take 19 <| .done) (by kernel_rfl) (by kernel_rfl) (by kernel_rfl) (fun _ _ _ _ _ h => h) ⟨rR10.drew, C2⟩ ?_
        repeat (refine plan_take _ rfl ?_; go_big_quiet_step ((intros; rfl)); refine wpQuiet_nil ?_)
        refine plan_one _ rfl fun K hK => ?_
        go_simp
        refine hK _ _ ⟨rR10.drew, C2⟩ ?_
        clear hK K
        repeat (refine plan_take _ rfl ?_; go_big_quiet_step ((intros; rfl)); refine wpQuiet_nil ?_)
        refine plan_one _ rfl fun K hK => ?_
        go_simp
        refine hK _ _ ⟨rR10.drew, C2⟩ ?_
        clear hK K
        repeat (refine plan_take _ rfl ?_; go_big_quiet_step ((intros; rfl)); refine wpQuiet_nil ?_)
        refine plan_done ?_
        go_wp2_with fail
        go_ret
        exact ⟨rfl, hbw2.drew⟩
end Go.Proofs.YtpmkjnmddglckaaDoor
