/-
  What wots.Sign and wots.Recover return: contracts by walks. Conditions: the table of constants as laid; a chain's capacity is at least its length.
-/
import Derived.Test.YtojdondipkbjhaaDoorWotsK
import Derived.Test.YtojdondipkbjhaaDoorWotsD
import Derived.Test.YtojdondipkbjhaaDoorWref
namespace Go.Proofs.YtojdondipkbjhaaDoor
open Go.RowKit

theorem size_int (w : World) : (sizeOf 3).run Tryd.prog w = .ok 1 w := by kernel_rfl

set_option maxRecDepth 100000 in
set_option maxHeartbeats 1000000 in
theorem sign_any (seed msg : List UInt8) (hs : seed.length = 16) (hm : msg.length = 16) (index : Int) (h1 : -9223372036854775808 ≤ index) (h2 : index ≤ 9223372036854775807) (w : World) (hK : Consts w) :
    Calls Tryd.prog 17 #[.agg (bvs seed).toArray, .int .i64 index, .agg (bvs msg).toArray] w (GivesDS (wSign seed index msg) w) := by
  have HS := Lib.hid hs
  have HM := Lib.hid hm
  have HDG := fun W => Lib.hid (digitsP_any msg hm W)
  have HDA := fun k hk => Lib.hid (wDigs_at msg (k := k) hk)
  obtain ⟨f, hf⟩ : ∃ f : Nat → List UInt8, ∀ k, f k = wAdv k (wStart seed index k) (wD msg k) := ⟨fun k => wAdv k (wStart seed index k) (wD msg k), fun _ => rfl⟩
  have HP : Hid (wSign seed index msg = (List.range 68).map f) := by show _ = _; rw [show f = fun k => wAdv k (wStart seed index k) (wD msg k) from funext hf]; rfl
  have HVA : ∀ k : Nat, k ≤ 1000000 → ∀ W, Consts W → Hid (Calls Tryd.prog 28 #[.agg (bvs seed).toArray, .int .i64 index, .int .i64 (k : Int), .int .i64 (wD msg k : Int)] W (GivesV (.agg (bvs (f k)).toArray) W)) := fun k hk W hW => by
    show Calls _ _ _ _ _
    rw [hf]
    exact value_any seed hs index h1 h2 k hk _ (by have := wD_le msg k; omega) W hW
  have HVL : ∀ k, Hid ((f k).length = 16) := fun k => by show _ = _; rw [hf]; exact wAdv_len k (wStart_len seed index k) _
  generalize wSign seed index msg = SG at *
  generalize wDigs msg = DS at *
  clear hs hm hf
  have hCo := hK
  go_enter Tryd.func17, Tryd.ntmps17
  go_wp2_with (first
    | (with_reducible refine wpList_box_row (o := ⟨some 3, _, _, _, _, _⟩) rfl _ _ rfl (bvs seed) rfl ?_; intro w1 hrow1 hs1 hg1)
    | (with_reducible refine wpList_box_row (o := ⟨some 5, _, _, _, _, _⟩) rfl _ _ rfl (bvs msg) rfl ?_; intro w2 hrow2 hs2 hg2)
    | (with_reducible refine wpList_make_digs (o := ⟨some 10, _, _, _, _, _⟩) rfl _ _ _ rfl _ Tryd.underlying24 info_dig .i64 .i64 68 rfl rfl (by decide) ?_; intro w3 hrow3 hs3 hg3; have hrow2' := hrow2.kept hg3 (by simp))
    | (with_reducible refine wpList_load_all (o := ⟨some 11, _, _, _, _, _⟩) rfl _ _ rfl w1.heap.size rfl _ _ hrow2' _ Tryd.underlying23 rfl (b16_size _ HM.out) ?_))
  have hrow1' := (hrow1.kept hg2 (by simp)).kept hg3 (by simp)
  have hb2 : Below w.heap.size w w2 := below_kept (grown_below hg1 (Nat.le_refl _) (by simp)) hg2 (by omega) (by simp)
  have hb3 : Below w.heap.size w w3 := below_kept hb2 hg3 (by omega) (by simp)
  have hlt3 := hrow3.lt
  clear hrow1 hrow2 hrow2' hg1 hg2 hg3 hb2
  refine (HDG _).out.mono ?_
  rintro e w4 ⟨rfl, hb4⟩
  have ra4 := hrow1'.on hb4
  have rc4 := hrow3.on hb4
  have B4 := hb3.trans (hb4.mono hb3.size)
  rw [← zero68_flat] at rc4
  go_wp2_with fail
  go_loopg [8, 9, 13] 68 (fun g s8 s9 s wr => ∃ (k : Nat) (ds : List (List UInt8)), s = .int .i64 (k : Int) ∧ k ≤ 68 ∧ 68 ≤ g + k ∧ Ends f k ds ∧ Row wr w.heap.size 23 (bvs seed) ∧ Row wr w2.heap.size 23 (bvs ds.flatten) ∧ Below w.heap.size w wr)
  case atStart => exact ⟨0, zero68, rfl, by omega, by omega, Ends.zero, ra4, rc4, B4⟩
  case round =>
    obtain ⟨k, ds, rfl, hk, hg, hl, ra, rc, hbr⟩ := hrel
    have hz := hbr.size
    by_cases hlt : k < 68
    · have HC := fun W hW => HVA k (by omega) W hW
      have HL := HVL k
      have HN := Lib.hid (hl.next hlt HL.out)
      have HF := Lib.hid (flatten_set ds hl.1 k (by rw [hl.2.1]; exact hlt) (f k) HL.out)
      have HJ : Hid (k * 16 + (bvs (f k)).length ≤ (bvs ds.flatten).length) := by show _ ≤ _; rw [bvs_length, bvs_length, HL.out, flatten_len ds hl.1, hl.2.1]; omega
      have HD := Lib.hid (nvs_get (HDA k hlt).out)
      generalize f k = V at *
      generalize wD msg k = dk at *
      go_wp2_with (first
        | (with_reducible refine wpList_at ⟨some 16, _, _, _, _, _⟩ ?_; refine wpList_index_agg rfl _ _ _ rfl 3 68 .i64 Tryd.underlying43 Tryd.underlying3 size_int (nvs DS) rfl .i64 k rfl hlt _ HD.out ?_)
        | (with_reducible refine wpList_load_all (o := ⟨some 19, _, _, _, _, _⟩) rfl _ _ rfl w.heap.size rfl _ _ ra _ Tryd.underlying23 rfl (b16_size _ HS.out) ?_))
      refine (HC _ (hCo.on hbr)).out.mono ?_
      rintro e w5 ⟨rfl, hb5⟩
      have ra5 := ra.on hb5
      have rc5 := rc.on hb5
      have B5 := hbr.trans (hb5.mono hbr.size)
      go_wp2_with (refine wpList_at ⟨none, .store 23 _ _, _, _, _, _⟩ ?_; refine wpList_store_part rfl _ _ _ rfl w2.heap.size (k * 16) _ rfl (by first | rfl | exact add_row _ _) _ _ rc5 (bvs V) rfl (bvs_one _) HJ.out (b16_size _ HL.out) ?_; intro w6 r6 k6; rw [HF.out] at r6)
      have hz5 := B5.size
      go_roundg (gk - 1)
      case measure => omega
      case rel => exact ⟨k + 1, ds.set k V, by go_num, by omega, by omega, HN.out, ra5.kept k6 (by simp; omega), r6, below_kept B5 k6 B5.size (by rintro q hq; cases hq; omega)⟩
    · obtain rfl : k = 68 := by omega
      have HE := Lib.hid hl.all
      rw [← HP.out] at HE
      have ho := rc.owns_digs hl.1 hl.2.1 (base := w.heap.size) (by omega)
      have hdl := hl.2.1
      rw [HE.out] at ho hdl
      clear HE HVA HVL HDA
      go_wp2_with fail
      go_ret
      exact ⟨_, rfl, by rw [hdl]; exact ho, hbr⟩

set_option maxRecDepth 100000 in
set_option maxHeartbeats 1000000 in
theorem recover_bad (A : Option Addr) (c n : Nat) (msg : List UInt8) (w : World) (hn : n ≠ 68) :
    Calls Tryd.prog 12 #[.agg (bvs msg).toArray, .slice A n c] w (GivesVE zero16B' 9 w) := by
  have hne : ((n : Int) != 68) = true := by simp; omega
  have HRL : Hid (zero16B'.length = 16) := rfl
  go_enter Tryd.func12, Tryd.ntmps12
  go_wp2_with (first
    | (with_reducible refine wpList_box_row (o := ⟨some 2, _, _, _, _, _⟩) rfl _ _ rfl (bvs msg) rfl ?_; intro w1 hrow1 hs1 hg1)
    | (with_reducible refine wpList_alloc_row (o := ⟨some 4, _, _, _, _, _⟩) rfl _ rfl zeros16 zero_b16 ?_; intro w2 hrow2 hs2 hg2)
    | (refine wpList_store_all (o := ⟨none, _, _, _, _, _⟩) rfl _ _ _ rfl w1.heap.size rfl _ _ hrow2 (bvs zero16B') rfl (bvs_one _) (b16_zeros _ HRL.out) (b16_size _ HRL.out) ?_; intro wz hrowz hgz))
  have hb2 : Below w.heap.size w w2 := below_kept (grown_below hg1 (Nat.le_refl _) (by simp)) hg2 (by omega) (by simp)
  have hload := run_loadVar_at (P := Tryd.prog) wz 23 ⟨w1.heap.size, 0, none⟩ (bvs zero16B') hrowz.cells _ Tryd.underlying23 rfl (b16_size _ HRL.out)
  exact bodyPost_ret (results_cellT Tryd.results12 _ _ _ _ rfl hload) rfl ⟨rfl, below_kept hb2 hgz hb2.size (by rintro k hk; cases hk; omega)⟩

set_option maxRecDepth 100000 in
set_option maxHeartbeats 1000000 in
theorem recover_any (A : Option Addr) (c : Nat) (msg : List UInt8) (ds : List (List UInt8)) (w : World) (hK : Consts w) (hm : msg.length = 16) (hr : ReadsD w A 68 ds) (_hc : 68 ≤ c) :
    Calls Tryd.prog 12 #[.agg (bvs msg).toArray, .slice A 68 c] w (GivesVE (wKey msg ds) 0 w) := by
  have HM := Lib.hid hm
  have HPL : Hid ((wKey msg ds).length = 16) := by show _ = _; unfold wKey digestB; rw [List.length_take, sha_len]; rfl
  have HDG := fun W => Lib.hid (digitsP_any msg hm W)
  have HDA := fun k hk => Lib.hid (wDigs_at msg (k := k) hk)
  have H16 : ∀ k, k < 68 → Hid ((ds.getD k []).length = 16) := fun k hk => by
    show _ = _
    have hl := hr.len
    rw [List.getD_eq_getElem?_getD, List.getElem?_eq_getElem (by omega)]
    exact hr.2 _ (List.getElem_mem _)
  obtain ⟨f, hf⟩ : ∃ f : Nat → List UInt8, ∀ k, f k = wAdv k (ds.getD k []) (3 - wD msg k) := ⟨fun k => wAdv k (ds.getD k []) (3 - wD msg k), fun _ => rfl⟩
  have HP : Hid (wKey msg ds = digestB 4 [((List.range 68).map f).flatten]) := by show _ = _; rw [show f = fun k => wAdv k (ds.getD k []) (3 - wD msg k) from funext hf]; unfold wKey wEnds; rw [List.flatMap_def]
  have HAN := fun k hk W => Lib.hid (advancer_any k hk W)
  have HAD : ∀ k : Nat, k < 68 → ∀ p W, Consts W → AdvAt k p W → Hid (Calls Tryd.prog 34 #[.agg (bvs (ds.getD k [])).toArray, .int .i64 (3 - (wD msg k : Int)), .pointer (some ⟨p, 0, none⟩)] W (GivesV (.agg (bvs (f k)).toArray) W)) := fun k hk p W hW hp => by
    show Calls _ _ _ _ _
    have hd := wD_le msg k
    rw [hf, show (3 : Int) - (wD msg k : Int) = ((3 - wD msg k : Nat) : Int) by omega]
    exact adv_any k (by omega) p _ (H16 k hk).out _ (by omega) W hW hp
  have HVL : ∀ k, k < 68 → Hid ((f k).length = 16) := fun k hk => by show _ = _; rw [hf]; exact wAdv_len k (H16 k hk).out _
  generalize wKey msg ds = D at *
  generalize wDigs msg = DS at *
  clear hm hf
  have hCo := hK
  go_enter Tryd.func12, Tryd.ntmps12
  go_wp2_with (first
    | (with_reducible refine wpList_box_row (o := ⟨some 2, _, _, _, _, _⟩) rfl _ _ rfl (bvs msg) rfl ?_; intro w1 hrow1 hs1 hg1)
    | (with_reducible refine wpList_alloc_row (o := ⟨some 4, _, _, _, _, _⟩) rfl _ rfl zeros16 zero_b16 ?_; intro w2 hrow2 hs2 hg2)
    | (with_reducible refine wpList_alloc_row (o := ⟨some 6, _, _, _, _, _⟩) rfl _ rfl (bvs zero68.flatten) zero_d68 ?_; intro w3 hrow3 hs3 hg3; have hrow1' := (hrow1.kept hg2 (by simp)).kept hg3 (by simp))
    | (with_reducible refine wpList_load_all (o := ⟨some 13, _, _, _, _, _⟩) rfl _ _ rfl w.heap.size rfl _ _ hrow1' _ Tryd.underlying23 rfl (b16_size _ HM.out) ?_))
  have hrow2' := hrow2.kept hg3 (by simp)
  have hb2 : Below w.heap.size w w2 := below_kept (grown_below hg1 (Nat.le_refl _) (by simp)) hg2 (by omega) (by simp)
  have hb3 : Below w.heap.size w w3 := below_kept hb2 hg3 (by omega) (by simp)
  have hlt3 := hrow3.lt
  clear hrow1 hrow2 hrow1' hg1 hg2 hg3 hb2
  refine (HDG _).out.mono ?_
  rintro e w4 ⟨rfl, hb4⟩
  have rb4 := hrow2'.on hb4
  have rc4 := hrow3.on hb4
  have B4 := hb3.trans (hb4.mono hb3.size)
  have hz4 := hb4.size
  go_wp2_with fail
  go_loopg [7, 8, 15] 68 (fun g s7 s8 s wr => ∃ (k : Nat) (es : List (List UInt8)), s = .int .i64 (k : Int) ∧ k ≤ 68 ∧ 68 ≤ g + k ∧ Ends f k es ∧ Row wr w1.heap.size 23 zeros16 ∧ Row wr w2.heap.size 46 (bvs es.flatten) ∧ Below w.heap.size w wr)
  case atStart => exact ⟨0, zero68, rfl, by omega, by omega, Ends.zero, rb4, rc4, B4⟩
  case round =>
    obtain ⟨k, es, rfl, hk, hg, hl, rb, rc, hbr⟩ := hrel
    have hz := hbr.size
    by_cases hlt : k < 68
    · have HN1 := fun W => HAN k (by omega) W
      have HC := fun p W hW hp => HAD k hlt p W hW hp
      have HL := HVL k hlt
      have HN := Lib.hid (hl.next hlt HL.out)
      have HF := Lib.hid (flatten_set es hl.1 k (by rw [hl.2.1]; exact hlt) (f k) HL.out)
      have HJ : Hid (k * 16 + (bvs (f k)).length ≤ (bvs es.flatten).length) := by show _ ≤ _; rw [bvs_length, bvs_length, HL.out, flatten_len es hl.1, hl.2.1]; omega
      have HD := Lib.hid (nvs_get (HDA k hlt).out)
      obtain ⟨ap, d, rfl, hapb, hd, hd16, hcl⟩ := hr.1.dig_at hr.2 (k := k) hlt
      have hds : ds.getD k [] = d := by rw [List.getD_eq_getElem?_getD, hd]; rfl
      rw [hds] at HC
      have HD16 := Lib.hid hd16
      have HC0 : Hid (∀ j u, (bvs d)[j]? = some u → wr.cell? ((ap.add (k * 16)).add j) = some u) := fun j u hu => by
        rw [add_of_add]
        exact (hbr.cell (p := ap.add (k * 16 + j)) (by rw [block_of_add]; exact hapb)).trans (hcl j u hu)
      have hapr : ap.block < wr.drew.heap.size := Nat.lt_of_lt_of_le hapb hz
      clear hd hd16 hds HDA HAN HAD HVL H16 HDG hr
      generalize f k = V at *
      have hdl := wD_le msg k
      generalize wD msg k = dk at *
      go_wp2_with (with_reducible refine wpList_at ⟨some 18, _, _, _, _, _⟩ ?_; refine wpList_index_agg rfl _ _ _ rfl 3 68 .i64 Tryd.underlying43 Tryd.underlying3 size_int (nvs DS) rfl .i64 k rfl hlt _ HD.out ?_)
      refine wp_region_plan (fun w' => ∀ j u, (bvs d)[j]? = some u → w'.cell? ((ap.add (k * 16)).add j) = some u) (.take 0 <| .take 1 <| .take 3 <| .take 4 <| .take 5 <| .take 6 <| .take 7 <| .take 8 <| .one 2 <| .one 9 <| .take 10 <| .one 11 <| .done) (by kernel_rfl) (by kernel_rfl) (by kernel_rfl) (fun _ _ _ _ _ h => h) HC0.out ?_
      repeat (refine plan_take _ rfl ?_; (first | (refine wpQuiet_valueG (o := ⟨some 25, _, _, _, _, _⟩) rfl _ (by intro _ h; exact exec_load16 _ _ rfl _ rfl d HD16.out h) (wpQuiet_nil ?_); simp only [Act.put, List.setIfInBounds_toArray, List.set_cons_zero, List.set_cons_succ]) | (go_big_quiet_step ((intros; rfl)); refine wpQuiet_nil ?_)))
      refine plan_one _ rfl fun K hK => ?_
      go_simp
      refine (HN1 _).out.mono ?_
      rintro e wa ⟨p, rfl, hpa, hba⟩
      have rba := rb.drew.on hba
      have rca := rc.drew.on hba
      have Ba := hbr.drew.trans (hba.mono hbr.drew.size)
      unfold advV
      have sa : ∀ j u, (bvs d)[j]? = some u → wa.cell? ((ap.add (k * 16)).add j) = some u := fun j u hu => (hba.cell (by rw [block_of_add, block_of_add]; exact hapr)).trans (HC0.out j u hu)
      have hza := hba.size
      refine hK _ _ sa ?_
      clear hK K
      refine plan_one _ rfl fun K hK => ?_
      go_simp
      refine (HC p _ (hCo.on Ba) hpa).out.mono ?_
      rintro e wb ⟨rfl, hbb⟩
      have rbb := rba.on hbb
      have rcb := rca.on hbb
      have Bb := Ba.trans (hbb.mono Ba.size)
      have sb : ∀ j u, (bvs d)[j]? = some u → wb.cell? ((ap.add (k * 16)).add j) = some u := fun j u hu => (hbb.cell (by rw [block_of_add, block_of_add]; exact Nat.lt_of_lt_of_le hapr hza)).trans (sa j u hu)
      have hzb := Bb.size
      refine hK _ _ sb ?_
      clear hK K
      repeat (refine plan_take _ rfl ?_; (first | (refine wpQuiet_valueG (o := ⟨some 25, _, _, _, _, _⟩) rfl _ (by intro _ h; exact exec_load16 _ _ rfl _ rfl d HD16.out h) (wpQuiet_nil ?_); simp only [Act.put, List.setIfInBounds_toArray, List.set_cons_zero, List.set_cons_succ]) | (go_big_quiet_step ((intros; rfl)); refine wpQuiet_nil ?_)))
      refine plan_one _ rfl fun K hK => ?_
      refine step_store_part rfl _ _ _ rfl w2.heap.size (k * 16) _ rfl (by first | rfl | exact add_row _ _) _ _ rcb (bvs V) rfl (bvs_one _) HJ.out (b16_size _ HL.out) ?_
      intro w6 r6 k6
      rw [HF.out] at r6
      have rb6 := rbb.kept k6 (by simp; omega)
      have B6 := below_kept Bb k6 Bb.size (by rintro q hq; cases hq; omega)
      have s6 : ∀ j u, (bvs d)[j]? = some u → w6.cell? ((ap.add (k * 16)).add j) = some u := fun j u hu => by rw [add_of_add]; exact (B6.cell (p := ap.add (k * 16 + j)) (by rw [block_of_add]; exact hapb)).trans (hcl j u hu)
      refine hK _ _ s6 ?_
      clear hK K
      simp only [Act.put]
      refine plan_done ?_
      go_wp2_with fail
      go_roundg (gk - 1)
      case measure => omega
      case rel => exact ⟨k + 1, es.set k V, by go_num, by omega, by omega, HN.out, rb6, r6, B6⟩
    · obtain rfl : k = 68 := by omega
      have HE := Lib.hid hl.all
      have HZ := Lib.hid (d68_size es hl.1 hl.2.1)
      have HQ := fun W hW => Lib.hid (publicKey_any es hl.1 hl.2.1 W hW)
      rw [← HE.out] at HP
      clear HE HVL HDA HAN HAD H16
      rw [← HP.out] at HQ
      generalize es.flatten = FL at *
      go_wp2_with (with_reducible refine wpList_load_all (o := ⟨some 31, _, _, _, _, _⟩) rfl _ _ rfl w2.heap.size rfl _ _ rc _ Tryd.underlying46 rfl HZ.out ?_)
      refine (HQ _ (hCo.on hbr)).out.mono ?_
      rintro e w5 ⟨rfl, hb5⟩
      have rb5 := rb.on hb5
      have B5 := hbr.trans (hb5.mono hbr.size)
      go_wp2_with (with_reducible refine wpList_store_all (o := ⟨none, _, _, _, _, _⟩) rfl _ _ _ rfl w1.heap.size rfl _ _ rb5 (bvs D) rfl (bvs_one _) (b16_zeros _ HPL.out) (b16_size _ HPL.out) ?_; intro wy hrowy hgy)
      have hload := run_loadVar_at (P := Tryd.prog) wy 23 ⟨w1.heap.size, 0, none⟩ (bvs D) hrowy.cells _ Tryd.underlying23 rfl (b16_size _ HPL.out)
      exact bodyPost_ret (results_cellT Tryd.results12 _ _ _ _ rfl hload) rfl ⟨rfl, below_kept B5 hgy B5.size (by rintro k hk; cases hk; omega)⟩
end Go.Proofs.YtojdondipkbjhaaDoor
