/-
  What wots.publicKey and wots.Public return: contracts by walks. Condition: the table of constants as laid.
-/
import Derived.Test.YtojdondipkbjhaaDoorWotsV
import Derived.Test.YtojdondipkbjhaaDoorWref
namespace Go.Proofs.YtojdondipkbjhaaDoor
open Go.RowKit

theorem zero_d68 : (Tryd.prog.info? 46).map (fun i => i.zero.map (·.cells)) = some (some (bvs zero68.flatten).toArray) := by kernel_rfl
theorem d68_size (ds : List (List UInt8)) (h : Len16 ds) (hl : ds.length = 68) : (Tryd.prog.info? 46).map (·.size) = some (bvs ds.flatten).length := by rw [bvs_length, flatten_len ds h, hl]; kernel_rfl

set_option maxRecDepth 100000 in
set_option maxHeartbeats 1000000 in
theorem publicKey_any (ds : List (List UInt8)) (h16 : Len16 ds) (hl : ds.length = 68) (w : World) (hK : Consts w) :
    Calls Tryd.prog 24 #[.agg (bvs ds.flatten).toArray] w (GivesV (.agg (bvs (digestB 4 [ds.flatten])).toArray) w) := by
  obtain ⟨i0, hi0, hz0, hz1, hz2⟩ := info_parts info_u8
  have HPL : Hid ((digestB 4 [ds.flatten]).length = 16) := by show _ = _; unfold digestB; rw [List.length_take, sha_len]; rfl
  have HP : Hid (digestB 4 [ds.flatten] = digestB 4 [(ds.take 68).flatten]) := by show _ = _; rw [List.take_of_length_le (by omega)]
  have HSZ := Lib.hid (d68_size ds h16 hl)
  have HEL : ∀ n, n ≤ 68 → Hid ((ds.take n).flatten.length = 16 * n) := fun n hn => by show _ = _; rw [flatten_len _ (h16.take n), List.length_take, hl, Nat.min_eq_left hn, Nat.mul_comm]
  have HES : ∀ n d, ds[n]? = some d → Hid ((ds.take (n + 1)).flatten = (ds.take n).flatten ++ d) := fun n d h => flatten_snoc ds n d h
  have HPT : ∀ n d, ds[n]? = some d → Hid (((bvs ds.flatten).drop (n * 16)).take 16 = bvs d) := fun n d h => flatten_part ds h16 h
  have H16 : ∀ n, n < 68 → Hid (∃ d, ds[n]? = some d ∧ d.length = 16) := fun n hn => ⟨ds[n], List.getElem?_eq_getElem (by omega), h16 _ (List.getElem_mem _)⟩
  generalize digestB 4 [ds.flatten] = D at *
  generalize ds.flatten = FL at *
  clear h16 hl
  have hCo := hK
  go_enter Tryd.func24, Tryd.ntmps24
  go_wp2_with (first
    | (with_reducible refine wpList_box_row (o := ⟨some 1, _, _, _, _, _⟩) rfl _ _ rfl (bvs FL) rfl ?_; intro w1 hrow1 hs1 hg1)
    | (with_reducible refine wpList_alloc_row (o := ⟨some 2, _, _, _, _, _⟩) rfl _ rfl zeros16 zero_b16 ?_; intro w2 hrow2 hs2 hg2; have hrow1' := hrow1.kept hg2 (by simp))
    | (with_reducible refine wpList_load_all (o := ⟨some 6, _, _, _, _, _⟩) rfl _ _ rfl w.heap.size rfl _ _ hrow1' _ Tryd.underlying46 rfl HSZ.out ?_))
  have hb2 : Below w.heap.size w w2 := below_kept (grown_below hg1 (Nat.le_refl _) (by simp)) hg2 (by omega) (by simp)
  have hlt2 := hrow2.lt
  clear hrow1 hrow1' hg1 hg2
  go_loopg [3, 5, 7] 68 (fun g v s5 s wr => ∃ k : Nat, s = .int .i64 (k : Int) ∧ k ≤ 68 ∧ 68 ≤ g + k ∧ wr.ownsRow w2.heap.size 5 1 v (ds.take k).flatten.length (bvs (ds.take k).flatten) ∧ Below w2.heap.size w2 wr)
  case atStart => exact ⟨0, rfl, by omega, by omega, World.ownsRow_nil w2 _ _ _, Below.refl _ _⟩
  case round =>
    obtain ⟨k, rfl, hk, hg, hown, hbr⟩ := hrel
    have hz := hbr.size
    have hEL := (HEL k hk).out
    by_cases hlt : k < 68
    · obtain ⟨d, hd, hd16⟩ := (H16 k hlt).out
      have HT := HES k d hd
      have HI := HPT k d hd
      have HD16 := Lib.hid hd16
      clear hd hd16 H16 HES HPT
      generalize (ds.take k).flatten = E at *
      go_wp2_with (first
        | (with_reducible refine wpList_index_part (o := ⟨some 9, _, _, _, _, _⟩) rfl _ _ _ rfl 23 68 16 Tryd.underlying46 agg_dig size_dig (bvs FL) rfl .i64 k rfl hlt (bvs d) HI.out ?_)
        | (with_reducible refine wpList_alloc_row (o := ⟨some 5, _, _, _, _, _⟩) rfl _ rfl zeros16 zero_b16 ?_; intro w4 hrow4 hs4 hg4)
        | (with_reducible refine wpList_store_all (o := ⟨none, _, _, _, _, _⟩) rfl _ _ _ rfl wr.heap.size rfl _ _ hrow4 (bvs d) rfl (bvs_one _) (b16_zeros _ HD16.out) (b16_size _ HD16.out) ?_; intro w5 hrow5 hg5; have hb5 : Below wr.heap.size wr w5 := below_kept (grown_below hg4 (Nat.le_refl _) (by simp)) hg5 (by omega) (by rintro q hq; cases hq; exact Nat.le_refl _); have hown5 := own_below hown hb5; have B5 := hbr.trans (hb5.mono hbr.size))
        | (at_builtin; refine wpList_append_src _ rfl (.tmp 10) (.tmp 11) _ _ rfl w2.heap.size 5 i0 _ 1 1 Tryd.underlying41 hi0 hz0 hz1 hz2 rfl _ _ _ rfl hown5 16 _ (Src.ofReads _ Tryd.underlying41 (hrow5.reads16 HD16.out) (bvs_one _)) (by unfold maxLen; omega) (by omega) B5.size ?_; intro v6 w6 hown6 hb6))
      go_roundg (gk - 1)
      case measure => omega
      case rel =>
        refine ⟨k + 1, by go_num, by omega, by omega, ?_, B5.trans hb6⟩
        rw [HT.out, List.length_append, HD16.out, bvs_append]
        exact hown6
    · obtain rfl : k = 68 := by omega
      have hE2 : (ds.take 68).flatten.length ≤ 2000 := by omega
      clear hEL H16 HES HPT HEL
      generalize (ds.take 68).flatten = E at *
      obtain ⟨A3, c3, rfl, hc3, _, hr3⟩ := own_form hown
      have hrb := hrow2.on hbr
      have B3 := hb2.trans (hbr.mono hb2.size)
      go_wp2_with fail
      have hrp := readsP_one wr 41 A3 E.length c3 E hr3 hc3
      have hba : Below wr.heap.size wr (wr.alloc (.cells #[.slice A3 E.length c3] 41)) := (Below.refl _ _).alloc (Nat.le_refl _) _
      refine (digest_big 4 _ _ _ _ _ (hCo.on (B3.trans (hba.mono B3.size))) hrp (by omega) (parts_one_le _ 2000 hE2)).mono ?_
      rintro e w4 ⟨rfl, hb4⟩
      rw [digestB_one, ← HP.out]
      have hrb4 := (hrb.on hba).on hb4
      have B4 := (B3.trans (hba.mono B3.size)).trans (hb4.mono (B3.trans (hba.mono B3.size)).size)
      go_wp2_with (with_reducible refine wpList_store_all (o := ⟨none, _, _, _, _, _⟩) rfl _ _ _ rfl w1.heap.size rfl _ _ hrb4 (bvs D) rfl (bvs_one _) (b16_zeros _ HPL.out) (b16_size _ HPL.out) ?_; intro wy hrowy hgy)
      have hload := run_loadVar_at (P := Tryd.prog) wy 23 ⟨w1.heap.size, 0, none⟩ (bvs D) hrowy.cells _ Tryd.underlying23 rfl (b16_size _ HPL.out)
      exact bodyPost_ret (results_cell1 Tryd.results24 _ _ _ _ rfl hload) rfl ⟨rfl, below_kept B4 hgy B4.size (by rintro k hk; cases hk; omega)⟩

set_option maxRecDepth 100000 in
set_option maxHeartbeats 1000000 in
theorem public_any (seed : List UInt8) (hs : seed.length = 16) (index : Int) (h1 : -9223372036854775808 ≤ index) (h2 : index ≤ 9223372036854775807) (w : World) (hK : Consts w) :
    Calls Tryd.prog 14 #[.agg (bvs seed).toArray, .int .i64 index] w (GivesV (.agg (bvs (wPub seed index)).toArray) w) := by
  have HS := Lib.hid hs
  have HPL : Hid ((wPub seed index).length = 16) := by show _ = _; unfold wPub digestB; rw [List.length_take, sha_len]; rfl
  obtain ⟨f, hf⟩ : ∃ f : Nat → List UInt8, ∀ k, f k = wAdv k (wStart seed index k) 3 := ⟨fun k => wAdv k (wStart seed index k) 3, fun _ => rfl⟩
  have HP : Hid (wPub seed index = digestB 4 [((List.range 68).map f).flatten]) := by show _ = _; rw [show f = fun k => wAdv k (wStart seed index k) 3 from funext hf]; unfold wPub wEnds; rw [List.flatMap_def]
  have HVA : ∀ k : Nat, k ≤ 1000000 → ∀ W, Consts W → Hid (Calls Tryd.prog 28 #[.agg (bvs seed).toArray, .int .i64 index, .int .i64 (k : Int), .int .i64 3] W (GivesV (.agg (bvs (f k)).toArray) W)) := fun k hk W hW => by
    show Calls _ _ _ _ _
    rw [hf]
    exact value_any seed hs index h1 h2 k hk 3 (by omega) W hW
  have HVL : ∀ k, Hid ((f k).length = 16) := fun k => by show _ = _; rw [hf]; exact wAdv_len k (wStart_len seed index k) 3
  generalize wPub seed index = D at *
  clear hs hf
  have hCo := hK
  go_enter Tryd.func14, Tryd.ntmps14
  go_wp2_with (first
    | (with_reducible refine wpList_box_row (o := ⟨some 2, _, _, _, _, _⟩) rfl _ _ rfl (bvs seed) rfl ?_; intro w1 hrow1 hs1 hg1)
    | (with_reducible refine wpList_alloc_row (o := ⟨some 4, _, _, _, _, _⟩) rfl _ rfl zeros16 zero_b16 ?_; intro w2 hrow2 hs2 hg2)
    | (with_reducible refine wpList_alloc_row (o := ⟨some 5, _, _, _, _, _⟩) rfl _ rfl (bvs zero68.flatten) zero_d68 ?_; intro w3 hrow3 hs3 hg3))
  have hrow1' := (hrow1.kept hg2 (by simp)).kept hg3 (by simp)
  have hrow2' := hrow2.kept hg3 (by simp)
  have hb2 : Below w.heap.size w w2 := below_kept (grown_below hg1 (Nat.le_refl _) (by simp)) hg2 (by omega) (by simp)
  have hb3 : Below w.heap.size w w3 := below_kept hb2 hg3 (by omega) (by simp)
  have hlt3 := hrow3.lt
  clear hrow1 hrow2 hg1 hg2 hg3 hb2
  go_loopg [6, 7] 68 (fun g s6 s wr => ∃ (k : Nat) (ds : List (List UInt8)), s = .int .i64 (k : Int) ∧ k ≤ 68 ∧ 68 ≤ g + k ∧ Ends f k ds ∧ Row wr w.heap.size 23 (bvs seed) ∧ Row wr w1.heap.size 23 zeros16 ∧ Row wr w2.heap.size 46 (bvs ds.flatten) ∧ Below w.heap.size w wr)
  case atStart => exact ⟨0, zero68, rfl, by omega, by omega, Ends.zero, hrow1', hrow2', hrow3, hb3⟩
  case round =>
    obtain ⟨k, ds, rfl, hk, hg, hl, ra, rb, rc, hbr⟩ := hrel
    have hz := hbr.size
    by_cases hlt : k < 68
    · have HC := fun W hW => HVA k (by omega) W hW
      have HL := HVL k
      have HN := Lib.hid (hl.next hlt HL.out)
      have HF := Lib.hid (flatten_set ds hl.1 k (by rw [hl.2.1]; exact hlt) (f k) HL.out)
      have HJ : Hid (k * 16 + (bvs (f k)).length ≤ (bvs ds.flatten).length) := by show _ ≤ _; rw [bvs_length, bvs_length, HL.out, flatten_len ds hl.1, hl.2.1]; omega
      generalize f k = V at *
      go_wp2_with (with_reducible refine wpList_load_all (o := ⟨some 11, _, _, _, _, _⟩) rfl _ _ rfl w.heap.size rfl _ _ ra _ Tryd.underlying23 rfl (b16_size _ HS.out) ?_)
      refine (HC _ (hCo.on hbr)).out.mono ?_
      rintro e w4 ⟨rfl, hb4⟩
      have ra4 := ra.on hb4
      have rb4 := rb.on hb4
      have rc4 := rc.on hb4
      have B4 := hbr.trans (hb4.mono hbr.size)
      go_wp2_with (refine wpList_at ⟨none, .store 23 _ _, _, _, _, _⟩ ?_; refine wpList_store_part rfl _ _ _ rfl w2.heap.size (k * 16) _ rfl (by first | rfl | exact add_row _ _) _ _ rc4 (bvs V) rfl (bvs_one _) HJ.out (b16_size _ HL.out) ?_; intro w5 r5 k5; rw [HF.out] at r5)
      have hz4 := B4.size
      go_roundg (gk - 1)
      case measure => omega
      case rel => exact ⟨k + 1, ds.set k V, by go_num, by omega, by omega, HN.out, ra4.kept k5 (by simp; omega), rb4.kept k5 (by simp; omega), r5, below_kept B4 k5 B4.size (by rintro q hq; cases hq; omega)⟩
    · obtain rfl : k = 68 := by omega
      have HE := Lib.hid hl.all
      have HZ := Lib.hid (d68_size ds hl.1 hl.2.1)
      have HQ := fun W hW => Lib.hid (publicKey_any ds hl.1 hl.2.1 W hW)
      rw [← HE.out] at HP
      clear HE HVA HVL
      rw [← HP.out] at HQ
      generalize ds.flatten = FL at *
      go_wp2_with (with_reducible refine wpList_load_all (o := ⟨some 17, _, _, _, _, _⟩) rfl _ _ rfl w2.heap.size rfl _ _ rc _ Tryd.underlying46 rfl HZ.out ?_)
      refine (HQ _ (hCo.on hbr)).out.mono ?_
      rintro e w4 ⟨rfl, hb4⟩
      have rb4 := rb.on hb4
      have B4 := hbr.trans (hb4.mono hbr.size)
      go_wp2_with (with_reducible refine wpList_store_all (o := ⟨none, _, _, _, _, _⟩) rfl _ _ _ rfl w1.heap.size rfl _ _ rb4 (bvs D) rfl (bvs_one _) (b16_zeros _ HPL.out) (b16_size _ HPL.out) ?_; intro wy hrowy hgy)
      have hload := run_loadVar_at (P := Tryd.prog) wy 23 ⟨w1.heap.size, 0, none⟩ (bvs D) hrowy.cells _ Tryd.underlying23 rfl (b16_size _ HPL.out)
      exact bodyPost_ret (results_cell1 Tryd.results14 _ _ _ _ rfl hload) rfl ⟨rfl, below_kept B4 hgy B4.size (by rintro k hk; cases hk; omega)⟩
end Go.Proofs.YtojdondipkbjhaaDoor
