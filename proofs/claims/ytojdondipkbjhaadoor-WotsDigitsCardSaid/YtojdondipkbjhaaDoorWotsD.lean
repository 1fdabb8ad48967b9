/-
  What wots.digits and wots.Digits return: contracts by walks. No condition beyond a message of 16 bytes.
-/
import Derived.Test.YtojdondipkbjhaaDoorWref
import Derived.Test.YtojdondipkbjhaaDoorPut
namespace Go.Proofs.YtojdondipkbjhaaDoor
open Go.RowKit

/-- A new slice of numbers comes back, whatever its block's type; nothing that was there has changed. -/
def GivesNT (l : List Nat) (w : World) (e : Ending) (w' : World) : Prop :=
  ∃ v, e = .returned v ∧ (∃ t, w'.ownsRow w.heap.size t 1 v l.length (nvs l)) ∧ Below w.heap.size w w'
def zeros68 : List Nat := List.replicate 68 0
theorem zero_i68 : (Tryd.prog.info? 43).map (fun i => i.zero.map (·.cells)) = some (some (nvs zeros68).toArray) := by kernel_rfl
theorem i68_size (l : List Nat) (h : l.length = 68) : (Tryd.prog.info? 43).map (·.size) = some (nvs l).length := by rw [nvs_length, h]; kernel_rfl
theorem i68_zeros (l : List Nat) (h : l.length = 68) : (nvs zeros68).length = (nvs l).length := by rw [nvs_length, nvs_length, h]; rfl
theorem nvs_set (l : List Nat) (k x : Nat) : (nvs l).set k (.int .i64 (x : Int)) = nvs (l.set k x) := by
  unfold nvs
  rw [List.map_set]
/-- 68 numbers of which those at the places p holds are the digits. -/
def DigsAt (msg : List UInt8) (p : Nat → Prop) (l : List Nat) : Prop := l.length = 68 ∧ ∀ j, p j → l[j]? = some (wD msg j)
theorem DigsAt.set {msg : List UInt8} {p : Nat → Prop} {l : List Nat} (h : DigsAt msg p l) {k : Nat} (hk : k < 68) : DigsAt msg (fun j => p j ∨ j = k) (l.set k (wD msg k)) := by
  refine ⟨by rw [List.length_set]; exact h.1, fun j hj => ?_⟩
  rw [List.getElem?_set]
  by_cases hjk : k = j
  · subst hjk
    rw [if_pos rfl, if_pos (by rw [h.1]; exact hk)]
  · rw [if_neg hjk]
    rcases hj with hj | rfl
    · exact h.2 j hj
    · exact absurd rfl hjk
theorem DigsAt.imp {msg : List UInt8} {p q : Nat → Prop} {l : List Nat} (h : DigsAt msg p l) (hq : ∀ j, q j → p j) : DigsAt msg q l := ⟨h.1, fun j hj => h.2 j (hq j hj)⟩
theorem DigsAt.all {msg : List UInt8} {p : Nat → Prop} {l : List Nat} (h : DigsAt msg p l) (hp : ∀ j, j < 68 → p j) : l = wDigs msg := by
  apply List.ext_getElem?
  intro j
  by_cases hj : j < 68
  · rw [h.2 j (hp j hj), wDigs_at msg hj]
  · rw [List.getElem?_eq_none (by rw [h.1]; omega), List.getElem?_eq_none (by rw [wDigs_len]; omega)]
theorem wD_sum (msg : List UInt8) (t : Nat) (ht : t < 4) : wD msg (67 - t) = wSum msg 64 / 4 ^ t % 4 := by
  have h := wSum_le msg 64
  rcases (by omega : t = 0 ∨ t = 1 ∨ t = 2 ∨ t = 3) with rfl | rfl | rfl | rfl
  · rw [wD_67]; simp
  · rw [wD_66]
  · rw [wD_65]
  · rw [wD_64, Nat.mod_eq_of_lt (by omega)]
theorem digit_val (b : UInt8) (k : Nat) : (wrap64 ((b.toNat : Int) / 2 ^ (2 * (3 - k % 4)))).tmod 4 = ((b.toNat / 4 ^ (3 - k % 4) % 4 : Nat) : Int) := by
  have h := b.toNat_lt
  have hk : k % 4 < 4 := Nat.mod_lt _ (by omega)
  generalize b.toNat = x at *
  generalize k % 4 = m at *
  rcases (by omega : m = 0 ∨ m = 1 ∨ m = 2 ∨ m = 3) with rfl | rfl | rfl | rfl <;> · unfold wrap64; simp only [Nat.sub_zero, Nat.reduceSub, Nat.reduceMul, Nat.reducePow, Int.reducePow]; rw [Int.tmod_eq_emod_of_nonneg (by omega)]; omega

set_option maxRecDepth 100000 in
set_option maxHeartbeats 1000000 in
theorem digitsP_any (msg : List UInt8) (hm : msg.length = 16) (w : World) : Calls Tryd.prog 21 #[.agg (bvs msg).toArray] w (GivesV (.agg (nvs (wDigs msg)).toArray) w) := by
  have HM := Lib.hid hm
  have HB : ∀ k, k < 64 → Hid (∃ b, (bvs msg)[k / 4]? = some (.int .u8 ((b : UInt8).toNat : Int)) ∧ wDig msg k = b.toNat / 4 ^ (3 - k % 4) % 4) := fun k hk => by
    show _
    obtain ⟨b, hb⟩ : ∃ b, msg[k / 4]? = some b := ⟨_, List.getElem?_eq_getElem (by omega)⟩
    exact ⟨b, bvs_get hb, by unfold wDig; rw [List.getD_eq_getElem?_getD, hb]; rfl⟩
  clear hm
  go_enter Tryd.func21, Tryd.ntmps21
  go_wp2_with (first
    | (with_reducible refine wpList_box_row (o := ⟨some 1, _, _, _, _, _⟩) rfl _ _ rfl (bvs msg) rfl ?_; intro w1 hrow1 hs1 hg1)
    | (with_reducible refine wpList_alloc_row (o := ⟨some 2, _, _, _, _, _⟩) rfl _ rfl (nvs zeros68) zero_i68 ?_; intro w2 hrow2 hs2 hg2)
    | (with_reducible refine wpList_alloc_row (o := ⟨some 3, _, _, _, _, _⟩) rfl _ rfl (nvs zeros68) zero_i68 ?_; intro w3 hrow3 hs3 hg3))
  have hrow1' := (hrow1.kept hg2 (by simp)).kept hg3 (by simp)
  have hrow2' := hrow2.kept hg3 (by simp)
  have hb2 : Below w.heap.size w w2 := below_kept (grown_below hg1 (Nat.le_refl _) (by simp)) hg2 (by omega) (by simp)
  have hb3 : Below w.heap.size w w3 := below_kept hb2 hg3 (by omega) (by simp)
  have hlt3 := hrow3.lt
  clear hrow1 hrow2 hg1 hg2 hg3 hb2
  go_loopg [4, 5, 6, 8] 64 (fun g sm s5 s6 s wr => ∃ (k : Nat) (l : List Nat), s = .int .i64 (k : Int) ∧ sm = .int .i64 (wSum msg k : Int) ∧ k ≤ 64 ∧ 64 ≤ g + k ∧ DigsAt msg (· < k) l ∧ Row wr w.heap.size 23 (bvs msg) ∧ Row wr w1.heap.size 43 (nvs zeros68) ∧ Row wr w2.heap.size 43 (nvs l) ∧ Below w.heap.size w wr)
  case atStart => exact ⟨0, zeros68, rfl, rfl, by omega, by omega, ⟨rfl, fun j hj => absurd hj (by omega)⟩, hrow1', hrow2', hrow3, hb3⟩
  case round =>
    obtain ⟨k, l, rfl, rfl, hk, hg, hl, ra, rb, rc, hbr⟩ := hrel
    have hsum := wSum_le msg k
    by_cases hlt : k < 64
    · obtain ⟨b, hb, hbd⟩ := (HB k hlt).out
      have hca := ra.cell hb
      have HS : Hid (wSum msg (k + 1) = wSum msg k + (3 - wDig msg k)) := rfl
      have hdl := wDig_le msg k
      have HD := Lib.hid (wD_lo msg hlt)
      have HX := Lib.hid hbd
      clear hb hbd
      have HL : Hid ((nvs l).length = 68) := by show _ = _; rw [nvs_length, hl.1]
      generalize wSum msg k = sk at *
      have HV := Lib.hid (digit_val b k)
      have HK : k < (nvs l).length := by rw [HL.out]; omega
      rw [← HX.out] at HV
      have HW : Hid (DigsAt msg (· < k + 1) (l.set k (wDig msg k))) := by
        show DigsAt _ _ _
        have e := hl.set (k := k) (by omega)
        rw [HD.out] at e
        exact e.imp fun j hj => by omega
      have HS9 : Hid ((nvs (l.set k (wDig msg k)))[k]? = some (.int .i64 (wDig msg k : Int))) := nvs_get (List.getElem?_set_self (by rw [hl.1]; omega))
      generalize wDig msg k = dk at *
      go_wp2_with (refine wpList_at ⟨none, .store 3 _ _, _, _, _, _⟩ ?_; refine wpList_store_elem rfl _ _ _ rfl w2.heap.size k rfl _ _ rc (.int .i64 (dk : Int)) (by show Value.int .i64 ((wrap64 ((b.toNat : Int) / 2 ^ (2 * (3 - k % 4)))).tmod 4) = _; rw [HV.out]) rfl HK (by kernel_rfl) ?_; intro w9 r9 k9; rw [nvs_set] at r9; have c9 := r9.cell HS9.out; have hb9 := below_kept hbr k9 hbr.size (by rintro q hq; cases hq; omega); have ra9 := ra.kept k9 (by simp; omega); have rb9 := rb.kept k9 (by simp; omega); clear hca HS9)
      go_roundg (gk - 1)
      case measure => omega
      case rel => exact ⟨k + 1, l.set k dk, by go_num, by rw [HS.out]; go_num, by omega, by omega, HW.out, ra9, rb9, r9, hb9⟩
    · obtain rfl : k = 64 := by omega
      have HSM := fun t ht => Lib.hid (wD_sum msg t ht)
      have HDL := Lib.hid (wDigs_len msg)
      clear HB
      generalize wSum msg 64 = sk at *
      obtain ⟨wo, rfl⟩ : ∃ wo : World, wo = wr := ⟨_, rfl⟩
      obtain ⟨g0, rfl⟩ : ∃ g0 : Nat, g0 = gk := ⟨_, rfl⟩
      go_wp2_with fail
      go_loopg [4, 7] 4 (fun g sm s wq => ∃ (t i : Nat) (l : List Nat), s = .int .i64 (i : Int) ∧ sm = .int .i64 ((sk / 4 ^ t : Nat) : Int) ∧ t ≤ 4 ∧ i + t = 67 ∧ 4 ≤ g + t ∧ DigsAt msg (fun j => j < 64 ∨ i < j ∧ j < 68) l ∧ Row wq w1.heap.size 43 (nvs zeros68) ∧ Row wq w2.heap.size 43 (nvs l) ∧ Below w.heap.size w wq)
      case atStart => exact ⟨0, 67, l, rfl, by simp, by omega, by omega, by omega, hl.imp fun j hj => by omega, rb, rc, hbr⟩
      case round =>
        obtain ⟨t, i, l, rfl, rfl, ht, hi, hg1, hl, rb, rc, hbr⟩ := hrel
        by_cases hlt : t < 4
        · have HL : Hid ((nvs l).length = 68) := by show _ = _; rw [nvs_length, hl.1]
          have HK : i < (nvs l).length := by rw [HL.out]; omega
          have HB4 : Hid (sk / 4 ^ (t + 1) = sk / 4 ^ t / 4) := by show _ = _; rw [Nat.div_div_eq_div_mul, Nat.pow_succ]
          have HD : Hid (wD msg i = sk / 4 ^ t % 4) := by show _ = _; rw [← (HSM t hlt).out, show 67 - t = i by omega]
          have HW : Hid (DigsAt msg (fun j => j < 64 ∨ i - 1 < j ∧ j < 68) (l.set i (wD msg i))) := by
            show DigsAt _ _ _
            exact (hl.set (k := i) (by omega)).imp fun j hj => by omega
          have hxl : sk / 4 ^ t ≤ sk := Nat.div_le_self _ _
          rw [HD.out] at HW
          clear HD HSM
          generalize hx : sk / 4 ^ t = x at *
          clear hx
          go_wp2_with (refine wpList_at ⟨none, .store 3 _ _, _, _, _, _⟩ ?_; refine wpList_store_elem rfl _ _ _ rfl w2.heap.size i rfl _ _ rc (.int .i64 ((x % 4 : Nat) : Int)) rfl rfl HK (by kernel_rfl) ?_; intro w9 r9 k9; rw [nvs_set] at r9; have hb9 := below_kept hbr k9 hbr.size (by rintro q hq; cases hq; omega); have rb9 := rb.kept k9 (by simp; omega))
          go_roundg (gk - 1)
          case measure => omega
          case rel => exact ⟨t + 1, i - 1, l.set i (x % 4), by go_num, by rw [HB4.out]; go_num, by omega, by omega, by omega, HW.out, rb9, r9, hb9⟩
        · obtain rfl : t = 4 := by omega
          obtain rfl : i = 63 := by omega
          have HE := Lib.hid (hl.all fun j _ => by omega)
          rw [HE.out] at rc
          have hzr := hbr.size
          have hlt1 := rb.lt
          generalize wDigs msg = DS at *
          go_wp2_with (first
            | (with_reducible refine wpList_load_all (o := ⟨some 42, _, _, _, _, _⟩) rfl _ _ rfl w2.heap.size rfl _ _ rc _ Tryd.underlying43 rfl (i68_size _ HDL.out) ?_)
            | (with_reducible refine wpList_store_all (o := ⟨none, _, _, _, _, _⟩) rfl _ _ _ rfl w1.heap.size rfl _ _ rb (nvs DS) rfl (nvs_one _) (i68_zeros _ HDL.out) (i68_size _ HDL.out) ?_; intro wy hrowy hgy))
          have hload := run_loadVar_at (P := Tryd.prog) wy 43 ⟨w1.heap.size, 0, none⟩ (nvs DS) hrowy.cells _ Tryd.underlying43 rfl (i68_size _ HDL.out)
          exact bodyPost_ret (results_cell1 Tryd.results21 _ _ _ _ rfl hload) rfl ⟨rfl, below_kept hbr hgy hbr.size (by rintro k hk; cases hk; omega)⟩

set_option maxRecDepth 100000 in
set_option maxHeartbeats 1000000 in
theorem digits_any (msg : List UInt8) (hm : msg.length = 16) (w : World) : Calls Tryd.prog 10 #[.agg (bvs msg).toArray] w (GivesNT (wDigs msg) w) := by
  have HM := Lib.hid hm
  have HDP := fun W => Lib.hid (digitsP_any msg hm W)
  have HDL := Lib.hid (wDigs_len msg)
  generalize wDigs msg = DS at *
  clear hm
  go_enter Tryd.func10, Tryd.ntmps10
  go_wp2_with (first
    | (with_reducible refine wpList_box_row (o := ⟨some 1, _, _, _, _, _⟩) rfl _ _ rfl (bvs msg) rfl ?_; intro w1 hrow1 hs1 hg1)
    | (with_reducible refine wpList_load_all (o := ⟨some 4, _, _, _, _, _⟩) rfl _ _ rfl w.heap.size rfl _ _ hrow1 _ Tryd.underlying23 rfl (b16_size _ HM.out) ?_))
  have hb1 : Below w.heap.size w w1 := grown_below hg1 (Nat.le_refl _) (by simp)
  refine (HDP _).out.mono ?_
  rintro e w2 ⟨rfl, hb2⟩
  have B2 := hb1.trans (hb2.mono hb1.size)
  have hz2 := B2.size
  go_wp2_with (first
    | (with_reducible refine wpList_alloc_row (o := ⟨some 3, _, _, _, _, _⟩) rfl _ rfl (nvs zeros68) zero_i68 ?_; intro w3 hrow3 hs3 hg3)
    | (with_reducible refine wpList_store_all (o := ⟨none, _, _, _, _, _⟩) rfl _ _ _ rfl w2.heap.size rfl _ _ hrow3 (nvs DS) rfl (nvs_one _) (i68_zeros _ HDL.out) (i68_size _ HDL.out) ?_; intro wy hrowy hgy))
  have hw := hrowy.lt
  go_ret
  exact ⟨_, rfl, ⟨_, by rw [HDL.out]; exact hrowy.owns_all hz2 68 (by rw [nvs_length, HDL.out]) (by unfold maxLen; omega)⟩, below_kept (below_kept B2 hg3 hz2 (by simp)) hgy (by omega) (by rintro q hq; cases hq; omega)⟩
end Go.Proofs.YtojdondipkbjhaaDoor
