/-
  What wots.digits returns: a contract by a walk. No condition beyond a message of 16 bytes.
-/
import Derived.Test.YtfmcgcdppbcfjaaDoorWref
import Derived.Test.YtfmcgcdppbcfjaaDoorPut
namespace Go.Proofs.YtfmcgcdppbcfjaaDoor
open Go.RowKit

def zeros68 : List Nat := List.replicate 68 0
theorem zero_i68 : (Tryd.prog.info? 70).map (fun i => i.zero.map (·.cells)) = some (some (nvs zeros68).toArray) := by kernel_rfl
theorem i68_size (l : List Nat) (h : l.length = 68) : (Tryd.prog.info? 70).map (·.size) = some (nvs l).length := by rw [nvs_length, h]; kernel_rfl
theorem i68_zeros (l : List Nat) (h : l.length = 68) : (nvs zeros68).length = (nvs l).length := by rw [nvs_length, nvs_length, h]; rfl
theorem nvs_set (l : List Nat) (k x : Nat) : (nvs l).set k (.int .i64 (x : Int)) = nvs (l.set k x) := by
  unfold nvs
  rw [List.map_set]
/-- 68 numbers of which those at the places p holds are the digits. -/
def DigsAt (msg : List UInt8) (p : Nat → Prop) (l : List Nat) : Prop := l.length = 68 ∧ ∀ j, p j → l[j]? = some (wD msg j)
theorem DigsAt.set {msg : List UInt8} {p : Nat → Prop} {l : List Nat} (h : DigsAt msg p l) {k : Nat} (hk : k < 68) : DigsAt msg (fun j => p j ∨ j = k) (l.set k (wD msg k)) := by
  refine ⟨by rw [List.length_set]; exact h.1, fun j hj => ?_⟩
  rw [List.getElem?_set]
  by_cases hjk : k = j
  · subst hjk
    rw [if_pos rfl, if_pos (by rw [h.1]; exact hk)]
  · rw [if_neg hjk]
    rcases hj with hj | rfl
    · exact h.2 j hj
    · exact absurd rfl hjk
theorem DigsAt.imp {msg : List UInt8} {p q : Nat → Prop} {l : List Nat} (h : DigsAt msg p l) (hq : ∀ j, q j → p j) : DigsAt msg q l := ⟨h.1, fun j hj => h.2 j (hq j hj)⟩
theorem DigsAt.all {msg : List UInt8} {p : Nat → Prop} {l : List Nat} (h : DigsAt msg p l) (hp : ∀ j, j < 68 → p j) : l = wDigs msg := by
  apply List.ext_getElem?
  intro j
  by_cases hj : j < 68
  · rw [h.2 j (hp j hj), wDigs_at msg hj]
  · rw [List.getElem?_eq_none (by rw [h.1]; omega), List.getElem?_eq_none (by rw [wDigs_len]; omega)]
theorem wD_sum (msg : List UInt8) (t : Nat) (ht : t < 4) : wD msg (67 - t) = wSum msg 64 / 4 ^ t % 4 := by
  have h := wSum_le msg 64
  rcases (by omega : t = 0 ∨ t = 1 ∨ t = 2 ∨ t = 3) with rfl | rfl | rfl | rfl
  · rw [wD_67]; simp
  · rw [wD_66]
  · rw [wD_65]
  · rw [wD_64, Nat.mod_eq_of_lt (by omega)]
theorem digit_val (b : UInt8) (k : Nat) : (wrap64 ((b.toNat : Int) / 2 ^ (2 * (3 - k % 4)))).tmod 4 = ((b.toNat / 4 ^ (3 - k % 4) % 4 : Nat) : Int) := by
  have h := b.toNat_lt
  have hk : k % 4 < 4 := Nat.mod_lt _ (by omega)
  generalize b.toNat = x at *
  generalize k % 4 = m at *
  rcases (by omega : m = 0 ∨ m = 1 ∨ m = 2 ∨ m = 3) with rfl | rfl | rfl | rfl <;> · unfold wrap64; simp only [Nat.sub_zero, Nat.reduceSub, Nat.reduceMul, Nat.reducePow, Int.reducePow]; rw [Int.tmod_eq_emod_of_nonneg (by omega)]; omega

set_option maxRecDepth 100000 in
set_option maxHeartbeats 1000000 in
theorem digitsP_any (msg : List UInt8) (hm : msg.length = 16) (w : World) : Calls Tryd.prog 39 #[.agg (bvs msg).toArray] w (GivesV (.agg (nvs (wDigs msg)).toArray) w) := by
  have HM := Lib.hid hm
  have HB : ∀ k, k < 64 → Hid (∃ b, (bvs msg)[k / 4]? = some (.int .u8 ((b : UInt8).toNat : Int)) ∧ wDig msg k = b.toNat / 4 ^ (3 - k % 4) % 4) := fun k hk => by
    show _
    obtain ⟨b, hb⟩ : ∃ b, msg[k / 4]? = some b := ⟨_, List.getElem?_eq_getElem (by omega)⟩
    exact ⟨b, bvs_get hb, by unfold wDig; rw [List.getD_eq_getElem?_getD, hb]; rfl⟩
  clear hm
  go_enter Tryd.func39, Tryd.ntmps39
  go_wp2_with (first
    | (with_reducible refine wpList_box_row (o := ⟨some 1, _, _, _, _, _⟩) rfl _ _ rfl (bvs msg) rfl ?_; intro w1 hrow1 hs1 hg1)
    | (with_reducible refine wpList_alloc_row (o := ⟨some 2, _, _, _, _, _⟩) rfl _ rfl (nvs zeros68) zero_i68 ?_; intro w2 hrow2 hs2 hg2)
    | (with_reducible refine wpList_alloc_row (o := ⟨some 3, _, _, _, _, _⟩) rfl _ rfl (nvs zeros68) zero_i68 ?_; intro w3 hrow3 hs3 hg3))
  have hrow1' := (hrow1.kept hg2 (by simp)).kept hg3 (by simp)
  have hrow2' := hrow2.kept hg3 (by simp)
  have hb2 : Below w.heap.size w w2 := below_kept (grown_below hg1 (Nat.le_refl _) (by simp)) hg2 (by omega) (by simp)
  have hb3 : Below w.heap.size w w3 := below_kept hb2 hg3 (by omega) (by simp)
  have hlt3 := hrow3.lt
  clear hrow1 hrow2 hg1 hg2 hg3 hb2
  go_loopg [4, 5, 6, 8] 64 (fun g sm s5 s6 s wr => ∃ (k : Nat) (l : List Nat), s = .int .i64 (k : Int) ∧ sm = .int .i64 (wSum msg k : Int) ∧ k ≤ 64 ∧ 64 ≤ g + k ∧ DigsAt msg (· < k) l ∧ Row wr w.heap.size 23 (bvs msg) ∧ Row wr w1.heap.size 70 (nvs zeros68) ∧ Row wr w2.heap.size 70 (nvs l) ∧ Below w.heap.size w wr)
  case atStart => exact ⟨0, zeros68, rfl, rfl, by omega, by omega, ⟨rfl, fun j hj => absurd hj (by omega)⟩, hrow1', hrow2', hrow3, hb3⟩
  case round =>
    obtain ⟨k, l, rfl, rfl, hk, hg, hl, ra, rb, rc, hbr⟩ := hrel
    have hsum := wSum_le msg k
    by_cases hlt : k < 64
    · obtain ⟨b, hb, hbd⟩ := (HB k hlt).out
      have hca := ra.cell hb
      have HS : Hid (wSum msg (k + 1) = wSum msg k + (3 - wDig msg k)) := rfl
      have hdl := wDig_le msg k
      have HD := Lib.hid (wD_lo msg hlt)
      have HX := Lib.hid hbd
      clear hb hbd
      have HL : Hid ((nvs l).length = 68) := by show _ = _; rw [nvs_length, hl.1]
      generalize wSum msg k = sk at *
      have HV := Lib.hid (digit_val b k)
      have HK : k < (nvs l).length := by rw [HL.out]; omega
      rw [← HX.out] at HV
      have HW : Hid (DigsAt msg (· < k + 1) (l.set k (wDig msg k))) := by
        show DigsAt _ _ _
        have e := hl.set (k := k) (by omega)
        rw [HD.out] at e
        exact e.imp fun j hj => by omega
      have HS9 : Hid ((nvs (l.set k (wDig msg k)))[k]? = some (.int .i64 (wDig msg k : Int))) := nvs_get (List.getElem?_set_self (by rw [hl.1]; omega))
      generalize wDig msg k = dk at *
      go_wp2_with (refine wpList_at ⟨none, .store 3 _ _, _, _, _, _⟩ ?_; refine wpList_store_elem rfl _ _ _ rfl w2.heap.size k rfl _ _ rc (.int .i64 (dk : Int)) (by show Value.int .i64 ((wrap64 ((b.toNat : Int) / 2 ^ (2 * (3 - k % 4)))).tmod 4) = _; rw [HV.out]) rfl HK (by kernel_rfl) ?_; intro w9 r9 k9; rw [nvs_set] at r9; have c9 := r9.cell HS9.out; have hb9 := below_kept hbr k9 hbr.size (by rintro q hq; cases hq; omega); have ra9 := ra.kept k9 (by simp; omega); have rb9 := rb.kept k9 (by simp; omega); clear hca HS9)
      go_roundg (gk - 1)
      case measure => omega
      case rel => exact ⟨k + 1, l.set k dk, by go_num, by rw [HS.out]; go_num, by omega, by omega, HW.out, ra9, rb9, r9, hb9⟩
    · obtain rfl : k = 64 := by omega
      have HSM := fun t ht => Lib.hid (wD_sum msg t ht)
      have HDL := Lib.hid (wDigs_len msg)
      clear HB
      generalize wSum msg 64 = sk at *
      obtain ⟨wo, rfl⟩ : ∃ wo : World, wo = wr := ⟨_, rfl⟩
      obtain ⟨g0, rfl⟩ : ∃ g0 : Nat, g0 = gk := ⟨_, rfl⟩
      go_wp2_with fail
      go_loopg [4, 7] 4 (fun g sm s wq => ∃ (t i : Nat) (l : List Nat), s = .int .i64 (i : Int) ∧ sm = .int .i64 ((sk / 4 ^ t : Nat) : Int) ∧ t ≤ 4 ∧ i + t = 67 ∧ 4 ≤ g + t ∧ DigsAt msg (fun j => j < 64 ∨ i < j ∧ j < 68) l ∧ Row wq w1.heap.size 70 (nvs zeros68) ∧ Row wq w2.heap.size 70 (nvs l) ∧ Below w.heap.size w wq)
      case atStart => exact ⟨0, 67, l, rfl, by simp, by omega, by omega, by omega, hl.imp fun j hj => by omega, rb, rc, hbr⟩
      case round =>
        obtain ⟨t, i, l, rfl, rfl, ht, hi, hg1, hl, rb, rc, hbr⟩ := hrel
        by_cases hlt : t < 4
        · have HL : Hid ((nvs l).length = 68) := by show _ = _; rw [nvs_length, hl.1]
          have HK : i < (nvs l).length := by rw [HL.out]; omega
          have HB4 : Hid (sk / 4 ^ (t + 1) = sk / 4 ^ t / 4) := by show _ = _; rw [Nat.div_div_eq_div_mul, Nat.pow_succ]
          have HD : Hid (wD msg i = sk / 4 ^ t % 4) := by show _ = _; rw [← (HSM t hlt).out, show 67 - t = i by omega]
          have HW : Hid (DigsAt msg (fun j => j < 64 ∨ i - 1 < j ∧ j < 68) (l.set i (wD msg i))) := by
            show DigsAt _ _ _
            exact (hl.set (k := i) (by omega)).imp fun j hj => by omega
          have hxl : sk / 4 ^ t ≤ sk := Nat.div_le_self _ _
          rw [HD.out] at HW
          clear HD HSM
          generalize hx : sk / 4 ^ t = x at *
          clear hx
          go_wp2_with (refine wpList_at ⟨none, .store 3 _ _, _, _, _, _⟩ ?_; refine wpList_store_elem rfl _ _ _ rfl w2.heap.size i rfl _ _ rc (.int .i64 ((x % 4 : Nat) : Int)) rfl rfl HK (by kernel_rfl) ?_; intro w9 r9 k9; rw [nvs_set] at r9; have hb9 := below_kept hbr k9 hbr.size (by rintro q hq; cases hq; omega); have rb9 := rb.kept k9 (by simp; omega))
          go_roundg (gk - 1)
          case measure => omega
          case rel => exact ⟨t + 1, i - 1, l.set i (x % 4), by go_num, by rw [HB4.out]; go_num, by omega, by omega, by omega, HW.out, rb9, r9, hb9⟩
        · obtain rfl : t = 4 := by omega
          obtain rfl : i = 63 := by omega
          have HE := Lib.hid (hl.all fun j _ => by omega)
          rw [HE.out] at rc
          have hzr := hbr.size
          have hlt1 := rb.lt
          generalize wDigs msg = DS at *
          go_wp2_with (first
            | (with_reducible refine wpList_load_all (o := ⟨some 42, _, _, _, _, _⟩) rfl _ _ rfl w2.heap.size rfl _ _ rc _ Tryd.underlying70 rfl (i68_size _ HDL.out) ?_)
            | (with_reducible refine wpList_store_all (o := ⟨none, _, _, _, _, _⟩) rfl _ _ _ rfl w1.heap.size rfl _ _ rb (nvs DS) rfl (nvs_one _) (i68_zeros _ HDL.out) (i68_size _ HDL.out) ?_; intro wy hrowy hgy))
          have hload := run_loadVar_at (P := Tryd.prog) wy 70 ⟨w1.heap.size, 0, none⟩ (nvs DS) hrowy.cells _ Tryd.underlying70 rfl (i68_size _ HDL.out)
          exact bodyPost_ret (results_cell1 Tryd.results39 _ _ _ _ rfl hload) rfl ⟨rfl, below_kept hbr hgy hbr.size (by rintro k hk; cases hk; omega)⟩

end Go.Proofs.YtfmcgcdppbcfjaaDoor

/-
  What wots.advancer, its closure and wots.value return: contracts by walks. Conditions: the table of constants as laid; bounded numbers.
-/
namespace Go.Proofs.YtfmcgcdppbcfjaaDoor
open Go.RowKit

/-- The captured variable of a chain's closure holds the chain's number as encoded. -/
def AdvAt (k p : Nat) (w : World) : Prop := ∃ A c, w.cell? ⟨p, 0, none⟩ = some (.slice A (encInt k).length c) ∧ p < w.heap.size ∧ Reads w w.heap.size 1 A (encInt k).length (bvs (encInt k)) ∧ (encInt k).length ≤ c
theorem AdvAt.on {k p : Nat} {w w' : World} (h : AdvAt k p w) (hb : Below w.heap.size w w') : AdvAt k p w' := by
  obtain ⟨A, c, h1, h2, h3, h4⟩ := h
  exact ⟨A, c, (hb.cell h2).trans h1, Nat.lt_of_lt_of_le h2 hb.size, h3.on hb, h4⟩
def advV (p : Nat) : Value := .func (.func 65) #[] #[.pointer (some ⟨p, 0, none⟩)]
theorem zero_sl : (Tryd.prog.info? 53).map (fun i => i.zero.map (·.cells)) = some (some #[.slice none 0 0]) := by kernel_rfl

set_option maxRecDepth 100000 in
set_option maxHeartbeats 1000000 in
theorem advancer_any (k : Nat) (hk : k ≤ 1000000) (w : World) : Calls Tryd.prog 40 #[.int .i64 (k : Int)] w fun e w' => ∃ p, e = .returned (advV p) ∧ AdvAt k p w' ∧ Below w.heap.size w w' := by
  have HIN := fun W => Lib.hid (int_any (k : Int) W (by omega) (by omega))
  have HA : ∀ p W, Hid (AdvAt k p W = ∃ A c, W.cell? ⟨p, 0, none⟩ = some (.slice A (encInt k).length c) ∧ p < W.heap.size ∧ Reads W W.heap.size 1 A (encInt k).length (bvs (encInt k)) ∧ (encInt k).length ≤ c) := fun _ _ => rfl
  generalize encInt (k : Int) = E at *
  go_enter Tryd.func40, Tryd.ntmps40
  go_wp2_with fail
  refine (HIN _).out.mono ?_
  rintro e w1 ⟨v1, rfl, hown1, hb1⟩
  obtain ⟨A1, c1, rfl, hc1, _, hr1⟩ := own_form hown1
  go_wp2_with (first
    | (with_reducible refine wpList_alloc_row (o := ⟨some 3, _, _, _, _, _⟩) rfl _ rfl [.slice none 0 0] zero_sl ?_; intro w2 hrow2 hs2 hg2)
    | (refine wpList_at ⟨none, .store 53 _ _, _, _, _, _⟩ ?_; refine wpList_store_elem rfl _ _ _ rfl w1.heap.size 0 rfl _ _ hrow2 (.slice A1 E.length c1) rfl rfl (by simp) (by kernel_rfl) ?_; intro w3 hrow3 hg3))
  have hw3 := hrow3.lt
  have hb3 : Below w1.heap.size w1 w3 := below_kept (grown_below hg2 (Nat.le_refl _) (by simp)) hg3 (by omega) (by rintro q hq; cases hq; exact Nat.le_refl _)
  have hr3 := hr1.on hb3
  go_ret
  refine ⟨w1.heap.size, rfl, ?_, hb1.trans (hb3.mono hb1.size)⟩
  rw [(HA _ _).out]
  exact ⟨A1, c1, hrow3.cell rfl, hw3, hr3, hc1⟩

set_option maxRecDepth 100000 in
set_option maxHeartbeats 1000000 in
theorem adv_any (k : Nat) (hk : k ≤ 1000000) (p : Nat) (v : List UInt8) (hv : v.length = 16) (n : Nat) (hn : n ≤ 1000) (w : World) (hK : Consts w) (hp : AdvAt k p w) :
    Calls Tryd.prog 65 #[.agg (bvs v).toArray, .int .i64 (n : Int), .pointer (some ⟨p, 0, none⟩)] w (GivesV (.agg (bvs (wAdv k v n)).toArray) w) := by
  have HAL := fun m => Lib.hid (wAdv_len k hv m)
  have HA0 : Hid (wAdv k v 0 = v) := rfl
  have HDE := fun A1 A2 n1 c1 n2 c2 m => Lib.hid (digestB_two k (wAdv k v m) A1 A2 n1 c1 n2 c2)
  have HAS : ∀ m, Hid (wAdv k v (m + 1) = wStep k (wAdv k v m)) := fun _ => rfl
  have HEL := Lib.hid (encInt_le10 (k : Int) (by omega) (by omega))
  obtain ⟨A, c, hcell, hpl, hr, hc⟩ := hp
  generalize wAdv k v = F at *
  generalize encInt (k : Int) = E at *
  clear hv
  have hCo := hK
  go_enter Tryd.func65, Tryd.ntmps65
  go_wp2_with (first
    | (with_reducible refine wpList_box_row (o := ⟨some 3, _, _, _, _, _⟩) rfl _ _ rfl (bvs v) rfl ?_; intro w1 hrow1 hs1 hg1)
    | (with_reducible refine wpList_alloc_row (o := ⟨some 5, _, _, _, _, _⟩) rfl _ rfl zeros16 zero_b16 ?_; intro w2 hrow2 hs2 hg2))
  have hrow1' := hrow1.kept hg2 (by simp)
  have hb2 : Below w.heap.size w w2 := below_kept (grown_below hg1 (Nat.le_refl _) (by simp)) hg2 (by omega) (by simp)
  have hlt2 := hrow2.lt
  rw [← HA0.out] at hrow1'
  clear hrow1 hg1 hg2
  go_loopg [7] n (fun g s wr => ∃ m : Nat, s = .int .i64 (m : Int) ∧ m ≤ n ∧ n ≤ g + m ∧ Row wr w.heap.size 23 (bvs (F m)) ∧ Row wr w1.heap.size 23 zeros16 ∧ Below w.heap.size w wr)
  case atStart => exact ⟨0, rfl, by omega, by omega, hrow1', hrow2, hb2⟩
  case round =>
    obtain ⟨m, rfl, hm, hg, hra, hrb, hbr⟩ := hrel
    by_cases hlt : m < n
    · have HS := HAS m
      have HL1 := HAL m
      have HL2 := HAL (m + 1)
      have hcr := (hbr.cell hpl).trans hcell
      have hrr := hr.on hbr
      go_wp2_with fail
      refine wp_region_plan (fun w' => w'.cell? ⟨p, 0, none⟩ = some (.slice A E.length c)) (.take 0 <| .take 1 <| .one 2 <| .one 3 <| .one 4 <| .done) (by kernel_rfl) (by kernel_rfl) (by kernel_rfl) (fun _ _ _ _ _ h => h) hcr ?_
      repeat (refine plan_take _ rfl ?_; (first | (refine wpQuiet_valueG (o := ⟨some 9, _, _, _, _, _⟩) rfl _ (by intro _ h; exact exec_load1 _ 53 _ rfl ⟨p, 0, none⟩ rfl _ h _ Tryd.underlying53 rfl) (wpQuiet_nil ?_); simp only [Act.put, List.setIfInBounds_toArray, List.set_cons_zero, List.set_cons_succ]) | (go_big_quiet_step ((intros; rfl)); refine wpQuiet_nil ?_)))
      refine plan_one _ rfl fun K hK => ?_
      go_simp
      have hrp := readsP_two wr.drew 53 A (some ⟨w.heap.size, 0, none⟩) E.length c 16 16 E (F m) hrr hc (hra.drew.reads16 HL1.out) (Nat.le_refl _)
      have Bc := hbr.drew.alloc hbr.drew.size (.cells #[.slice A E.length c, .slice (some ⟨w.heap.size, 0, none⟩) 16 16] 53)
      have hbc : Below wr.drew.heap.size wr.drew (wr.drew.alloc (.cells #[.slice A E.length c, .slice (some ⟨w.heap.size, 0, none⟩) 16 16] 53)) := (Below.refl _ _).alloc (Nat.le_refl _) _
      have rc := hra.drew.on hbc
      have rtc := hrb.drew.on hbc
      have cc := (Bc.cell hpl).trans hcell
      refine hK _ _ cc ?_
      clear hK K
      refine plan_one _ rfl fun K hK => ?_
      go_simp
      refine (digest_any 3 _ _ _ _ _ (hCo.on Bc) hrp (by omega) (parts_two_le _ _ 300 (show E.length ≤ 300 by have := HEL.out; omega) (show 16 ≤ 300 by omega))).mono ?_
      rintro e wd ⟨rfl, hbd⟩
      rw [(HDE _ _ _ _ _ _ _).out, ← HS.out]
      have rd := rc.on hbd
      have rtd := rtc.on hbd
      have Bd := Bc.trans (hbd.mono Bc.size)
      have cd := (Bd.cell hpl).trans hcell
      have hzd := Bd.size
      refine hK _ _ cd ?_
      clear hK K
      refine plan_one _ rfl fun K hK => ?_
      refine step_store_all rfl _ _ _ rfl w.heap.size rfl _ _ rd (bvs (F (m + 1))) rfl (bvs_one _) (by rw [bvs_length, bvs_length, HL1.out, HL2.out]) (b16_size _ HL2.out) ?_
      intro wy hrowy hgy
      have By := below_kept Bd hgy Bd.size (by rintro q hq; cases hq; exact Nat.le_refl _)
      have ry := rtd.kept hgy (by simp; omega)
      have cy := (By.cell hpl).trans hcell
      refine hK _ _ cy ?_
      clear hK K
      simp only [Act.put]
      refine plan_done ?_
      go_wp2_with fail
      go_roundg (gk - 1)
      case measure => omega
      case rel => exact ⟨m + 1, by go_num, by omega, by omega, hrowy, ry, By⟩
    · obtain rfl : m = n := by omega
      have HL1 := HAL m
      have hz := hbr.size
      go_wp2_with (first
        | (with_reducible refine wpList_load_all (o := ⟨some 14, _, _, _, _, _⟩) rfl _ _ rfl w.heap.size rfl _ _ hra _ Tryd.underlying23 rfl (b16_size _ HL1.out) ?_)
        | (with_reducible refine wpList_store_all (o := ⟨none, _, _, _, _, _⟩) rfl _ _ _ rfl w1.heap.size rfl _ _ hrb (bvs (F m)) rfl (bvs_one _) (b16_zeros _ HL1.out) (b16_size _ HL1.out) ?_; intro w4 hrb4 hg4))
      have hload := run_loadVar_at (P := Tryd.prog) w4 23 ⟨w1.heap.size, 0, none⟩ (bvs (F m)) hrb4.cells _ Tryd.underlying23 rfl (b16_size _ HL1.out)
      exact bodyPost_ret (results_cell1 Tryd.results65 _ _ _ _ rfl hload) rfl ⟨rfl, below_kept hbr hg4 hz (by rintro k hk; cases hk; omega)⟩

set_option maxRecDepth 100000 in
set_option maxHeartbeats 1000000 in
theorem value_any (seed : List UInt8) (hs : seed.length = 16) (index : Int) (h1 : -9223372036854775808 ≤ index) (h2 : index ≤ 9223372036854775807) (k : Nat) (hk : k ≤ 1000000) (n : Nat) (hn : n ≤ 1000) (w : World) (hK : Consts w) :
    Calls Tryd.prog 45 #[.agg (bvs seed).toArray, .int .i64 index, .int .i64 (k : Int), .int .i64 (n : Int)] w (GivesV (.agg (bvs (wAdv k (wStart seed index k) n)).toArray) w) := by
  have HS := Lib.hid hs
  have HSL := Lib.hid (wStart_len seed index k)
  have HVL := Lib.hid (wAdv_len k (wStart_len seed index k) n)
  have HDE := fun A1 A2 n1 c1 n2 c2 => Lib.hid (drv_wots seed index k A1 A2 n1 c1 n2 c2)
  have HI1 := fun W => Lib.hid (int_any index W h1 h2)
  have HI2 := fun W => Lib.hid (int_any (k : Int) W (by omega) (by omega))
  have HE1 := Lib.hid (encInt_le10 index h1 h2)
  have HE2 := Lib.hid (encInt_le10 (k : Int) (by omega) (by omega))
  have HAN := fun W => Lib.hid (advancer_any k hk W)
  have HAD := fun p W hc hp => Lib.hid (adv_any k hk p (wStart seed index k) (wStart_len seed index k) n hn W hc hp)
  generalize wAdv k (wStart seed index k) n = V at *
  generalize wStart seed index k = D at *
  generalize encInt (k : Int) = E2 at *
  generalize encInt index = E1 at *
  clear hs
  have hCo := hK
  go_enter Tryd.func45, Tryd.ntmps45
  go_wp2_with (first
    | (with_reducible refine wpList_box_row (o := ⟨some 4, _, _, _, _, _⟩) rfl _ _ rfl (bvs seed) rfl ?_; intro w1 hrow1 hs1 hg1)
    | (with_reducible refine wpList_alloc_row (o := ⟨some 8, _, _, _, _, _⟩) rfl _ rfl zeros16 zero_b16 ?_; intro w2 hrow2 hs2 hg2; have hrow1' := hrow1.kept hg2 (by simp)))
  have hb2 : Below w.heap.size w w2 := below_kept (grown_below hg1 (Nat.le_refl _) (by simp)) hg2 (by omega) (by simp)
  have hlt2 := hrow2.lt
  clear hrow1 hg1 hg2
  simp only [Act.put, List.setIfInBounds_toArray, List.set_cons_zero, List.set_cons_succ]
  go_cut [9] (fun s9 wc => ∃ g, s9 = .pointer (some ⟨g, 0, none⟩) ∧ Row wc g 23 (bvs D) ∧ Row wc w1.heap.size 23 zeros16 ∧ w1.heap.size < g ∧ Below w.heap.size w wc)
  case first =>
    refine wp_region_plan (fun _ => True) (.take 0 <| .take 1 <| .take 3 <| .two 2 (.two 4 (.two 5 (.two 6 (.one 7 <| .one 8 <| .done) 7 (.one 6 <| .one 8 <| .done)) 7 (.one 5 <| .one 6 <| .one 8 <| .done)) 7 (.one 4 <| .one 5 <| .one 6 <| .one 8 <| .done)) 7 (.one 2 <| .one 4 <| .one 5 <| .one 6 <| .one 8 <| .done)) (by kernel_rfl) (by kernel_rfl) (by kernel_rfl) (fun _ _ _ _ _ h => h) True.intro ?_
    repeat (refine plan_take _ rfl ?_; go_big_quiet_step ((intros; rfl)); refine wpQuiet_nil ?_)
    refine plan_two ?_ ?_
    · refine step_at _ rfl fun K hK => ?_
      go_simp
      refine ((HI1 _).out).mono ?_
      rintro e wx1 ⟨vx1, rfl, ox1, hx1⟩
      obtain ⟨Ax1, cx1, rfl, cix1, _, rix10⟩ := own_form ox1
      have Bx2 := hb2.drew.trans (hx1.mono hb2.drew.size)
      have sx2 := hrow1'.drew.on hx1
      have t8x2 := hrow2.drew.on hx1
      refine hK _ _ True.intro ?_
      clear hK K
      refine plan_two ?_ ?_
      · refine step_at _ rfl fun K hK => ?_
        go_simp
        refine ((HI2 _).out).mono ?_
        rintro e wx3 ⟨vx3, rfl, ox3, hx3⟩
        obtain ⟨Ax3, cx3, rfl, ckx3, _, rkx30⟩ := own_form ox3
        have Bx4 := Bx2.trans (hx3.mono Bx2.size)
        have sx4 := sx2.on hx3
        have t8x4 := t8x2.on hx3
        have ix4 := rix10.on hx3
        refine hK _ _ True.intro ?_
        clear hK K
        refine plan_two ?_ ?_
        · refine step_at _ rfl fun K hK => ?_
          go_simp
          have hrpx5 := readsP_two wx3 53 Ax1 Ax3 E1.length cx1 E2.length cx3 E1 E2 ix4 cix1 rkx30 ckx3
          have hx5 : Below wx3.heap.size wx3 (wx3.alloc (.cells #[.slice Ax1 E1.length cx1, .slice Ax3 E2.length cx3] 53)) := (Below.refl _ _).alloc (Nat.le_refl _) _
          have Bx6 := Bx4.trans (hx5.mono Bx4.size)
          have sx6 := sx4.on hx5
          have t8x6 := t8x4.on hx5
          have ix6 := ix4.on hx5
          have kx6 := rkx30.on hx5
          refine hK _ _ True.intro ?_
          clear hK K
          refine plan_two ?_ ?_
          · refine step_at _ rfl fun K hK => ?_
            go_simp
            refine (derive_any _ _ seed 16 ⟨#[119, 111, 116, 115]⟩ _ 2 _ 2 _ (hCo.on Bx6) (sx6.reads16 HS.out) (Nat.le_refl _) (by omega) (by decide) hrpx5 (by omega) (parts_two_le _ _ 300 (show E1.length ≤ 300 by have := HE1.out; omega) (show E2.length ≤ 300 by have := HE2.out; omega))).mono ?_
            rintro e wx7 ⟨rfl, hx7⟩
            rw [show drv seed (⟨#[119, 111, 116, 115]⟩ : ByteArray).data.toList _ = D from (HDE Ax1 Ax3 E1.length cx1 E2.length cx3).out]
            have Bx8 := Bx6.trans (hx7.mono Bx6.size)
            have sx8 := sx6.on hx7
            have t8x8 := t8x6.on hx7
            have ix8 := ix6.on hx7
            have kx8 := kx6.on hx7
            have psx8 := hrpx5.on hx7
            refine hK _ _ True.intro ?_
            clear hK K
            refine plan_one _ rfl fun K hK => ?_
            refine step_alloc rfl _ rfl zeros16 zero_b16 ?_
            intro wx9 rx9 sx9 kx9
            have hx9 : Below wx7.heap.size wx7 wx9 := grown_below kx9 (Nat.le_refl _) (by simp)
            have zzx9 := Bx8.size
            have zsx9 := sx8.lt
            have zt8x9 := t8x8.lt
            have Bx10 := Bx8.trans (hx9.mono Bx8.size)
            have sx10 := sx8.on hx9
            have t8x10 := t8x8.on hx9
            have ix10 := ix8.on hx9
            have kx10 := kx8.on hx9
            have psx10 := psx8.on hx9
            refine hK _ _ True.intro ?_
            clear hK K
            simp only [Act.put, List.setIfInBounds_toArray, List.set_cons_zero, List.set_cons_succ]
            refine plan_one _ rfl fun K hK => ?_
            refine step_store_all rfl _ _ _ rfl wx7.heap.size rfl _ _ rx9 (bvs D) rfl (bvs_one _) (b16_zeros _ HSL.out) (b16_size _ HSL.out) ?_
            intro wx11 rx11 kx11
            have Bx11 := below_kept Bx10 kx11 Bx10.size (by rintro k hk; cases hk; exact zzx9)
            have sx11 := sx10.kept kx11 (by simp; omega)
            have t8x11 := t8x10.kept kx11 (by simp; omega)
            refine hK _ _ True.intro ?_
            clear hK K
            simp only [Act.put]
            refine plan_done ?_
            go_wp2_with fail
            go_meet
            exact ⟨_, rfl, rx11, t8x11, by have := zzx9; omega, Bx11⟩
          · refine step_at _ rfl fun K hK => ?_
            refine step_alloc rfl _ rfl zeros16 zero_b16 ?_
            intro wx12 rx12 sx12 kx12
            have hx12 : Below (wx3.alloc (.cells #[.slice Ax1 E1.length cx1, .slice Ax3 E2.length cx3] 53)).heap.size (wx3.alloc (.cells #[.slice Ax1 E1.length cx1, .slice Ax3 E2.length cx3] 53)) wx12 := grown_below kx12 (Nat.le_refl _) (by simp)
            have zzx12 := Bx6.size
            have zsx12 := sx6.lt
            have zt8x12 := t8x6.lt
            have Bx13 := Bx6.trans (hx12.mono Bx6.size)
            have sx13 := sx6.on hx12
            have t8x13 := t8x6.on hx12
            have ix13 := ix6.on hx12
            have kx13 := kx6.on hx12
            have psx13 := hrpx5.on hx12
            have erx12 : (wx3.alloc (.cells #[.slice Ax1 E1.length cx1, .slice Ax3 E2.length cx3] 53)).heap.size = wx3.heap.size + 1 := by simp
            rw [erx12] at rx12
            rw [erx12] at zzx12
            refine hK _ _ True.intro ?_
            clear hK K
            simp only [Act.put, List.setIfInBounds_toArray, List.set_cons_zero, List.set_cons_succ]
            refine plan_one _ rfl fun K hK => ?_
            go_simp
            refine (derive_any _ _ seed 16 ⟨#[119, 111, 116, 115]⟩ _ 2 _ 2 _ (hCo.on Bx13) (sx13.reads16 HS.out) (Nat.le_refl _) (by omega) (by decide) psx13 (by omega) (parts_two_le _ _ 300 (show E1.length ≤ 300 by have := HE1.out; omega) (show E2.length ≤ 300 by have := HE2.out; omega))).mono ?_
            rintro e wx14 ⟨rfl, hx14⟩
            rw [show drv seed (⟨#[119, 111, 116, 115]⟩ : ByteArray).data.toList _ = D from (HDE Ax1 Ax3 E1.length cx1 E2.length cx3).out]
            have Bx15 := Bx13.trans (hx14.mono Bx13.size)
            have sx15 := sx13.on hx14
            have t8x15 := t8x13.on hx14
            have ix15 := ix13.on hx14
            have kx15 := kx13.on hx14
            have psx15 := psx13.on hx14
            have t9x15 := rx12.on hx14
            refine hK _ _ True.intro ?_
            clear hK K
            refine plan_one _ rfl fun K hK => ?_
            refine step_store_all rfl _ _ _ rfl (wx3.heap.size + 1) rfl _ _ t9x15 (bvs D) rfl (bvs_one _) (b16_zeros _ HSL.out) (b16_size _ HSL.out) ?_
            intro wx16 rx16 kx16
            have Bx16 := below_kept Bx15 kx16 Bx15.size (by rintro k hk; cases hk; exact zzx12)
            have sx16 := sx15.kept kx16 (by simp; omega)
            have t8x16 := t8x15.kept kx16 (by simp; omega)
            refine hK _ _ True.intro ?_
            clear hK K
            simp only [Act.put]
            refine plan_done ?_
            go_wp2_with fail
            go_meet
            exact ⟨_, rfl, rx16, t8x16, by have := zzx12; omega, Bx16⟩
        · refine step_at _ rfl fun K hK => ?_
          refine step_alloc rfl _ rfl zeros16 zero_b16 ?_
          intro wx17 rx17 sx17 kx17
          have hx17 : Below wx3.heap.size wx3 wx17 := grown_below kx17 (Nat.le_refl _) (by simp)
          have zzx17 := Bx4.size
          have zsx17 := sx4.lt
          have zt8x17 := t8x4.lt
          have Bx18 := Bx4.trans (hx17.mono Bx4.size)
          have sx18 := sx4.on hx17
          have t8x18 := t8x4.on hx17
          have ix18 := ix4.on hx17
          have kx18 := rkx30.on hx17
          refine hK _ _ True.intro ?_
          clear hK K
          simp only [Act.put, List.setIfInBounds_toArray, List.set_cons_zero, List.set_cons_succ]
          refine plan_one _ rfl fun K hK => ?_
          go_simp
          have hrpx19 := readsP_two wx17 53 Ax1 Ax3 E1.length cx1 E2.length cx3 E1 E2 ix18 cix1 kx18 ckx3
          have hx19 : Below wx17.heap.size wx17 (wx17.alloc (.cells #[.slice Ax1 E1.length cx1, .slice Ax3 E2.length cx3] 53)) := (Below.refl _ _).alloc (Nat.le_refl _) _
          have Bx20 := Bx18.trans (hx19.mono Bx18.size)
          have sx20 := sx18.on hx19
          have t8x20 := t8x18.on hx19
          have ix20 := ix18.on hx19
          have kx20 := kx18.on hx19
          have t9x20 := rx17.on hx19
          refine hK _ _ True.intro ?_
          clear hK K
          refine plan_one _ rfl fun K hK => ?_
          go_simp
          refine (derive_any _ _ seed 16 ⟨#[119, 111, 116, 115]⟩ _ 2 _ 2 _ (hCo.on Bx20) (sx20.reads16 HS.out) (Nat.le_refl _) (by omega) (by decide) hrpx19 (by omega) (parts_two_le _ _ 300 (show E1.length ≤ 300 by have := HE1.out; omega) (show E2.length ≤ 300 by have := HE2.out; omega))).mono ?_
          rintro e wx21 ⟨rfl, hx21⟩
          rw [show drv seed (⟨#[119, 111, 116, 115]⟩ : ByteArray).data.toList _ = D from (HDE Ax1 Ax3 E1.length cx1 E2.length cx3).out]
          have Bx22 := Bx20.trans (hx21.mono Bx20.size)
          have sx22 := sx20.on hx21
          have t8x22 := t8x20.on hx21
          have ix22 := ix20.on hx21
          have kx22 := kx20.on hx21
          have t9x22 := t9x20.on hx21
          have psx22 := hrpx19.on hx21
          refine hK _ _ True.intro ?_
          clear hK K
          refine plan_one _ rfl fun K hK => ?_
          refine step_store_all rfl _ _ _ rfl wx3.heap.size rfl _ _ t9x22 (bvs D) rfl (bvs_one _) (b16_zeros _ HSL.out) (b16_size _ HSL.out) ?_
          intro wx23 rx23 kx23
          have Bx23 := below_kept Bx22 kx23 Bx22.size (by rintro k hk; cases hk; exact zzx17)
          have sx23 := sx22.kept kx23 (by simp; omega)
          have t8x23 := t8x22.kept kx23 (by simp; omega)
          refine hK _ _ True.intro ?_
          clear hK K
          simp only [Act.put]
          refine plan_done ?_
          go_wp2_with fail
          go_meet
          exact ⟨_, rfl, rx23, t8x23, by have := zzx17; omega, Bx23⟩
      · refine step_at _ rfl fun K hK => ?_
        refine step_alloc rfl _ rfl zeros16 zero_b16 ?_
        intro wx24 rx24 sx24 kx24
        have hx24 : Below wx1.heap.size wx1 wx24 := grown_below kx24 (Nat.le_refl _) (by simp)
        have zzx24 := Bx2.size
        have zsx24 := sx2.lt
        have zt8x24 := t8x2.lt
        have Bx25 := Bx2.trans (hx24.mono Bx2.size)
        have sx25 := sx2.on hx24
        have t8x25 := t8x2.on hx24
        have ix25 := rix10.on hx24
        refine hK _ _ True.intro ?_
        clear hK K
        simp only [Act.put, List.setIfInBounds_toArray, List.set_cons_zero, List.set_cons_succ]
        refine plan_one _ rfl fun K hK => ?_
        go_simp
        refine ((HI2 _).out).mono ?_
        rintro e wx26 ⟨vx26, rfl, ox26, hx26⟩
        obtain ⟨Ax26, cx26, rfl, ckx26, _, rkx260⟩ := own_form ox26
        have Bx27 := Bx25.trans (hx26.mono Bx25.size)
        have sx27 := sx25.on hx26
        have t8x27 := t8x25.on hx26
        have ix27 := ix25.on hx26
        have t9x27 := rx24.on hx26
        refine hK _ _ True.intro ?_
        clear hK K
        refine plan_one _ rfl fun K hK => ?_
        go_simp
        have hrpx28 := readsP_two wx26 53 Ax1 Ax26 E1.length cx1 E2.length cx26 E1 E2 ix27 cix1 rkx260 ckx26
        have hx28 : Below wx26.heap.size wx26 (wx26.alloc (.cells #[.slice Ax1 E1.length cx1, .slice Ax26 E2.length cx26] 53)) := (Below.refl _ _).alloc (Nat.le_refl _) _
        have Bx29 := Bx27.trans (hx28.mono Bx27.size)
        have sx29 := sx27.on hx28
        have t8x29 := t8x27.on hx28
        have ix29 := ix27.on hx28
        have t9x29 := t9x27.on hx28
        have kx29 := rkx260.on hx28
        refine hK _ _ True.intro ?_
        clear hK K
        refine plan_one _ rfl fun K hK => ?_
        go_simp
        refine (derive_any _ _ seed 16 ⟨#[119, 111, 116, 115]⟩ _ 2 _ 2 _ (hCo.on Bx29) (sx29.reads16 HS.out) (Nat.le_refl _) (by omega) (by decide) hrpx28 (by omega) (parts_two_le _ _ 300 (show E1.length ≤ 300 by have := HE1.out; omega) (show E2.length ≤ 300 by have := HE2.out; omega))).mono ?_
        rintro e wx30 ⟨rfl, hx30⟩
        rw [show drv seed (⟨#[119, 111, 116, 115]⟩ : ByteArray).data.toList _ = D from (HDE Ax1 Ax26 E1.length cx1 E2.length cx26).out]
        have Bx31 := Bx29.trans (hx30.mono Bx29.size)
        have sx31 := sx29.on hx30
        have t8x31 := t8x29.on hx30
        have ix31 := ix29.on hx30
        have t9x31 := t9x29.on hx30
        have kx31 := kx29.on hx30
        have psx31 := hrpx28.on hx30
        refine hK _ _ True.intro ?_
        clear hK K
        refine plan_one _ rfl fun K hK => ?_
        refine step_store_all rfl _ _ _ rfl wx1.heap.size rfl _ _ t9x31 (bvs D) rfl (bvs_one _) (b16_zeros _ HSL.out) (b16_size _ HSL.out) ?_
        intro wx32 rx32 kx32
        have Bx32 := below_kept Bx31 kx32 Bx31.size (by rintro k hk; cases hk; exact zzx24)
        have sx32 := sx31.kept kx32 (by simp; omega)
        have t8x32 := t8x31.kept kx32 (by simp; omega)
        refine hK _ _ True.intro ?_
        clear hK K
        simp only [Act.put]
        refine plan_done ?_
        go_wp2_with fail
        go_meet
        exact ⟨_, rfl, rx32, t8x32, by have := zzx24; omega, Bx32⟩
    · refine step_at _ rfl fun K hK => ?_
      refine step_alloc rfl _ rfl zeros16 zero_b16 ?_
      intro wx33 rx33 sx33 kx33
      have hx33 : Below w2.drew.heap.size w2.drew wx33 := grown_below kx33 (Nat.le_refl _) (by simp)
      have zzx33 := hb2.drew.size
      have zsx33 := hrow1'.drew.lt
      have zt8x33 := hrow2.drew.lt
      have Bx34 := hb2.drew.trans (hx33.mono hb2.drew.size)
      have sx34 := hrow1'.drew.on hx33
      have t8x34 := hrow2.drew.on hx33
      refine hK _ _ True.intro ?_
      clear hK K
      simp only [Act.put, List.setIfInBounds_toArray, List.set_cons_zero, List.set_cons_succ]
      refine plan_one _ rfl fun K hK => ?_
      go_simp
      refine ((HI1 _).out).mono ?_
      rintro e wx35 ⟨vx35, rfl, ox35, hx35⟩
      obtain ⟨Ax35, cx35, rfl, cix35, _, rix350⟩ := own_form ox35
      have Bx36 := Bx34.trans (hx35.mono Bx34.size)
      have sx36 := sx34.on hx35
      have t8x36 := t8x34.on hx35
      have t9x36 := rx33.on hx35
      refine hK _ _ True.intro ?_
      clear hK K
      refine plan_one _ rfl fun K hK => ?_
      go_simp
      refine ((HI2 _).out).mono ?_
      rintro e wx37 ⟨vx37, rfl, ox37, hx37⟩
      obtain ⟨Ax37, cx37, rfl, ckx37, _, rkx370⟩ := own_form ox37
      have Bx38 := Bx36.trans (hx37.mono Bx36.size)
      have sx38 := sx36.on hx37
      have t8x38 := t8x36.on hx37
      have t9x38 := t9x36.on hx37
      have ix38 := rix350.on hx37
      refine hK _ _ True.intro ?_
      clear hK K
      refine plan_one _ rfl fun K hK => ?_
      go_simp
      have hrpx39 := readsP_two wx37 53 Ax35 Ax37 E1.length cx35 E2.length cx37 E1 E2 ix38 cix35 rkx370 ckx37
      have hx39 : Below wx37.heap.size wx37 (wx37.alloc (.cells #[.slice Ax35 E1.length cx35, .slice Ax37 E2.length cx37] 53)) := (Below.refl _ _).alloc (Nat.le_refl _) _
      have Bx40 := Bx38.trans (hx39.mono Bx38.size)
      have sx40 := sx38.on hx39
      have t8x40 := t8x38.on hx39
      have t9x40 := t9x38.on hx39
      have ix40 := ix38.on hx39
      have kx40 := rkx370.on hx39
      refine hK _ _ True.intro ?_
      clear hK K
      refine plan_one _ rfl fun K hK => ?_
      go_simp
      refine (derive_any _ _ seed 16 ⟨#[119, 111, 116, 115]⟩ _ 2 _ 2 _ (hCo.on Bx40) (sx40.reads16 HS.out) (Nat.le_refl _) (by omega) (by decide) hrpx39 (by omega) (parts_two_le _ _ 300 (show E1.length ≤ 300 by have := HE1.out; omega) (show E2.length ≤ 300 by have := HE2.out; omega))).mono ?_
      rintro e wx41 ⟨rfl, hx41⟩
      rw [show drv seed (⟨#[119, 111, 116, 115]⟩ : ByteArray).data.toList _ = D from (HDE Ax35 Ax37 E1.length cx35 E2.length cx37).out]
      have Bx42 := Bx40.trans (hx41.mono Bx40.size)
      have sx42 := sx40.on hx41
      have t8x42 := t8x40.on hx41
      have t9x42 := t9x40.on hx41
      have ix42 := ix40.on hx41
      have kx42 := kx40.on hx41
      have psx42 := hrpx39.on hx41
      refine hK _ _ True.intro ?_
      clear hK K
      refine plan_one _ rfl fun K hK => ?_
      refine step_store_all rfl _ _ _ rfl w2.drew.heap.size rfl _ _ t9x42 (bvs D) rfl (bvs_one _) (b16_zeros _ HSL.out) (b16_size _ HSL.out) ?_
      intro wx43 rx43 kx43
      have Bx43 := below_kept Bx42 kx43 Bx42.size (by rintro k hk; cases hk; exact zzx33)
      have sx43 := sx42.kept kx43 (by simp; omega)
      have t8x43 := t8x42.kept kx43 (by simp; omega)
      refine hK _ _ True.intro ?_
      clear hK K
      simp only [Act.put]
      refine plan_done ?_
      go_wp2_with fail
      go_meet
      exact ⟨_, rfl, rx43, t8x43, by have := zzx33; omega, Bx43⟩
  case rest =>
    obtain ⟨g, rfl, hrD, hrT, hgt, hbc⟩ := hcut
    go_wp2_with fail
    refine wp_region_plan (fun w' => Row w' g 23 (bvs D)) (.take 0 <| .take 2 <| .take 3 <| .one 1 <| .one 4 <| .one 5 <| .done) (by kernel_rfl) (by kernel_rfl) (by kernel_rfl) (fun _ _ _ _ _ h => h) hrD.drew ?_
    repeat (refine plan_take _ rfl ?_; (first | (refine wpQuiet_valueG (o := ⟨some 19, _, _, _, _, _⟩) rfl _ (by intro _ h; exact exec_load16 _ _ rfl _ rfl D HSL.out h.cells) (wpQuiet_nil ?_); simp only [Act.put, List.setIfInBounds_toArray, List.set_cons_zero, List.set_cons_succ]) | (go_big_quiet_step ((intros; rfl)); refine wpQuiet_nil ?_)))
    refine plan_one _ rfl fun K hK => ?_
    go_simp
    refine (HAN _).out.mono ?_
    rintro e wa ⟨p, rfl, hpa, hba⟩
    have rDa := hrD.drew.on hba
    have rTa := hrT.drew.on hba
    have Ba := hbc.drew.trans (hba.mono hbc.drew.size)
    unfold advV
    refine hK _ _ rDa ?_
    clear hK K
    refine plan_one _ rfl fun K hK => ?_
    go_simp
    refine (HAD p _ (hCo.on Ba) hpa).out.mono ?_
    rintro e wb ⟨rfl, hbb⟩
    have rTb := rTa.on hbb
    have rDb := rDa.on hbb
    have Bb := Ba.trans (hbb.mono Ba.size)
    refine hK _ _ rDb ?_
    clear hK K
    refine plan_one _ rfl fun K hK => ?_
    refine step_store_all rfl _ _ _ rfl w1.heap.size rfl _ _ rTb (bvs V) rfl (bvs_one _) (b16_zeros _ HVL.out) (b16_size _ HVL.out) ?_
    intro wy hrowy hgy
    have ry := rDb.kept hgy (by simp; omega)
    refine hK _ _ ry ?_
    clear hK K
    simp only [Act.put]
    refine plan_done ?_
    go_wp2_with fail
    have hload := run_loadVar_at (P := Tryd.prog) wy 23 ⟨w1.heap.size, 0, none⟩ (bvs V) hrowy.cells _ Tryd.underlying23 rfl (b16_size _ HVL.out)
    exact bodyPost_ret (results_cell1 Tryd.results45 _ _ _ _ rfl hload) rfl ⟨rfl, below_kept Bb hgy Bb.size (by rintro q hq; cases hq; omega)⟩
end Go.Proofs.YtfmcgcdppbcfjaaDoor

/-
  What wots.publicKey and wots.Public return: contracts by walks. Condition: the table of constants as laid.
-/
namespace Go.Proofs.YtfmcgcdppbcfjaaDoor
open Go.RowKit

theorem zero_d68 : (Tryd.prog.info? 69).map (fun i => i.zero.map (·.cells)) = some (some (bvs zero68.flatten).toArray) := by kernel_rfl
theorem d68_size (ds : List (List UInt8)) (h : Len16 ds) (hl : ds.length = 68) : (Tryd.prog.info? 69).map (·.size) = some (bvs ds.flatten).length := by rw [bvs_length, flatten_len ds h, hl]; kernel_rfl

set_option maxRecDepth 100000 in
set_option maxHeartbeats 1000000 in
theorem publicKey_any (ds : List (List UInt8)) (h16 : Len16 ds) (hl : ds.length = 68) (w : World) (hK : Consts w) :
    Calls Tryd.prog 41 #[.agg (bvs ds.flatten).toArray] w (GivesV (.agg (bvs (digestB 4 [ds.flatten])).toArray) w) := by
  obtain ⟨i0, hi0, hz0, hz1, hz2⟩ := info_parts info_u8
  have HPL : Hid ((digestB 4 [ds.flatten]).length = 16) := by show _ = _; unfold digestB; rw [List.length_take, sha_len]; rfl
  have HP : Hid (digestB 4 [ds.flatten] = digestB 4 [(ds.take 68).flatten]) := by show _ = _; rw [List.take_of_length_le (by omega)]
  have HSZ := Lib.hid (d68_size ds h16 hl)
  have HEL : ∀ n, n ≤ 68 → Hid ((ds.take n).flatten.length = 16 * n) := fun n hn => by show _ = _; rw [flatten_len _ (h16.take n), List.length_take, hl, Nat.min_eq_left hn, Nat.mul_comm]
  have HES : ∀ n d, ds[n]? = some d → Hid ((ds.take (n + 1)).flatten = (ds.take n).flatten ++ d) := fun n d h => flatten_snoc ds n d h
  have HPT : ∀ n d, ds[n]? = some d → Hid (((bvs ds.flatten).drop (n * 16)).take 16 = bvs d) := fun n d h => flatten_part ds h16 h
  have H16 : ∀ n, n < 68 → Hid (∃ d, ds[n]? = some d ∧ d.length = 16) := fun n hn => ⟨ds[n], List.getElem?_eq_getElem (by omega), h16 _ (List.getElem_mem _)⟩
  generalize digestB 4 [ds.flatten] = D at *
  generalize ds.flatten = FL at *
  clear h16 hl
  have hCo := hK
  go_enter Tryd.func41, Tryd.ntmps41
  go_wp2_with (first
    | (with_reducible refine wpList_box_row (o := ⟨some 1, _, _, _, _, _⟩) rfl _ _ rfl (bvs FL) rfl ?_; intro w1 hrow1 hs1 hg1)
    | (with_reducible refine wpList_alloc_row (o := ⟨some 2, _, _, _, _, _⟩) rfl _ rfl zeros16 zero_b16 ?_; intro w2 hrow2 hs2 hg2; have hrow1' := hrow1.kept hg2 (by simp))
    | (with_reducible refine wpList_load_all (o := ⟨some 6, _, _, _, _, _⟩) rfl _ _ rfl w.heap.size rfl _ _ hrow1' _ Tryd.underlying69 rfl HSZ.out ?_))
  have hb2 : Below w.heap.size w w2 := below_kept (grown_below hg1 (Nat.le_refl _) (by simp)) hg2 (by omega) (by simp)
  have hlt2 := hrow2.lt
  clear hrow1 hrow1' hg1 hg2
  go_loopg [3, 5, 7] 68 (fun g v s5 s wr => ∃ k : Nat, s = .int .i64 (k : Int) ∧ k ≤ 68 ∧ 68 ≤ g + k ∧ wr.ownsRow w2.heap.size 5 1 v (ds.take k).flatten.length (bvs (ds.take k).flatten) ∧ Below w2.heap.size w2 wr)
  case atStart => exact ⟨0, rfl, by omega, by omega, World.ownsRow_nil w2 _ _ _, Below.refl _ _⟩
  case round =>
    obtain ⟨k, rfl, hk, hg, hown, hbr⟩ := hrel
    have hz := hbr.size
    have hEL := (HEL k hk).out
    by_cases hlt : k < 68
    · obtain ⟨d, hd, hd16⟩ := (H16 k hlt).out
      have HT := HES k d hd
      have HI := HPT k d hd
      have HD16 := Lib.hid hd16
      clear hd hd16 H16 HES HPT
      generalize (ds.take k).flatten = E at *
      go_wp2_with (first
        | (with_reducible refine wpList_index_part (o := ⟨some 9, _, _, _, _, _⟩) rfl _ _ _ rfl 23 68 16 Tryd.underlying69 agg_dig size_dig (bvs FL) rfl .i64 k rfl hlt (bvs d) HI.out ?_)
        | (with_reducible refine wpList_alloc_row (o := ⟨some 5, _, _, _, _, _⟩) rfl _ rfl zeros16 zero_b16 ?_; intro w4 hrow4 hs4 hg4)
        | (with_reducible refine wpList_store_all (o := ⟨none, _, _, _, _, _⟩) rfl _ _ _ rfl wr.heap.size rfl _ _ hrow4 (bvs d) rfl (bvs_one _) (b16_zeros _ HD16.out) (b16_size _ HD16.out) ?_; intro w5 hrow5 hg5; have hb5 : Below wr.heap.size wr w5 := below_kept (grown_below hg4 (Nat.le_refl _) (by simp)) hg5 (by omega) (by rintro q hq; cases hq; exact Nat.le_refl _); have hown5 := own_below hown hb5; have B5 := hbr.trans (hb5.mono hbr.size))
        | (at_builtin; refine wpList_append_src _ rfl (.tmp 10) (.tmp 11) _ _ rfl w2.heap.size 5 i0 _ 1 1 Tryd.underlying53 hi0 hz0 hz1 hz2 rfl _ _ _ rfl hown5 16 _ (Src.ofReads _ Tryd.underlying53 (hrow5.reads16 HD16.out) (bvs_one _)) (by unfold maxLen; omega) (by omega) B5.size ?_; intro v6 w6 hown6 hb6))
      go_roundg (gk - 1)
      case measure => omega
      case rel =>
        refine ⟨k + 1, by go_num, by omega, by omega, ?_, B5.trans hb6⟩
        rw [HT.out, List.length_append, HD16.out, bvs_append]
        exact hown6
    · obtain rfl : k = 68 := by omega
      have hE2 : (ds.take 68).flatten.length ≤ 2000 := by omega
      clear hEL H16 HES HPT HEL
      generalize (ds.take 68).flatten = E at *
      obtain ⟨A3, c3, rfl, hc3, _, hr3⟩ := own_form hown
      have hrb := hrow2.on hbr
      have B3 := hb2.trans (hbr.mono hb2.size)
      go_wp2_with fail
      have hrp := readsP_one wr 53 A3 E.length c3 E hr3 hc3
      have hba : Below wr.heap.size wr (wr.alloc (.cells #[.slice A3 E.length c3] 53)) := (Below.refl _ _).alloc (Nat.le_refl _) _
      refine (digest_big 4 _ _ _ _ _ (hCo.on (B3.trans (hba.mono B3.size))) hrp (by omega) (parts_one_le _ 2000 hE2)).mono ?_
      rintro e w4 ⟨rfl, hb4⟩
      rw [digestB_one, ← HP.out]
      have hrb4 := (hrb.on hba).on hb4
      have B4 := (B3.trans (hba.mono B3.size)).trans (hb4.mono (B3.trans (hba.mono B3.size)).size)
      go_wp2_with (with_reducible refine wpList_store_all (o := ⟨none, _, _, _, _, _⟩) rfl _ _ _ rfl w1.heap.size rfl _ _ hrb4 (bvs D) rfl (bvs_one _) (b16_zeros _ HPL.out) (b16_size _ HPL.out) ?_; intro wy hrowy hgy)
      have hload := run_loadVar_at (P := Tryd.prog) wy 23 ⟨w1.heap.size, 0, none⟩ (bvs D) hrowy.cells _ Tryd.underlying23 rfl (b16_size _ HPL.out)
      exact bodyPost_ret (results_cell1 Tryd.results41 _ _ _ _ rfl hload) rfl ⟨rfl, below_kept B4 hgy B4.size (by rintro k hk; cases hk; omega)⟩

set_option maxRecDepth 100000 in
set_option maxHeartbeats 1000000 in
theorem public_any (seed : List UInt8) (hs : seed.length = 16) (index : Int) (h1 : -9223372036854775808 ≤ index) (h2 : index ≤ 9223372036854775807) (w : World) (hK : Consts w) :
    Calls Tryd.prog 22 #[.agg (bvs seed).toArray, .int .i64 index] w (GivesV (.agg (bvs (wPub seed index)).toArray) w) := by
  have HS := Lib.hid hs
  have HPL : Hid ((wPub seed index).length = 16) := by show _ = _; unfold wPub digestB; rw [List.length_take, sha_len]; rfl
  obtain ⟨f, hf⟩ : ∃ f : Nat → List UInt8, ∀ k, f k = wAdv k (wStart seed index k) 3 := ⟨fun k => wAdv k (wStart seed index k) 3, fun _ => rfl⟩
  have HP : Hid (wPub seed index = digestB 4 [((List.range 68).map f).flatten]) := by show _ = _; rw [show f = fun k => wAdv k (wStart seed index k) 3 from funext hf]; unfold wPub wEnds; rw [List.flatMap_def]
  have HVA : ∀ k : Nat, k ≤ 1000000 → ∀ W, Consts W → Hid (Calls Tryd.prog 45 #[.agg (bvs seed).toArray, .int .i64 index, .int .i64 (k : Int), .int .i64 3] W (GivesV (.agg (bvs (f k)).toArray) W)) := fun k hk W hW => by
    show Calls _ _ _ _ _
    rw [hf]
    exact value_any seed hs index h1 h2 k hk 3 (by omega) W hW
  have HVL : ∀ k, Hid ((f k).length = 16) := fun k => by show _ = _; rw [hf]; exact wAdv_len k (wStart_len seed index k) 3
  generalize wPub seed index = D at *
  clear hs hf
  have hCo := hK
  go_enter Tryd.func22, Tryd.ntmps22
  go_wp2_with (first
    | (with_reducible refine wpList_box_row (o := ⟨some 2, _, _, _, _, _⟩) rfl _ _ rfl (bvs seed) rfl ?_; intro w1 hrow1 hs1 hg1)
    | (with_reducible refine wpList_alloc_row (o := ⟨some 4, _, _, _, _, _⟩) rfl _ rfl zeros16 zero_b16 ?_; intro w2 hrow2 hs2 hg2)
    | (with_reducible refine wpList_alloc_row (o := ⟨some 5, _, _, _, _, _⟩) rfl _ rfl (bvs zero68.flatten) zero_d68 ?_; intro w3 hrow3 hs3 hg3))
  have hrow1' := (hrow1.kept hg2 (by simp)).kept hg3 (by simp)
  have hrow2' := hrow2.kept hg3 (by simp)
  have hb2 : Below w.heap.size w w2 := below_kept (grown_below hg1 (Nat.le_refl _) (by simp)) hg2 (by omega) (by simp)
  have hb3 : Below w.heap.size w w3 := below_kept hb2 hg3 (by omega) (by simp)
  have hlt3 := hrow3.lt
  clear hrow1 hrow2 hg1 hg2 hg3 hb2
  go_loopg [6, 7] 68 (fun g s6 s wr => ∃ (k : Nat) (ds : List (List UInt8)), s = .int .i64 (k : Int) ∧ k ≤ 68 ∧ 68 ≤ g + k ∧ Ends f k ds ∧ Row wr w.heap.size 23 (bvs seed) ∧ Row wr w1.heap.size 23 zeros16 ∧ Row wr w2.heap.size 69 (bvs ds.flatten) ∧ Below w.heap.size w wr)
  case atStart => exact ⟨0, zero68, rfl, by omega, by omega, Ends.zero, hrow1', hrow2', hrow3, hb3⟩
  case round =>
    obtain ⟨k, ds, rfl, hk, hg, hl, ra, rb, rc, hbr⟩ := hrel
    have hz := hbr.size
    by_cases hlt : k < 68
    · have HC := fun W hW => HVA k (by omega) W hW
      have HL := HVL k
      have HN := Lib.hid (hl.next hlt HL.out)
      have HF := Lib.hid (flatten_set ds hl.1 k (by rw [hl.2.1]; exact hlt) (f k) HL.out)
      have HJ : Hid (k * 16 + (bvs (f k)).length ≤ (bvs ds.flatten).length) := by show _ ≤ _; rw [bvs_length, bvs_length, HL.out, flatten_len ds hl.1, hl.2.1]; omega
      generalize f k = V at *
      go_wp2_with (with_reducible refine wpList_load_all (o := ⟨some 11, _, _, _, _, _⟩) rfl _ _ rfl w.heap.size rfl _ _ ra _ Tryd.underlying23 rfl (b16_size _ HS.out) ?_)
      refine (HC _ (hCo.on hbr)).out.mono ?_
      rintro e w4 ⟨rfl, hb4⟩
      have ra4 := ra.on hb4
      have rb4 := rb.on hb4
      have rc4 := rc.on hb4
      have B4 := hbr.trans (hb4.mono hbr.size)
      go_wp2_with (refine wpList_at ⟨none, .store 23 _ _, _, _, _, _⟩ ?_; refine wpList_store_part rfl _ _ _ rfl w2.heap.size (k * 16) _ rfl (by first | rfl | exact add_row _ _) _ _ rc4 (bvs V) rfl (bvs_one _) HJ.out (b16_size _ HL.out) ?_; intro w5 r5 k5; rw [HF.out] at r5)
      have hz4 := B4.size
      go_roundg (gk - 1)
      case measure => omega
      case rel => exact ⟨k + 1, ds.set k V, by go_num, by omega, by omega, HN.out, ra4.kept k5 (by simp; omega), rb4.kept k5 (by simp; omega), r5, below_kept B4 k5 B4.size (by rintro q hq; cases hq; omega)⟩
    · obtain rfl : k = 68 := by omega
      have HE := Lib.hid hl.all
      have HZ := Lib.hid (d68_size ds hl.1 hl.2.1)
      have HQ := fun W hW => Lib.hid (publicKey_any ds hl.1 hl.2.1 W hW)
      rw [← HE.out] at HP
      clear HE HVA HVL
      rw [← HP.out] at HQ
      generalize ds.flatten = FL at *
      go_wp2_with (with_reducible refine wpList_load_all (o := ⟨some 17, _, _, _, _, _⟩) rfl _ _ rfl w2.heap.size rfl _ _ rc _ Tryd.underlying69 rfl HZ.out ?_)
      refine (HQ _ (hCo.on hbr)).out.mono ?_
      rintro e w4 ⟨rfl, hb4⟩
      have rb4 := rb.on hb4
      have B4 := hbr.trans (hb4.mono hbr.size)
      go_wp2_with (with_reducible refine wpList_store_all (o := ⟨none, _, _, _, _, _⟩) rfl _ _ _ rfl w1.heap.size rfl _ _ rb4 (bvs D) rfl (bvs_one _) (b16_zeros _ HPL.out) (b16_size _ HPL.out) ?_; intro wy hrowy hgy)
      have hload := run_loadVar_at (P := Tryd.prog) wy 23 ⟨w1.heap.size, 0, none⟩ (bvs D) hrowy.cells _ Tryd.underlying23 rfl (b16_size _ HPL.out)
      exact bodyPost_ret (results_cell1 Tryd.results22 _ _ _ _ rfl hload) rfl ⟨rfl, below_kept B4 hgy B4.size (by rintro k hk; cases hk; omega)⟩
end Go.Proofs.YtfmcgcdppbcfjaaDoor

/-
  What wots.Sign and wots.Recover return: contracts by walks. Conditions: the table of constants as laid; a chain's capacity is at least its length.
-/
namespace Go.Proofs.YtfmcgcdppbcfjaaDoor
open Go.RowKit

theorem size_int (w : World) : (sizeOf 3).run Tryd.prog w = .ok 1 w := by kernel_rfl

set_option maxRecDepth 100000 in
set_option maxHeartbeats 1000000 in
theorem sign_any (seed msg : List UInt8) (hs : seed.length = 16) (hm : msg.length = 16) (index : Int) (h1 : -9223372036854775808 ≤ index) (h2 : index ≤ 9223372036854775807) (w : World) (hK : Consts w) :
    Calls Tryd.prog 30 #[.agg (bvs seed).toArray, .int .i64 index, .agg (bvs msg).toArray] w (GivesDS (wSign seed index msg) w) := by
  have HS := Lib.hid hs
  have HM := Lib.hid hm
  have HDG := fun W => Lib.hid (digitsP_any msg hm W)
  have HDA := fun k hk => Lib.hid (wDigs_at msg (k := k) hk)
  obtain ⟨f, hf⟩ : ∃ f : Nat → List UInt8, ∀ k, f k = wAdv k (wStart seed index k) (wD msg k) := ⟨fun k => wAdv k (wStart seed index k) (wD msg k), fun _ => rfl⟩
  have HP : Hid (wSign seed index msg = (List.range 68).map f) := by show _ = _; rw [show f = fun k => wAdv k (wStart seed index k) (wD msg k) from funext hf]; rfl
  have HVA : ∀ k : Nat, k ≤ 1000000 → ∀ W, Consts W → Hid (Calls Tryd.prog 45 #[.agg (bvs seed).toArray, .int .i64 index, .int .i64 (k : Int), .int .i64 (wD msg k : Int)] W (GivesV (.agg (bvs (f k)).toArray) W)) := fun k hk W hW => by
    show Calls _ _ _ _ _
    rw [hf]
    exact value_any seed hs index h1 h2 k hk _ (by have := wD_le msg k; omega) W hW
  have HVL : ∀ k, Hid ((f k).length = 16) := fun k => by show _ = _; rw [hf]; exact wAdv_len k (wStart_len seed index k) _
  generalize wSign seed index msg = SG at *
  generalize wDigs msg = DS at *
  clear hs hm hf
  have hCo := hK
  go_enter Tryd.func30, Tryd.ntmps30
  go_wp2_with (first
    | (with_reducible refine wpList_box_row (o := ⟨some 3, _, _, _, _, _⟩) rfl _ _ rfl (bvs seed) rfl ?_; intro w1 hrow1 hs1 hg1)
    | (with_reducible refine wpList_box_row (o := ⟨some 5, _, _, _, _, _⟩) rfl _ _ rfl (bvs msg) rfl ?_; intro w2 hrow2 hs2 hg2)
    | (with_reducible refine wpList_make_digs (o := ⟨some 10, _, _, _, _, _⟩) rfl _ _ _ rfl _ Tryd.underlying30 info_dig .i64 .i64 68 rfl rfl (by decide) ?_; intro w3 hrow3 hs3 hg3; have hrow2' := hrow2.kept hg3 (by simp))
    | (with_reducible refine wpList_load_all (o := ⟨some 11, _, _, _, _, _⟩) rfl _ _ rfl w1.heap.size rfl _ _ hrow2' _ Tryd.underlying23 rfl (b16_size _ HM.out) ?_))
  have hrow1' := (hrow1.kept hg2 (by simp)).kept hg3 (by simp)
  have hb2 : Below w.heap.size w w2 := below_kept (grown_below hg1 (Nat.le_refl _) (by simp)) hg2 (by omega) (by simp)
  have hb3 : Below w.heap.size w w3 := below_kept hb2 hg3 (by omega) (by simp)
  have hlt3 := hrow3.lt
  clear hrow1 hrow2 hrow2' hg1 hg2 hg3 hb2
  refine (HDG _).out.mono ?_
  rintro e w4 ⟨rfl, hb4⟩
  have ra4 := hrow1'.on hb4
  have rc4 := hrow3.on hb4
  have B4 := hb3.trans (hb4.mono hb3.size)
  rw [← zero68_flat] at rc4
  go_wp2_with fail
  go_loopg [8, 9, 13] 68 (fun g s8 s9 s wr => ∃ (k : Nat) (ds : List (List UInt8)), s = .int .i64 (k : Int) ∧ k ≤ 68 ∧ 68 ≤ g + k ∧ Ends f k ds ∧ Row wr w.heap.size 23 (bvs seed) ∧ Row wr w2.heap.size 23 (bvs ds.flatten) ∧ Below w.heap.size w wr)
  case atStart => exact ⟨0, zero68, rfl, by omega, by omega, Ends.zero, ra4, rc4, B4⟩
  case round =>
    obtain ⟨k, ds, rfl, hk, hg, hl, ra, rc, hbr⟩ := hrel
    have hz := hbr.size
    by_cases hlt : k < 68
    · have HC := fun W hW => HVA k (by omega) W hW
      have HL := HVL k
      have HN := Lib.hid (hl.next hlt HL.out)
      have HF := Lib.hid (flatten_set ds hl.1 k (by rw [hl.2.1]; exact hlt) (f k) HL.out)
      have HJ : Hid (k * 16 + (bvs (f k)).length ≤ (bvs ds.flatten).length) := by show _ ≤ _; rw [bvs_length, bvs_length, HL.out, flatten_len ds hl.1, hl.2.1]; omega
      have HD := Lib.hid (nvs_get (HDA k hlt).out)
      generalize f k = V at *
      generalize wD msg k = dk at *
      go_wp2_with (first
        | (with_reducible refine wpList_at ⟨some 16, _, _, _, _, _⟩ ?_; refine wpList_index_agg rfl _ _ _ rfl 3 68 .i64 Tryd.underlying70 Tryd.underlying3 size_int (nvs DS) rfl .i64 k rfl hlt _ HD.out ?_)
        | (with_reducible refine wpList_load_all (o := ⟨some 19, _, _, _, _, _⟩) rfl _ _ rfl w.heap.size rfl _ _ ra _ Tryd.underlying23 rfl (b16_size _ HS.out) ?_))
      refine (HC _ (hCo.on hbr)).out.mono ?_
      rintro e w5 ⟨rfl, hb5⟩
      have ra5 := ra.on hb5
      have rc5 := rc.on hb5
      have B5 := hbr.trans (hb5.mono hbr.size)
      go_wp2_with (refine wpList_at ⟨none, .store 23 _ _, _, _, _, _⟩ ?_; refine wpList_store_part rfl _ _ _ rfl w2.heap.size (k * 16) _ rfl (by first | rfl | exact add_row _ _) _ _ rc5 (bvs V) rfl (bvs_one _) HJ.out (b16_size _ HL.out) ?_; intro w6 r6 k6; rw [HF.out] at r6)
      have hz5 := B5.size
      go_roundg (gk - 1)
      case measure => omega
      case rel => exact ⟨k + 1, ds.set k V, by go_num, by omega, by omega, HN.out, ra5.kept k6 (by simp; omega), r6, below_kept B5 k6 B5.size (by rintro q hq; cases hq; omega)⟩
    · obtain rfl : k = 68 := by omega
      have HE := Lib.hid hl.all
      rw [← HP.out] at HE
      have ho := rc.owns_digs hl.1 hl.2.1 (base := w.heap.size) (by omega)
      have hdl := hl.2.1
      rw [HE.out] at ho hdl
      clear HE HVA HVL HDA
      go_wp2_with fail
      go_ret
      exact ⟨_, rfl, by rw [hdl]; exact ho, hbr⟩

set_option maxRecDepth 100000 in
set_option maxHeartbeats 1000000 in
theorem recover_bad (A : Option Addr) (c n : Nat) (msg : List UInt8) (w : World) (hn : n ≠ 68) :
    Calls Tryd.prog 20 #[.agg (bvs msg).toArray, .slice A n c] w (GivesVE zero16B' 9 w) := by
  have hne : ((n : Int) != 68) = true := by simp; omega
  have HRL : Hid (zero16B'.length = 16) := rfl
  go_enter Tryd.func20, Tryd.ntmps20
  go_wp2_with (first
    | (with_reducible refine wpList_box_row (o := ⟨some 2, _, _, _, _, _⟩) rfl _ _ rfl (bvs msg) rfl ?_; intro w1 hrow1 hs1 hg1)
    | (with_reducible refine wpList_alloc_row (o := ⟨some 4, _, _, _, _, _⟩) rfl _ rfl zeros16 zero_b16 ?_; intro w2 hrow2 hs2 hg2)
    | (refine wpList_store_all (o := ⟨none, _, _, _, _, _⟩) rfl _ _ _ rfl w1.heap.size rfl _ _ hrow2 (bvs zero16B') rfl (bvs_one _) (b16_zeros _ HRL.out) (b16_size _ HRL.out) ?_; intro wz hrowz hgz))
  have hb2 : Below w.heap.size w w2 := below_kept (grown_below hg1 (Nat.le_refl _) (by simp)) hg2 (by omega) (by simp)
  have hload := run_loadVar_at (P := Tryd.prog) wz 23 ⟨w1.heap.size, 0, none⟩ (bvs zero16B') hrowz.cells _ Tryd.underlying23 rfl (b16_size _ HRL.out)
  exact bodyPost_ret (results_cellT Tryd.results20 _ _ _ _ rfl hload) rfl ⟨rfl, below_kept hb2 hgz hb2.size (by rintro k hk; cases hk; omega)⟩

set_option maxRecDepth 100000 in
set_option maxHeartbeats 1000000 in
theorem recover_any (A : Option Addr) (c : Nat) (msg : List UInt8) (ds : List (List UInt8)) (w : World) (hK : Consts w) (hm : msg.length = 16) (hr : ReadsD w A 68 ds) (_hc : 68 ≤ c) :
    Calls Tryd.prog 20 #[.agg (bvs msg).toArray, .slice A 68 c] w (GivesVE (wKey msg ds) 0 w) := by
  have HM := Lib.hid hm
  have HPL : Hid ((wKey msg ds).length = 16) := by show _ = _; unfold wKey digestB; rw [List.length_take, sha_len]; rfl
  have HDG := fun W => Lib.hid (digitsP_any msg hm W)
  have HDA := fun k hk => Lib.hid (wDigs_at msg (k := k) hk)
  have H16 : ∀ k, k < 68 → Hid ((ds.getD k []).length = 16) := fun k hk => by
    show _ = _
    have hl := hr.len
    rw [List.getD_eq_getElem?_getD, List.getElem?_eq_getElem (by omega)]
    exact hr.2 _ (List.getElem_mem _)
  obtain ⟨f, hf⟩ : ∃ f : Nat → List UInt8, ∀ k, f k = wAdv k (ds.getD k []) (3 - wD msg k) := ⟨fun k => wAdv k (ds.getD k []) (3 - wD msg k), fun _ => rfl⟩
  have HP : Hid (wKey msg ds = digestB 4 [((List.range 68).map f).flatten]) := by show _ = _; rw [show f = fun k => wAdv k (ds.getD k []) (3 - wD msg k) from funext hf]; unfold wKey wEnds; rw [List.flatMap_def]
  have HAN := fun k hk W => Lib.hid (advancer_any k hk W)
  have HAD : ∀ k : Nat, k < 68 → ∀ p W, Consts W → AdvAt k p W → Hid (Calls Tryd.prog 65 #[.agg (bvs (ds.getD k [])).toArray, .int .i64 (3 - (wD msg k : Int)), .pointer (some ⟨p, 0, none⟩)] W (GivesV (.agg (bvs (f k)).toArray) W)) := fun k hk p W hW hp => by
    show Calls _ _ _ _ _
    have hd := wD_le msg k
    rw [hf, show (3 : Int) - (wD msg k : Int) = ((3 - wD msg k : Nat) : Int) by omega]
    exact adv_any k (by omega) p _ (H16 k hk).out _ (by omega) W hW hp
  have HVL : ∀ k, k < 68 → Hid ((f k).length = 16) := fun k hk => by show _ = _; rw [hf]; exact wAdv_len k (H16 k hk).out _
  generalize wKey msg ds = D at *
  generalize wDigs msg = DS at *
  clear hm hf
  have hCo := hK
  go_enter Tryd.func20, Tryd.ntmps20
  go_wp2_with (first
    | (with_reducible refine wpList_box_row (o := ⟨some 2, _, _, _, _, _⟩) rfl _ _ rfl (bvs msg) rfl ?_; intro w1 hrow1 hs1 hg1)
    | (with_reducible refine wpList_alloc_row (o := ⟨some 4, _, _, _, _, _⟩) rfl _ rfl zeros16 zero_b16 ?_; intro w2 hrow2 hs2 hg2)
    | (with_reducible refine wpList_alloc_row (o := ⟨some 6, _, _, _, _, _⟩) rfl _ rfl (bvs zero68.flatten) zero_d68 ?_; intro w3 hrow3 hs3 hg3; have hrow1' := (hrow1.kept hg2 (by simp)).kept hg3 (by simp))
    | (with_reducible refine wpList_load_all (o := ⟨some 13, _, _, _, _, _⟩) rfl _ _ rfl w.heap.size rfl _ _ hrow1' _ Tryd.underlying23 rfl (b16_size _ HM.out) ?_))
  have hrow2' := hrow2.kept hg3 (by simp)
  have hb2 : Below w.heap.size w w2 := below_kept (grown_below hg1 (Nat.le_refl _) (by simp)) hg2 (by omega) (by simp)
  have hb3 : Below w.heap.size w w3 := below_kept hb2 hg3 (by omega) (by simp)
  have hlt3 := hrow3.lt
  clear hrow1 hrow2 hrow1' hg1 hg2 hg3 hb2
  refine (HDG _).out.mono ?_
  rintro e w4 ⟨rfl, hb4⟩
  have rb4 := hrow2'.on hb4
  have rc4 := hrow3.on hb4
  have B4 := hb3.trans (hb4.mono hb3.size)
  have hz4 := hb4.size
  go_wp2_with fail
  go_loopg [7, 8, 15] 68 (fun g s7 s8 s wr => ∃ (k : Nat) (es : List (List UInt8)), s = .int .i64 (k : Int) ∧ k ≤ 68 ∧ 68 ≤ g + k ∧ Ends f k es ∧ Row wr w1.heap.size 23 zeros16 ∧ Row wr w2.heap.size 69 (bvs es.flatten) ∧ Below w.heap.size w wr)
  case atStart => exact ⟨0, zero68, rfl, by omega, by omega, Ends.zero, rb4, rc4, B4⟩
  case round =>
    obtain ⟨k, es, rfl, hk, hg, hl, rb, rc, hbr⟩ := hrel
    have hz := hbr.size
    by_cases hlt : k < 68
    · have HN1 := fun W => HAN k (by omega) W
      have HC := fun p W hW hp => HAD k hlt p W hW hp
      have HL := HVL k hlt
      have HN := Lib.hid (hl.next hlt HL.out)
      have HF := Lib.hid (flatten_set es hl.1 k (by rw [hl.2.1]; exact hlt) (f k) HL.out)
      have HJ : Hid (k * 16 + (bvs (f k)).length ≤ (bvs es.flatten).length) := by show _ ≤ _; rw [bvs_length, bvs_length, HL.out, flatten_len es hl.1, hl.2.1]; omega
      have HD := Lib.hid (nvs_get (HDA k hlt).out)
      obtain ⟨ap, d, rfl, hapb, hd, hd16, hcl⟩ := hr.1.dig_at hr.2 (k := k) hlt
      have hds : ds.getD k [] = d := by rw [List.getD_eq_getElem?_getD, hd]; rfl
      rw [hds] at HC
      have HD16 := Lib.hid hd16
      have HC0 : Hid (∀ j u, (bvs d)[j]? = some u → wr.cell? ((ap.add (k * 16)).add j) = some u) := fun j u hu => by
        rw [add_of_add]
        exact (hbr.cell (p := ap.add (k * 16 + j)) (by rw [block_of_add]; exact hapb)).trans (hcl j u hu)
      have hapr : ap.block < wr.drew.heap.size := Nat.lt_of_lt_of_le hapb hz
      clear hd hd16 hds HDA HAN HAD HVL H16 HDG hr
      generalize f k = V at *
      have hdl := wD_le msg k
      generalize wD msg k = dk at *
      go_wp2_with (with_reducible refine wpList_at ⟨some 18, _, _, _, _, _⟩ ?_; refine wpList_index_agg rfl _ _ _ rfl 3 68 .i64 Tryd.underlying70 Tryd.underlying3 size_int (nvs DS) rfl .i64 k rfl hlt _ HD.out ?_)
      refine wp_region_plan (fun w' => ∀ j u, (bvs d)[j]? = some u → w'.cell? ((ap.add (k * 16)).add j) = some u) (.take 0 <| .take 1 <| .take 3 <| .take 4 <| .take 5 <| .take 6 <| .take 7 <| .take 8 <| .one 2 <| .one 9 <| .take 10 <| .one 11 <| .done) (by kernel_rfl) (by kernel_rfl) (by kernel_rfl) (fun _ _ _ _ _ h => h) HC0.out ?_
      repeat (refine plan_take _ rfl ?_; (first | (refine wpQuiet_valueG (o := ⟨some 25, _, _, _, _, _⟩) rfl _ (by intro _ h; exact exec_load16 _ _ rfl _ rfl d HD16.out h) (wpQuiet_nil ?_); simp only [Act.put, List.setIfInBounds_toArray, List.set_cons_zero, List.set_cons_succ]) | (go_big_quiet_step ((intros; rfl)); refine wpQuiet_nil ?_)))
      refine plan_one _ rfl fun K hK => ?_
      go_simp
      refine (HN1 _).out.mono ?_
      rintro e wa ⟨p, rfl, hpa, hba⟩
      have rba := rb.drew.on hba
      have rca := rc.drew.on hba
      have Ba := hbr.drew.trans (hba.mono hbr.drew.size)
      unfold advV
      have sa : ∀ j u, (bvs d)[j]? = some u → wa.cell? ((ap.add (k * 16)).add j) = some u := fun j u hu => (hba.cell (by rw [block_of_add, block_of_add]; exact hapr)).trans (HC0.out j u hu)
      have hza := hba.size
      refine hK _ _ sa ?_
      clear hK K
      refine plan_one _ rfl fun K hK => ?_
      go_simp
      refine (HC p _ (hCo.on Ba) hpa).out.mono ?_
      rintro e wb ⟨rfl, hbb⟩
      have rbb := rba.on hbb
      have rcb := rca.on hbb
      have Bb := Ba.trans (hbb.mono Ba.size)
      have sb : ∀ j u, (bvs d)[j]? = some u → wb.cell? ((ap.add (k * 16)).add j) = some u := fun j u hu => (hbb.cell (by rw [block_of_add, block_of_add]; exact Nat.lt_of_lt_of_le hapr hza)).trans (sa j u hu)
      have hzb := Bb.size
      refine hK _ _ sb ?_
      clear hK K
      repeat (refine plan_take _ rfl ?_; (first | (refine wpQuiet_valueG (o := ⟨some 25, _, _, _, _, _⟩) rfl _ (by intro _ h; exact exec_load16 _ _ rfl _ rfl d HD16.out h) (wpQuiet_nil ?_); simp only [Act.put, List.setIfInBounds_toArray, List.set_cons_zero, List.set_cons_succ]) | (go_big_quiet_step ((intros; rfl)); refine wpQuiet_nil ?_)))
      refine plan_one _ rfl fun K hK => ?_
      refine step_store_part rfl _ _ _ rfl w2.heap.size (k * 16) _ rfl (by first | rfl | exact add_row _ _) _ _ rcb (bvs V) rfl (bvs_one _) HJ.out (b16_size _ HL.out) ?_
      intro w6 r6 k6
      rw [HF.out] at r6
      have rb6 := rbb.kept k6 (by simp; omega)
      have B6 := below_kept Bb k6 Bb.size (by rintro q hq; cases hq; omega)
      have s6 : ∀ j u, (bvs d)[j]? = some u → w6.cell? ((ap.add (k * 16)).add j) = some u := fun j u hu => by rw [add_of_add]; exact (B6.cell (p := ap.add (k * 16 + j)) (by rw [block_of_add]; exact hapb)).trans (hcl j u hu)
      refine hK _ _ s6 ?_
      clear hK K
      simp only [Act.put]
      refine plan_done ?_
      go_wp2_with fail
      go_roundg (gk - 1)
      case measure => omega
      case rel => exact ⟨k + 1, es.set k V, by go_num, by omega, by omega, HN.out, rb6, r6, B6⟩
    · obtain rfl : k = 68 := by omega
      have HE := Lib.hid hl.all
      have HZ := Lib.hid (d68_size es hl.1 hl.2.1)
      have HQ := fun W hW => Lib.hid (publicKey_any es hl.1 hl.2.1 W hW)
      rw [← HE.out] at HP
      clear HE HVL HDA HAN HAD H16
      rw [← HP.out] at HQ
      generalize es.flatten = FL at *
      go_wp2_with (with_reducible refine wpList_load_all (o := ⟨some 31, _, _, _, _, _⟩) rfl _ _ rfl w2.heap.size rfl _ _ rc _ Tryd.underlying69 rfl HZ.out ?_)
      refine (HQ _ (hCo.on hbr)).out.mono ?_
      rintro e w5 ⟨rfl, hb5⟩
      have rb5 := rb.on hb5
      have B5 := hbr.trans (hb5.mono hbr.size)
      go_wp2_with (with_reducible refine wpList_store_all (o := ⟨none, _, _, _, _, _⟩) rfl _ _ _ rfl w1.heap.size rfl _ _ rb5 (bvs D) rfl (bvs_one _) (b16_zeros _ HPL.out) (b16_size _ HPL.out) ?_; intro wy hrowy hgy)
      have hload := run_loadVar_at (P := Tryd.prog) wy 23 ⟨w1.heap.size, 0, none⟩ (bvs D) hrowy.cells _ Tryd.underlying23 rfl (b16_size _ HPL.out)
      exact bodyPost_ret (results_cellT Tryd.results20 _ _ _ _ rfl hload) rfl ⟨rfl, below_kept B5 hgy B5.size (by rintro k hk; cases hk; omega)⟩
end Go.Proofs.YtfmcgcdppbcfjaaDoor
