/-
  What the reference's digit, Digits and raw return: contracts by walks. No condition.
-/
import Derived.Test.YtfmcgcdppbcfjaaDoorOne
import Derived.Test.YtfmcgcdppbcfjaaDoorWots
import Derived.Test.YtfmcgcdppbcfjaaDoorFlat
import Derived.Test.YtfmcgcdppbcfjaaDoorMacM
import Derived.Test.YtfmcgcdppbcfjaaDoorGuard
import Derived.Test.YtfmcgcdppbcfjaaDoorAppD
import Derived.Test.YtfmcgcdppbcfjaaDoorStepA
namespace Go.Proofs.YtfmcgcdppbcfjaaDoor
open Go.RowKit

theorem bvs_get {l : List UInt8} {k : Nat} {b : UInt8} (h : l[k]? = some b) : (bvs l)[k]? = some (.int .u8 (b.toNat : Int)) := by
  unfold bvs
  rw [List.getElem?_map, h]
  rfl
theorem encInt_le10 (n : Int) (h1 : -9223372036854775808 ≤ n) (h2 : n ≤ 9223372036854775807) : (encInt n).length ≤ 10 := leb_le10 (zz n) (zz_lt n h1 h2)
/-- Numbers as cells. -/
def nvs (l : List Nat) : List Value := l.map fun n : Nat => Value.int .i64 (n : Int)
theorem nvs_append (a b : List Nat) : nvs (a ++ b) = nvs a ++ nvs b := List.map_append
theorem nvs_length (a : List Nat) : (nvs a).length = a.length := List.length_map ..
theorem nvs_one (l : List Nat) : ∀ u ∈ nvs l, u.oneCell' = true := by
  intro u hu
  unfold nvs at hu
  rw [List.mem_map] at hu
  obtain ⟨n, _, rfl⟩ := hu
  rfl
theorem nvs_get {l : List Nat} {k n : Nat} (h : l[k]? = some n) : (nvs l)[k]? = some (.int .i64 (n : Int)) := by
  unfold nvs
  rw [List.getElem?_map, h]
  rfl
/-- A number comes back; nothing that was there has changed. -/
def GivesN (n : Nat) (w : World) (e : Ending) (w' : World) : Prop := e = .returned (.int .i64 (n : Int)) ∧ Below w.heap.size w w'
/-- A new slice of numbers comes back; nothing that was there has changed. -/
def GivesNs (l : List Nat) (w : World) (e : Ending) (w' : World) : Prop :=
  ∃ v, e = .returned v ∧ w'.ownsRow w.heap.size 3 1 v l.length (nvs l) ∧ Below w.heap.size w w'
theorem info_n : (Tryd.prog.info? 3).map (fun i => (i.zero, i.size, i.bytes)) = some (some (.int .i64 0), 1, 8) := by kernel_rfl

/-- The byte divided by four again and again. -/
theorem quart (b a m : Nat) : b / 4 ^ a / 4 ^ m = b / 4 ^ (a + m) := by rw [Nat.div_div_eq_div_mul, ← Nat.pow_add]

set_option maxRecDepth 100000 in
set_option maxHeartbeats 1000000 in
theorem refDigit_any (msg : List UInt8) (hm : msg.length = 16) (k : Nat) (hk : k < 64) (w : World) :
    Calls Tryd.prog 74 #[.agg (bvs msg).toArray, .int .i64 (k : Int)] w (GivesN (wDig msg k) w) := by
  obtain ⟨b, hb⟩ : ∃ b, msg[k / 4]? = some b := ⟨_, List.getElem?_eq_getElem (by omega)⟩
  have HB := Lib.hid (bvs_get hb)
  have HD : Hid (wDig msg k = b.toNat / 4 ^ (3 - k % 4) % 4) := by show _ = _; unfold wDig; rw [List.getD_eq_getElem?_getD, hb]; rfl
  have hk4 : k / 4 < 16 := by omega
  have hbl := b.toNat_lt
  generalize wDig msg k = D at *
  clear hb hm
  go_enter Tryd.func74, Tryd.ntmps74
  go_wp2_with (with_reducible refine wpList_box_row (o := ⟨some 2, _, _, _, _, _⟩) rfl _ _ rfl (bvs msg) rfl ?_; intro w1 hrow1 hs1 hg1; have hc1 := hrow1.cell HB.out)
  have hb1 : Below w.heap.size w w1 := grown_below hg1 (Nat.le_refl _) (by simp)
  clear hc1 HB hrow1 hg1
  go_loopg [5, 6] 3 (fun g n i wr => ∃ m : Nat, n = .int .i64 ((b.toNat / 4 ^ m : Nat) : Int) ∧ i = .int .i64 ((k % 4 + m : Nat) : Int) ∧ k % 4 + m ≤ 3 ∧ 3 ≤ g + (k % 4 + m) ∧ wr = w1)
  case atStart => exact ⟨0, by simp, by go_num, by omega, by omega, rfl⟩
  case round =>
    obtain ⟨m, rfl, rfl, hm, hg, rfl⟩ := hrel
    have HB4 : Hid (b.toNat / 4 ^ m / 4 = b.toNat / 4 ^ (m + 1)) := by show _ = _; rw [Nat.div_div_eq_div_mul, Nat.pow_succ]
    have HM : 3 ≤ k % 4 + m → Hid (D = b.toNat / 4 ^ m % 4) := fun h => by show _ = _; rw [HD.out, show 3 - k % 4 = m by omega]
    have hble : b.toNat / 4 ^ m < 256 := Nat.lt_of_le_of_lt (Nat.div_le_self _ _) hbl
    generalize hx : b.toNat / 4 ^ m = x at *
    generalize hi : k % 4 + m = i at *
    have HX := Lib.hid hx
    have HI := Lib.hid hi
    clear hx hi
    by_cases hlt : i < 3
    · go_wp2_with fail
      go_roundg (gk - 1)
      case measure => omega
      case rel => exact ⟨m + 1, by rw [← HB4.out]; go_num, by rw [← Nat.add_assoc, HI.out]; go_num, by have := HI.out; omega, by have := HI.out; omega, rfl⟩
    · go_wp2_with fail
      go_ret
      refine ⟨?_, hb1⟩
      rw [(HM (by omega)).out]
      go_num

theorem Src.many {P : Program} {tx e' : TypeId} (hk : P.underlying tx = some (.slice e')) (w : World) (cs : List Value) (t : TypeId) (h1 : ∀ u ∈ cs, u.oneCell' = true) (n : Nat) (hn : cs.length = n) (c : Nat) :
    Src P 1 tx (.slice (some ⟨w.heap.size, 0, none⟩) n c) n cs (w.alloc (.cells cs.toArray t)) :=
  Src.ofSlice _ hk _ n c cs (by omega) (row_alloc w t cs).cells h1

set_option maxRecDepth 100000 in
set_option maxHeartbeats 1000000 in
theorem refRaw_any (d : List UInt8) (hd : d.length = 16) (w : World) : Calls Tryd.prog 62 #[.agg (bvs d).toArray] w (Gives d w) := by
  obtain ⟨i0, hi0, hz0, hz1, hz2⟩ := info_parts info_u8
  have HD := Lib.hid hd
  clear hd
  go_enter Tryd.func62, Tryd.ntmps62
  go_wp2_with (with_reducible refine wpList_box_row (o := ⟨some 1, _, _, _, _, _⟩) rfl _ _ rfl (bvs d) rfl ?_; intro w1 hrow1 hs1 hg1)
  have hb1 : Below w.heap.size w w1 := grown_below hg1 (Nat.le_refl _) (by simp)
  clear hg1
  go_loopg [3, 4] 16 (fun g v s wr => ∃ k : Nat, s = .int .i64 (k : Int) ∧ k ≤ 16 ∧ 16 ≤ g + k ∧ wr.ownsRow w1.heap.size 5 1 v k (bvs (d.take k)) ∧ Below w1.heap.size w1 wr)
  case atStart => exact ⟨0, rfl, by omega, by omega, by rw [List.take_zero]; exact World.ownsRow_nil w1 _ _ _, Below.refl _ _⟩
  case round =>
    obtain ⟨k, rfl, hk, hg, hown, hbr⟩ := hrel
    have hrow := hrow1.on hbr
    by_cases hlt : k < 16
    · obtain ⟨b, hb⟩ : ∃ b, d[k]? = some b := ⟨_, List.getElem?_eq_getElem (by rw [HD.out]; exact hlt)⟩
      have hc := hrow.cell (bvs_get hb)
      have HT : Hid (d.take (k + 1) = d.take k ++ [b]) := by show _ = _; rw [List.take_add_one, hb]; rfl
      clear hb
      go_wp2_with (at_builtin; refine wpList_append_src _ rfl (.tmp 9) (.tmp 13) _ _ rfl w1.heap.size 5 i0 _ 1 1 Tryd.underlying53 hi0 hz0 hz1 hz2 rfl _ _ _ rfl (hown.alloc _) 1 _ (Src.box Tryd.underlying53 _ _ _ rfl _) (by unfold maxLen; omega) (by omega) (by have := hbr.size; simp; omega) ?_; intro v2 w2 hown2 hb2)
      go_roundg (gk - 1)
      case measure => omega
      case rel =>
        refine ⟨k + 1, by go_num, by omega, by omega, ?_, (hbr.alloc hbr.size _).trans hb2⟩
        rw [HT.out, bvs_append]
        exact hown2
    · obtain rfl : k = 16 := by omega
      go_wp2_with fail
      go_ret
      rw [List.take_of_length_le (by rw [HD.out]; exact Nat.le_refl _)] at hown
      exact ⟨_, rfl, by rw [HD.out]; exact own_base hown hb1.size, hb1.trans (hbr.mono hb1.size)⟩

set_option maxRecDepth 100000 in
set_option maxHeartbeats 1000000 in
theorem refDigits_any (msg : List UInt8) (hm : msg.length = 16) (w : World) : Calls Tryd.prog 58 #[.agg (bvs msg).toArray] w (GivesNs (wDigs msg) w) := by
  obtain ⟨i0, hi0, hz0, hz1, hz2⟩ := info_parts info_n
  have HM := Lib.hid hm
  have HDG := fun k hk W => Lib.hid (refDigit_any msg hm k hk W)
  have HDS : Hid (wDigs msg = (List.range 64).map (wDig msg) ++ [wSum msg 64 / 64, wSum msg 64 / 16 % 4, wSum msg 64 / 4 % 4, wSum msg 64 % 4]) := rfl
  have HDL := Lib.hid (wDigs_len msg)
  generalize wDigs msg = DS at *
  clear hm
  go_enter Tryd.func58, Tryd.ntmps58
  go_wp2_with (with_reducible refine wpList_box_row (o := ⟨some 1, _, _, _, _, _⟩) rfl _ _ rfl (bvs msg) rfl ?_; intro w1 hrow1 hs1 hg1)
  have hb1 : Below w.heap.size w w1 := grown_below hg1 (Nat.le_refl _) (by simp)
  clear hg1
  go_loopg [3, 4, 5] 64 (fun g v sm s wr => ∃ k : Nat, s = .int .i64 (k : Int) ∧ sm = .int .i64 (wSum msg k : Int) ∧ k ≤ 64 ∧ 64 ≤ g + k ∧ wr.ownsRow w1.heap.size 3 1 v k (nvs ((List.range k).map (wDig msg))) ∧ Below w1.heap.size w1 wr)
  case atStart => exact ⟨0, rfl, rfl, by omega, by omega, World.ownsRow_nil w1 _ _ _, Below.refl _ _⟩
  case round =>
    obtain ⟨k, rfl, rfl, hk, hg, hown, hbr⟩ := hrel
    have hrow := hrow1.on hbr
    have hsum := wSum_le msg k
    by_cases hlt : k < 64
    · have HT : Hid ((List.range (k + 1)).map (wDig msg) = (List.range k).map (wDig msg) ++ [wDig msg k]) := by show _ = _; rw [List.range_succ, List.map_append]; rfl
      have HS : Hid (wSum msg (k + 1) = wSum msg k + (3 - wDig msg k)) := rfl
      have hdl := wDig_le msg k
      have HC := fun W => HDG k hlt W
      generalize wDig msg k = dk at *
      generalize (List.range k).map (wDig msg) = L at *
      generalize wSum msg k = sk at *
      go_wp2_with (with_reducible refine wpList_load_all (o := ⟨some 11, _, _, _, _, _⟩) rfl _ _ rfl w.heap.size rfl _ _ hrow _ Tryd.underlying23 rfl (b16_size _ HM.out) ?_)
      refine (HC _).out.mono ?_
      rintro e w2 ⟨rfl, hb2⟩
      have hown2 := own_below hown hb2
      have hbr2 := hbr.trans (hb2.mono hbr.size)
      have hz2' := hbr2.size
      go_wp2_with (first
        | (at_builtin; refine wpList_append_src _ rfl (.tmp 10) (.tmp 14) _ _ rfl w1.heap.size 3 i0 _ 1 8 Tryd.underlying87 hi0 hz0 hz1 hz2 rfl _ _ _ rfl (hown2.alloc _) 1 _ (Src.box Tryd.underlying87 _ _ _ rfl _) (by unfold maxLen; omega) (by omega) (by simp; omega) ?_; intro v3 w3 hown3 hb3; have hbr3 := (hbr2.alloc hz2' _).trans hb3; have hrow3 := hrow1.on hbr3)
        | (with_reducible refine wpList_load_all (o := ⟨some 18, _, _, _, _, _⟩) rfl _ _ rfl w.heap.size rfl _ _ hrow3 _ Tryd.underlying23 rfl (b16_size _ HM.out) ?_))
      refine (HC _).out.mono ?_
      rintro e w4 ⟨rfl, hb4⟩
      have hown4 := own_below hown3 hb4
      have hbr4 := hbr3.trans (hb4.mono hbr3.size)
      go_wp2_with fail
      go_roundg (gk - 1)
      case measure => omega
      case rel => exact ⟨k + 1, by go_num, by rw [HS.out]; go_num, by omega, by omega, by rw [HT.out, nvs_append]; exact hown4, hbr4⟩
    · obtain rfl : k = 64 := by omega
      have HNL : Hid ((nvs DS).length = 68) := by show _ = _; rw [nvs_length, HDL.out]
      have HDS2 : Hid (nvs DS = nvs ((List.range 64).map (wDig msg)) ++ [.int .i64 ((wSum msg 64 / 64 : Nat) : Int), .int .i64 ((wSum msg 64 / 16 % 4 : Nat) : Int), .int .i64 ((wSum msg 64 / 4 % 4 : Nat) : Int), .int .i64 ((wSum msg 64 % 4 : Nat) : Int)]) := by
        show _ = _
        rw [HDS.out, nvs_append]
        rfl
      clear HDS
      generalize (List.range 64).map (wDig msg) = L at *
      generalize wSum msg 64 = sk at *
      go_wp2_with (at_builtin; refine wpList_append_src _ rfl (.tmp 22) (.tmp 33) _ _ rfl w1.heap.size 3 i0 _ 1 8 Tryd.underlying87 hi0 hz0 hz1 hz2 rfl _ _ _ rfl (hown.alloc _) 4 _ (Src.many Tryd.underlying87 _ [_, _, _, _] _ (by simp [Value.oneCell']) 4 rfl _) (by unfold maxLen; omega) (by omega) (by have := hbr.size; simp; omega) ?_; intro v3 w3 hown3 hb3)
      go_ret
      refine ⟨_, rfl, ?_, hb1.trans (((hbr.alloc hbr.size _).trans hb3).mono hb1.size)⟩
      rw [HDS2.out, HDL.out]
      exact own_base hown3 hb1.size
end Go.Proofs.YtfmcgcdppbcfjaaDoor

/-
  What the reference's Step, Advance and Start return: contracts by walks. Condition: bounded numbers.
-/
namespace Go.Proofs.YtfmcgcdppbcfjaaDoor
open Go.RowKit

theorem digestB_two (k : Nat) (v : List UInt8) (A1 A2 : Option Addr) (n1 c1 n2 c2 : Nat) : dig 3 [⟨A1, n1, c1, encInt k⟩, ⟨A2, n2, c2, v⟩] = wStep k v := rfl

set_option maxRecDepth 100000 in
set_option maxHeartbeats 1000000 in
theorem refStep_any (k : Nat) (hk : k ≤ 1000000) (v : List UInt8) (hv : v.length = 16) (w : World) :
    Calls Tryd.prog 75 #[.int .i64 (k : Int), .agg (bvs v).toArray] w (GivesV (.agg (bvs (wStep k v)).toArray) w) := by
  have HV := Lib.hid hv
  have HSL := Lib.hid (wStep_len k v)
  have HDE := fun A1 A2 n1 c1 n2 c2 => Lib.hid (digestB_two k v A1 A2 n1 c1 n2 c2)
  have HIN := fun W => Lib.hid (refInt_any (k : Int) W (by omega) (by omega))
  have HEL := Lib.hid (encInt_le10 (k : Int) (by omega) (by omega))
  generalize wStep k v = D at *
  generalize encInt (k : Int) = E at *
  clear hv
  go_enter Tryd.func75, Tryd.ntmps75
  go_wp2_with (first
    | (with_reducible refine wpList_box_row (o := ⟨some 3, _, _, _, _, _⟩) rfl _ _ rfl (bvs v) rfl ?_; intro w1 hrow1 hs1 hg1)
    | (with_reducible refine wpList_alloc_row (o := ⟨some 4, _, _, _, _, _⟩) rfl _ rfl zeros16 zero_b16 ?_; intro w2 hrow2 hs2 hg2))
  have hrow1' := hrow1.kept hg2 (by simp)
  have hb2 : Below w.heap.size w w2 := below_kept (grown_below hg1 (Nat.le_refl _) (by simp)) hg2 (by omega) (by simp)
  have hlt2 := hrow2.lt
  clear hrow1 hg1 hg2
  simp only [Act.put, List.setIfInBounds_toArray, List.set_cons_zero, List.set_cons_succ]
  refine wp_region_plan (fun w' => Row w' w.heap.size 23 (bvs v)) (.take 0 <| .take 2 <| .one 1 <| .one 3 <| .one 4 <| .one 5 <| .one 6 <| .done) (by kernel_rfl) (by kernel_rfl) (by kernel_rfl) (fun _ _ _ _ _ h => h) hrow1'.drew ?_
  repeat (refine plan_take _ rfl ?_; (first | (refine wpQuiet_valueG (o := ⟨some 7, _, _, _, _, _⟩) rfl _ (by intro _ h; exact exec_load16 _ _ rfl _ rfl v HV.out h.cells) (wpQuiet_nil ?_); simp only [Act.put, List.setIfInBounds_toArray, List.set_cons_zero, List.set_cons_succ]) | (go_big_quiet_step ((intros; rfl)); refine wpQuiet_nil ?_)))
  refine plan_one _ rfl fun K hK => ?_
  go_simp
  refine (HIN _).out.mono ?_
  rintro e wa ⟨va, rfl, ha, hba⟩
  have ra := hrow1'.drew.on hba
  have rt := hrow2.drew.on hba
  have Ba := hb2.drew.trans (hba.mono hb2.drew.size)
  obtain ⟨Aa, ca, rfl, hca, _, hra⟩ := own_form ha
  refine hK _ _ ra ?_
  clear hK K
  refine plan_one _ rfl fun K hK => ?_
  go_simp
  refine (refRaw_any v HV.out _).mono ?_
  rintro e wb ⟨vb, rfl, hb, hbb⟩
  have rb := ra.on hbb
  have rtb := rt.on hbb
  have Bb := Ba.trans (hbb.mono Ba.size)
  have hra2 := hra.on hbb
  obtain ⟨Ab, cb, rfl, hcb, _, hrb⟩ := own_form hb
  have HVL := HV.out
  rw [HVL] at hcb hrb ⊢
  refine hK _ _ rb ?_
  clear hK K
  refine plan_one _ rfl fun K hK => ?_
  go_simp
  have hrp := readsP_two wb 53 Aa Ab E.length ca 16 cb E v hra2 hca hrb hcb
  have Bc := Bb.alloc Bb.size (.cells #[.slice Aa E.length ca, .slice Ab 16 cb] 53)
  have rc : Row (wb.alloc (.cells #[.slice Aa E.length ca, .slice Ab 16 cb] 53)) w.heap.size 23 (bvs v) := rb.on ((Below.refl _ _).alloc (Nat.le_refl _) _)
  have rtc : Row (wb.alloc (.cells #[.slice Aa E.length ca, .slice Ab 16 cb] 53)) w1.heap.size 23 zeros16 := rtb.on ((Below.refl _ _).alloc (Nat.le_refl _) _)
  refine hK _ _ rc ?_
  clear hK K
  refine plan_one _ rfl fun K hK => ?_
  go_simp
  refine (refDigest_any 3 _ _ _ _ _ hrp (by omega) (parts_two_le _ _ 300 (show E.length ≤ 300 by have := HEL.out; omega) (show 16 ≤ 300 by omega))).mono ?_
  rintro e wd ⟨rfl, hbd⟩
  rw [(HDE _ _ _ _ _ _).out]
  have rd := rc.on hbd
  have rtd := rtc.on hbd
  have Bd := Bc.trans (hbd.mono Bc.size)
  refine hK _ _ rd ?_
  clear hK K
  refine plan_one _ rfl fun K hK => ?_
  refine step_store_all rfl _ _ _ rfl w1.heap.size rfl _ _ rtd (bvs D) rfl (bvs_one _) (b16_zeros _ HSL.out) (b16_size _ HSL.out) ?_
  intro wy hrowy hgy
  have By := below_kept Bd hgy Bd.size (by rintro k hk; cases hk; omega)
  have ry := rd.kept hgy (by simp; omega)
  refine hK _ _ ry ?_
  clear hK K
  simp only [Act.put]
  refine plan_done ?_
  go_wp2_with fail
  have hload := run_loadVar_at (P := Tryd.prog) wy 23 ⟨w1.heap.size, 0, none⟩ (bvs D) hrowy.cells _ Tryd.underlying23 rfl (b16_size _ HSL.out)
  exact bodyPost_ret (results_cell1 Tryd.results75 _ _ _ _ rfl hload) rfl ⟨rfl, By⟩

set_option maxRecDepth 100000 in
set_option maxHeartbeats 1000000 in
theorem refAdvance_any (k : Nat) (hk : k ≤ 1000000) (v : List UInt8) (hv : v.length = 16) (n : Nat) (hn : n ≤ 1000) (w : World) :
    Calls Tryd.prog 59 #[.int .i64 (k : Int), .agg (bvs v).toArray, .int .i64 (n : Int)] w (GivesV (.agg (bvs (wAdv k v n)).toArray) w) := by
  have HAL := fun m => Lib.hid (wAdv_len k hv m)
  have HA0 : Hid (wAdv k v 0 = v) := rfl
  have HAS : ∀ m, Hid (wAdv k v (m + 1) = wStep k (wAdv k v m)) := fun _ => rfl
  have HST := fun m W => Lib.hid (refStep_any k hk (wAdv k v m) (HAL m).out W)
  generalize wAdv k v = F at *
  clear hv
  go_enter Tryd.func59, Tryd.ntmps59
  go_wp2_with (first
    | (with_reducible refine wpList_box_row (o := ⟨some 4, _, _, _, _, _⟩) rfl _ _ rfl (bvs v) rfl ?_; intro w1 hrow1 hs1 hg1)
    | (with_reducible refine wpList_alloc_row (o := ⟨some 6, _, _, _, _, _⟩) rfl _ rfl zeros16 zero_b16 ?_; intro w2 hrow2 hs2 hg2))
  have hrow1' := hrow1.kept hg2 (by simp)
  have hb2 : Below w.heap.size w w2 := below_kept (grown_below hg1 (Nat.le_refl _) (by simp)) hg2 (by omega) (by simp)
  have hlt2 := hrow2.lt
  rw [← HA0.out] at hrow1'
  clear hrow1 hg1 hg2
  go_loopg [7] n (fun g s wr => ∃ m : Nat, s = .int .i64 (m : Int) ∧ m ≤ n ∧ n ≤ g + m ∧ Row wr w.heap.size 23 (bvs (F m)) ∧ Row wr w1.heap.size 23 zeros16 ∧ Below w.heap.size w wr)
  case atStart => exact ⟨0, rfl, by omega, by omega, hrow1', hrow2, hb2⟩
  case round =>
    obtain ⟨m, rfl, hm, hg, hra, hrb, hbr⟩ := hrel
    by_cases hlt : m < n
    · have HS := HAS m
      have HC := fun W => HST m W
      have HL1 := HAL m
      have HL2 := HAL (m + 1)
      go_wp2_with (with_reducible refine wpList_load_all (o := ⟨some 14, _, _, _, _, _⟩) rfl _ _ rfl w.heap.size rfl _ _ hra _ Tryd.underlying23 rfl (b16_size _ HL1.out) ?_)
      refine (HC _).out.mono ?_
      rintro e w3 ⟨rfl, hb3⟩
      rw [← HS.out]
      have hra3 := hra.on hb3
      have hrb3 := hrb.on hb3
      have hbr3 := hbr.trans (hb3.mono hbr.size)
      have hz3 := hbr3.size
      go_wp2_with (with_reducible refine wpList_store_all (o := ⟨none, _, _, _, _, _⟩) rfl _ _ _ rfl w.heap.size rfl _ _ hra3 (bvs (F (m + 1))) rfl (bvs_one _) (by rw [bvs_length, bvs_length, HL1.out, HL2.out]) (b16_size _ HL2.out) ?_; intro w4 hra4 hg4)
      go_roundg (gk - 1)
      case measure => omega
      case rel => exact ⟨m + 1, by go_num, by omega, by omega, hra4, hrb3.kept hg4 (by simp; omega), below_kept hbr3 hg4 hz3 (by rintro k hk; cases hk; exact Nat.le_refl _)⟩
    · obtain rfl : m = n := by omega
      have HL1 := HAL m
      have hz := hbr.size
      go_wp2_with (first
        | (with_reducible refine wpList_load_all (o := ⟨some 16, _, _, _, _, _⟩) rfl _ _ rfl w.heap.size rfl _ _ hra _ Tryd.underlying23 rfl (b16_size _ HL1.out) ?_)
        | (with_reducible refine wpList_store_all (o := ⟨none, _, _, _, _, _⟩) rfl _ _ _ rfl w1.heap.size rfl _ _ hrb (bvs (F m)) rfl (bvs_one _) (b16_zeros _ HL1.out) (b16_size _ HL1.out) ?_; intro w4 hrb4 hg4))
      have hload := run_loadVar_at (P := Tryd.prog) w4 23 ⟨w1.heap.size, 0, none⟩ (bvs (F m)) hrb4.cells _ Tryd.underlying23 rfl (b16_size _ HL1.out)
      exact bodyPost_ret (results_cell1 Tryd.results59 _ _ _ _ rfl hload) rfl ⟨rfl, below_kept hbr hg4 hz (by rintro k hk; cases hk; omega)⟩

theorem drv_wots (seed : List UInt8) (index : Int) (k : Nat) (A1 A2 : Option Addr) (n1 c1 n2 c2 : Nat) : drv seed [119, 111, 116, 115] [⟨A1, n1, c1, encInt index⟩, ⟨A2, n2, c2, encInt k⟩] = wStart seed index k := rfl

set_option maxRecDepth 100000 in
set_option maxHeartbeats 1000000 in
theorem refStart_any (seed : List UInt8) (hs : seed.length = 16) (index : Int) (h1 : -9223372036854775808 ≤ index) (h2 : index ≤ 9223372036854775807) (k : Nat) (hk : k ≤ 1000000) (w : World) :
    Calls Tryd.prog 60 #[.agg (bvs seed).toArray, .int .i64 index, .int .i64 (k : Int)] w (GivesV (.agg (bvs (wStart seed index k)).toArray) w) := by
  have HS := Lib.hid hs
  have HSL := Lib.hid (wStart_len seed index k)
  have HDE := fun A1 A2 n1 c1 n2 c2 => Lib.hid (drv_wots seed index k A1 A2 n1 c1 n2 c2)
  have HI1 := fun W => Lib.hid (refInt_any index W h1 h2)
  have HI2 := fun W => Lib.hid (refInt_any (k : Int) W (by omega) (by omega))
  have HE1 := Lib.hid (encInt_le10 index h1 h2)
  have HE2 := Lib.hid (encInt_le10 (k : Int) (by omega) (by omega))
  generalize wStart seed index k = D at *
  generalize encInt (k : Int) = E2 at *
  generalize encInt index = E1 at *
  clear hs
  go_enter Tryd.func60, Tryd.ntmps60
  go_wp2_with (first
    | (with_reducible refine wpList_box_row (o := ⟨some 3, _, _, _, _, _⟩) rfl _ _ rfl (bvs seed) rfl ?_; intro w1 hrow1 hs1 hg1)
    | (with_reducible refine wpList_alloc_row (o := ⟨some 6, _, _, _, _, _⟩) rfl _ rfl zeros16 zero_b16 ?_; intro w2 hrow2 hs2 hg2; have hrow1' := hrow1.kept hg2 (by simp))
    | (with_reducible refine wpList_load_all (o := ⟨some 7, _, _, _, _, _⟩) rfl _ _ rfl w.heap.size rfl _ _ hrow1' _ Tryd.underlying23 rfl (b16_size _ HS.out) ?_))
  have hb2 : Below w.heap.size w w2 := below_kept (grown_below hg1 (Nat.le_refl _) (by simp)) hg2 (by omega) (by simp)
  have hlt2 := hrow2.lt
  clear hrow1 hrow1' hg1 hg2
  refine (refRaw_any seed HS.out _).mono ?_
  rintro e w3 ⟨v3, rfl, hown3, hb3⟩
  obtain ⟨A3, c3, rfl, hc3, _, hr3⟩ := own_form hown3
  rw [HS.out] at hc3 hr3 ⊢
  have ht3 := hrow2.on hb3
  have B3 := hb2.trans (hb3.mono hb2.size)
  go_wp2_with fail
  refine (HI1 _).out.mono ?_
  rintro e w4 ⟨v4, rfl, hown4, hb4⟩
  obtain ⟨A4, c4, rfl, hc4, _, hr4⟩ := own_form hown4
  have ht4 := ht3.on hb4
  have hr34 := hr3.on hb4
  have B4 := B3.trans (hb4.mono B3.size)
  go_wp2_with fail
  refine (HI2 _).out.mono ?_
  rintro e w5 ⟨v5, rfl, hown5, hb5⟩
  obtain ⟨A5, c5, rfl, hc5, _, hr5⟩ := own_form hown5
  have ht5 := ht4.on hb5
  have hr35 := hr34.on hb5
  have hr45 := hr4.on hb5
  have B5 := B4.trans (hb5.mono B4.size)
  go_wp2_with fail
  have hrp := readsP_two w5 53 A4 A5 E1.length c4 E2.length c5 E1 E2 hr45 hc4 hr5 hc5
  have hb5a : Below w5.heap.size w5 (w5.alloc (.cells #[.slice A4 E1.length c4, .slice A5 E2.length c5] 53)) := (Below.refl _ _).alloc (Nat.le_refl _) _
  refine (refDerive_any A3 c3 seed 16 ⟨#[119, 111, 116, 115]⟩ _ 2 _ 2 _ (hr35.on hb5a) hc3 (by omega) (by decide) hrp (by omega) (parts_two_le _ _ 300 (show E1.length ≤ 300 by have := HE1.out; omega) (show E2.length ≤ 300 by have := HE2.out; omega))).mono ?_
  rintro e w6 ⟨rfl, hb6⟩
  have ht6 := (ht5.on hb5a).on hb6
  have B6 := (B5.trans (hb5a.mono B5.size)).trans (hb6.mono (B5.trans (hb5a.mono B5.size)).size)
  have hD : drv seed (⟨#[119, 111, 116, 115]⟩ : ByteArray).data.toList [⟨A4, E1.length, c4, E1⟩, ⟨A5, E2.length, c5, E2⟩] = D := (HDE A4 A5 E1.length c4 E2.length c5).out
  rw [hD]
  go_wp2_with (with_reducible refine wpList_store_all (o := ⟨none, _, _, _, _, _⟩) rfl _ _ _ rfl w1.heap.size rfl _ _ ht6 (bvs D) rfl (bvs_one _) (b16_zeros _ HSL.out) (b16_size _ HSL.out) ?_; intro wy hrowy hgy)
  have hload := run_loadVar_at (P := Tryd.prog) wy 23 ⟨w1.heap.size, 0, none⟩ (bvs D) hrowy.cells _ Tryd.underlying23 rfl (b16_size _ HSL.out)
  exact bodyPost_ret (results_cell1 Tryd.results60 _ _ _ _ rfl hload) rfl ⟨rfl, below_kept B6 hgy B6.size (by rintro k hk; cases hk; omega)⟩
end Go.Proofs.YtfmcgcdppbcfjaaDoor

/-
  What the reference's Public returns: a contract by a walk. No condition.
-/
namespace Go.Proofs.YtfmcgcdppbcfjaaDoor
open Go.RowKit

theorem digestB_one (l : List UInt8) (A : Option Addr) (n c : Nat) : dig 4 [⟨A, n, c, l⟩] = digestB 4 [l] := rfl

set_option maxRecDepth 100000 in
set_option maxHeartbeats 1000000 in
theorem refPublic_any (seed : List UInt8) (hs : seed.length = 16) (index : Int) (h1 : -9223372036854775808 ≤ index) (h2 : index ≤ 9223372036854775807) (w : World) :
    Calls Tryd.prog 56 #[.agg (bvs seed).toArray, .int .i64 index] w (GivesV (.agg (bvs (wPub seed index)).toArray) w) := by
  obtain ⟨i0, hi0, hz0, hz1, hz2⟩ := info_parts info_u8
  have HS := Lib.hid hs
  have HPL : Hid ((wPub seed index).length = 16) := by show _ = _; unfold wPub digestB; rw [List.length_take, sha_len]; rfl
  have HP : Hid (wPub seed index = digestB 4 [wEnds (fun k => wAdv k (wStart seed index k) 3) 68]) := rfl
  have HST := fun k hk W => Lib.hid (refStart_any seed hs index h1 h2 k hk W)
  have HAD := fun k hk W => Lib.hid (refAdvance_any k hk (wStart seed index k) (wStart_len seed index k) 3 (by omega) W)
  have HAL : ∀ k, Hid ((wAdv k (wStart seed index k) 3).length = 16) := fun k => wAdv_len k (wStart_len seed index k) 3
  have HEL := fun n => Lib.hid (wEnds_len (fun k => wAdv k (wStart seed index k) 3) (fun k => (HAL k).out) n)
  have HES : ∀ n, Hid (wEnds (fun k => wAdv k (wStart seed index k) 3) (n + 1) = wEnds (fun k => wAdv k (wStart seed index k) 3) n ++ wAdv n (wStart seed index n) 3) := fun n => wEnds_succ _ n
  have HE0 : Hid (wEnds (fun k => wAdv k (wStart seed index k) 3) 0 = []) := rfl
  generalize wPub seed index = D at *
  generalize wEnds (fun k => wAdv k (wStart seed index k) 3) = F at *
  clear hs
  go_enter Tryd.func56, Tryd.ntmps56
  go_wp2_with (first
    | (with_reducible refine wpList_box_row (o := ⟨some 2, _, _, _, _, _⟩) rfl _ _ rfl (bvs seed) rfl ?_; intro w1 hrow1 hs1 hg1)
    | (with_reducible refine wpList_alloc_row (o := ⟨some 4, _, _, _, _, _⟩) rfl _ rfl zeros16 zero_b16 ?_; intro w2 hrow2 hs2 hg2))
  have hrow1' := hrow1.kept hg2 (by simp)
  have hb2 : Below w.heap.size w w2 := below_kept (grown_below hg1 (Nat.le_refl _) (by simp)) hg2 (by omega) (by simp)
  have hlt2 := hrow2.lt
  clear hrow1 hg1 hg2
  go_loopg [5, 6] 68 (fun g v s wr => ∃ k : Nat, s = .int .i64 (k : Int) ∧ k ≤ 68 ∧ 68 ≤ g + k ∧ wr.ownsRow w2.heap.size 5 1 v (F k).length (bvs (F k)) ∧ Below w2.heap.size w2 wr)
  case atStart => exact ⟨0, rfl, by omega, by omega, by rw [HE0.out]; exact World.ownsRow_nil w2 _ _ _, Below.refl _ _⟩
  case round =>
    obtain ⟨k, rfl, hk, hg, hown, hbr⟩ := hrel
    have hra := hrow1'.on hbr
    have hz := hbr.size
    have hEL := (HEL k).out
    by_cases hlt : k < 68
    · have HC1 := fun W => HST k (by omega) W
      have HC2 := fun W => HAD k (by omega) W
      have HL3 := HAL k
      have HS3 := HES k
      generalize wAdv k (wStart seed index k) 3 = V at *
      generalize wStart seed index k = U at *
      go_wp2_with (with_reducible refine wpList_load_all (o := ⟨some 13, _, _, _, _, _⟩) rfl _ _ rfl w.heap.size rfl _ _ hra _ Tryd.underlying23 rfl (b16_size _ HS.out) ?_)
      refine (HC1 _).out.mono ?_
      rintro e w3 ⟨rfl, hb3⟩
      have hown3 := own_below hown hb3
      have B3 := hbr.trans (hb3.mono hbr.size)
      go_wp2_with fail
      refine (HC2 _).out.mono ?_
      rintro e w4 ⟨rfl, hb4⟩
      have hown4 := own_below hown3 hb4
      have B4 := B3.trans (hb4.mono B3.size)
      go_wp2_with fail
      refine (refRaw_any V HL3.out _).mono ?_
      rintro e w5 ⟨v5, rfl, hn5, hb5⟩
      have hown5 := own_below hown4 hb5
      have B5 := B4.trans (hb5.mono B4.size)
      obtain ⟨A5, c5, rfl, hc5, _, hr5⟩ := own_form hn5
      rw [HL3.out] at hc5 hr5 ⊢
      go_wp2_with (at_builtin; refine wpList_append_src _ rfl (.tmp 11) (.tmp 18) _ _ rfl w2.heap.size 5 i0 _ 1 1 Tryd.underlying53 hi0 hz0 hz1 hz2 rfl _ _ _ rfl hown5 16 _ (Src.ofReads _ Tryd.underlying53 hr5 (bvs_one _)) (by unfold maxLen; omega) (by omega) B5.size ?_; intro v6 w6 hown6 hb6)
      go_roundg (gk - 1)
      case measure => omega
      case rel =>
        refine ⟨k + 1, by go_num, by omega, by omega, ?_, B5.trans hb6⟩
        rw [HS3.out, List.length_append, HL3.out, bvs_append]
        exact hown6
    · obtain rfl : k = 68 := by omega
      have hE2 : (F 68).length ≤ 2000 := by omega
      clear hEL
      obtain ⟨A3, c3, rfl, hc3, _, hr3⟩ := own_form hown
      have hrb := hrow2.on hbr
      have B3 := hb2.trans (hbr.mono hb2.size)
      go_wp2_with fail
      have hrp := readsP_one wr 53 A3 (F 68).length c3 (F 68) hr3 hc3
      have hba : Below wr.heap.size wr (wr.alloc (.cells #[.slice A3 (F 68).length c3] 53)) := (Below.refl _ _).alloc (Nat.le_refl _) _
      refine (refDigest_big 4 _ _ _ _ _ hrp (by omega) (parts_one_le _ 2000 hE2)).mono ?_
      rintro e w4 ⟨rfl, hb4⟩
      rw [digestB_one, ← HP.out]
      have hrb4 := (hrb.on hba).on hb4
      have B4 := (B3.trans (hba.mono B3.size)).trans (hb4.mono (B3.trans (hba.mono B3.size)).size)
      go_wp2_with (with_reducible refine wpList_store_all (o := ⟨none, _, _, _, _, _⟩) rfl _ _ _ rfl w1.heap.size rfl _ _ hrb4 (bvs D) rfl (bvs_one _) (b16_zeros _ HPL.out) (b16_size _ HPL.out) ?_; intro wy hrowy hgy)
      have hload := run_loadVar_at (P := Tryd.prog) wy 23 ⟨w1.heap.size, 0, none⟩ (bvs D) hrowy.cells _ Tryd.underlying23 rfl (b16_size _ HPL.out)
      exact bodyPost_ret (results_cell1 Tryd.results56 _ _ _ _ rfl hload) rfl ⟨rfl, below_kept B4 hgy B4.size (by rintro k hk; cases hk; omega)⟩
end Go.Proofs.YtfmcgcdppbcfjaaDoor

/-
  What the reference's Sign and Recover return: contracts by walks. No condition.
-/
namespace Go.Proofs.YtfmcgcdppbcfjaaDoor
open Go.RowKit


set_option maxRecDepth 100000 in
set_option maxHeartbeats 1000000 in
theorem refSign_any (seed msg : List UInt8) (hs : seed.length = 16) (hm : msg.length = 16) (index : Int) (h1 : -9223372036854775808 ≤ index) (h2 : index ≤ 9223372036854775807) (w : World) :
    Calls Tryd.prog 32 #[.agg (bvs seed).toArray, .int .i64 index, .agg (bvs msg).toArray] w (GivesDS (wSign seed index msg) w) := by
  obtain ⟨i0, hi0, hz0, hz1, hz2⟩ := info_parts info_dig
  have HS := Lib.hid hs
  have HM := Lib.hid hm
  have HSG := Lib.hid (wSign_len seed index msg)
  have HSA := fun k hk => Lib.hid (wSign_at seed index msg (k := k) hk)
  have HDL := Lib.hid (wDigs_len msg)
  have HDA := fun k hk => Lib.hid (wDigs_at msg (k := k) hk)
  have HDG := fun W => Lib.hid (refDigits_any msg hm W)
  have HST := fun k hk W => Lib.hid (refStart_any seed hs index h1 h2 k hk W)
  have HAD := fun k hk W => Lib.hid (refAdvance_any k hk (wStart seed index k) (wStart_len seed index k) (wD msg k) (by have := wD_le msg k; omega) W)
  have HAL : ∀ k, Hid ((wAdv k (wStart seed index k) (wD msg k)).length = 16) := fun k => wAdv_len k (wStart_len seed index k) _
  generalize wSign seed index msg = SG at *
  generalize wDigs msg = DS at *
  clear hs hm
  go_enter Tryd.func32, Tryd.ntmps32
  go_wp2_with (first
    | (with_reducible refine wpList_box_row (o := ⟨some 3, _, _, _, _, _⟩) rfl _ _ rfl (bvs seed) rfl ?_; intro w1 hrow1 hs1 hg1)
    | (with_reducible refine wpList_box_row (o := ⟨some 5, _, _, _, _, _⟩) rfl _ _ rfl (bvs msg) rfl ?_; intro w2 hrow2 hs2 hg2)
    | (with_reducible refine wpList_load_all (o := ⟨some 10, _, _, _, _, _⟩) rfl _ _ rfl w1.heap.size rfl _ _ hrow2 _ Tryd.underlying23 rfl (b16_size _ HM.out) ?_))
  have hrow1' := hrow1.kept hg2 (by simp)
  have hb2 : Below w.heap.size w w2 := below_kept (grown_below hg1 (Nat.le_refl _) (by simp)) hg2 (by omega) (by simp)
  clear hrow1 hrow2 hg1 hg2
  refine (HDG _).out.mono ?_
  rintro e w3 ⟨v3, rfl, hown3, hb3⟩
  obtain ⟨A3, c3, rfl, hc3, _, hr3⟩ := own_form hown3
  rw [HDL.out] at hc3 hr3 ⊢
  have hrow3 := hrow1'.on hb3
  have B3 := hb2.trans (hb3.mono hb2.size)
  clear hown3 hrow1' hb3
  go_wp2_with fail
  go_loopg [8, 9] 68 (fun g v s wr => ∃ k : Nat, s = .int .i64 (k : Int) ∧ k ≤ 68 ∧ 68 ≤ g + k ∧ wr.ownsRow w3.heap.size 23 16 v k (bvs (SG.take k).flatten) ∧ Below w3.heap.size w3 wr)
  case atStart => exact ⟨0, rfl, by omega, by omega, World.ownsRow_nil w3 _ _ _, Below.refl _ _⟩
  case round =>
    obtain ⟨k, rfl, hk, hg, hown, hbr⟩ := hrel
    have hra := hrow3.on hbr
    have hz := hbr.size
    by_cases hlt : k < 68
    · have HC1 := fun W => HST k (by omega) W
      have HC2 := fun W => HAD k (by omega) W
      have HL3 := HAL k
      have HSK := HSA k hlt
      obtain ⟨al, u, rfl, hal, hu, hcu3⟩ := hr3.at_ hlt
      have hcu := (hbr.cell (p := al.add k) (by rw [block_of_add]; exact hal)).trans hcu3
      rw [nvs_get (HDA k hlt).out] at hu
      obtain rfl : Value.int .i64 (wD msg k : Int) = u := by simpa using hu
      have hdl := wD_le msg k
      clear hcu3 hu HSA HDA HAL HST HAD
      generalize wAdv k (wStart seed index k) (wD msg k) = V at *
      generalize wStart seed index k = U at *
      generalize wD msg k = dk at *
      go_wp2_with fail
      have hal' : (al.add k).block < wr.drew.heap.size := by rw [block_of_add]; exact Nat.lt_of_lt_of_le hal hz
      have HT : Hid (SG.take (k + 1) = SG.take k ++ [V]) := by show _ = _; rw [List.take_add_one, HSK.out]; rfl
      refine wp_region_plan (fun w' => Row w' w.heap.size 23 (bvs seed) ∧ w'.cell? (al.add k) = some (.int .i64 (dk : Int))) (.take 0 <| .take 1 <| .take 2 <| .take 3 <| .take 4 <| .take 6 <| .take 7 <| .take 8 <| .take 9 <| .one 5 <| .one 10 <| .one 11 <| .one 12 <| .take 13 <| .done) (by kernel_rfl) (by kernel_rfl) (by kernel_rfl) (fun _ _ _ _ _ h => h) ⟨hra.drew, hcu⟩ ?_
      repeat (refine plan_take _ rfl ?_; (first | (refine wpQuiet_valueG (o := ⟨some 18, _, _, _, _, _⟩) rfl _ (by intro _ h; exact exec_load16 _ _ rfl _ rfl seed HS.out h.1.cells) (wpQuiet_nil ?_); simp only [Act.put, List.setIfInBounds_toArray, List.set_cons_zero, List.set_cons_succ]) | (refine wpQuiet_valueG (o := ⟨some 25, _, _, _, _, _⟩) rfl _ (by intro _ h; exact exec_load1 _ 3 _ rfl (al.add k) rfl _ h.2 _ Tryd.underlying3 rfl) (wpQuiet_nil ?_); simp only [Act.put, List.setIfInBounds_toArray, List.set_cons_zero, List.set_cons_succ]) | (go_big_quiet_step ((intros; rfl)); refine wpQuiet_nil ?_)))
      refine plan_one _ rfl fun K hK => ?_
      go_simp
      refine (HC1 _).out.mono ?_
      rintro e wa ⟨rfl, hba⟩
      have ra := hra.drew.on hba
      have Ba := hbr.drew.trans (hba.mono hbr.drew.size)
      have ca : wa.cell? (al.add k) = some (.int .i64 (dk : Int)) := (hba.cell hal').trans hcu
      have owna := own_below (w := wr.drew) hown hba
      refine hK _ _ ⟨ra, ca⟩ ?_
      clear hK K
      refine plan_one _ rfl fun K hK => ?_
      go_simp
      refine (HC2 _).out.mono ?_
      rintro e wb ⟨rfl, hbb⟩
      have rb := ra.on hbb
      have Bb := Ba.trans (hbb.mono Ba.size)
      have cb : wb.cell? (al.add k) = some (.int .i64 (dk : Int)) := (hbb.cell (Nat.lt_of_lt_of_le hal' hba.size)).trans ca
      have ownb := own_below owna hbb
      refine hK _ _ ⟨rb, cb⟩ ?_
      clear hK K
      refine plan_one _ rfl fun K hK => ?_
      refine step_value rfl _ _ (by exact exec_slice1 _ 30 23 _ rfl Tryd.underlying30 i0 _ hi0 hz0 (bvs V) (by rw [hz1, bvs_length, HL3.out]) (by rw [bvs_length, HL3.out]; omega) (by rw [bvs_length, HL3.out]; omega) rfl) ?_
      have hbc : Below wb.heap.size wb (wb.alloc (.cells (bvs V).toArray 23)) := (Below.refl _ _).alloc (Nat.le_refl _) _
      have rc := rb.on hbc
      have Bc := Bb.trans (hbc.mono Bb.size)
      have cc : (wb.alloc (.cells (bvs V).toArray 23)).cell? (al.add k) = some (.int .i64 (dk : Int)) := (hbc.cell (Nat.lt_of_lt_of_le hal' (Nat.le_trans hba.size hbb.size))).trans cb
      refine hK _ _ ⟨rc, cc⟩ ?_
      clear hK K
      simp only [Act.put, List.setIfInBounds_toArray, List.set_cons_zero, List.set_cons_succ]
      refine plan_one _ rfl fun K hK => ?_
      refine step_append_src rfl (.tmp 16) (.tmp 27) _ _ rfl w3.heap.size 23 i0 _ 16 16 Tryd.underlying30 hi0 hz0 hz1 hz2 rfl _ _ _ rfl (own_below ownb hbc) 1 (bvs V) (Src.boxRow Tryd.underlying30 _ _ _ 16 (by rw [bvs_length, HL3.out]) (bvs_one V) _) (by unfold maxLen; omega) (by omega) Bc.size ?_
      intro v6 w6 hown6 _ hb6
      have r6 : Row w6 w.heap.size 23 (bvs seed) := rc.below hb6 (by have := hrow3.lt; omega)
      have B6 := Bc.trans hb6
      have c6 : w6.cell? (al.add k) = some (.int .i64 (dk : Int)) := (hb6.cell (by rw [block_of_add]; exact hal)).trans cc
      refine hK _ _ ⟨r6, c6⟩ ?_
      clear hK K
      simp only [Act.put, List.setIfInBounds_toArray, List.set_cons_zero, List.set_cons_succ]
      repeat (refine plan_take _ rfl ?_; (first | (refine wpQuiet_valueG (o := ⟨some 18, _, _, _, _, _⟩) rfl _ (by intro _ h; exact exec_load16 _ _ rfl _ rfl seed HS.out h.1.cells) (wpQuiet_nil ?_); simp only [Act.put, List.setIfInBounds_toArray, List.set_cons_zero, List.set_cons_succ]) | (refine wpQuiet_valueG (o := ⟨some 25, _, _, _, _, _⟩) rfl _ (by intro _ h; exact exec_load1 _ 3 _ rfl (al.add k) rfl _ h.2 _ Tryd.underlying3 rfl) (wpQuiet_nil ?_); simp only [Act.put, List.setIfInBounds_toArray, List.set_cons_zero, List.set_cons_succ]) | (go_big_quiet_step ((intros; rfl)); refine wpQuiet_nil ?_)))
      refine plan_done ?_
      go_wp2_with fail
      go_roundg (gk - 1)
      case measure => omega
      case rel =>
        refine ⟨k + 1, by go_num, by omega, by omega, ?_, B6⟩
        rw [HT.out, List.flatten_append, bvs_append]
        simpa using hown6
    · obtain rfl : k = 68 := by omega
      go_wp2_with fail
      go_ret
      rw [List.take_of_length_le (by rw [HSG.out]; exact Nat.le_refl _)] at hown
      exact ⟨_, rfl, by rw [HSG.out]; exact own_base hown B3.size, B3.trans (hbr.mono B3.size)⟩
end Go.Proofs.YtfmcgcdppbcfjaaDoor

/-
  What the reference's Recover returns: a contract by a walk. Condition: at most 1000 chain values.
-/
namespace Go.Proofs.YtfmcgcdppbcfjaaDoor
open Go.RowKit

/-- A digest and an error come back; nothing that was there has changed. -/
def GivesVE (d : List UInt8) (err : Int) (w : World) (e : Ending) (w' : World) : Prop :=
  e = .returned (.tuple #[.agg (bvs d).toArray, .int .i64 err]) ∧ Below w.heap.size w w'
theorem results_cellT {P : Program} {fn : Func} {p t : Tmp} {ty : TypeId} (h : fn.results = #[.cell p ty, .tmp t]) (tmps : Array Value) (w : World) (ad : Addr) (x : Value) (hp : tmps.getD p undef = .pointer (some ad))
    (hl : (loadVar ty ad).run P w = .ok x w) : (results fn tmps).run P w = .ok (.tuple #[x, tmps.getD t undef]) w := by
  have hp' : tmps[p]?.getD undef = .pointer (some ad) := by simpa using hp
  simp [results, h, hp', asAddr, hl]
def zero16B' : List UInt8 := List.replicate 16 0

set_option maxRecDepth 100000 in
set_option maxHeartbeats 1000000 in
theorem refRecover_bad (A : Option Addr) (c n : Nat) (msg : List UInt8) (w : World) (hn : n ≠ 68) :
    Calls Tryd.prog 36 #[.agg (bvs msg).toArray, .slice A n c] w (GivesVE zero16B' 9 w) := by
  have hne : ((n : Int) != 68) = true := by simp; omega
  have HRL : Hid (zero16B'.length = 16) := rfl
  go_enter Tryd.func36, Tryd.ntmps36
  go_wp2_with (first
    | (with_reducible refine wpList_box_row (o := ⟨some 2, _, _, _, _, _⟩) rfl _ _ rfl (bvs msg) rfl ?_; intro w1 hrow1 hs1 hg1)
    | (with_reducible refine wpList_alloc_row (o := ⟨some 4, _, _, _, _, _⟩) rfl _ rfl zeros16 zero_b16 ?_; intro w2 hrow2 hs2 hg2)
    | (refine wpList_store_all (o := ⟨none, _, _, _, _, _⟩) rfl _ _ _ rfl w1.heap.size rfl _ _ hrow2 (bvs zero16B') rfl (bvs_one _) (b16_zeros _ HRL.out) (b16_size _ HRL.out) ?_; intro wz hrowz hgz))
  have hb2 : Below w.heap.size w w2 := below_kept (grown_below hg1 (Nat.le_refl _) (by simp)) hg2 (by omega) (by simp)
  have hload := run_loadVar_at (P := Tryd.prog) wz 23 ⟨w1.heap.size, 0, none⟩ (bvs zero16B') hrowz.cells _ Tryd.underlying23 rfl (b16_size _ HRL.out)
  exact bodyPost_ret (results_cellT Tryd.results36 _ _ _ _ rfl hload) rfl ⟨rfl, below_kept hb2 hgz hb2.size (by rintro k hk; cases hk; omega)⟩

set_option maxRecDepth 100000 in
set_option maxHeartbeats 1000000 in
theorem refRecover_any (A : Option Addr) (c : Nat) (msg : List UInt8) (ds : List (List UInt8)) (w : World) (hm : msg.length = 16) (hr : ReadsD w A 68 ds) :
    Calls Tryd.prog 36 #[.agg (bvs msg).toArray, .slice A 68 c] w (GivesVE (wKey msg ds) 0 w) := by
  obtain ⟨i0, hi0, hz0, hz1, hz2⟩ := info_parts info_u8
  have HM := Lib.hid hm
  have HPL : Hid ((wKey msg ds).length = 16) := by show _ = _; unfold wKey digestB; rw [List.length_take, sha_len]; rfl
  have HP : Hid (wKey msg ds = digestB 4 [wEnds (fun k => wAdv k (ds.getD k []) (3 - wD msg k)) 68]) := rfl
  have HDL := Lib.hid (wDigs_len msg)
  have HDA := fun k hk => Lib.hid (wDigs_at msg (k := k) hk)
  have HDG := fun W => Lib.hid (refDigits_any msg hm W)
  have H16 : ∀ k, k < 68 → Hid ((ds.getD k []).length = 16) := fun k hk => by
    show _ = _
    have hl := hr.len
    rw [List.getD_eq_getElem?_getD, List.getElem?_eq_getElem (by omega)]
    exact hr.2 _ (List.getElem_mem _)
  have HAD := fun k hk68 hk W => Lib.hid (refAdvance_any k hk (ds.getD k []) (H16 k hk68).out (3 - wD msg k) (by omega) W)
  have HAL : ∀ k, k < 68 → Hid ((wAdv k (ds.getD k []) (3 - wD msg k)).length = 16) := fun k hk => wAdv_len k (H16 k hk).out _
  have HEL : ∀ n, n ≤ 68 → Hid ((wEnds (fun k => wAdv k (ds.getD k []) (3 - wD msg k)) n).length = 16 * n) := fun n hn => by
    show _ = _
    induction n with
    | zero => rfl
    | succ n ih => rw [wEnds_succ, List.length_append, ih (by omega), (HAL n (by omega)).out]; omega
  have HES : ∀ n, Hid (wEnds (fun k => wAdv k (ds.getD k []) (3 - wD msg k)) (n + 1) = wEnds (fun k => wAdv k (ds.getD k []) (3 - wD msg k)) n ++ wAdv n (ds.getD n []) (3 - wD msg n)) := fun n => wEnds_succ _ n
  have HE0 : Hid (wEnds (fun k => wAdv k (ds.getD k []) (3 - wD msg k)) 0 = []) := rfl
  generalize wKey msg ds = D at *
  generalize wEnds (fun k => wAdv k (ds.getD k []) (3 - wD msg k)) = F at *
  generalize wDigs msg = DS at *
  clear hm
  go_enter Tryd.func36, Tryd.ntmps36
  go_wp2_with (first
    | (with_reducible refine wpList_box_row (o := ⟨some 2, _, _, _, _, _⟩) rfl _ _ rfl (bvs msg) rfl ?_; intro w1 hrow1 hs1 hg1)
    | (with_reducible refine wpList_alloc_row (o := ⟨some 4, _, _, _, _, _⟩) rfl _ rfl zeros16 zero_b16 ?_; intro w2 hrow2 hs2 hg2; have hrow1' := hrow1.kept hg2 (by simp))
    | (with_reducible refine wpList_load_all (o := ⟨some 13, _, _, _, _, _⟩) rfl _ _ rfl w.heap.size rfl _ _ hrow1' _ Tryd.underlying23 rfl (b16_size _ HM.out) ?_))
  have hb2 : Below w.heap.size w w2 := below_kept (grown_below hg1 (Nat.le_refl _) (by simp)) hg2 (by omega) (by simp)
  have hlt2 := hrow2.lt
  clear hrow1 hrow1' hg1 hg2
  refine (HDG _).out.mono ?_
  rintro e w3 ⟨v3, rfl, hown3, hb3⟩
  obtain ⟨A3, c3, rfl, hc3, _, hr3⟩ := own_form hown3
  rw [HDL.out] at hc3 hr3 ⊢
  have hrb3 := hrow2.on hb3
  have B3 := hb2.trans (hb3.mono hb2.size)
  have hp3 := hr.on B3
  have hlt3 := hrb3.lt
  clear hown3 hb3 hrow2
  go_wp2_with fail
  go_loopg [7, 8] 68 (fun g v s wr => ∃ k : Nat, s = .int .i64 (k : Int) ∧ k ≤ 68 ∧ 68 ≤ g + k ∧ wr.ownsRow w3.heap.size 5 1 v (F k).length (bvs (F k)) ∧ Below w3.heap.size w3 wr)
  case atStart => exact ⟨0, rfl, by omega, by omega, by rw [HE0.out]; exact World.ownsRow_nil w3 _ _ _, Below.refl _ _⟩
  case round =>
    obtain ⟨k, rfl, hk, hg, hown, hbr⟩ := hrel
    have hz := hbr.size
    have hEL := HEL k hk
    have hE3 : (F k).length ≤ 1088 := by rw [hEL.out]; omega
    by_cases hlt : k < 68
    · have HC2 := fun W => HAD k hlt (by omega) W
      have HL3 := HAL k hlt
      have HS3 := HES k
      obtain ⟨al, u, rfl, hal, hu, hcu3⟩ := hr3.at_ hlt
      have hcu := (hbr.cell (p := al.add k) (by rw [block_of_add]; exact hal)).trans hcu3
      rw [nvs_get (HDA k hlt).out] at hu
      obtain rfl : Value.int .i64 (wD msg k : Int) = u := by simpa using hu
      obtain ⟨ap, d, rfl, hapb, hd, hd16, hcl3⟩ := hp3.1.dig_at hp3.2 (k := k) hlt
      have hdl := wD_le msg k
      have hds : ds.getD k [] = d := by rw [List.getD_eq_getElem?_getD, hd]; rfl
      rw [hds] at HC2 HL3 HS3
      have HD := Lib.hid hd16
      have HC0 : Hid (∀ j u, (bvs d)[j]? = some u → wr.cell? ((ap.add (k * 16)).add j) = some u) := fun j u hu => by
        rw [add_of_add]
        exact (hbr.cell (p := ap.add (k * 16 + j)) (by rw [block_of_add]; exact hapb)).trans (hcl3 j u hu)
      clear hcu3 hu hcl3 hd hd16 hds HDA HAL HAD H16 HES
      generalize hdk : 3 - wD msg k = tk at *
      simp only [show ((tk : Nat) : Int) = 3 - (wD msg k : Int) by omega] at HC2
      generalize wAdv k d tk = V at *
      generalize wD msg k = dk at *
      clear hdk
      go_wp2_with fail
      have halr : al.block < wr.drew.heap.size := Nat.lt_of_lt_of_le hal hz
      have hapr : ap.block < wr.drew.heap.size := Nat.lt_of_lt_of_le hapb hz
      refine wp_region_plan (fun w' => (∀ j u, (bvs d)[j]? = some u → w'.cell? ((ap.add (k * 16)).add j) = some u) ∧ w'.cell? (al.add k) = some (.int .i64 (dk : Int))) (.take 0 <| .take 1 <| .take 2 <| .take 3 <| .take 4 <| .take 5 <| .take 6 <| .take 7 <| .take 8 <| .take 9 <| .take 10 <| .one 11 <| .one 12 <| .one 13 <| .take 14 <| .done) (by kernel_rfl) (by kernel_rfl) (by kernel_rfl) (fun _ _ _ _ _ h => h) ⟨HC0.out, hcu⟩ ?_
      repeat (refine plan_take _ rfl ?_; (first | (refine wpQuiet_valueG (o := ⟨some 24, _, _, _, _, _⟩) rfl _ (by intro _ h; exact exec_load16 _ _ rfl _ rfl d HD.out h.1) (wpQuiet_nil ?_); simp only [Act.put, List.setIfInBounds_toArray, List.set_cons_zero, List.set_cons_succ]) | (refine wpQuiet_valueG (o := ⟨some 28, _, _, _, _, _⟩) rfl _ (by intro _ h; exact exec_load1 _ 3 _ rfl (al.add k) rfl _ h.2 _ Tryd.underlying3 rfl) (wpQuiet_nil ?_); simp only [Act.put, List.setIfInBounds_toArray, List.set_cons_zero, List.set_cons_succ]) | (go_big_quiet_step ((intros; rfl)); refine wpQuiet_nil ?_)))
      refine plan_one _ rfl fun K hK => ?_
      go_simp
      refine (HC2 _).out.mono ?_
      rintro e wa ⟨rfl, hba⟩
      have Ba := hbr.drew.trans (hba.mono hbr.drew.size)
      have sa : (∀ j u, (bvs d)[j]? = some u → wa.cell? ((ap.add (k * 16)).add j) = some u) ∧ wa.cell? (al.add k) = some (.int .i64 (dk : Int)) := ⟨fun j u hu => (hba.cell (by rw [block_of_add, block_of_add]; exact hapr)).trans (HC0.out j u hu), (hba.cell (by rw [block_of_add]; exact halr)).trans hcu⟩
      have owna := own_below (w := wr.drew) hown hba
      have hza := hba.size
      refine hK _ _ sa ?_
      clear hK K
      refine plan_one _ rfl fun K hK => ?_
      go_simp
      refine (refRaw_any V HL3.out _).mono ?_
      rintro e wb ⟨vb, rfl, hb, hbb⟩
      have Bb := Ba.trans (hbb.mono Ba.size)
      have sb : (∀ j u, (bvs d)[j]? = some u → wb.cell? ((ap.add (k * 16)).add j) = some u) ∧ wb.cell? (al.add k) = some (.int .i64 (dk : Int)) := ⟨fun j u hu => (hbb.cell (by rw [block_of_add, block_of_add]; exact Nat.lt_of_lt_of_le hapr hza)).trans (sa.1 j u hu), (hbb.cell (by rw [block_of_add]; exact Nat.lt_of_lt_of_le halr hza)).trans sa.2⟩
      have ownb := own_below owna hbb
      obtain ⟨Ab, cb, rfl, hcb, _, hrb⟩ := own_form hb
      rw [HL3.out] at hcb hrb ⊢
      refine hK _ _ sb ?_
      clear hK K
      refine plan_one _ rfl fun K hK => ?_
      refine step_append_src rfl (.tmp 19) (.tmp 31) _ _ rfl w3.heap.size 5 i0 _ 1 1 Tryd.underlying53 hi0 hz0 hz1 hz2 rfl _ _ _ rfl ownb 16 _ (Src.ofReads _ Tryd.underlying53 hrb (bvs_one _)) (by unfold maxLen; omega) (by omega) Bb.size ?_
      intro v6 w6 hown6 _ hb6
      have B6 := Bb.trans hb6
      have s6 : (∀ j u, (bvs d)[j]? = some u → w6.cell? ((ap.add (k * 16)).add j) = some u) ∧ w6.cell? (al.add k) = some (.int .i64 (dk : Int)) := ⟨fun j u hu => (hb6.cell (by rw [block_of_add, block_of_add]; exact hapb)).trans (sb.1 j u hu), (hb6.cell (by rw [block_of_add]; exact hal)).trans sb.2⟩
      refine hK _ _ s6 ?_
      clear hK K
      simp only [Act.put, List.setIfInBounds_toArray, List.set_cons_zero, List.set_cons_succ]
      repeat (refine plan_take _ rfl ?_; (first | (refine wpQuiet_valueG (o := ⟨some 24, _, _, _, _, _⟩) rfl _ (by intro _ h; exact exec_load16 _ _ rfl _ rfl d HD.out h.1) (wpQuiet_nil ?_); simp only [Act.put, List.setIfInBounds_toArray, List.set_cons_zero, List.set_cons_succ]) | (refine wpQuiet_valueG (o := ⟨some 28, _, _, _, _, _⟩) rfl _ (by intro _ h; exact exec_load1 _ 3 _ rfl (al.add k) rfl _ h.2 _ Tryd.underlying3 rfl) (wpQuiet_nil ?_); simp only [Act.put, List.setIfInBounds_toArray, List.set_cons_zero, List.set_cons_succ]) | (go_big_quiet_step ((intros; rfl)); refine wpQuiet_nil ?_)))
      refine plan_done ?_
      go_wp2_with fail
      go_roundg (gk - 1)
      case measure => omega
      case rel =>
        refine ⟨k + 1, by go_num, by omega, by omega, ?_, B6⟩
        rw [HS3.out, List.length_append, HL3.out, bvs_append]
        exact hown6
    · obtain rfl : k = 68 := by omega
      have hE2 : (F 68).length ≤ 2000 := by rw [hEL.out]; omega
      clear hEL
      obtain ⟨A4, c4, rfl, hc4, _, hr4⟩ := own_form hown
      have hrb := hrb3.on hbr
      have B4 := B3.trans (hbr.mono B3.size)
      go_wp2_with fail
      have hrp := readsP_one wr 53 A4 (F 68).length c4 (F 68) hr4 hc4
      have hba : Below wr.heap.size wr (wr.alloc (.cells #[.slice A4 (F 68).length c4] 53)) := (Below.refl _ _).alloc (Nat.le_refl _) _
      refine (refDigest_big 4 _ _ _ _ _ hrp (by omega) (parts_one_le _ 2000 hE2)).mono ?_
      rintro e w5 ⟨rfl, hb5⟩
      rw [digestB_one, ← HP.out]
      have hrb5 := (hrb.on hba).on hb5
      have B5 := (B4.trans (hba.mono B4.size)).trans (hb5.mono (B4.trans (hba.mono B4.size)).size)
      go_wp2_with (with_reducible refine wpList_store_all (o := ⟨none, _, _, _, _, _⟩) rfl _ _ _ rfl w1.heap.size rfl _ _ hrb5 (bvs D) rfl (bvs_one _) (b16_zeros _ HPL.out) (b16_size _ HPL.out) ?_; intro wy hrowy hgy)
      have hload := run_loadVar_at (P := Tryd.prog) wy 23 ⟨w1.heap.size, 0, none⟩ (bvs D) hrowy.cells _ Tryd.underlying23 rfl (b16_size _ HPL.out)
      exact bodyPost_ret (results_cellT Tryd.results36 _ _ _ _ rfl hload) rfl ⟨rfl, below_kept B5 hgy B5.size (by rintro k hk; cases hk; omega)⟩
end Go.Proofs.YtfmcgcdppbcfjaaDoor
