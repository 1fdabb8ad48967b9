/-
  What the law's step returns: a contract by a walk. Conditions: the table of constants as laid; bounded numbers.
-/
import Derived.Test.YtojdondipkbjhaaDoorWref
namespace Go.Proofs.YtojdondipkbjhaaDoor
open Go.RowKit

set_option maxRecDepth 100000 in
set_option maxHeartbeats 1000000 in
theorem step4_any (k : Nat) (hk : k ≤ 1000000) (v : List UInt8) (hv : v.length = 16) (w : World) (hK : Consts w) :
    Calls Tryd.prog 19 #[.int .i64 (k : Int), .agg (bvs v).toArray] w (GivesV (.agg (bvs (wStep k v)).toArray) w) := by
  have HV := Lib.hid hv
  have HSL := Lib.hid (wStep_len k v)
  have HDE := fun A1 A2 n1 c1 n2 c2 => Lib.hid (digestB_two k v A1 A2 n1 c1 n2 c2)
  have HIN := fun W => Lib.hid (int_any (k : Int) W (by omega) (by omega))
  have HEL := Lib.hid (encInt_le10 (k : Int) (by omega) (by omega))
  generalize wStep k v = D at *
  generalize encInt (k : Int) = E at *
  clear hv
  go_enter Tryd.func19, Tryd.ntmps19
  go_wp2_with (first
    | (with_reducible refine wpList_box_row (o := ⟨some 3, _, _, _, _, _⟩) rfl _ _ rfl (bvs v) rfl ?_; intro w1 hrow1 hs1 hg1)
    | (with_reducible refine wpList_alloc_row (o := ⟨some 4, _, _, _, _, _⟩) rfl _ rfl zeros16 zero_b16 ?_; intro w2 hrow2 hs2 hg2))
  have hCo := hK
  have hrow1' := hrow1.kept hg2 (by simp)
  have hb2 : Below w.heap.size w w2 := below_kept (grown_below hg1 (Nat.le_refl _) (by simp)) hg2 (by omega) (by simp)
  have hlt2 := hrow2.lt
  clear hrow1 hg1 hg2
  simp only [Act.put, List.setIfInBounds_toArray, List.set_cons_zero, List.set_cons_succ]
  refine wp_region_plan (fun w' => Row w' w.heap.size 23 (bvs v)) (.take 0 <| .take 2 <| .one 1 <| .one 3 <| .one 4 <| .one 5 <| .done) (by kernel_rfl) (by kernel_rfl) (by kernel_rfl) (fun _ _ _ _ _ h => h) hrow1'.drew ?_
  repeat (refine plan_take _ rfl ?_; go_big_quiet_step ((intros; rfl)); refine wpQuiet_nil ?_)
  refine plan_one _ rfl fun K hK => ?_
  go_simp
  refine (HIN _).out.mono ?_
  rintro e wa ⟨va, rfl, ha, hba⟩
  have ra := hrow1'.drew.on hba
  have rt := hrow2.drew.on hba
  have Ba := hb2.drew.trans (hba.mono hb2.drew.size)
  obtain ⟨Aa, ca, rfl, hca, _, hra⟩ := own_form ha
  refine hK _ _ ra ?_
  clear hK K
  refine plan_one _ rfl fun K hK => ?_
  go_simp
  have hrp := readsP_two wa 41 Aa (some ⟨w.heap.size, 0, none⟩) E.length ca 16 16 E v hra hca (ra.reads16 HV.out) (Nat.le_refl _)
  have Bc := Ba.alloc Ba.size (.cells #[.slice Aa E.length ca, .slice (some ⟨w.heap.size, 0, none⟩) 16 16] 41)
  have rc : Row (wa.alloc (.cells #[.slice Aa E.length ca, .slice (some ⟨w.heap.size, 0, none⟩) 16 16] 41)) w.heap.size 23 (bvs v) := ra.on ((Below.refl _ _).alloc (Nat.le_refl _) _)
  have rtc : Row (wa.alloc (.cells #[.slice Aa E.length ca, .slice (some ⟨w.heap.size, 0, none⟩) 16 16] 41)) w1.heap.size 23 zeros16 := rt.on ((Below.refl _ _).alloc (Nat.le_refl _) _)
  refine hK _ _ rc ?_
  clear hK K
  refine plan_one _ rfl fun K hK => ?_
  go_simp
  refine (digest_any 3 _ _ _ _ _ (hCo.on Bc) hrp (by omega) (parts_two_le _ _ 300 (show E.length ≤ 300 by have := HEL.out; omega) (show 16 ≤ 300 by omega))).mono ?_
  rintro e wd ⟨rfl, hbd⟩
  rw [(HDE _ _ _ _ _ _).out]
  have rd := rc.on hbd
  have rtd := rtc.on hbd
  have Bd := Bc.trans (hbd.mono Bc.size)
  refine hK _ _ rd ?_
  clear hK K
  refine plan_one _ rfl fun K hK => ?_
  refine step_store_all rfl _ _ _ rfl w1.heap.size rfl _ _ rtd (bvs D) rfl (bvs_one _) (b16_zeros _ HSL.out) (b16_size _ HSL.out) ?_
  intro wy hrowy hgy
  have By := below_kept Bd hgy Bd.size (by rintro k hk; cases hk; omega)
  have ry := rd.kept hgy (by simp; omega)
  refine hK _ _ ry ?_
  clear hK K
  simp only [Act.put]
  refine plan_done ?_
  go_wp2_with fail
  have hload := run_loadVar_at (P := Tryd.prog) wy 23 ⟨w1.heap.size, 0, none⟩ (bvs D) hrowy.cells _ Tryd.underlying23 rfl (b16_size _ HSL.out)
  exact bodyPost_ret (results_cell1 Tryd.results19 _ _ _ _ rfl hload) rfl ⟨rfl, By⟩
end Go.Proofs.YtojdondipkbjhaaDoor
