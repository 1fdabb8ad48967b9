/-
  WotsAntichain's walk. Condition: the table of constants as laid.
-/
import Derived.Test.YtojdondipkbjhaaDoorSan4
namespace Go.Proofs.YtojdondipkbjhaaDoor
open Go.RowKit

/-- Whether one of the first n digits of a message is less than that of another. -/
def lessK (a b : List UInt8) : Nat → Bool
  | 0 => false
  | k + 1 => lessK a b k || decide (wD a k < wD b k)
theorem lessK_iff (a b : List UInt8) (n : Nat) : lessK a b n = true ↔ ∃ k, k < n ∧ wD a k < wD b k := by
  induction n with
  | zero => exact ⟨fun h => by simp [lessK] at h, fun ⟨k, hk, _⟩ => by omega⟩
  | succ n ih =>
    unfold lessK
    rw [Bool.or_eq_true, ih, decide_eq_true_eq]
    constructor
    · rintro (⟨k, hk, h⟩ | h)
      · exact ⟨k, by omega, h⟩
      · exact ⟨n, by omega, h⟩
    · rintro ⟨k, hk, h⟩
      by_cases hkn : k = n
      · subst hkn; exact Or.inr h
      · exact Or.inl ⟨k, by omega, h⟩
theorem lessK_ne {a b : List UInt8} (ha : a.length = 16) (hb : b.length = 16) : lessK a b 68 = !(a == b) := by
  by_cases h : a = b
  · subst h
    have e : lessK a a 68 = false := by
      cases hl : lessK a a 68 with
      | false => rfl
      | true => obtain ⟨k, _, hk⟩ := (lessK_iff a a 68).1 hl; omega
    rw [e]; simp
  · have e : (a == b) = false := by simp only [beq_eq_false_iff_ne, ne_eq]; exact h
    rw [e, (lessK_iff a b 68).2 (wD_less ha hb h)]
    rfl

set_option maxRecDepth 100000 in
set_option maxHeartbeats 2000000 in
theorem walkAc (a b : List UInt8) (ha : a.length = 16) (hb : b.length = 16) (w : World) (hK : Consts w) :
    Calls Tryd.prog 6 #[.agg (bvs a).toArray, .agg (bvs b).toArray] w fun e w' => e = .returned (.bool true) ∧ Below w.heap.size w w' := by
  have HA := Lib.hid ha
  have HB := Lib.hid hb
  have HDA := fun W => Lib.hid (digits_any a ha W)
  have HDB := fun W => Lib.hid (digits_any b hb W)
  have HLA := Lib.hid (wDigs_len a)
  have HLB := Lib.hid (wDigs_len b)
  have HAA := fun k hk => Lib.hid (wDigs_at a (k := k) hk)
  have HAB := fun k hk => Lib.hid (wDigs_at b (k := k) hk)
  have HL := Lib.hid (lessK_ne ha hb)
  have HG : Hid (lessK b a 68 = !(a == b)) := by
    show _ = _
    rw [lessK_ne hb ha, show (b == a) = (a == b) by rw [Bool.eq_iff_iff, beq_iff_eq, beq_iff_eq]; exact ⟨Eq.symm, Eq.symm⟩]
  have HLS : ∀ k, Hid (lessK a b (k + 1) = (lessK a b k || decide (wD a k < wD b k))) := fun _ => rfl
  have HGS : ∀ k, Hid (lessK b a (k + 1) = (lessK b a k || decide (wD b k < wD a k))) := fun _ => rfl
  have HL0 : Hid (lessK a b 0 = false) := rfl
  have HG0 : Hid (lessK b a 0 = false) := rfl
  have hda := wD_le a
  have hdb := wD_le b
  generalize wDigs a = DA at *
  generalize wDigs b = DB at *
  generalize lessK a b = LA at *
  generalize lessK b a = LB at *
  clear ha hb
  go_enter Tryd.func6, Tryd.ntmps6
  go_wp2_with (first
    | (with_reducible refine wpList_box_row (o := ⟨some 2, _, _, _, _, _⟩) rfl _ _ rfl (bvs a) rfl ?_; intro w1 hrow1 hs1 hg1)
    | (with_reducible refine wpList_box_row (o := ⟨some 3, _, _, _, _, _⟩) rfl _ _ rfl (bvs b) rfl ?_; intro w2 hrow2 hs2 hg2))
  have hrow1' := hrow1.kept hg2 (by simp)
  have hb2 : Below w.heap.size w w2 := below_kept (grown_below hg1 (Nat.le_refl _) (by simp)) hg2 (by omega) (by simp)
  have hlt2 := hrow2.lt
  clear hrow1 hg1 hg2
  refine wp_region_plan (fun w' => Row w' w.heap.size 23 (bvs a) ∧ Row w' w1.heap.size 23 (bvs b)) (.take 0 <| .take 2 <| .one 1 <| .one 3 <| .take 4 <| .take 5 <| .done) (by kernel_rfl) (by kernel_rfl) (by kernel_rfl) (fun _ _ _ _ _ h => h) ⟨hrow1'.drew, hrow2.drew⟩ ?_
  repeat (refine plan_take _ rfl ?_; (first | (refine wpQuiet_valueG (o := ⟨some 10, _, _, _, _, _⟩) rfl _ (by intro _ h; exact exec_load16 _ _ rfl _ rfl a HA.out h.1.cells) (wpQuiet_nil ?_); simp only [Act.put, List.setIfInBounds_toArray, List.set_cons_zero, List.set_cons_succ]) | (refine wpQuiet_valueG (o := ⟨some 12, _, _, _, _, _⟩) rfl _ (by intro _ h; exact exec_load16 _ _ rfl _ rfl b HB.out h.2.cells) (wpQuiet_nil ?_); simp only [Act.put, List.setIfInBounds_toArray, List.set_cons_zero, List.set_cons_succ]) | (go_big_quiet_step ((intros; rfl)); refine wpQuiet_nil ?_)))
  refine plan_one _ rfl fun K hK => ?_
  go_simp
  refine ((HDA _).out).mono ?_
  rintro e wx1 ⟨vx1, rfl, ⟨_, ox1⟩, hx1⟩
  obtain ⟨Aa, ca, rfl, hca, _, la0⟩ := own_form ox1
  rw [HLA.out] at hca la0 ⊢
  have Bx2 := hb2.drew.trans (hx1.mono hb2.drew.size)
  have rax2 := hrow1'.drew.on hx1
  have rbx2 := hrow2.drew.on hx1
  refine hK _ _ ⟨rax2, rbx2⟩ ?_
  clear hK K
  refine plan_one _ rfl fun K hK => ?_
  go_simp
  refine ((HDB _).out).mono ?_
  rintro e wx3 ⟨vx3, rfl, ⟨_, ox3⟩, hx3⟩
  obtain ⟨Ab, cb, rfl, hcb, _, lb0⟩ := own_form ox3
  rw [HLB.out] at hcb lb0 ⊢
  have Bx4 := Bx2.trans (hx3.mono Bx2.size)
  have rax4 := rax2.on hx3
  have rbx4 := rbx2.on hx3
  have lax4 := la0.on hx3
  refine hK _ _ ⟨rax4, rbx4⟩ ?_
  clear hK K
  repeat (refine plan_take _ rfl ?_; (first | (refine wpQuiet_valueG (o := ⟨some 10, _, _, _, _, _⟩) rfl _ (by intro _ h; exact exec_load16 _ _ rfl _ rfl a HA.out h.1.cells) (wpQuiet_nil ?_); simp only [Act.put, List.setIfInBounds_toArray, List.set_cons_zero, List.set_cons_succ]) | (refine wpQuiet_valueG (o := ⟨some 12, _, _, _, _, _⟩) rfl _ (by intro _ h; exact exec_load16 _ _ rfl _ rfl b HB.out h.2.cells) (wpQuiet_nil ?_); simp only [Act.put, List.setIfInBounds_toArray, List.set_cons_zero, List.set_cons_succ]) | (go_big_quiet_step ((intros; rfl)); refine wpQuiet_nil ?_)))
  refine plan_done ?_
  have hra := rax4
  have hrb := rbx4
  have hla := lax4
  have hlb := lb0
  have Bb := Bx4
  have hzb := hra.lt
  generalize wx3 = wb at *
  go_wp2_with fail
  go_loopg [7, 8, 21] 68 (fun g x y s wr => ∃ k : Nat, s = .int .i64 (k : Int) ∧ x = .bool (LA k) ∧ y = .bool (LB k) ∧ k ≤ 68 ∧ 68 ≤ g + k ∧ ∃ q, wr = wb.drewN q)
  case atStart => exact ⟨0, rfl, by rw [HL0.out], by rw [HG0.out], by omega, by omega, 0, rfl⟩
  case round =>
    obtain ⟨k, rfl, rfl, rfl, hk, hg, q, rfl⟩ := hrel
    by_cases hlt : k < 68
    · obtain ⟨al, u, rfl, hal, hu, hcu⟩ := hla.at_ hlt
      rw [nvs_get (HAA k hlt).out] at hu
      obtain rfl : Value.int .i64 (wD a k : Int) = u := by simpa using hu
      obtain ⟨bl, v, rfl, hbl, hv, hcv⟩ := hlb.at_ hlt
      rw [nvs_get (HAB k hlt).out] at hv
      obtain rfl : Value.int .i64 (wD b k : Int) = v := by simpa using hv
      have h1 := hda k
      have h2 := hdb k
      have HS1 := HLS k
      have HS2 := HGS k
      clear hu hv hda hdb HLS HGS HAA HAB HL HG HL0 HG0
      generalize wD a k = x at *
      generalize wD b k = y at *
      have T1 : decide ((x : Int) < (y : Int)) = decide (x < y) := by rw [Bool.eq_iff_iff, decide_eq_true_eq, decide_eq_true_eq]; omega
      have T2 : decide ((y : Int) < (x : Int)) = decide (y < x) := by rw [Bool.eq_iff_iff, decide_eq_true_eq, decide_eq_true_eq]; omega
      generalize LA k = le at *
      generalize LB k = gr at *
      cases le <;> cases gr
      all_goals
        go_wp2_with fail
        go_quiet (fail)
        go_wp2_with fail
        go_quiet (fail)
        go_wp2_with fail
        go_roundg (gk - 1)
        case measure => omega
        case rel =>
          refine ⟨k + 1, by go_num, ?_, ?_, by omega, by omega, _, rfl⟩
          · rw [HS1.out]; simp
          · rw [HS2.out]; simp
    · obtain rfl : k = 68 := by omega
      rw [HL.out, HG.out]
      go_wp2_with fail
      refine (san4_any _ (hK.on (below_drewN Bb q))).mono ?_
      rintro e w4 ⟨rfl, hb4⟩
      have hra4 := (hra.drewN q).on hb4
      have hrb4 := (hrb.drewN q).on hb4
      have B4 := (below_drewN Bb q).trans (hb4.mono (below_drewN Bb q).size)
      cases hq : (a == b) <;>
      go_wp2_with (first
        | (refine wpList_valueG (o := ⟨some 52, _, _, _, _, _⟩) rfl _ (by exact exec_load16 _ _ rfl _ rfl a HA.out hra4.cells) ?_)
        | (refine wpList_valueG (o := ⟨some 53, _, _, _, _, _⟩) rfl _ (by exact exec_load16 _ _ rfl _ rfl b HB.out hrb4.cells) ?_)
        | (refine wpList_valueG (o := ⟨some 54, _, _, _, _, _⟩) rfl _ (by exact exec_neq16 _ _ _ rfl a b HA.out HB.out rfl rfl) ?_; simp only [hq])
        | (refine wpList_valueG (o := ⟨some 59, _, _, _, _, _⟩) rfl _ (by exact exec_load16 _ _ rfl _ rfl a HA.out hra4.cells) ?_)
        | (refine wpList_valueG (o := ⟨some 60, _, _, _, _, _⟩) rfl _ (by exact exec_load16 _ _ rfl _ rfl b HB.out hrb4.cells) ?_)
        | (refine wpList_valueG (o := ⟨some 61, _, _, _, _, _⟩) rfl _ (by exact exec_neq16 _ _ _ rfl a b HA.out HB.out rfl rfl) ?_; simp only [hq]))
      all_goals
        go_ret
        exact ⟨rfl, B4⟩
end Go.Proofs.YtojdondipkbjhaaDoor
