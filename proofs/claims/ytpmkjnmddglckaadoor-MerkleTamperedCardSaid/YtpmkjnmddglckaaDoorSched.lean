/-
  What sha.schedule returns: a contract by a walk. No condition beyond a block of 64 bytes.
-/
import Derived.Test.YtpmkjnmddglckaaDoorRot
import Derived.Test.YtpmkjnmddglckaaDoorRow
import Derived.Outline
import Derived.Deep.LoopGhost
namespace Go.Proofs.YtpmkjnmddglckaaDoor
open Go.RowKit

def wvs (l : List UInt32) : List Value := l.map wv
theorem wvs_length (l : List UInt32) : (wvs l).length = l.length := List.length_map _
theorem wvs_one (l : List UInt32) : ∀ u ∈ wvs l, u.oneCell' = true := by
  intro u hu
  obtain ⟨b, _, rfl⟩ := List.mem_map.1 hu
  rfl
/-- A value comes back; nothing that was there has changed. -/
def GivesV (v : Value) (w : World) (e : Ending) (w' : World) : Prop := e = .returned v ∧ Below w.heap.size w w'
def zeros64 : List Value := List.replicate 64 (.int .u32 0)
theorem zero_w64 : (Tryd.prog.info? 78).map (fun i => i.zero.map (·.cells)) = some (some zeros64.toArray) := by kernel_rfl
/-- 64 cells of which the first hold the words l. -/
def filled (l : List UInt32) : List Value := wvs l ++ List.replicate (64 - l.length) (.int .u32 0)

theorem set_fill (l : List Value) (z x : Value) (n : Nat) (hn : 0 < n) : (l ++ List.replicate n z).set l.length x = l ++ [x] ++ List.replicate (n - 1) z := by
  obtain ⟨m, rfl⟩ : ∃ m, n = m + 1 := ⟨n - 1, by omega⟩
  rw [List.set_append_right _ _ (Nat.le_refl _), Nat.sub_self, List.replicate_succ, List.set_cons_zero]
  simp
theorem filled_set (l : List UInt32) (x : UInt32) (h : l.length < 64) : (filled l).set l.length (wv x) = filled (l ++ [x]) := by
  unfold filled
  have e := set_fill (wvs l) (.int .u32 0) (wv x) (64 - l.length) (by omega)
  rw [wvs_length] at e
  rw [e, List.length_append, List.length_singleton, show 64 - (l.length + 1) = 64 - l.length - 1 by omega]
  unfold wvs
  simp
theorem filled_len (l : List UInt32) (h : l.length ≤ 64) : (filled l).length = 64 := by
  unfold filled
  rw [List.length_append, wvs_length, List.length_replicate]; omega
theorem filled_at (l : List UInt32) (k : Nat) (h : k < l.length) : (filled l)[k]? = some (wv (l.getD k 0)) := by
  unfold filled wvs
  rw [List.getElem?_append_left (by rw [List.length_map]; exact h), List.getElem?_map, List.getElem?_eq_getElem h, List.getD, List.getElem?_eq_getElem h]
  rfl
theorem filled_all (l : List UInt32) (h : l.length = 64) : filled l = wvs l := by
  unfold filled
  rw [h]
  simp
theorem wordsOf_len (b : List UInt8) (n : Nat) : (wordsOf b n).length = n := by
  induction n with
  | zero => rfl
  | succ n ih => rw [wordsOf, List.length_append, ih]; rfl
theorem sched_len (b : List UInt8) (n : Nat) : (sched b n).length = 16 + n := by
  induction n with
  | zero => exact wordsOf_len b 16
  | succ n ih => rw [sched, List.length_append, ih]; rfl
theorem u8_up (x : UInt8) : (x.toNat : Int) % 4294967296 = ((x.toNat : Nat) : Int) := by
  have := x.toNat_lt
  omega
theorem word_val (x0 x1 x2 x3 : UInt8) :
    bits .or .u32 (bits .or .u32 (bits .or .u32 ((x0.toNat : Int) % 4294967296 * 16777216 % 4294967296) ((x1.toNat : Int) % 4294967296 * 65536 % 4294967296)) ((x2.toNat : Int) % 4294967296 * 256 % 4294967296)) ((x3.toNat : Int) % 4294967296) =
      wi (UInt32.ofNat (x0.toNat * 16777216 + x1.toNat * 65536 + x2.toNat * 256 + x3.toNat)) := by
  unfold wi
  have h0 := x0.toNat_lt
  have h1 := x1.toNat_lt
  have h2 := x2.toNat_lt
  have h3 := x3.toNat_lt
  rw [show (x0.toNat : Int) % 4294967296 * 16777216 % 4294967296 = ((x0.toNat * 16777216 : Nat) : Int) by omega, show (x1.toNat : Int) % 4294967296 * 65536 % 4294967296 = ((x1.toNat * 65536 : Nat) : Int) by omega,
    show (x2.toNat : Int) % 4294967296 * 256 % 4294967296 = ((x2.toNat * 256 : Nat) : Int) by omega, show (x3.toNat : Int) % 4294967296 = ((x3.toNat : Nat) : Int) by omega]
  rw [u32_or_nat _ _ (by omega) (by omega), nat_join 24 (x0.toNat * 16777216) (x1.toNat * 65536) (by omega) (by omega), u32_or_nat _ _ (by omega) (by omega), nat_join 16 _ (x2.toNat * 256) (by omega) (by omega),
    u32_or_nat _ _ (by omega) (by omega), nat_join 8 _ x3.toNat (by omega) (by omega), toNat_ofNat32 _ (by omega)]

theorem w64_size (ws : List UInt32) (h : ws.length = 64) : (Tryd.prog.info? 78).map (·.size) = some (wvs ws).length := by rw [wvs_length, h]; kernel_rfl
theorem w64_zeros (ws : List UInt32) (h : ws.length = 64) : zeros64.length = (wvs ws).length := by rw [wvs_length, h]; rfl

set_option maxRecDepth 100000 in
set_option maxHeartbeats 2000000 in
theorem schedule_any (A : Option Addr) (c : Nat) (b : List UInt8) (w : World) (hr : Reads w w.heap.size 1 A 64 (bvs b)) :
    Calls Tryd.prog 56 #[.slice A 64 c] w (GivesV (.agg (wvs (sched b 48)).toArray) w) := by
  obtain ⟨ad, rfl, hab, hcell⟩ := hr.2 (by omega)
  have HC := Lib.hid hcell
  clear hcell
  go_enter Tryd.func56, Tryd.ntmps56
  go_wp2_with (first
    | (with_reducible refine wpList_alloc_row (o := ⟨some 2, _, _, _, _, _⟩) rfl _ rfl zeros64 zero_w64 ?_; intro w1 hrow1 hs1 hg1)
    | (with_reducible refine wpList_alloc_row (o := ⟨some 3, _, _, _, _, _⟩) rfl _ rfl zeros64 zero_w64 ?_; intro w2 hrow2 hs2 hg2))
  have hrow1' := hrow1.kept hg2 (by simp)
  have hbel : Below w.heap.size w w2 := below_kept (grown_below hg1 (Nat.le_refl _) (by simp)) hg2 (by omega) (by simp)
  clear hrow1 hg1 hg2
  have hs3 := hrow2.lt
  go_loopg [4, 5, 9] 16 (fun g s4 s5 s9 wr => ∃ i : Nat, Hid (i + g = 16) ∧ i ≤ 16 ∧ s9 = .int .i64 i ∧ Row wr w1.heap.size 78 (filled (wordsOf b i)) ∧ Row wr w.heap.size 78 zeros64 ∧ Below w.heap.size w wr)
  case atStart => exact ⟨0, rfl, by omega, rfl, hrow2, hrow1', hbel⟩
  case round =>
    obtain ⟨i, HI, hi, rfl, hrow, hrow0, hbelr⟩ := hrel
    by_cases hlt : i < 16
    · have hcw : ∀ k, k < 4 → wr.cell? (ad.add (4 * i + k)) = some (bv (b.getD (4 * i + k) 0)) := fun k hk => by
        have hl : 4 * i + k < b.length := by have := hr.1; rw [bvs_length] at this; omega
        rw [hbelr.cell (by rw [block_of_add]; exact hab)]
        exact HC.out _ _ (by unfold bvs; rw [List.getElem?_map, List.getElem?_eq_getElem hl, List.getD, List.getElem?_eq_getElem hl]; rfl)
      have hc0 := hcw 0 (by omega)
      have hc1 := hcw 1 (by omega)
      have hc2 := hcw 2 (by omega)
      have hc3 := hcw 3 (by omega)
      rw [Nat.add_zero] at hc0
      rw [add_pos _ _ (by omega)] at hc1 hc2 hc3
      clear hcw
      have HW : Hid (wordsOf b (i + 1) = wordsOf b i ++ [UInt32.ofNat ((b.getD (4 * i) 0).toNat * 16777216 + (b.getD (4 * i + 1) 0).toNat * 65536 + (b.getD (4 * i + 2) 0).toNat * 256 + (b.getD (4 * i + 3) 0).toNat)]) := rfl
      generalize b.getD (4 * i) 0 = x0 at *
      generalize b.getD (4 * i + 1) 0 = x1 at *
      generalize b.getD (4 * i + 2) 0 = x2 at *
      generalize b.getD (4 * i + 3) 0 = x3 at *
      have HV := Lib.hid (word_val x0 x1 x2 x3)
      unfold bv at hc0 hc1 hc2 hc3
      go_wp2_with fail
      refine wp_region_tail 31 (by kernel_rfl) (by kernel_rfl) ?_
      simp only [List.take_succ_cons, List.take_zero, List.drop_succ_cons, List.drop_zero]
      repeat (go_big_quiet_step (fail))
      refine wpQuiet_nil ?_
      refine wpList_store_elem (o := ⟨none, _, _, _, _, _⟩) rfl _ _ _ rfl w1.heap.size i rfl _ _ hrow.drew _ rfl rfl (by rw [filled_len _ (by rw [wordsOf_len]; omega)]; omega) (by kernel_rfl) ?_
      intro w3 hrow3 hg3
      have hb3 : Below w.heap.size w w3 := below_kept hbelr.drew hg3 (by have := hbelr.size; simpa using this) (by rintro k hk; cases hk; omega)
      have hrow0' := hrow0.drew.kept hg3 (by simp; omega)
      clear hg3
      go_wp2_with fail
      go_roundg (gk - 1)
      case measure => have := HI.out; omega
      case rel =>
        refine ⟨i + 1, by have := HI.out; show _ = _; omega, by omega, by go_num, ?_, hrow0', hb3⟩
        have e := filled_set (wordsOf b i) (UInt32.ofNat (x0.toNat * 16777216 + x1.toNat * 65536 + x2.toNat * 256 + x3.toNat)) (by rw [wordsOf_len]; omega)
        rw [wordsOf_len, ← HW.out] at e
        rw [← e]
        unfold wv
        rw [← HV.out]
        exact hrow3
    · have hrow16 : Row wr w1.heap.size 78 (filled (sched b 0)) := by
        have hi16 : i = 16 := by omega
        rw [hi16] at hrow
        exact hrow
      clear hrow HI
      obtain ⟨wo, rfl⟩ : ∃ wo : World, wo = wr := ⟨_, rfl⟩
      obtain ⟨g0, rfl⟩ : ∃ g0 : Nat, g0 = gk := ⟨_, rfl⟩
      go_wp2_with fail
      go_loopg [6, 7, 8] 48 (fun g s6 s7 s8 wi => ∃ j : Nat, Hid (j + g = 48) ∧ j ≤ 48 ∧ s6 = .int .i64 ((16 + j : Nat) : Int) ∧ Row wi w1.heap.size 78 (filled (sched b j)) ∧ Row wi w.heap.size 78 zeros64 ∧ Below w.heap.size w wi)
      case atStart => exact ⟨0, rfl, by omega, rfl, hrow16, hrow0, hbelr⟩
      case round =>
        obtain ⟨j, HJ, hj, rfl, hrow, hrow0, hbelr⟩ := hrel
        obtain ⟨m, hm⟩ : ∃ m, m = 16 + j := ⟨_, rfl⟩
        rw [← hm]
        have hm1 : 16 ≤ m := by omega
        have hm2 : m ≤ 64 := by omega
        have HM := Lib.hid hm
        clear hm
        by_cases hlm : m < 64
        · have HL : Hid ((sched b j).length = m) := by show _ = _; rw [sched_len, HM.out]
          have hcw : ∀ k, k ≤ 16 → 0 < k → wr.cell? ⟨w1.heap.size, m - k, none⟩ = some (wv ((sched b j).getD (m - k) 0)) := fun k hk hk0 => hrow.cell (filled_at _ _ (by rw [HL.out]; omega))
          have hc16 := hcw 16 (by omega) (by omega)
          have hc15 := hcw 15 (by omega) (by omega)
          have hc7 := hcw 7 (by omega) (by omega)
          have hc2 := hcw 2 (by omega) (by omega)
          clear hcw
          have HN : Hid (sched b (j + 1) = sched b j ++ [(sched b j).getD (m - 16) 0 + sig0 ((sched b j).getD (m - 15) 0) + (sched b j).getD (m - 7) 0 + sig1 ((sched b j).getD (m - 2) 0)]) := by
            show _ = _
            rw [sched, nextW, HL.out]
          generalize (sched b j).getD (m - 16) 0 = x16 at *
          generalize (sched b j).getD (m - 15) 0 = x15 at *
          generalize (sched b j).getD (m - 7) 0 = x7 at *
          generalize (sched b j).getD (m - 2) 0 = x2 at *
          unfold wv at hc16 hc15 hc7 hc2
          go_wp2_with fail
          have r1 := wi_xor
          have r2 := wi_plus
          have r3 := wi_shr3
          have r4 := wi_shr10
          go_quiet ((go_at_call 57; exact Calls.quiet_of_same (rotr_any x15 _ _ (by omega) (by omega))))
          have hrow := hrow.drewN nq
          have hrow0 := hrow0.drewN nq
          have hbelr := below_drewN hbelr nq
          have hc16 : (wr.drewN nq).cell? ⟨w1.heap.size, m - 16, none⟩ = some (.int .u32 (wi x16)) := hc16
          have hc7 : (wr.drewN nq).cell? ⟨w1.heap.size, m - 7, none⟩ = some (.int .u32 (wi x7)) := hc7
          have hc2 : (wr.drewN nq).cell? ⟨w1.heap.size, m - 2, none⟩ = some (.int .u32 (wi x2)) := hc2
          generalize wr.drewN nq = wr2 at *
          go_wp2_with fail
          go_quiet ((go_at_call 57; exact Calls.quiet_of_same (rotr_any x2 _ _ (by omega) (by omega))))
          have hrow := hrow.drewN nq
          have hrow0 := hrow0.drewN nq
          have hbelr := below_drewN hbelr nq
          have hc16 : (wr2.drewN nq).cell? ⟨w1.heap.size, m - 16, none⟩ = some (.int .u32 (wi x16)) := hc16
          have hc7 : (wr2.drewN nq).cell? ⟨w1.heap.size, m - 7, none⟩ = some (.int .u32 (wi x7)) := hc7
          clear hc2 hc15
          generalize wr2.drewN nq = wr3 at *
          go_wp2_with fail
          refine wp_region_tail 15 (by kernel_rfl) (by kernel_rfl) ?_
          simp only [List.take_succ_cons, List.take_zero, List.drop_succ_cons, List.drop_zero]
          repeat (go_big_quiet_step (fail))
          refine wpQuiet_nil ?_
          clear r1 r2 r3 r4
          refine wpList_store_elem (o := ⟨none, _, _, _, _, _⟩) rfl _ _ _ rfl w1.heap.size m rfl _ _ hrow.drew _ rfl rfl (by rw [filled_len _ (by rw [HL.out]; omega)]; omega) (by kernel_rfl) ?_
          intro w3 hrow3 hg3
          have hb3 : Below w.heap.size w w3 := below_kept hbelr.drew hg3 (by have := hbelr.size; simpa using this) (by rintro k hk; cases hk; omega)
          have hrow0' := hrow0.drew.kept hg3 (by simp; omega)
          clear hg3
          have HN2 : Hid (Row w3 w1.heap.size 78 (filled (sched b (j + 1)))) := by
            have e := filled_set (sched b j) (x16 + sig0 x15 + x7 + sig1 x2) (by rw [HL.out]; omega)
            rw [HL.out, ← HN.out] at e
            show Row _ _ _ _
            rw [← e]
            exact hrow3
          clear hrow3
          go_wp2_with fail
          go_roundg (gk - 1)
          case measure => have := HJ.out; have := HM.out; omega
          case rel => exact ⟨j + 1, by have := HJ.out; have := HM.out; show _ = _; omega, by have := HM.out; omega, by have := HM.out; rw [this]; go_num, HN2.out, hrow0', hb3⟩
        · have HJ48 : Hid (j = 48) := by show _ = _; have := HM.out; omega
          have hrow := hrow
          rw [HJ48.out, filled_all _ (by rw [sched_len])] at hrow
          have HS := Lib.hid (sched_len b 48)
          generalize sched b 48 = ws at *
          go_wp2_with (first
            | (with_reducible refine wpList_load_all (o := ⟨some 99, _, _, _, _, _⟩) rfl _ _ rfl w1.heap.size rfl _ _ hrow _ Tryd.underlying78 rfl (w64_size ws HS.out) ?_)
            | (with_reducible refine wpList_store_all (o := ⟨none, _, _, _, _, _⟩) rfl _ _ _ rfl w.heap.size rfl _ _ hrow0 _ rfl (wvs_one _) (w64_zeros ws HS.out) (w64_size ws HS.out) ?_; intro w3 hrow3 hg3))
          have hload := run_loadVar_at (P := Tryd.prog) w3 78 ⟨w.heap.size, 0, none⟩ (wvs ws) hrow3.cells _ Tryd.underlying78 rfl (w64_size ws HS.out)
          exact bodyPost_ret (results_cell1 Tryd.results56 _ _ _ _ rfl hload) rfl ⟨rfl, below_kept hbelr hg3 hbelr.size (by rintro k hk; cases hk; omega)⟩
end Go.Proofs.YtpmkjnmddglckaaDoor
